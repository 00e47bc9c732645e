/- Low, Mask. -/
import Derived.Test.YtcfkcfbgnciccaaDoorCL
namespace Go.Proofs.YtcfkcfbgnciccaaDoor
open Go.RowKit

theorem low_none (m s : Nat) (hs : s < 256) (h : (m < 4503599627370496 ∧ s < 4) → sui m s = 0) (w : World) : Calls Tryd.prog 28 #[.int .u64 m, .int .u8 s] w fun e w' => e = .returned (.tuple #[.int .u8 0, .bool false]) ∧ w = w' := by
  have S : ∀ w, Calls Tryd.prog 50 #[.int .u64 m, .int .u8 s] w fun e w' => e = .returned (.int .u64 0) ∧ w = w' := by
    by_cases hk : m < 4503599627370496 ∧ s < 4
    · have := suited_yes m s hk.1 hk.2
      rw [h hk] at this
      exact this
    · exact suited_no m s hk hs
  have S := Lib.hid S
  clear h
  go_enter Tryd.func28, Tryd.ntmps28
  go_wp2_with (go_at_call 50; refine (S.out _).mono ?_; rintro e w1 ⟨rfl, rfl⟩)
  refine bodyPost_ret (by simp [results, Tryd.results28, go_sem]) rfl ⟨rfl, rfl⟩
/-- The least card. -/
def lst (m : Nat) : Nat := Lib.ctz 64 m
theorem lst_facts {m : Nat} (h0 : m ≠ 0) (h : m < 4503599627370496) : lst m < 52 ∧ m.testBit (lst m) = true ∧ ∀ i, i < lst m → m.testBit i = false := by
  obtain ⟨k, hk, -⟩ := Lib.ctzFrom_spec 64 m (by omega) (by omega)
  have e : lst m = Lib.ctzFrom 64 m := by unfold lst Lib.ctz; rw [if_neg h0]
  rw [e]
  generalize Lib.ctzFrom 64 m = t at hk
  have hb : ∀ i, m.testBit i = (decide (t ≤ i) && (2 * k + 1).testBit (i - t)) := fun i => by
    rw [hk, Nat.mul_comm, ← Nat.shiftLeft_eq, Nat.testBit_shiftLeft]
  have ht : m.testBit t = true := by rw [hb]; simp
  refine ⟨?_, ht, fun i hi => by rw [hb, decide_eq_false (by omega)]; rfl⟩
  rcases Nat.lt_or_ge t 52 with h1 | h1
  · exact h1
  · have := Nat.testBit_lt_two_pow (Nat.lt_of_lt_of_le h (Nat.pow_le_pow_right (n := 2) (by decide) h1))
    rw [ht] at this
    cases this
theorem low_some (m s : Nat) (hm : m < 4503599627370496) (hs : s < 4) (h : sui m s ≠ 0) (w : World) (he : Env w) : Calls Tryd.prog 28 #[.int .u64 m, .int .u8 s] w fun e w' => e = .returned (.tuple #[.int .u8 (lst (sui m s)), .bool true]) ∧ w = w' := by
  have S := Lib.hid (suited_yes m s hm hs)
  have hl := (lst_facts h (sui_lt hm s)).1
  have T0 : Calls Tryd.prog 52 #[.int .u64 (sui m s)] w fun e w' => e = .returned (.int .i64 (lst (sui m s))) ∧ w = w' := tz_calls (sui m s) (by have := sui_lt hm s; omega) w he.tab
  have T := Lib.hid T0
  clear T0
  have e1 : IntKind.u8.wrap (lst (sui m s) : Int) = (lst (sui m s) : Int) := u8_wrap (by omega) (by omega)
  obtain ⟨x, hx⟩ : ∃ x, sui m s = x := ⟨_, rfl⟩
  rw [hx] at S T h e1 ⊢
  obtain ⟨y, hy⟩ : ∃ y, lst x = y := ⟨_, rfl⟩
  rw [hy] at T e1 ⊢
  have h' : ¬ (x : Int) = 0 := by omega
  clear hx hy hl
  go_enter Tryd.func28, Tryd.ntmps28
  go_wp2_with (first | (go_at_call 50; refine (S.out _).mono ?_; rintro e w1 ⟨rfl, rfl⟩) | (go_at_call 52; refine T.out.mono ?_; rintro e w1 ⟨rfl, rfl⟩))
  refine bodyPost_ret (by simp [results, Tryd.results28, go_sem]) rfl ⟨rfl, rfl⟩
/-- What Mask makes of a list, behind the set m. -/
def mskR : Nat → List Nat → Nat × Int
  | m, [] => (m, 0)
  | m, c :: l => if 52 ≤ c then (0, 41) else if m.testBit c then (0, 42) else mskR (m ||| 2 ^ c) l
/-- The cells of a list of cards from an address on. -/
def Rd8 (w : World) (b off : Nat) (xs : List Nat) : Prop := ∀ (j x : Nat), xs[j]? = some x → w.cell? ⟨b, off + j, none⟩ = some (u8v x)
theorem Rd8.below {w w' : World} {b off B : Nat} {xs : List Nat} (h : Rd8 w b off xs) (hb : Below B w w') (hlt : b < B) : Rd8 w' b off xs :=
  fun j x hj => (hb.cell (p := ⟨b, off + j, none⟩) hlt).trans (h j x hj)
theorem bit_num (m c : Nat) (hm : m < 4503599627370496) (hc : c < 52) : bits .and .u64 ((m : Int) / (2 : Int) ^ c) 1 = if m.testBit c then 1 else 0 := by
  have e : (m : Int) / (2 : Int) ^ c = ((m / 2 ^ c : Nat) : Int) := by simp
  rw [e]
  have h2 : m / 2 ^ c ≤ m := Nat.div_le_self _ _
  rw [show (1 : Int) = ((1 : Nat) : Int) from rfl, u64_and_nat (m / 2 ^ c) 1 (by omega) (by decide), Nat.and_one_is_mod, ← Nat.toNat_testBit]
  cases m.testBit c <;> rfl
theorem or_one (m c : Nat) (hm : m < 4503599627370496) (hc : c < 52) : IntKind.u64.wrap ((2 : Int) ^ c) = (2 : Int) ^ c ∧ bits .or .u64 (m : Int) ((2 : Int) ^ c) = ((m ||| 2 ^ c : Nat) : Int) ∧ m ||| 2 ^ c < 4503599627370496 := by
  have h2 : 2 ^ c < 2 ^ 52 := Nat.pow_lt_pow_right (by decide) hc
  have e : ((2 : Int) ^ c) = ((2 ^ c : Nat) : Int) := by simp
  refine ⟨(clr_num 0 c (by decide) (by omega)).1, ?_, Nat.or_lt_two_pow (n := 52) hm h2⟩
  rw [e]
  exact u64_or_nat m (2 ^ c) (by omega) (by omega)
set_option maxRecDepth 100000 in
set_option maxHeartbeats 8000000 in
theorem mask_calls (b off cap : Nat) (xs : List Nat) (hx8 : ∀ x ∈ xs, x < 256) (hn : xs.length ≤ 1000000) (w : World) (hb0 : b < w.heap.size) (hr : Rd8 w b off xs) :
    Calls Tryd.prog 20 #[.slice (some ⟨b, off, none⟩) xs.length cap] w fun e w' => e = .returned (.tuple #[.int .u64 (mskR 0 xs).1, .int .i64 (mskR 0 xs).2]) ∧ Below w.heap.size w w' := by
  obtain ⟨T, hT⟩ : ∃ T, mskR 0 xs = T := ⟨_, rfl⟩
  rw [hT]
  have HR := Lib.hid hr
  have H8 := Lib.hid hx8
  clear hr hx8
  go_enter Tryd.func20, Tryd.ntmps20
  go_wp2
  go_loopw [9, 4] (fun s9 s4 wr => ∃ i m : Nat, s9 = .int .i64 i ∧ s4 = .int .u64 m ∧ i ≤ xs.length ∧ m < 4503599627370496 ∧ mskR m (xs.drop i) = T ∧ Below w.heap.size w wr) (fun s9 _ _ => xs.length - (intOf s9).toNat)
  case atStart => exact ⟨0, 0, rfl, rfl, Nat.zero_le _, by decide, hT, by repeat (first | (with_reducible exact Below.refl _ _) | ((with_reducible refine below_grow ?_ ?_); rotate_left; focus (first | omega | (simp [go_sem]; done) | (simp [go_sem]; omega))) | ((with_reducible refine Below.alloc ?_ ?_ _); rotate_left; focus (first | omega | (simp [go_sem]; done) | (simp [go_sem]; omega))) | ((with_reducible refine Below.setCell ?_ ?_ _); rotate_left; focus (first | omega | (simp [go_sem]; done) | (simp [go_sem]; omega))) | (with_reducible refine Below.drew ?_) | (with_reducible refine below_drewN _ ?_))⟩
  case round =>
    obtain ⟨i, m, rfl, rfl, hi, hm, hTr, hb⟩ := hrel
    by_cases hlt : i < xs.length
    · have hlt2 : (i : Int) < xs.length := by omega
      obtain ⟨c, hc⟩ : ∃ c, xs[i]? = some c := ⟨_, List.getElem?_eq_getElem hlt⟩
      have hc256 := H8.out c (List.mem_of_getElem? hc)
      have hdr : xs.drop i = c :: xs.drop (i + 1) := by
        rw [List.drop_eq_getElem_cons hlt]
        rw [List.getElem?_eq_getElem hlt] at hc
        cases hc
        rfl
      rw [hdr] at hTr
      have k0 := (HR.out.below hb hb0) i c hc
      have e1 : IntKind.i64.wrap ((i : Int) + 1) = (i : Int) + 1 := IntWalk.i64_in _ (by omega)
      unfold mskR at hTr
      have HN := Lib.hid hn
      by_cases h52 : 52 ≤ c
      · have R := Lib.hid (right_no c (by omega))
        rw [if_pos h52] at hTr
        subst hTr
        clear hc256 hc hdr hm hn h52
        go_wp2_with (first | (go_at_call 26; refine (R.out _).mono ?_; rintro e w1 ⟨rfl, rfl⟩))
        refine bodyPost_ret (by simp [results, Tryd.results20, go_sem]) rfl ⟨rfl, ?_⟩
        repeat (first | (with_reducible exact hb) | ((with_reducible refine below_grow ?_ ?_); rotate_left; focus (first | omega | (simp [go_sem]; done) | (simp [go_sem]; omega))) | ((with_reducible refine Below.alloc ?_ ?_ _); rotate_left; focus (first | omega | (simp [go_sem]; done) | (simp [go_sem]; omega))) | ((with_reducible refine Below.setCell ?_ ?_ _); rotate_left; focus (first | omega | (simp [go_sem]; done) | (simp [go_sem]; omega))) | (with_reducible refine Below.drew ?_) | (with_reducible refine below_drewN _ ?_))
      · have R := Lib.hid (right_yes c (by omega))
        have bn := bit_num m c hm (by omega)
        obtain ⟨o1, o2, o3⟩ := or_one m c hm (by omega)
        rw [if_neg h52] at hTr
        cases htb : m.testBit c with
        | true =>
          rw [htb] at bn hTr
          rw [if_pos rfl] at bn hTr
          subst hTr
          have hmn : min c 64 = c := by omega
          clear hc256 hc hdr hm hn h52 o3 htb
          go_wp2_with (first | (go_at_call 26; refine (R.out _).mono ?_; rintro e w1 ⟨rfl, rfl⟩))
          refine bodyPost_ret (by simp [results, Tryd.results20, go_sem]) rfl ⟨rfl, ?_⟩
          repeat (first | (with_reducible exact hb) | ((with_reducible refine below_grow ?_ ?_); rotate_left; focus (first | omega | (simp [go_sem]; done) | (simp [go_sem]; omega))) | ((with_reducible refine Below.alloc ?_ ?_ _); rotate_left; focus (first | omega | (simp [go_sem]; done) | (simp [go_sem]; omega))) | ((with_reducible refine Below.setCell ?_ ?_ _); rotate_left; focus (first | omega | (simp [go_sem]; done) | (simp [go_sem]; omega))) | (with_reducible refine Below.drew ?_) | (with_reducible refine below_drewN _ ?_))
        | false =>
          rw [htb] at bn hTr
          simp only [Bool.false_eq_true, if_false] at bn hTr
          have hmn : min c 64 = c := by omega
          obtain ⟨m', hm'⟩ : ∃ m', m ||| 2 ^ c = m' := ⟨_, rfl⟩
          rw [hm'] at o2 o3 hTr
          have HH := Lib.hid (And.intro o3 hTr)
          clear hc256 hc hdr hm hn h52 o3 htb hTr hm'
          go_wp2_with (first | (go_at_call 26; refine (R.out _).mono ?_; rintro e w1 ⟨rfl, rfl⟩))
          go_roundw
          case rel => exact ⟨i + 1, m', by go_num, rfl, by omega, HH.out.1, HH.out.2, hb⟩
          case measure => simp [intOf]; omega
    · obtain rfl : i = xs.length := by omega
      rw [List.drop_length] at hTr
      have hTr2 : (m, (0 : Int)) = T := hTr
      subst hTr2
      clear hm hTr
      go_wp2
      refine bodyPost_ret (by simp [results, Tryd.results20, go_sem]) rfl ⟨rfl, ?_⟩
      exact hb
theorem mask_nil (c : Nat) (w : World) :
    Calls Tryd.prog 20 #[.slice none 0 c] w fun e w' => e = .returned (.tuple #[.int .u64 0, .int .i64 0]) ∧ Below w.heap.size w w' := by
  go_enter Tryd.func20, Tryd.ntmps20
  go_wp2
  refine wp_loop_rounds 1 ?_
  rw [rounds_succ]
  go_wp2
  refine bodyPost_ret (by simp [results, Tryd.results20, go_sem]) rfl ⟨rfl, ?_⟩
  repeat (first | (with_reducible exact Below.refl _ _) | ((with_reducible refine below_grow ?_ ?_); rotate_left; focus (first | omega | (simp [go_sem]; done) | (simp [go_sem]; omega))) | ((with_reducible refine Below.alloc ?_ ?_ _); rotate_left; focus (first | omega | (simp [go_sem]; done) | (simp [go_sem]; omega))) | ((with_reducible refine Below.setCell ?_ ?_ _); rotate_left; focus (first | omega | (simp [go_sem]; done) | (simp [go_sem]; omega))) | (with_reducible refine Below.drew ?_) | (with_reducible refine below_drewN _ ?_))
end Go.Proofs.YtcfkcfbgnciccaaDoor
