/- held. -/
import Derived.Test.YtcfkcfbgnciccaaDoorCI
import Derived.Test.YtcfkcfbgnciccaaDoorCEr
namespace Go.Proofs.YtcfkcfbgnciccaaDoor
open Go.RowKit

def heldN (l : List UInt8) : Nat := (held 13 0 l).getD 0
theorem held_lt : ∀ (l : List UInt8) (ab acc h : Nat), ab ≤ 13 → acc < 8192 → held ab acc l = some h → h < 8192
  | [], ab, acc, h, _, hz, he => by
    simp only [held, Option.some.injEq] at he
    omega
  | b :: l, ab, acc, h, ha, hz, he => by
    unfold held at he
    split at he
    · cases he
    · refine held_lt l _ _ h (by omega) ?_ he
      exact Nat.or_lt_two_pow (n := 13) hz (Nat.pow_lt_pow_right (by decide) (by omega))
theorem or_num (h r : Nat) (hh : h < 8192) (hr : r < 13) : IntKind.u64.wrap ((2 : Int) ^ r) = (2 : Int) ^ r ∧ bits .or .u64 (h : Int) ((2 : Int) ^ r) = ((h ||| 2 ^ r : Nat) : Int) := by
  refine ⟨(clr_num 0 r (by decide) (by omega)).1, ?_⟩
  have h2 : 2 ^ r < 2 ^ 13 := Nat.pow_lt_pow_right (by decide) hr
  have e : ((2 : Int) ^ r) = ((2 ^ r : Nat) : Int) := by simp
  rw [e]
  exact u64_or_nat h (2 ^ r) (by omega) (by omega)
theorem getElem_list (s : ByteArray) (i : Nat) (h : i < s.size) : s.data.toList.drop i = s[i] :: s.data.toList.drop (i + 1) := by
  have hl : i < s.data.toList.length := h
  rw [List.drop_eq_getElem_cons hl]
  rfl
theorem idx_calls (b : UInt8) (w : World) : Calls Tryd.prog 49 #[.string ⟨#[50, 51, 52, 53, 54, 55, 56, 57, 84, 74, 81, 75, 65]⟩, .int .u8 (b.toNat : Int)] w fun e w' => e = .returned (.int .i64 (idx b)) ∧ w = w' := by
  have B := Tryd.strings_IndexByte ⟨#[50, 51, 52, 53, 54, 55, 56, 57, 84, 74, 81, 75, 65]⟩ (b.toNat : Int) w
  have eb : Lib.indexByte (ByteArray.mk #[50, 51, 52, 53, 54, 55, 56, 57, 84, 74, 81, 75, 65]).data.toList (b.toNat : Int).toNat.toUInt8 = idx b := by
    rw [Int.toNat_natCast, Nat.toUInt8, UInt8.ofNat_toNat]; rfl
  rw [eb] at B
  exact B.mono fun e w' h => ⟨h.1, h.2.symm⟩
set_option maxRecDepth 100000 in
set_option maxHeartbeats 4000000 in
theorem held_calls (s : ByteArray) (hs : s.size < 4294967296) (w : World) :
    Calls Tryd.prog 47 #[.string s] w fun e w' => e = .returned (.tuple #[.int .u64 (heldN s.data.toList), .bool (held 13 0 s.data.toList).isSome]) ∧ Below w.heap.size w w' := by
  obtain ⟨T, hT⟩ : ∃ T, held 13 0 s.data.toList = T := ⟨_, rfl⟩
  unfold heldN
  rw [hT]
  go_enter Tryd.func47, Tryd.ntmps47
  go_wp2
  go_loopw [10, 4, 5] (fun s10 s4 s5 wr => ∃ i h ab : Nat, s10 = .int .i64 i ∧ s4 = .int .u64 h ∧ s5 = .int .i64 ab ∧ i ≤ s.size ∧ h < 8192 ∧ ab ≤ 13 ∧ held ab h (s.data.toList.drop i) = T ∧ Below w.heap.size w wr) (fun s10 _ _ _ => s.size - (intOf s10).toNat)
  case atStart => exact ⟨0, 0, 13, rfl, rfl, rfl, Nat.zero_le _, by decide, by decide, hT, by repeat (first | (with_reducible exact Below.refl _ _) | ((with_reducible refine below_grow ?_ ?_); rotate_left; focus (first | omega | (simp [go_sem]; done) | (simp [go_sem]; omega))) | ((with_reducible refine Below.alloc ?_ ?_ _); rotate_left; focus (first | omega | (simp [go_sem]; done) | (simp [go_sem]; omega))) | ((with_reducible refine Below.setCell ?_ ?_ _); rotate_left; focus (first | omega | (simp [go_sem]; done) | (simp [go_sem]; omega))) | (with_reducible refine Below.drew ?_) | (with_reducible refine below_drewN _ ?_))⟩
  case round =>
    obtain ⟨i, h, ab, rfl, rfl, rfl, hi, hh, hab, hTr, hb⟩ := hrel
    by_cases hlt : i < s.size
    · have hlt2 : (i : Int) < s.size := by omega
      rw [getElem_list s i hlt] at hTr
      have C := idx_calls s[i]
      obtain ⟨r1, r2⟩ := idx_all s[i]
      unfold held at hTr
      have e1 : IntKind.i64.wrap ((i : Int) + 1) = (i : Int) + 1 := IntWalk.i64_in _ (by omega)
      obtain ⟨r, hr⟩ : ∃ r, idx s[i] = r := ⟨_, rfl⟩
      rw [hr] at hTr r1 r2 C
      have C := Lib.hid C
      have HH := Lib.hid (And.intro hh (And.intro hab hs))
      by_cases hn : r < 0
      · rw [if_pos (.inl hn)] at hTr
        subst hTr
        clear hh hab hs
        go_wp2_with (first | (go_at_call 49; refine (C.out _).mono ?_; rintro e w1 ⟨rfl, rfl⟩))
        refine bodyPost_ret (by simp [results, Tryd.results47, go_sem]) rfl ⟨rfl, ?_⟩
        repeat (first | (with_reducible exact hb) | ((with_reducible refine below_grow ?_ ?_); rotate_left; focus (first | omega | (simp [go_sem]; done) | (simp [go_sem]; omega))) | ((with_reducible refine Below.alloc ?_ ?_ _); rotate_left; focus (first | omega | (simp [go_sem]; done) | (simp [go_sem]; omega))) | ((with_reducible refine Below.setCell ?_ ?_ _); rotate_left; focus (first | omega | (simp [go_sem]; done) | (simp [go_sem]; omega))) | (with_reducible refine Below.drew ?_) | (with_reducible refine below_drewN _ ?_))
      · by_cases hn2 : (ab : Int) ≤ r
        · rw [if_pos (.inr hn2)] at hTr
          subst hTr
          clear hh hab hs
          go_wp2_with (first | (go_at_call 49; refine (C.out _).mono ?_; rintro e w1 ⟨rfl, rfl⟩))
          refine bodyPost_ret (by simp [results, Tryd.results47, go_sem]) rfl ⟨rfl, ?_⟩
          repeat (first | (with_reducible exact hb) | ((with_reducible refine below_grow ?_ ?_); rotate_left; focus (first | omega | (simp [go_sem]; done) | (simp [go_sem]; omega))) | ((with_reducible refine Below.alloc ?_ ?_ _); rotate_left; focus (first | omega | (simp [go_sem]; done) | (simp [go_sem]; omega))) | ((with_reducible refine Below.setCell ?_ ?_ _); rotate_left; focus (first | omega | (simp [go_sem]; done) | (simp [go_sem]; omega))) | (with_reducible refine Below.drew ?_) | (with_reducible refine below_drewN _ ?_))
        · rw [if_neg (by omega)] at hTr
          obtain ⟨q, rfl⟩ : ∃ q : Nat, r = q := ⟨r.toNat, by omega⟩
          rw [Int.toNat_natCast] at hTr
          obtain ⟨o1, o2⟩ := or_num h q hh (by omega)
          have hor : h ||| 2 ^ q < 8192 := Nat.or_lt_two_pow (n := 13) hh (Nat.pow_lt_pow_right (by decide) (by omega))
          obtain ⟨h', hh'⟩ : ∃ h', h ||| 2 ^ q = h' := ⟨_, rfl⟩
          rw [hh'] at o2 hTr hor
          have hmn : min q 64 = q := by omega
          have H2 := Lib.hid (And.intro hor hTr)
          clear hh hab hs hTr hor r1 r2 hh'
          go_wp2_with (first | (go_at_call 49; refine (C.out _).mono ?_; rintro e w1 ⟨rfl, rfl⟩))
          go_roundw
          case rel => exact ⟨i + 1, h', q, by go_num, rfl, rfl, by omega, H2.out.1, by have := HH.out; omega, H2.out.2, by repeat (first | (with_reducible exact hb) | ((with_reducible refine below_grow ?_ ?_); rotate_left; focus (first | omega | (simp [go_sem]; done) | (simp [go_sem]; omega))) | ((with_reducible refine Below.alloc ?_ ?_ _); rotate_left; focus (first | omega | (simp [go_sem]; done) | (simp [go_sem]; omega))) | ((with_reducible refine Below.setCell ?_ ?_ _); rotate_left; focus (first | omega | (simp [go_sem]; done) | (simp [go_sem]; omega))) | (with_reducible refine Below.drew ?_) | (with_reducible refine below_drewN _ ?_))⟩
          case measure => simp [intOf]; omega
    · obtain rfl : i = s.size := by omega
      have hd : s.data.toList.drop s.size = [] := List.drop_eq_nil_iff.2 (Nat.le_refl _)
      rw [hd] at hTr
      simp only [held] at hTr
      subst hTr
      clear hh hab hs
      go_wp2
      refine bodyPost_ret (by simp [results, Tryd.results47, go_sem]) rfl ⟨rfl, ?_⟩
      repeat (first | (with_reducible exact hb) | ((with_reducible refine below_grow ?_ ?_); rotate_left; focus (first | omega | (simp [go_sem]; done) | (simp [go_sem]; omega))) | ((with_reducible refine Below.alloc ?_ ?_ _); rotate_left; focus (first | omega | (simp [go_sem]; done) | (simp [go_sem]; omega))) | ((with_reducible refine Below.setCell ?_ ?_ _); rotate_left; focus (first | omega | (simp [go_sem]; done) | (simp [go_sem]; omega))) | (with_reducible refine Below.drew ?_) | (with_reducible refine below_drewN _ ?_))
end Go.Proofs.YtcfkcfbgnciccaaDoor
