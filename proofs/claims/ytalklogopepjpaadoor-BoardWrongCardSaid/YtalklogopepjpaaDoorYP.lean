/- Parse of any string. -/
import Derived.Test.YtalklogopepjpaaDoorMH
import Derived.Laws.IdiomCopy
import Derived.Laws.MakeOwn
namespace Go.Proofs.YtalklogopepjpaaDoor.Ca
open Go.RowKit
/-! CJ -/

def heldN (l : List UInt8) : Nat := (held 13 0 l).getD 0
theorem held_lt : ∀ (l : List UInt8) (ab acc h : Nat), ab ≤ 13 → acc < 8192 → held ab acc l = some h → h < 8192
  | [], ab, acc, h, _, hz, he => by
    simp only [held, Option.some.injEq] at he
    omega
  | b :: l, ab, acc, h, ha, hz, he => by
    unfold held at he
    split at he
    · cases he
    · refine held_lt l _ _ h (by omega) ?_ he
      exact Nat.or_lt_two_pow (n := 13) hz (Nat.pow_lt_pow_right (by decide) (by omega))
theorem or_num (h r : Nat) (hh : h < 8192) (hr : r < 13) : IntKind.u64.wrap ((2 : Int) ^ r) = (2 : Int) ^ r ∧ bits .or .u64 (h : Int) ((2 : Int) ^ r) = ((h ||| 2 ^ r : Nat) : Int) := by
  refine ⟨(clr_num 0 r (by decide) (by omega)).1, ?_⟩
  have h2 : 2 ^ r < 2 ^ 13 := Nat.pow_lt_pow_right (by decide) hr
  have e : ((2 : Int) ^ r) = ((2 ^ r : Nat) : Int) := by simp
  rw [e]
  exact u64_or_nat h (2 ^ r) (by omega) (by omega)
theorem getElem_list (s : ByteArray) (i : Nat) (h : i < s.size) : s.data.toList.drop i = s[i] :: s.data.toList.drop (i + 1) := by
  have hl : i < s.data.toList.length := h
  rw [List.drop_eq_getElem_cons hl]
  rfl
theorem idx_calls (b : UInt8) (w : World) : Calls Tryd.prog 87 #[.string ⟨#[50, 51, 52, 53, 54, 55, 56, 57, 84, 74, 81, 75, 65]⟩, .int .u8 (b.toNat : Int)] w fun e w' => e = .returned (.int .i64 (idx b)) ∧ w = w' := by
  have B := Tryd.strings_IndexByte ⟨#[50, 51, 52, 53, 54, 55, 56, 57, 84, 74, 81, 75, 65]⟩ (b.toNat : Int) w
  have eb : Lib.indexByte (ByteArray.mk #[50, 51, 52, 53, 54, 55, 56, 57, 84, 74, 81, 75, 65]).data.toList (b.toNat : Int).toNat.toUInt8 = idx b := by
    rw [Int.toNat_natCast, Nat.toUInt8, UInt8.ofNat_toNat]; rfl
  rw [eb] at B
  exact B.mono fun e w' h => ⟨h.1, h.2.symm⟩
set_option maxRecDepth 100000 in
set_option maxHeartbeats 4000000 in
theorem held_calls (s : ByteArray) (hs : s.size < 4294967296) (w : World) :
    Calls Tryd.prog 69 #[.string s] w fun e w' => e = .returned (.tuple #[.int .u64 (heldN s.data.toList), .bool (held 13 0 s.data.toList).isSome]) ∧ Below w.heap.size w w' := by
  obtain ⟨T, hT⟩ : ∃ T, held 13 0 s.data.toList = T := ⟨_, rfl⟩
  unfold heldN
  rw [hT]
  go_enter Tryd.func69, Tryd.ntmps69
  go_wp2
  go_loopw [10, 4, 5] (fun s10 s4 s5 wr => ∃ i h ab : Nat, s10 = .int .i64 i ∧ s4 = .int .u64 h ∧ s5 = .int .i64 ab ∧ i ≤ s.size ∧ h < 8192 ∧ ab ≤ 13 ∧ held ab h (s.data.toList.drop i) = T ∧ Below w.heap.size w wr) (fun s10 _ _ _ => s.size - (intOf s10).toNat)
  case atStart => exact ⟨0, 0, 13, rfl, rfl, rfl, Nat.zero_le _, by decide, by decide, hT, by repeat (first | (with_reducible exact Below.refl _ _) | ((with_reducible refine below_grow ?_ ?_); rotate_left; focus (first | omega | (simp [go_sem]; done) | (simp [go_sem]; omega))) | ((with_reducible refine Below.alloc ?_ ?_ _); rotate_left; focus (first | omega | (simp [go_sem]; done) | (simp [go_sem]; omega))) | ((with_reducible refine Below.setCell ?_ ?_ _); rotate_left; focus (first | omega | (simp [go_sem]; done) | (simp [go_sem]; omega))) | (with_reducible refine Below.drew ?_) | (with_reducible refine below_drewN _ ?_))⟩
  case round =>
    obtain ⟨i, h, ab, rfl, rfl, rfl, hi, hh, hab, hTr, hb⟩ := hrel
    by_cases hlt : i < s.size
    · have hlt2 : (i : Int) < s.size := by omega
      rw [getElem_list s i hlt] at hTr
      have C := idx_calls s[i]
      obtain ⟨r1, r2⟩ := idx_all s[i]
      unfold held at hTr
      have e1 : IntKind.i64.wrap ((i : Int) + 1) = (i : Int) + 1 := IntWalk.i64_in _ (by omega)
      obtain ⟨r, hr⟩ : ∃ r, idx s[i] = r := ⟨_, rfl⟩
      rw [hr] at hTr r1 r2 C
      have C := Lib.hid C
      have HH := Lib.hid (And.intro hh (And.intro hab hs))
      by_cases hn : r < 0
      · rw [if_pos (.inl hn)] at hTr
        subst hTr
        clear hh hab hs
        go_wp2_with (first | (go_at_call 87; refine (C.out _).mono ?_; rintro e w1 ⟨rfl, rfl⟩))
        refine bodyPost_ret (by simp [results, Tryd.results69, go_sem]) rfl ⟨rfl, ?_⟩
        repeat (first | (with_reducible exact hb) | ((with_reducible refine below_grow ?_ ?_); rotate_left; focus (first | omega | (simp [go_sem]; done) | (simp [go_sem]; omega))) | ((with_reducible refine Below.alloc ?_ ?_ _); rotate_left; focus (first | omega | (simp [go_sem]; done) | (simp [go_sem]; omega))) | ((with_reducible refine Below.setCell ?_ ?_ _); rotate_left; focus (first | omega | (simp [go_sem]; done) | (simp [go_sem]; omega))) | (with_reducible refine Below.drew ?_) | (with_reducible refine below_drewN _ ?_))
      · by_cases hn2 : (ab : Int) ≤ r
        · rw [if_pos (.inr hn2)] at hTr
          subst hTr
          clear hh hab hs
          go_wp2_with (first | (go_at_call 87; refine (C.out _).mono ?_; rintro e w1 ⟨rfl, rfl⟩))
          refine bodyPost_ret (by simp [results, Tryd.results69, go_sem]) rfl ⟨rfl, ?_⟩
          repeat (first | (with_reducible exact hb) | ((with_reducible refine below_grow ?_ ?_); rotate_left; focus (first | omega | (simp [go_sem]; done) | (simp [go_sem]; omega))) | ((with_reducible refine Below.alloc ?_ ?_ _); rotate_left; focus (first | omega | (simp [go_sem]; done) | (simp [go_sem]; omega))) | ((with_reducible refine Below.setCell ?_ ?_ _); rotate_left; focus (first | omega | (simp [go_sem]; done) | (simp [go_sem]; omega))) | (with_reducible refine Below.drew ?_) | (with_reducible refine below_drewN _ ?_))
        · rw [if_neg (by omega)] at hTr
          obtain ⟨q, rfl⟩ : ∃ q : Nat, r = q := ⟨r.toNat, by omega⟩
          rw [Int.toNat_natCast] at hTr
          obtain ⟨o1, o2⟩ := or_num h q hh (by omega)
          have hor : h ||| 2 ^ q < 8192 := Nat.or_lt_two_pow (n := 13) hh (Nat.pow_lt_pow_right (by decide) (by omega))
          obtain ⟨h', hh'⟩ : ∃ h', h ||| 2 ^ q = h' := ⟨_, rfl⟩
          rw [hh'] at o2 hTr hor
          have hmn : min q 64 = q := by omega
          have H2 := Lib.hid (And.intro hor hTr)
          clear hh hab hs hTr hor r1 r2 hh'
          go_wp2_with (first | (go_at_call 87; refine (C.out _).mono ?_; rintro e w1 ⟨rfl, rfl⟩))
          go_roundw
          case rel => exact ⟨i + 1, h', q, by go_num, rfl, rfl, by omega, H2.out.1, by have := HH.out; omega, H2.out.2, by repeat (first | (with_reducible exact hb) | ((with_reducible refine below_grow ?_ ?_); rotate_left; focus (first | omega | (simp [go_sem]; done) | (simp [go_sem]; omega))) | ((with_reducible refine Below.alloc ?_ ?_ _); rotate_left; focus (first | omega | (simp [go_sem]; done) | (simp [go_sem]; omega))) | ((with_reducible refine Below.setCell ?_ ?_ _); rotate_left; focus (first | omega | (simp [go_sem]; done) | (simp [go_sem]; omega))) | (with_reducible refine Below.drew ?_) | (with_reducible refine below_drewN _ ?_))⟩
          case measure => simp [intOf]; omega
    · obtain rfl : i = s.size := by omega
      have hd : s.data.toList.drop s.size = [] := List.drop_eq_nil_iff.2 (Nat.le_refl _)
      rw [hd] at hTr
      simp only [held] at hTr
      subst hTr
      clear hh hab hs
      go_wp2
      refine bodyPost_ret (by simp [results, Tryd.results69, go_sem]) rfl ⟨rfl, ?_⟩
      repeat (first | (with_reducible exact hb) | ((with_reducible refine below_grow ?_ ?_); rotate_left; focus (first | omega | (simp [go_sem]; done) | (simp [go_sem]; omega))) | ((with_reducible refine Below.alloc ?_ ?_ _); rotate_left; focus (first | omega | (simp [go_sem]; done) | (simp [go_sem]; omega))) | ((with_reducible refine Below.setCell ?_ ?_ _); rotate_left; focus (first | omega | (simp [go_sem]; done) | (simp [go_sem]; omega))) | (with_reducible refine Below.drew ?_) | (with_reducible refine below_drewN _ ?_))

/-! CK -/

/-- What the library's variables must hold for what follows. -/
structure Env (w : World) : Prop where
  tab : TabAt 8 Lib.deBruijn64tab w
  ml : ∃ m, w.cell? ⟨4, 0, none⟩ = some (.int .i64 m)
theorem Env.below {w w' : World} (h : Env w) (hb : Below w.heap.size w w') : Env w' :=
  ⟨fun j hj => (hb.cell (World.block_lt_of_cell? w _ (h.tab j hj))).trans (h.tab j hj), let ⟨m, hm⟩ := h.ml; ⟨m, (hb.cell (World.block_lt_of_cell? w _ hm)).trans hm⟩⟩
abbrev noParts : Value := .agg #[.string ⟨#[]⟩, .string ⟨#[]⟩, .string ⟨#[]⟩, .string ⟨#[]⟩]
theorem count_calls (s : ByteArray) (w : World) : Calls Tryd.prog 60 #[.string s, .string ⟨#[46]⟩] w fun e w' => e = .returned (.int .i64 ((s.data.toList.count 46 : Nat) : Int)) ∧ w = w' :=
  (Tryd.strings_Count_one s 46 w).mono fun e w' h => ⟨h.1, h.2.symm⟩
theorem map_four {l : List ByteArray} {a b c d : List UInt8} (h : l.map (·.data.toList) = [a, b, c, d]) : ∃ A B C D, l = [A, B, C, D] ∧ A = ⟨a.toArray⟩ ∧ B = ⟨b.toArray⟩ ∧ C = ⟨c.toArray⟩ ∧ D = ⟨d.toArray⟩ := by
  have hl := congrArg List.length h
  rw [List.length_map] at hl
  match l, hl with
  | [A, B, C, D], _ =>
    simp only [List.map_cons, List.map_nil, List.cons.injEq, and_true] at h
    obtain ⟨rfl, rfl, rfl, rfl⟩ := h
    exact ⟨A, B, C, D, rfl, rfl, rfl, rfl, rfl⟩
abbrev noCells : Obj := .cells #[.string ⟨#[]⟩, .string ⟨#[]⟩, .string ⟨#[]⟩, .string ⟨#[]⟩] 61
theorem copy_four (w : World) (a b c d : List UInt8) :
    (Builtin.copy_ #[77, 77] 3 #[.slice (some ⟨w.heap.size + 1, 0, none⟩) 4 4, .slice (some ⟨w.heap.size + 1 + 1, 0, none⟩) 4 4]).run Tryd.prog (((w.alloc noCells).alloc noCells).alloc (.cells #[strv a, strv b, strv c, strv d] 9)).drew =
      .ok (.int .i64 4) (((w.alloc noCells).alloc (.cells #[strv a, strv b, strv c, strv d] 61)).alloc (.cells #[strv a, strv b, strv c, strv d] 9)).drew := by
  have h := run_copy_cells (P := Tryd.prog) (((w.alloc noCells).alloc noCells).alloc (.cells #[strv a, strv b, strv c, strv d] 9)).drew 77 77 3 9 (w.heap.size + 1) 0 4 4 ⟨w.heap.size + 1 + 1, 0, none⟩ 4 4 [strv a, strv b, strv c, strv d] Tryd.underlying77 (by kernel_rfl) rfl ?_ ?_ ?_ ?_
  · rw [h]
    simp [World.setCells, go_sem, goInt]
  · intro j v hj
    rw [show (⟨w.heap.size + 1 + 1, 0, none⟩ : Addr).add j = ⟨w.heap.size + 1 + 1, 0 + j, none⟩ by unfold Addr.add; split <;> simp_all]
    match j, hj with
    | 0, hj => cases hj; simp [go_sem]
    | 1, hj => cases hj; simp [go_sem]
    | 2, hj => cases hj; simp [go_sem]
    | 3, hj => cases hj; simp [go_sem]
  · intro j hj
    match j, hj with
    | 0, _ => simp [go_sem]
    | 1, _ => simp [go_sem]
    | 2, _ => simp [go_sem]
    | 3, _ => simp [go_sem]
  · intro j hj
    simp [go_sem]
  · intro v hv
    simp at hv
    rcases hv with rfl | rfl | rfl | rfl <;> rfl
set_option maxRecDepth 100000 in
set_option maxHeartbeats 4000000 in
theorem split_no (s : ByteArray) (h : s.data.toList.count 46 ≠ 3) (w : World) :
    Calls Tryd.prog 68 #[.string s] w fun e w' => e = .returned (.tuple #[noParts, .bool false]) ∧ Below w.heap.size w w' := by
  have C := Lib.hid (count_calls s)
  obtain ⟨n, hn⟩ : ∃ n, s.data.toList.count 46 = n := ⟨_, rfl⟩
  rw [hn] at C h
  have h' : ¬ (n : Int) = 3 := by omega
  clear hn h
  go_enter Tryd.func68, Tryd.ntmps68
  go_wp2_with (go_at_call 60; refine (C.out _).mono ?_; rintro e w1 ⟨rfl, rfl⟩)
  refine bodyPost_ret (by simp [results, Tryd.results68, go_sem]) rfl ⟨rfl, ?_⟩
  repeat (first | (with_reducible exact Below.refl _ _) | ((with_reducible refine below_grow ?_ ?_); rotate_left; focus (first | omega | (simp [go_sem]; done) | (simp [go_sem]; omega))) | ((with_reducible refine Below.alloc ?_ ?_ _); rotate_left; focus (first | omega | (simp [go_sem]; done) | (simp [go_sem]; omega))) | ((with_reducible refine Below.setCell ?_ ?_ _); rotate_left; focus (first | omega | (simp [go_sem]; done) | (simp [go_sem]; omega))) | (with_reducible refine Below.drew ?_) | (with_reducible refine below_drewN _ ?_))
set_option maxRecDepth 100000 in
set_option maxHeartbeats 4000000 in
theorem split_yes (s : ByteArray) (hs : s.size < 4294967281) (h : s.data.toList.count 46 = 3) (a b c d : List UInt8) (hp : Lib.splitK [46] 0 3 s.data.toList = [a, b, c, d]) (w : World) (he : Env w) :
    Calls Tryd.prog 68 #[.string s] w fun e w' => e = .returned (.tuple #[.agg #[strv a, strv b, strv c, strv d], .bool true]) ∧ Below w.heap.size w w' := by
  have C := Lib.hid (count_calls s)
  rw [h] at C
  have hcnt : Lib.countB s ⟨#[46]⟩ = 3 := by
    have := Lib.count_one 46 s.data.toList
    rw [h] at this
    exact this
  have hdat := Lib.splitB_data ⟨#[46]⟩ 0 3 s
  rw [show (ByteArray.mk #[46]).data.toList = [46] from rfl, hp] at hdat
  obtain ⟨A, B, C', D, hABCD, hA, hB, hC, hD⟩ := map_four hdat
  obtain ⟨m, hm⟩ := he.ml
  have iM : NeZero (inW 4 w) := inW_mk (World.block_lt_of_cell? w _ hm)
  have S := fun W hW => Tryd.strings_Split s ⟨#[46]⟩ m W hs hW (by decide)
  rw [hcnt, hABCD, hA, hB, hC, hD] at S
  have S := Lib.hid S
  clear hcnt hABCD hA hB hC hD hdat hp h
  have hcp := copy_four w a b c d
  go_enter Tryd.func68, Tryd.ntmps68
  go_upto_region 4 with (go_at_call 60; refine (C.out _).mono ?_; rintro e w1 ⟨rfl, rfl⟩)
  go_region_with (first | (go_at_call 86; refine (S.out _ (by simp [go_sem, hm])).mono ?_; rintro e w2 ⟨rfl, rfl⟩))
  all_goals go_wp2
  all_goals (refine bodyPost_ret (by simp [results, Tryd.results68, go_sem]) rfl ⟨rfl, ?_⟩; repeat (first | (with_reducible exact Below.refl _ _) | ((with_reducible refine below_grow ?_ ?_); rotate_left; focus (first | omega | (simp [go_sem]; done) | (simp [go_sem]; omega))) | ((with_reducible refine Below.alloc ?_ ?_ _); rotate_left; focus (first | omega | (simp [go_sem]; done) | (simp [go_sem]; omega))) | ((with_reducible refine Below.setCell ?_ ?_ _); rotate_left; focus (first | omega | (simp [go_sem]; done) | (simp [go_sem]; omega))) | (with_reducible refine Below.drew ?_) | (with_reducible refine below_drewN _ ?_)))
/-- The suits from i on, k of them. -/
def prsF (ps : Nat → List UInt8) : Nat → Nat → Nat → Option Nat
  | 0, _, acc => some acc
  | k + 1, i, acc => match held 13 0 (ps i) with | none => none | some x => prsF ps k (i + 1) (acc ||| x <<< (13 * i))
def four (a b c d : List UInt8) : Nat → List UInt8
  | 0 => d
  | 1 => c
  | 2 => b
  | _ => a
theorem prsF_four (a b c d : List UInt8) : prsF (four a b c d) 4 0 0 = prs4 a b c d := by
  simp only [prsF, four, prs4]
  cases held 13 0 d with
  | none => rfl
  | some x0 =>
    cases held 13 0 c with
    | none => rfl
    | some x1 =>
      cases held 13 0 b with
      | none => rfl
      | some x2 =>
        cases held 13 0 a with
        | none => rfl
        | some x3 => simp [comb]
theorem or_shift (acc x k : Nat) (ha : acc < 4503599627370496) (hx : x < 8192) (hk : k ≤ 39) (P : Int) (hP : P = ((2 ^ k : Nat) : Int)) :
    IntKind.u64.wrap ((x : Int) * P) = (x : Int) * P ∧ bits .or .u64 (acc : Int) ((x : Int) * P) = ((acc ||| x <<< k : Nat) : Int) ∧ acc ||| x <<< k < 4503599627370496 := by
  have h2 : x * 2 ^ k < 2 ^ 52 := by
    have h1 : 2 ^ k ≤ 2 ^ 39 := Nat.pow_le_pow_right (by decide) hk
    calc x * 2 ^ k ≤ 8191 * 2 ^ 39 := Nat.mul_le_mul (by omega) h1
      _ < 2 ^ 52 := by decide
  have e : (x : Int) * P = ((x * 2 ^ k : Nat) : Int) := by rw [hP]; simp
  rw [e, Nat.shiftLeft_eq]
  refine ⟨?_, u64_or_nat acc (x * 2 ^ k) (by omega) (by omega), Nat.or_lt_two_pow (n := 52) ha h2⟩
  rw [IntKind.wrap_u64]
  generalize x * 2 ^ k = y at h2
  omega
theorem heldN_some {l : List UInt8} {x : Nat} (h : held 13 0 l = some x) : heldN l = x ∧ x < 8192 := ⟨by unfold heldN; rw [h]; rfl, (held_zero_lt h).1⟩
theorem heldN_none {l : List UInt8} (h : held 13 0 l = none) : heldN l = 0 := by unfold heldN; rw [h]; rfl
theorem held_one (l : List UInt8) (hl : l.length < 4294967296) (w : World) :
    Calls Tryd.prog 69 #[strv l] w fun e w' => e = .returned (.tuple #[.int .u64 (heldN l), .bool (held 13 0 l).isSome]) ∧ Below w.heap.size w w' := by
  have h := held_calls ⟨l.toArray⟩ hl w
  simpa using h

/-! CL -/

/-- What Parse returns. -/
def parV : Option Nat → Value
  | some m => .tuple #[.int .u64 m, .int .i64 0]
  | none => .tuple #[.int .u64 0, .int .i64 40]
set_option maxRecDepth 100000 in
set_option maxHeartbeats 8000000 in
theorem parse_four (s : ByteArray) (hs : s.size < 4294967281) (h : s.data.toList.count 46 = 3) (a b c d : List UInt8) (hp : Lib.splitK [46] 0 3 s.data.toList = [a, b, c, d]) (hl : ∀ i, (four a b c d i).length < 4294967296) (w : World) (he : Env w) :
    Calls Tryd.prog 49 #[.string s] w fun e w' => e = .returned (parV (prs4 a b c d)) ∧ Below w.heap.size w w' := by
  have S := Lib.hid (split_yes s hs h a b c d hp w he)
  have E := prsF_four a b c d
  obtain ⟨T, hT⟩ : ∃ T, prs4 a b c d = T := ⟨_, rfl⟩
  rw [hT] at E ⊢
  have HL := Lib.hid hl
  clear hT hp h hs hl
  go_enter Tryd.func49, Tryd.ntmps49
  go_upto_region 5 with (go_at_call 68; refine S.out.mono ?_; rintro e w1 ⟨rfl, hbel⟩; obtain ⟨o1, j1, rfl⟩ := grow_of_below hbel; clear hbel)
  have hX : blk ((grow w o1 j1).alloc (.cells #[strv a, strv b, strv c, strv d] 61)) (w.heap.size + sz o1) #[strv a, strv b, strv c, strv d] 61 := blk_at _ _ _ (by simp [go_sem])
  have hB : Below w.heap.size w ((grow w o1 j1).alloc (.cells #[strv a, strv b, strv c, strv d] 61)) := by repeat (first | (with_reducible exact Below.refl _ _) | ((with_reducible refine below_grow ?_ ?_); rotate_left; focus (first | omega | (simp [go_sem]; done) | (simp [go_sem]; omega))) | ((with_reducible refine Below.alloc ?_ ?_ _); rotate_left; focus (first | omega | (simp [go_sem]; done) | (simp [go_sem]; omega))) | ((with_reducible refine Below.setCell ?_ ?_ _); rotate_left; focus (first | omega | (simp [go_sem]; done) | (simp [go_sem]; omega))) | (with_reducible refine Below.drew ?_) | (with_reducible refine below_drewN _ ?_))
  go_wp2
  go_loopw [17, 6] (fun s17 s6 wr => ∃ i acc : Nat, s17 = .int .i64 i ∧ s6 = .int .u64 acc ∧ i ≤ 4 ∧ acc < 4503599627370496 ∧ prsF (four a b c d) (4 - i) i acc = T ∧ blk wr (w.heap.size + sz o1) #[strv a, strv b, strv c, strv d] 61 ∧ Below w.heap.size w wr) (fun s17 _ _ => 4 - (intOf s17).toNat)
  case atStart => exact ⟨0, 0, rfl, rfl, by decide, by decide, E, hX, hB⟩
  case round =>
    obtain ⟨i, acc, rfl, rfl, hi, ha, hTr, hx, hb⟩ := hrel
    have hbs := hb.size
    have iP : NeZero (inW (w.heap.size + sz o1) wr) := inW_mk (blk_lt hx)
    match i, hi with
    | 0, _ =>
      have hTr2 : (match held 13 0 d with | none => none | some x => prsF (four a b c d) 3 1 (acc ||| x <<< 0)) = T := hTr
      clear hTr
      have k0 := (blk_cell hx 3).trans (show _ = some (strv d) from rfl)
      have H := Lib.hid (held_one d (HL.out 0))
      have PL := Lib.hid (place_calls 0 (by decide))
      cases hh : held 13 0 d with
      | none =>
        rw [hh] at H hTr2
        rw [heldN_none hh] at H
        subst hTr2
        clear ha
        go_wp2_with (first | (go_at_call 54; refine (PL.out _).mono ?_; rintro e w3 ⟨rfl, rfl⟩) | (go_at_call 69; refine (H.out _).mono ?_; rintro e w4 ⟨rfl, hbel⟩; obtain ⟨o4, j4, rfl⟩ := grow_of_below hbel; clear hbel))
        refine bodyPost_ret (by simp [results, Tryd.results49, go_sem, parV]) rfl ⟨rfl, ?_⟩
        repeat (first | (with_reducible exact hb) | ((with_reducible refine below_grow ?_ ?_); rotate_left; focus (first | omega | (simp [go_sem]; done) | (simp [go_sem]; omega))) | ((with_reducible refine Below.alloc ?_ ?_ _); rotate_left; focus (first | omega | (simp [go_sem]; done) | (simp [go_sem]; omega))) | ((with_reducible refine Below.setCell ?_ ?_ _); rotate_left; focus (first | omega | (simp [go_sem]; done) | (simp [go_sem]; omega))) | (with_reducible refine Below.drew ?_) | (with_reducible refine below_drewN _ ?_))
      | some x =>
        rw [hh] at H hTr2
        obtain ⟨e1, e2⟩ := heldN_some hh
        rw [e1] at H
        obtain ⟨n1, n2, n3⟩ := or_shift acc x 0 ha e2 (by decide) 1 (by decide)
        rw [Int.mul_one] at n1 n2
        obtain ⟨acc', ha'⟩ : ∃ q, acc ||| x <<< 0 = q := ⟨_, rfl⟩
        replace hTr2 : prsF (four a b c d) 3 1 (acc ||| x <<< 0) = T := hTr2
        rw [ha'] at n2 n3 hTr2
        have HH := Lib.hid (And.intro n3 hTr2)
        clear ha e2 n3 hTr2 ha' e1
        go_wp2_with (first | (go_at_call 54; refine (PL.out _).mono ?_; rintro e w3 ⟨rfl, rfl⟩) | (go_at_call 69; refine (H.out _).mono ?_; rintro e w4 ⟨rfl, hbel⟩; obtain ⟨o4, j4, rfl⟩ := grow_of_below hbel; clear hbel))
        go_roundw
        case rel => exact ⟨1, acc', by go_num, rfl, by decide, HH.out.1, HH.out.2, blk_grow hx _ _, by repeat (first | (with_reducible exact hb) | ((with_reducible refine below_grow ?_ ?_); rotate_left; focus (first | omega | (simp [go_sem]; done) | (simp [go_sem]; omega))) | ((with_reducible refine Below.alloc ?_ ?_ _); rotate_left; focus (first | omega | (simp [go_sem]; done) | (simp [go_sem]; omega))) | ((with_reducible refine Below.setCell ?_ ?_ _); rotate_left; focus (first | omega | (simp [go_sem]; done) | (simp [go_sem]; omega))) | (with_reducible refine Below.drew ?_) | (with_reducible refine below_drewN _ ?_))⟩
        case measure => simp [intOf]
    | 1, _ =>
      have hTr2 : (match held 13 0 c with | none => none | some x => prsF (four a b c d) 2 2 (acc ||| x <<< 13)) = T := hTr
      clear hTr
      have k0 := (blk_cell hx 2).trans (show _ = some (strv c) from rfl)
      have H := Lib.hid (held_one c (HL.out 1))
      have PL := Lib.hid (place_calls 1 (by decide))
      cases hh : held 13 0 c with
      | none =>
        rw [hh] at H hTr2
        rw [heldN_none hh] at H
        subst hTr2
        clear ha
        go_wp2_with (first | (go_at_call 54; refine (PL.out _).mono ?_; rintro e w3 ⟨rfl, rfl⟩) | (go_at_call 69; refine (H.out _).mono ?_; rintro e w4 ⟨rfl, hbel⟩; obtain ⟨o4, j4, rfl⟩ := grow_of_below hbel; clear hbel))
        refine bodyPost_ret (by simp [results, Tryd.results49, go_sem, parV]) rfl ⟨rfl, ?_⟩
        repeat (first | (with_reducible exact hb) | ((with_reducible refine below_grow ?_ ?_); rotate_left; focus (first | omega | (simp [go_sem]; done) | (simp [go_sem]; omega))) | ((with_reducible refine Below.alloc ?_ ?_ _); rotate_left; focus (first | omega | (simp [go_sem]; done) | (simp [go_sem]; omega))) | ((with_reducible refine Below.setCell ?_ ?_ _); rotate_left; focus (first | omega | (simp [go_sem]; done) | (simp [go_sem]; omega))) | (with_reducible refine Below.drew ?_) | (with_reducible refine below_drewN _ ?_))
      | some x =>
        rw [hh] at H hTr2
        obtain ⟨e1, e2⟩ := heldN_some hh
        rw [e1] at H
        obtain ⟨n1, n2, n3⟩ := or_shift acc x 13 ha e2 (by decide) 8192 (by decide)
        obtain ⟨acc', ha'⟩ : ∃ q, acc ||| x <<< 13 = q := ⟨_, rfl⟩
        replace hTr2 : prsF (four a b c d) 2 2 (acc ||| x <<< 13) = T := hTr2
        rw [ha'] at n2 n3 hTr2
        have HH := Lib.hid (And.intro n3 hTr2)
        clear ha e2 n3 hTr2 ha' e1
        go_wp2_with (first | (go_at_call 54; refine (PL.out _).mono ?_; rintro e w3 ⟨rfl, rfl⟩) | (go_at_call 69; refine (H.out _).mono ?_; rintro e w4 ⟨rfl, hbel⟩; obtain ⟨o4, j4, rfl⟩ := grow_of_below hbel; clear hbel))
        go_roundw
        case rel => exact ⟨2, acc', by go_num, rfl, by decide, HH.out.1, HH.out.2, blk_grow hx _ _, by repeat (first | (with_reducible exact hb) | ((with_reducible refine below_grow ?_ ?_); rotate_left; focus (first | omega | (simp [go_sem]; done) | (simp [go_sem]; omega))) | ((with_reducible refine Below.alloc ?_ ?_ _); rotate_left; focus (first | omega | (simp [go_sem]; done) | (simp [go_sem]; omega))) | ((with_reducible refine Below.setCell ?_ ?_ _); rotate_left; focus (first | omega | (simp [go_sem]; done) | (simp [go_sem]; omega))) | (with_reducible refine Below.drew ?_) | (with_reducible refine below_drewN _ ?_))⟩
        case measure => simp [intOf]
    | 2, _ =>
      have hTr2 : (match held 13 0 b with | none => none | some x => prsF (four a b c d) 1 3 (acc ||| x <<< 26)) = T := hTr
      clear hTr
      have k0 := (blk_cell hx 1).trans (show _ = some (strv b) from rfl)
      have H := Lib.hid (held_one b (HL.out 2))
      have PL := Lib.hid (place_calls 2 (by decide))
      cases hh : held 13 0 b with
      | none =>
        rw [hh] at H hTr2
        rw [heldN_none hh] at H
        subst hTr2
        clear ha
        go_wp2_with (first | (go_at_call 54; refine (PL.out _).mono ?_; rintro e w3 ⟨rfl, rfl⟩) | (go_at_call 69; refine (H.out _).mono ?_; rintro e w4 ⟨rfl, hbel⟩; obtain ⟨o4, j4, rfl⟩ := grow_of_below hbel; clear hbel))
        refine bodyPost_ret (by simp [results, Tryd.results49, go_sem, parV]) rfl ⟨rfl, ?_⟩
        repeat (first | (with_reducible exact hb) | ((with_reducible refine below_grow ?_ ?_); rotate_left; focus (first | omega | (simp [go_sem]; done) | (simp [go_sem]; omega))) | ((with_reducible refine Below.alloc ?_ ?_ _); rotate_left; focus (first | omega | (simp [go_sem]; done) | (simp [go_sem]; omega))) | ((with_reducible refine Below.setCell ?_ ?_ _); rotate_left; focus (first | omega | (simp [go_sem]; done) | (simp [go_sem]; omega))) | (with_reducible refine Below.drew ?_) | (with_reducible refine below_drewN _ ?_))
      | some x =>
        rw [hh] at H hTr2
        obtain ⟨e1, e2⟩ := heldN_some hh
        rw [e1] at H
        obtain ⟨n1, n2, n3⟩ := or_shift acc x 26 ha e2 (by decide) 67108864 (by decide)
        obtain ⟨acc', ha'⟩ : ∃ q, acc ||| x <<< 26 = q := ⟨_, rfl⟩
        replace hTr2 : prsF (four a b c d) 1 3 (acc ||| x <<< 26) = T := hTr2
        rw [ha'] at n2 n3 hTr2
        have HH := Lib.hid (And.intro n3 hTr2)
        clear ha e2 n3 hTr2 ha' e1
        go_wp2_with (first | (go_at_call 54; refine (PL.out _).mono ?_; rintro e w3 ⟨rfl, rfl⟩) | (go_at_call 69; refine (H.out _).mono ?_; rintro e w4 ⟨rfl, hbel⟩; obtain ⟨o4, j4, rfl⟩ := grow_of_below hbel; clear hbel))
        go_roundw
        case rel => exact ⟨3, acc', by go_num, rfl, by decide, HH.out.1, HH.out.2, blk_grow hx _ _, by repeat (first | (with_reducible exact hb) | ((with_reducible refine below_grow ?_ ?_); rotate_left; focus (first | omega | (simp [go_sem]; done) | (simp [go_sem]; omega))) | ((with_reducible refine Below.alloc ?_ ?_ _); rotate_left; focus (first | omega | (simp [go_sem]; done) | (simp [go_sem]; omega))) | ((with_reducible refine Below.setCell ?_ ?_ _); rotate_left; focus (first | omega | (simp [go_sem]; done) | (simp [go_sem]; omega))) | (with_reducible refine Below.drew ?_) | (with_reducible refine below_drewN _ ?_))⟩
        case measure => simp [intOf]
    | 3, _ =>
      have hTr2 : (match held 13 0 a with | none => none | some x => prsF (four a b c d) 0 4 (acc ||| x <<< 39)) = T := hTr
      clear hTr
      have k0 := (blk_cell hx 0).trans (show _ = some (strv a) from rfl)
      have H := Lib.hid (held_one a (HL.out 3))
      have PL := Lib.hid (place_calls 3 (by decide))
      cases hh : held 13 0 a with
      | none =>
        rw [hh] at H hTr2
        rw [heldN_none hh] at H
        subst hTr2
        clear ha
        go_wp2_with (first | (go_at_call 54; refine (PL.out _).mono ?_; rintro e w3 ⟨rfl, rfl⟩) | (go_at_call 69; refine (H.out _).mono ?_; rintro e w4 ⟨rfl, hbel⟩; obtain ⟨o4, j4, rfl⟩ := grow_of_below hbel; clear hbel))
        refine bodyPost_ret (by simp [results, Tryd.results49, go_sem, parV]) rfl ⟨rfl, ?_⟩
        repeat (first | (with_reducible exact hb) | ((with_reducible refine below_grow ?_ ?_); rotate_left; focus (first | omega | (simp [go_sem]; done) | (simp [go_sem]; omega))) | ((with_reducible refine Below.alloc ?_ ?_ _); rotate_left; focus (first | omega | (simp [go_sem]; done) | (simp [go_sem]; omega))) | ((with_reducible refine Below.setCell ?_ ?_ _); rotate_left; focus (first | omega | (simp [go_sem]; done) | (simp [go_sem]; omega))) | (with_reducible refine Below.drew ?_) | (with_reducible refine below_drewN _ ?_))
      | some x =>
        rw [hh] at H hTr2
        obtain ⟨e1, e2⟩ := heldN_some hh
        rw [e1] at H
        obtain ⟨n1, n2, n3⟩ := or_shift acc x 39 ha e2 (by decide) 549755813888 (by decide)
        obtain ⟨acc', ha'⟩ : ∃ q, acc ||| x <<< 39 = q := ⟨_, rfl⟩
        replace hTr2 : prsF (four a b c d) 0 4 (acc ||| x <<< 39) = T := hTr2
        rw [ha'] at n2 n3 hTr2
        have HH := Lib.hid (And.intro n3 hTr2)
        clear ha e2 n3 hTr2 ha' e1
        go_wp2_with (first | (go_at_call 54; refine (PL.out _).mono ?_; rintro e w3 ⟨rfl, rfl⟩) | (go_at_call 69; refine (H.out _).mono ?_; rintro e w4 ⟨rfl, hbel⟩; obtain ⟨o4, j4, rfl⟩ := grow_of_below hbel; clear hbel))
        go_roundw
        case rel => exact ⟨4, acc', by go_num, rfl, by decide, HH.out.1, HH.out.2, blk_grow hx _ _, by repeat (first | (with_reducible exact hb) | ((with_reducible refine below_grow ?_ ?_); rotate_left; focus (first | omega | (simp [go_sem]; done) | (simp [go_sem]; omega))) | ((with_reducible refine Below.alloc ?_ ?_ _); rotate_left; focus (first | omega | (simp [go_sem]; done) | (simp [go_sem]; omega))) | ((with_reducible refine Below.setCell ?_ ?_ _); rotate_left; focus (first | omega | (simp [go_sem]; done) | (simp [go_sem]; omega))) | (with_reducible refine Below.drew ?_) | (with_reducible refine below_drewN _ ?_))⟩
        case measure => simp [intOf]
    | 4, _ =>
      have hTr2 : some acc = T := hTr
      subst hTr2
      clear ha hTr
      go_wp2
      refine bodyPost_ret (by simp [results, Tryd.results49, go_sem, parV]) rfl ⟨rfl, ?_⟩
      exact hb
theorem parse_count (s : ByteArray) (h : s.data.toList.count 46 ≠ 3) (w : World) :
    Calls Tryd.prog 49 #[.string s] w fun e w' => e = .returned (.tuple #[.int .u64 0, .int .i64 40]) ∧ Below w.heap.size w w' := by
  have S := Lib.hid (split_no s h w)
  clear h
  go_enter Tryd.func49, Tryd.ntmps49
  go_wp2_with (go_at_call 68; refine S.out.mono ?_; rintro e w1 ⟨rfl, hbel⟩; obtain ⟨o1, j1, rfl⟩ := grow_of_below hbel; clear hbel)
  refine bodyPost_ret (by simp [results, Tryd.results49, go_sem]) rfl ⟨rfl, ?_⟩
  repeat (first | (with_reducible exact Below.refl _ _) | ((with_reducible refine below_grow ?_ ?_); rotate_left; focus (first | omega | (simp [go_sem]; done) | (simp [go_sem]; omega))) | ((with_reducible refine Below.alloc ?_ ?_ _); rotate_left; focus (first | omega | (simp [go_sem]; done) | (simp [go_sem]; omega))) | ((with_reducible refine Below.setCell ?_ ?_ _); rotate_left; focus (first | omega | (simp [go_sem]; done) | (simp [go_sem]; omega))) | (with_reducible refine Below.drew ?_) | (with_reducible refine below_drewN _ ?_))
theorem parse_calls (s : ByteArray) (hs : s.size < 4294967281) (w : World) (he : Env w) :
    Calls Tryd.prog 49 #[.string s] w fun e w' => e = .returned (parV (prs s.data.toList)) ∧ Below w.heap.size w w' := by
  unfold prs
  by_cases h : s.data.toList.count 46 = 3
  · obtain ⟨a, b, c, d, hp, hj, -⟩ := split_three h
    rw [if_pos h, hp]
    have hl : s.data.toList.length < 4294967281 := hs
    rw [hj] at hl
    simp only [List.length_append, List.length_cons] at hl
    refine parse_four s hs h a b c d hp (fun i => ?_) w he
    unfold four
    split <;> omega
  · rw [if_neg h]
    exact parse_count s h w

/-! CVa -/

theorem ba_take (l : List UInt8) (i : Nat) : (ByteArray.mk l.toArray).extract 0 i = ⟨(l.take i).toArray⟩ := by
  apply ByteArray.ext
  simp [ByteArray.data_extract]
theorem ba_drop (l : List UInt8) (i n : Nat) (hn : l.length ≤ n) : (ByteArray.mk l.toArray).extract i n = ⟨(l.drop i).toArray⟩ := by
  apply ByteArray.ext
  simp [ByteArray.data_extract, List.extract_eq_take_drop]
  rw [List.take_of_length_le (by rw [List.length_drop]; omega)]
theorem slice_take (l : List UInt8) (i : Nat) (h : i ≤ l.length) (W : World) : (Instr.slice 9 (strv l) none (some (.int .i64 (i : Int))) none).run Tryd.prog W = .ok (strv (l.take i)) W := by
  have h1 : (i : Int) ≤ l.length := by omega
  have h2 := ba_take l i
  simp [go_sem, h1, h2]
theorem slice_drop (l : List UInt8) (i : Nat) (h : i ≤ l.length) (W : World) : (Instr.slice 9 (strv l) (some (.int .i64 (i : Int))) none none).run Tryd.prog W = .ok (strv (l.drop i)) W := by
  have h1 : (i : Int) ≤ l.length := by omega
  have h2 := ba_drop l i l.length (Nat.le_refl _)
  simp [go_sem, h1, h2]
theorem wrt_bytes {m : Nat} {b : UInt8} (h : b ∈ wrt m) : b = 46 ∨ 0 ≤ idx b := by
  have hp : ∀ s, b ∈ prt m s → 0 ≤ idx b := fun s hs => by
    unfold prt at hs
    obtain ⟨x, hx, rfl⟩ := List.mem_map.1 hs
    have := idx_chr ⟨x, (cdsF_mem.1 hx).1⟩
    simp only at this
    rw [this]
    omega
  unfold wrt at h
  simp only [List.mem_append, List.mem_cons] at h
  rcases h with h | rfl | h | rfl | h | rfl | h
  · exact .inr (hp 3 h)
  · exact .inl rfl
  · exact .inr (hp 2 h)
  · exact .inl rfl
  · exact .inr (hp 1 h)
  · exact .inl rfl
  · exact .inr (hp 0 h)
theorem wrt_dots (m : Nat) : (wrt m).count 46 = 3 := by
  unfold wrt
  simp [List.count_append, List.count_cons, List.count_eq_zero_of_not_mem (prt_dot _ _)]
theorem prs_bad {l : List UInt8} {b : UInt8} (hb : b ∈ l) (h1 : b ≠ 46) (h2 : idx b < 0) : prs l = none := by
  cases h : prs l with
  | none => rfl
  | some m =>
    obtain ⟨-, rfl⟩ := wrt_prs h
    rcases wrt_bytes hb with h3 | h3
    · exact absurd h3 h1
    · omega
theorem prs_count {l : List UInt8} (h : l.count 46 ≠ 3) : prs l = none := by
  unfold prs
  rw [if_neg h]
theorem parse_none (l : List UInt8) (hl : l.length < 4294967281) (h : prs l = none) (w : World) (he : Env w) :
    Calls Tryd.prog 49 #[strv l] w fun e w' => e = .returned (.tuple #[.int .u64 0, .int .i64 40]) ∧ Below w.heap.size w w' := by
  have H := parse_calls ⟨l.toArray⟩ hl w he
  simp only [h, parV] at H
  exact H
theorem parse_some (l : List UInt8) (hl : l.length < 4294967281) (m : Nat) (h : prs l = some m) (w : World) (he : Env w) :
    Calls Tryd.prog 49 #[strv l] w fun e w' => e = .returned (.tuple #[.int .u64 m, .int .i64 0]) ∧ Below w.heap.size w w' := by
  have H := parse_calls ⟨l.toArray⟩ hl w he
  simp only [h, parV] at H
  exact H

/-! CX -/

theorem index_dot (a r : List UInt8) (h : 46 ∉ a) : Lib.index (a ++ 46 :: r) [46] = a.length := by
  rw [Lib.index_one]
  induction a with
  | nil => rfl
  | cons x a ih =>
    have ih := ih (fun e => h (List.mem_cons_of_mem _ e))
    have hx : (x == 46) = false := by
      rw [beq_eq_false_iff_ne]
      rintro rfl
      exact h List.mem_cons_self
    simp only [List.cons_append, Lib.indexByte, hx, ih]
    have : ((a.length : Int) == -1) = false := by rw [beq_eq_false_iff_ne]; omega
    simp [this]
theorem index_dot_calls (a r : List UInt8) (h : 46 ∉ a) (w : World) : Calls Tryd.prog 61 #[strv (a ++ 46 :: r), .string ⟨#[46]⟩] w fun e w' => e = .returned (.int .i64 (a.length : Int)) ∧ w = w' := by
  have H := Tryd.strings_Index_one ⟨(a ++ 46 :: r).toArray⟩ 46 w
  refine H.mono fun e w' h' => ⟨?_, ?_⟩
  · have := h'.1
    have h2 := index_dot a r h
    rw [Lib.index_one] at h2
    simp only [h2] at this
    exact this
  · exact h'.2.symm
theorem take_dot (a r : List UInt8) (W : World) : (Instr.slice 9 (strv (a ++ 46 :: r)) none (some (.int .i64 (a.length : Int))) none).run Tryd.prog W = .ok (strv a) W := by
  have h := slice_take (a ++ 46 :: r) a.length (by simp) W
  rwa [List.take_left] at h
theorem drop_dot (a r : List UInt8) (W : World) : (Instr.slice 9 (strv (a ++ 46 :: r)) (some (.int .i64 ((a.length : Int) + 1))) none none).run Tryd.prog W = .ok (strv r) W := by
  have h := slice_drop (a ++ 46 :: r) (a.length + 1) (by simp) W
  rw [show (a ++ 46 :: r).drop (a.length + 1) = r by rw [List.drop_append]; simp] at h
  simpa using h
theorem Tryd.infoStr : (Tryd.prog.info? 9).map (fun i => (i.zero, i.size, i.bytes)) = some (some (.string ByteArray.empty), 1, 16) := by kernel_rfl
theorem make_four (W : World) : (Instr.makeSlice 77 (.int .i64 4) (.int .i64 4)).run Tryd.prog W = .ok (.slice (some ⟨W.heap.size, 0, none⟩) 4 4) (W.alloc (.cells #[.string ⟨#[]⟩, .string ⟨#[]⟩, .string ⟨#[]⟩, .string ⟨#[]⟩] 9)) := by
  obtain ⟨i0, hi, hz0, hz1, hz2⟩ := info_parts Tryd.infoStr
  have h := run_makeSlice (P := Tryd.prog) W 77 9 i0 _ Tryd.underlying77 hi hz0 .i64 .i64 4 4 (by decide) (by decide) (by rw [hz1]; decide) (by rw [hz2]; decide) (by decide)
  rw [h, hz1]
  show _ = _
  kernel_rfl
set_option maxRecDepth 100000 in
set_option maxHeartbeats 8000000 in
theorem genSplit_dots (a b c d : List UInt8) (na : 46 ∉ a) (nb : 46 ∉ b) (nc : 46 ∉ c) (nd : 46 ∉ d) (hl : (a ++ 46 :: (b ++ 46 :: (c ++ 46 :: d))).length ≤ 140737488355328) (w : World) :
    Calls Tryd.prog 45 #[strv (a ++ 46 :: (b ++ 46 :: (c ++ 46 :: d))), .string ⟨#[46]⟩, .int .i64 0, .int .i64 (-1)] w fun e w' =>
      e = .returned (.slice (some ⟨w.heap.size, 0, none⟩) 4 4) ∧ w' = w.alloc (.cells #[strv a, strv b, strv c, strv d] 9) := by
  have X2 := Lib.hid (index_dot_calls c d nc)
  have T2 := take_dot c d
  have D2 := drop_dot c d
  obtain ⟨S2, hS2⟩ : ∃ S, c ++ 46 :: d = S := ⟨_, rfl⟩
  have X1 := Lib.hid (index_dot_calls b (c ++ 46 :: d) nb)
  have T1 := take_dot b (c ++ 46 :: d)
  have D1 := drop_dot b (c ++ 46 :: d)
  rw [hS2] at X1 T1 D1 X2 T2 D2
  obtain ⟨S1, hS1⟩ : ∃ S, b ++ 46 :: S2 = S := ⟨_, rfl⟩
  have X0 := Lib.hid (index_dot_calls a (b ++ 46 :: (c ++ 46 :: d)) na)
  have T0 := take_dot a (b ++ 46 :: (c ++ 46 :: d))
  have D0 := drop_dot a (b ++ 46 :: (c ++ 46 :: d))
  rw [hS2, hS1] at X0 T0 D0
  rw [hS1] at X1 T1 D1
  have hcnt : (a ++ 46 :: (b ++ 46 :: (c ++ 46 :: d))).count 46 = 3 := by
    simp [List.count_append, List.count_cons, List.count_eq_zero_of_not_mem na, List.count_eq_zero_of_not_mem nb, List.count_eq_zero_of_not_mem nc, List.count_eq_zero_of_not_mem nd]
  have hl3 : 3 ≤ (a ++ 46 :: (b ++ 46 :: (c ++ 46 :: d))).length := by simp; omega
  have hla : a.length + b.length + c.length + 3 ≤ 140737488355328 := by
    simp only [List.length_append, List.length_cons] at hl
    omega
  rw [hS2, hS1] at hl hcnt hl3 ⊢
  obtain ⟨S0, hS0⟩ : ∃ S, a ++ 46 :: S1 = S := ⟨_, rfl⟩
  rw [hS0] at X0 T0 D0 hl hcnt hl3 ⊢
  have C : ∀ w, Calls Tryd.prog 60 #[strv S0, .string ⟨#[46]⟩] w fun e w' => e = .returned (.int .i64 3) ∧ w = w' := fun w => by
    have h := count_calls ⟨S0.toArray⟩ w
    simp only [hcnt] at h
    exact h
  have C := Lib.hid C
  obtain ⟨L, hL⟩ : ∃ L, S0.length = L := ⟨_, rfl⟩
  obtain ⟨la, hla1⟩ : ∃ L, a.length = L := ⟨_, rfl⟩
  obtain ⟨lb, hlb1⟩ : ∃ L, b.length = L := ⟨_, rfl⟩
  obtain ⟨lc, hlc1⟩ : ∃ L, c.length = L := ⟨_, rfl⟩
  rw [hla1] at X0 T0 D0
  rw [hlb1] at X1 T1 D1
  rw [hlc1] at X2 T2 D2
  rw [hla1, hlb1, hlc1] at hla
  rw [hL] at hl hl3
  have l1 : IntKind.i64.wrap ((L : Int) + 1) = (L : Int) + 1 := IntWalk.i64_in _ (by omega)
  have l2 : min (4 : Int) ((L : Int) + 1) = 4 := by omega
  have w0 : IntKind.i64.wrap (la : Int) = la := IntWalk.i64_in _ (by omega)
  have w1 : IntKind.i64.wrap (lb : Int) = lb := IntWalk.i64_in _ (by omega)
  have w2 : IntKind.i64.wrap (lc : Int) = lc := IntWalk.i64_in _ (by omega)
  have v0 : IntKind.i64.wrap ((la : Int) + 1) = (la : Int) + 1 := IntWalk.i64_in _ (by omega)
  have v1 : IntKind.i64.wrap ((lb : Int) + 1) = (lb : Int) + 1 := IntWalk.i64_in _ (by omega)
  have v2 : IntKind.i64.wrap ((lc : Int) + 1) = (lc : Int) + 1 := IntWalk.i64_in _ (by omega)
  have p0 : ¬ (la : Int) < 0 := by omega
  have p1 : ¬ (lb : Int) < 0 := by omega
  have p2 : ¬ (lc : Int) < 0 := by omega
  clear hS0 hS1 hS2 hcnt hl3 hl hla na nb nc nd hla1 hlb1 hlc1
  have MK := make_four
  go_enter Tryd.func45, Tryd.ntmps45
  go_upto_region 8 with (go_at_call 60; refine (C.out _).mono ?_; rintro e w1 ⟨rfl, rfl⟩)
  go_wp2
  refine wp_loop_rounds 4 ?_
  rw [rounds_succ]
  go_wp2_with (first | (go_at_call_of 61 (strv S0); refine (X0.out _).mono ?_; rintro e w1 ⟨rfl, rfl⟩) | (go_at_call_of 61 (strv S1); refine (X1.out _).mono ?_; rintro e w1 ⟨rfl, rfl⟩) | (go_at_call_of 61 (strv S2); refine (X2.out _).mono ?_; rintro e w1 ⟨rfl, rfl⟩))
  rw [rounds_succ]
  go_wp2_with (first | (go_at_call_of 61 (strv S0); refine (X0.out _).mono ?_; rintro e w1 ⟨rfl, rfl⟩) | (go_at_call_of 61 (strv S1); refine (X1.out _).mono ?_; rintro e w1 ⟨rfl, rfl⟩) | (go_at_call_of 61 (strv S2); refine (X2.out _).mono ?_; rintro e w1 ⟨rfl, rfl⟩))
  rw [rounds_succ]
  go_wp2_with (first | (go_at_call_of 61 (strv S0); refine (X0.out _).mono ?_; rintro e w1 ⟨rfl, rfl⟩) | (go_at_call_of 61 (strv S1); refine (X1.out _).mono ?_; rintro e w1 ⟨rfl, rfl⟩) | (go_at_call_of 61 (strv S2); refine (X2.out _).mono ?_; rintro e w1 ⟨rfl, rfl⟩))
  rw [rounds_succ]
  go_wp2
  go_ret
  exact ⟨rfl, rfl⟩

/-! CXp -/

theorem Split_dots (a b c d : List UInt8) (na : 46 ∉ a) (nb : 46 ∉ b) (nc : 46 ∉ c) (nd : 46 ∉ d) (hl : (a ++ 46 :: (b ++ 46 :: (c ++ 46 :: d))).length ≤ 140737488355328) (w : World) :
    Calls Tryd.prog 86 #[strv (a ++ 46 :: (b ++ 46 :: (c ++ 46 :: d))), .string ⟨#[46]⟩] w fun e w' =>
      e = .returned (.slice (some ⟨w.heap.size, 0, none⟩) 4 4) ∧ w' = w.alloc (.cells #[strv a, strv b, strv c, strv d] 9) := by
  have G := Lib.hid (genSplit_dots a b c d na nb nc nd hl)
  clear hl
  go_enter Tryd.func86, Tryd.ntmps86
  go_wp2_with (go_at_call 45; refine (G.out _).mono ?_; rintro e w1 ⟨rfl, rfl⟩)
  go_ret
  exact ⟨rfl, rfl⟩
set_option maxRecDepth 100000 in
set_option maxHeartbeats 4000000 in
theorem split_any (a b c d : List UInt8) (na : 46 ∉ a) (nb : 46 ∉ b) (nc : 46 ∉ c) (nd : 46 ∉ d) (hl : (a ++ 46 :: (b ++ 46 :: (c ++ 46 :: d))).length ≤ 140737488355328) (w : World) :
    Calls Tryd.prog 68 #[strv (a ++ 46 :: (b ++ 46 :: (c ++ 46 :: d)))] w fun e w' => e = .returned (.tuple #[.agg #[strv a, strv b, strv c, strv d], .bool true]) ∧ Below w.heap.size w w' := by
  have S := Lib.hid (Split_dots a b c d na nb nc nd hl)
  have C : ∀ w, Calls Tryd.prog 60 #[strv (a ++ 46 :: (b ++ 46 :: (c ++ 46 :: d))), .string ⟨#[46]⟩] w fun e w' => e = .returned (.int .i64 3) ∧ w = w' := fun w => by
    have h := count_calls ⟨(a ++ 46 :: (b ++ 46 :: (c ++ 46 :: d))).toArray⟩ w
    have hcnt : (a ++ 46 :: (b ++ 46 :: (c ++ 46 :: d))).count 46 = 3 := by
      simp [List.count_append, List.count_cons, List.count_eq_zero_of_not_mem na, List.count_eq_zero_of_not_mem nb, List.count_eq_zero_of_not_mem nc, List.count_eq_zero_of_not_mem nd]
    simp only [hcnt] at h
    exact h
  have C := Lib.hid C
  obtain ⟨s, hs⟩ : ∃ s, a ++ 46 :: (b ++ 46 :: (c ++ 46 :: d)) = s := ⟨_, rfl⟩
  rw [hs] at S C ⊢
  clear hs hl na nb nc nd
  have hcp := copy_four w a b c d
  go_enter Tryd.func68, Tryd.ntmps68
  go_upto_region 4 with (go_at_call 60; refine (C.out _).mono ?_; rintro e w1 ⟨rfl, rfl⟩)
  go_region_with (first | (go_at_call 86; refine (S.out _).mono ?_; rintro e w2 ⟨rfl, rfl⟩))
  all_goals go_wp2
  all_goals (refine bodyPost_ret (by simp [results, Tryd.results68, go_sem]) rfl ⟨rfl, ?_⟩; repeat (first | (with_reducible exact Below.refl _ _) | ((with_reducible refine below_grow ?_ ?_); rotate_left; focus (first | omega | (simp [go_sem]; done) | (simp [go_sem]; omega))) | ((with_reducible refine Below.alloc ?_ ?_ _); rotate_left; focus (first | omega | (simp [go_sem]; done) | (simp [go_sem]; omega))) | ((with_reducible refine Below.setCell ?_ ?_ _); rotate_left; focus (first | omega | (simp [go_sem]; done) | (simp [go_sem]; omega))) | (with_reducible refine Below.drew ?_) | (with_reducible refine below_drewN _ ?_)))
set_option maxRecDepth 100000 in
set_option maxHeartbeats 4000000 in
theorem held_long (s : ByteArray) (hs : s.size ≤ 140737488355328) (w : World) :
    Calls Tryd.prog 69 #[.string s] w fun e w' => e = .returned (.tuple #[.int .u64 (heldN s.data.toList), .bool (held 13 0 s.data.toList).isSome]) ∧ Below w.heap.size w w' := by
  obtain ⟨T, hT⟩ : ∃ T, held 13 0 s.data.toList = T := ⟨_, rfl⟩
  unfold heldN
  rw [hT]
  go_enter Tryd.func69, Tryd.ntmps69
  go_wp2
  go_loopw [10, 4, 5] (fun s10 s4 s5 wr => ∃ i h ab : Nat, s10 = .int .i64 i ∧ s4 = .int .u64 h ∧ s5 = .int .i64 ab ∧ i ≤ s.size ∧ h < 8192 ∧ ab ≤ 13 ∧ held ab h (s.data.toList.drop i) = T ∧ Below w.heap.size w wr) (fun s10 _ _ _ => s.size - (intOf s10).toNat)
  case atStart => exact ⟨0, 0, 13, rfl, rfl, rfl, Nat.zero_le _, by decide, by decide, hT, by repeat (first | (with_reducible exact Below.refl _ _) | ((with_reducible refine below_grow ?_ ?_); rotate_left; focus (first | omega | (simp [go_sem]; done) | (simp [go_sem]; omega))) | ((with_reducible refine Below.alloc ?_ ?_ _); rotate_left; focus (first | omega | (simp [go_sem]; done) | (simp [go_sem]; omega))) | ((with_reducible refine Below.setCell ?_ ?_ _); rotate_left; focus (first | omega | (simp [go_sem]; done) | (simp [go_sem]; omega))) | (with_reducible refine Below.drew ?_) | (with_reducible refine below_drewN _ ?_))⟩
  case round =>
    obtain ⟨i, h, ab, rfl, rfl, rfl, hi, hh, hab, hTr, hb⟩ := hrel
    by_cases hlt : i < s.size
    · have hlt2 : (i : Int) < s.size := by omega
      rw [getElem_list s i hlt] at hTr
      have C := idx_calls s[i]
      obtain ⟨r1, r2⟩ := idx_all s[i]
      unfold held at hTr
      have e1 : IntKind.i64.wrap ((i : Int) + 1) = (i : Int) + 1 := IntWalk.i64_in _ (by omega)
      obtain ⟨r, hr⟩ : ∃ r, idx s[i] = r := ⟨_, rfl⟩
      rw [hr] at hTr r1 r2 C
      have C := Lib.hid C
      have HH := Lib.hid (And.intro hh (And.intro hab hs))
      by_cases hn : r < 0
      · rw [if_pos (.inl hn)] at hTr
        subst hTr
        clear hh hab hs
        go_wp2_with (first | (go_at_call 87; refine (C.out _).mono ?_; rintro e w1 ⟨rfl, rfl⟩))
        refine bodyPost_ret (by simp [results, Tryd.results69, go_sem]) rfl ⟨rfl, ?_⟩
        repeat (first | (with_reducible exact hb) | ((with_reducible refine below_grow ?_ ?_); rotate_left; focus (first | omega | (simp [go_sem]; done) | (simp [go_sem]; omega))) | ((with_reducible refine Below.alloc ?_ ?_ _); rotate_left; focus (first | omega | (simp [go_sem]; done) | (simp [go_sem]; omega))) | ((with_reducible refine Below.setCell ?_ ?_ _); rotate_left; focus (first | omega | (simp [go_sem]; done) | (simp [go_sem]; omega))) | (with_reducible refine Below.drew ?_) | (with_reducible refine below_drewN _ ?_))
      · by_cases hn2 : (ab : Int) ≤ r
        · rw [if_pos (.inr hn2)] at hTr
          subst hTr
          clear hh hab hs
          go_wp2_with (first | (go_at_call 87; refine (C.out _).mono ?_; rintro e w1 ⟨rfl, rfl⟩))
          refine bodyPost_ret (by simp [results, Tryd.results69, go_sem]) rfl ⟨rfl, ?_⟩
          repeat (first | (with_reducible exact hb) | ((with_reducible refine below_grow ?_ ?_); rotate_left; focus (first | omega | (simp [go_sem]; done) | (simp [go_sem]; omega))) | ((with_reducible refine Below.alloc ?_ ?_ _); rotate_left; focus (first | omega | (simp [go_sem]; done) | (simp [go_sem]; omega))) | ((with_reducible refine Below.setCell ?_ ?_ _); rotate_left; focus (first | omega | (simp [go_sem]; done) | (simp [go_sem]; omega))) | (with_reducible refine Below.drew ?_) | (with_reducible refine below_drewN _ ?_))
        · rw [if_neg (by omega)] at hTr
          obtain ⟨q, rfl⟩ : ∃ q : Nat, r = q := ⟨r.toNat, by omega⟩
          rw [Int.toNat_natCast] at hTr
          obtain ⟨o1, o2⟩ := or_num h q hh (by omega)
          have hor : h ||| 2 ^ q < 8192 := Nat.or_lt_two_pow (n := 13) hh (Nat.pow_lt_pow_right (by decide) (by omega))
          obtain ⟨h', hh'⟩ : ∃ h', h ||| 2 ^ q = h' := ⟨_, rfl⟩
          rw [hh'] at o2 hTr hor
          have hmn : min q 64 = q := by omega
          have H2 := Lib.hid (And.intro hor hTr)
          clear hh hab hs hTr hor r1 r2 hh'
          go_wp2_with (first | (go_at_call 87; refine (C.out _).mono ?_; rintro e w1 ⟨rfl, rfl⟩))
          go_roundw
          case rel => exact ⟨i + 1, h', q, by go_num, rfl, rfl, by omega, H2.out.1, by have := HH.out; omega, H2.out.2, by repeat (first | (with_reducible exact hb) | ((with_reducible refine below_grow ?_ ?_); rotate_left; focus (first | omega | (simp [go_sem]; done) | (simp [go_sem]; omega))) | ((with_reducible refine Below.alloc ?_ ?_ _); rotate_left; focus (first | omega | (simp [go_sem]; done) | (simp [go_sem]; omega))) | ((with_reducible refine Below.setCell ?_ ?_ _); rotate_left; focus (first | omega | (simp [go_sem]; done) | (simp [go_sem]; omega))) | (with_reducible refine Below.drew ?_) | (with_reducible refine below_drewN _ ?_))⟩
          case measure => simp [intOf]; omega
    · obtain rfl : i = s.size := by omega
      have hd : s.data.toList.drop s.size = [] := List.drop_eq_nil_iff.2 (Nat.le_refl _)
      rw [hd] at hTr
      simp only [held] at hTr
      subst hTr
      clear hh hab hs
      go_wp2
      refine bodyPost_ret (by simp [results, Tryd.results69, go_sem]) rfl ⟨rfl, ?_⟩
      repeat (first | (with_reducible exact hb) | ((with_reducible refine below_grow ?_ ?_); rotate_left; focus (first | omega | (simp [go_sem]; done) | (simp [go_sem]; omega))) | ((with_reducible refine Below.alloc ?_ ?_ _); rotate_left; focus (first | omega | (simp [go_sem]; done) | (simp [go_sem]; omega))) | ((with_reducible refine Below.setCell ?_ ?_ _); rotate_left; focus (first | omega | (simp [go_sem]; done) | (simp [go_sem]; omega))) | (with_reducible refine Below.drew ?_) | (with_reducible refine below_drewN _ ?_))
theorem held_any (l : List UInt8) (hl : l.length ≤ 140737488355328) (w : World) :
    Calls Tryd.prog 69 #[strv l] w fun e w' => e = .returned (.tuple #[.int .u64 (heldN l), .bool (held 13 0 l).isSome]) ∧ Below w.heap.size w w' := by
  have h := held_long ⟨l.toArray⟩ hl w
  simpa using h
set_option maxRecDepth 100000 in
set_option maxHeartbeats 8000000 in
theorem parse_four_any (a b c d : List UInt8) (na : 46 ∉ a) (nb : 46 ∉ b) (nc : 46 ∉ c) (nd : 46 ∉ d) (h4 : (a ++ 46 :: (b ++ 46 :: (c ++ 46 :: d))).length ≤ 140737488355328) (w : World) :
    Calls Tryd.prog 49 #[strv (a ++ 46 :: (b ++ 46 :: (c ++ 46 :: d)))] w fun e w' => e = .returned (parV (prs4 a b c d)) ∧ Below w.heap.size w w' := by
  have S := Lib.hid (split_any a b c d na nb nc nd h4 w)
  have hl : ∀ i, (four a b c d i).length ≤ 140737488355328 := fun i => by
    simp only [List.length_append, List.length_cons] at h4
    unfold four
    split <;> omega
  obtain ⟨s, hs⟩ : ∃ s, a ++ 46 :: (b ++ 46 :: (c ++ 46 :: d)) = s := ⟨_, rfl⟩
  rw [hs] at S ⊢
  clear na nb nc nd h4 hs
  have E := prsF_four a b c d
  obtain ⟨T, hT⟩ : ∃ T, prs4 a b c d = T := ⟨_, rfl⟩
  rw [hT] at E ⊢
  have HL := Lib.hid hl
  clear hT hl
  go_enter Tryd.func49, Tryd.ntmps49
  go_upto_region 5 with (go_at_call 68; refine S.out.mono ?_; rintro e w1 ⟨rfl, hbel⟩; obtain ⟨o1, j1, rfl⟩ := grow_of_below hbel; clear hbel)
  have hX : blk ((grow w o1 j1).alloc (.cells #[strv a, strv b, strv c, strv d] 61)) (w.heap.size + sz o1) #[strv a, strv b, strv c, strv d] 61 := blk_at _ _ _ (by simp [go_sem])
  have hB : Below w.heap.size w ((grow w o1 j1).alloc (.cells #[strv a, strv b, strv c, strv d] 61)) := by repeat (first | (with_reducible exact Below.refl _ _) | ((with_reducible refine below_grow ?_ ?_); rotate_left; focus (first | omega | (simp [go_sem]; done) | (simp [go_sem]; omega))) | ((with_reducible refine Below.alloc ?_ ?_ _); rotate_left; focus (first | omega | (simp [go_sem]; done) | (simp [go_sem]; omega))) | ((with_reducible refine Below.setCell ?_ ?_ _); rotate_left; focus (first | omega | (simp [go_sem]; done) | (simp [go_sem]; omega))) | (with_reducible refine Below.drew ?_) | (with_reducible refine below_drewN _ ?_))
  go_wp2
  go_loopw [17, 6] (fun s17 s6 wr => ∃ i acc : Nat, s17 = .int .i64 i ∧ s6 = .int .u64 acc ∧ i ≤ 4 ∧ acc < 4503599627370496 ∧ prsF (four a b c d) (4 - i) i acc = T ∧ blk wr (w.heap.size + sz o1) #[strv a, strv b, strv c, strv d] 61 ∧ Below w.heap.size w wr) (fun s17 _ _ => 4 - (intOf s17).toNat)
  case atStart => exact ⟨0, 0, rfl, rfl, by decide, by decide, E, hX, hB⟩
  case round =>
    obtain ⟨i, acc, rfl, rfl, hi, ha, hTr, hx, hb⟩ := hrel
    have hbs := hb.size
    have iP : NeZero (inW (w.heap.size + sz o1) wr) := inW_mk (blk_lt hx)
    match i, hi with
    | 0, _ =>
      have hTr2 : (match held 13 0 d with | none => none | some x => prsF (four a b c d) 3 1 (acc ||| x <<< 0)) = T := hTr
      clear hTr
      have k0 := (blk_cell hx 3).trans (show _ = some (strv d) from rfl)
      have H := Lib.hid (held_any d (HL.out 0))
      have PL := Lib.hid (place_calls 0 (by decide))
      cases hh : held 13 0 d with
      | none =>
        rw [hh] at H hTr2
        rw [heldN_none hh] at H
        subst hTr2
        clear ha
        go_wp2_with (first | (go_at_call 54; refine (PL.out _).mono ?_; rintro e w3 ⟨rfl, rfl⟩) | (go_at_call 69; refine (H.out _).mono ?_; rintro e w4 ⟨rfl, hbel⟩; obtain ⟨o4, j4, rfl⟩ := grow_of_below hbel; clear hbel))
        refine bodyPost_ret (by simp [results, Tryd.results49, go_sem, parV]) rfl ⟨rfl, ?_⟩
        repeat (first | (with_reducible exact hb) | ((with_reducible refine below_grow ?_ ?_); rotate_left; focus (first | omega | (simp [go_sem]; done) | (simp [go_sem]; omega))) | ((with_reducible refine Below.alloc ?_ ?_ _); rotate_left; focus (first | omega | (simp [go_sem]; done) | (simp [go_sem]; omega))) | ((with_reducible refine Below.setCell ?_ ?_ _); rotate_left; focus (first | omega | (simp [go_sem]; done) | (simp [go_sem]; omega))) | (with_reducible refine Below.drew ?_) | (with_reducible refine below_drewN _ ?_))
      | some x =>
        rw [hh] at H hTr2
        obtain ⟨e1, e2⟩ := heldN_some hh
        rw [e1] at H
        obtain ⟨n1, n2, n3⟩ := or_shift acc x 0 ha e2 (by decide) 1 (by decide)
        rw [Int.mul_one] at n1 n2
        obtain ⟨acc', ha'⟩ : ∃ q, acc ||| x <<< 0 = q := ⟨_, rfl⟩
        replace hTr2 : prsF (four a b c d) 3 1 (acc ||| x <<< 0) = T := hTr2
        rw [ha'] at n2 n3 hTr2
        have HH := Lib.hid (And.intro n3 hTr2)
        clear ha e2 n3 hTr2 ha' e1
        go_wp2_with (first | (go_at_call 54; refine (PL.out _).mono ?_; rintro e w3 ⟨rfl, rfl⟩) | (go_at_call 69; refine (H.out _).mono ?_; rintro e w4 ⟨rfl, hbel⟩; obtain ⟨o4, j4, rfl⟩ := grow_of_below hbel; clear hbel))
        go_roundw
        case rel => exact ⟨1, acc', by go_num, rfl, by decide, HH.out.1, HH.out.2, blk_grow hx _ _, by repeat (first | (with_reducible exact hb) | ((with_reducible refine below_grow ?_ ?_); rotate_left; focus (first | omega | (simp [go_sem]; done) | (simp [go_sem]; omega))) | ((with_reducible refine Below.alloc ?_ ?_ _); rotate_left; focus (first | omega | (simp [go_sem]; done) | (simp [go_sem]; omega))) | ((with_reducible refine Below.setCell ?_ ?_ _); rotate_left; focus (first | omega | (simp [go_sem]; done) | (simp [go_sem]; omega))) | (with_reducible refine Below.drew ?_) | (with_reducible refine below_drewN _ ?_))⟩
        case measure => simp [intOf]
    | 1, _ =>
      have hTr2 : (match held 13 0 c with | none => none | some x => prsF (four a b c d) 2 2 (acc ||| x <<< 13)) = T := hTr
      clear hTr
      have k0 := (blk_cell hx 2).trans (show _ = some (strv c) from rfl)
      have H := Lib.hid (held_any c (HL.out 1))
      have PL := Lib.hid (place_calls 1 (by decide))
      cases hh : held 13 0 c with
      | none =>
        rw [hh] at H hTr2
        rw [heldN_none hh] at H
        subst hTr2
        clear ha
        go_wp2_with (first | (go_at_call 54; refine (PL.out _).mono ?_; rintro e w3 ⟨rfl, rfl⟩) | (go_at_call 69; refine (H.out _).mono ?_; rintro e w4 ⟨rfl, hbel⟩; obtain ⟨o4, j4, rfl⟩ := grow_of_below hbel; clear hbel))
        refine bodyPost_ret (by simp [results, Tryd.results49, go_sem, parV]) rfl ⟨rfl, ?_⟩
        repeat (first | (with_reducible exact hb) | ((with_reducible refine below_grow ?_ ?_); rotate_left; focus (first | omega | (simp [go_sem]; done) | (simp [go_sem]; omega))) | ((with_reducible refine Below.alloc ?_ ?_ _); rotate_left; focus (first | omega | (simp [go_sem]; done) | (simp [go_sem]; omega))) | ((with_reducible refine Below.setCell ?_ ?_ _); rotate_left; focus (first | omega | (simp [go_sem]; done) | (simp [go_sem]; omega))) | (with_reducible refine Below.drew ?_) | (with_reducible refine below_drewN _ ?_))
      | some x =>
        rw [hh] at H hTr2
        obtain ⟨e1, e2⟩ := heldN_some hh
        rw [e1] at H
        obtain ⟨n1, n2, n3⟩ := or_shift acc x 13 ha e2 (by decide) 8192 (by decide)
        obtain ⟨acc', ha'⟩ : ∃ q, acc ||| x <<< 13 = q := ⟨_, rfl⟩
        replace hTr2 : prsF (four a b c d) 2 2 (acc ||| x <<< 13) = T := hTr2
        rw [ha'] at n2 n3 hTr2
        have HH := Lib.hid (And.intro n3 hTr2)
        clear ha e2 n3 hTr2 ha' e1
        go_wp2_with (first | (go_at_call 54; refine (PL.out _).mono ?_; rintro e w3 ⟨rfl, rfl⟩) | (go_at_call 69; refine (H.out _).mono ?_; rintro e w4 ⟨rfl, hbel⟩; obtain ⟨o4, j4, rfl⟩ := grow_of_below hbel; clear hbel))
        go_roundw
        case rel => exact ⟨2, acc', by go_num, rfl, by decide, HH.out.1, HH.out.2, blk_grow hx _ _, by repeat (first | (with_reducible exact hb) | ((with_reducible refine below_grow ?_ ?_); rotate_left; focus (first | omega | (simp [go_sem]; done) | (simp [go_sem]; omega))) | ((with_reducible refine Below.alloc ?_ ?_ _); rotate_left; focus (first | omega | (simp [go_sem]; done) | (simp [go_sem]; omega))) | ((with_reducible refine Below.setCell ?_ ?_ _); rotate_left; focus (first | omega | (simp [go_sem]; done) | (simp [go_sem]; omega))) | (with_reducible refine Below.drew ?_) | (with_reducible refine below_drewN _ ?_))⟩
        case measure => simp [intOf]
    | 2, _ =>
      have hTr2 : (match held 13 0 b with | none => none | some x => prsF (four a b c d) 1 3 (acc ||| x <<< 26)) = T := hTr
      clear hTr
      have k0 := (blk_cell hx 1).trans (show _ = some (strv b) from rfl)
      have H := Lib.hid (held_any b (HL.out 2))
      have PL := Lib.hid (place_calls 2 (by decide))
      cases hh : held 13 0 b with
      | none =>
        rw [hh] at H hTr2
        rw [heldN_none hh] at H
        subst hTr2
        clear ha
        go_wp2_with (first | (go_at_call 54; refine (PL.out _).mono ?_; rintro e w3 ⟨rfl, rfl⟩) | (go_at_call 69; refine (H.out _).mono ?_; rintro e w4 ⟨rfl, hbel⟩; obtain ⟨o4, j4, rfl⟩ := grow_of_below hbel; clear hbel))
        refine bodyPost_ret (by simp [results, Tryd.results49, go_sem, parV]) rfl ⟨rfl, ?_⟩
        repeat (first | (with_reducible exact hb) | ((with_reducible refine below_grow ?_ ?_); rotate_left; focus (first | omega | (simp [go_sem]; done) | (simp [go_sem]; omega))) | ((with_reducible refine Below.alloc ?_ ?_ _); rotate_left; focus (first | omega | (simp [go_sem]; done) | (simp [go_sem]; omega))) | ((with_reducible refine Below.setCell ?_ ?_ _); rotate_left; focus (first | omega | (simp [go_sem]; done) | (simp [go_sem]; omega))) | (with_reducible refine Below.drew ?_) | (with_reducible refine below_drewN _ ?_))
      | some x =>
        rw [hh] at H hTr2
        obtain ⟨e1, e2⟩ := heldN_some hh
        rw [e1] at H
        obtain ⟨n1, n2, n3⟩ := or_shift acc x 26 ha e2 (by decide) 67108864 (by decide)
        obtain ⟨acc', ha'⟩ : ∃ q, acc ||| x <<< 26 = q := ⟨_, rfl⟩
        replace hTr2 : prsF (four a b c d) 1 3 (acc ||| x <<< 26) = T := hTr2
        rw [ha'] at n2 n3 hTr2
        have HH := Lib.hid (And.intro n3 hTr2)
        clear ha e2 n3 hTr2 ha' e1
        go_wp2_with (first | (go_at_call 54; refine (PL.out _).mono ?_; rintro e w3 ⟨rfl, rfl⟩) | (go_at_call 69; refine (H.out _).mono ?_; rintro e w4 ⟨rfl, hbel⟩; obtain ⟨o4, j4, rfl⟩ := grow_of_below hbel; clear hbel))
        go_roundw
        case rel => exact ⟨3, acc', by go_num, rfl, by decide, HH.out.1, HH.out.2, blk_grow hx _ _, by repeat (first | (with_reducible exact hb) | ((with_reducible refine below_grow ?_ ?_); rotate_left; focus (first | omega | (simp [go_sem]; done) | (simp [go_sem]; omega))) | ((with_reducible refine Below.alloc ?_ ?_ _); rotate_left; focus (first | omega | (simp [go_sem]; done) | (simp [go_sem]; omega))) | ((with_reducible refine Below.setCell ?_ ?_ _); rotate_left; focus (first | omega | (simp [go_sem]; done) | (simp [go_sem]; omega))) | (with_reducible refine Below.drew ?_) | (with_reducible refine below_drewN _ ?_))⟩
        case measure => simp [intOf]
    | 3, _ =>
      have hTr2 : (match held 13 0 a with | none => none | some x => prsF (four a b c d) 0 4 (acc ||| x <<< 39)) = T := hTr
      clear hTr
      have k0 := (blk_cell hx 0).trans (show _ = some (strv a) from rfl)
      have H := Lib.hid (held_any a (HL.out 3))
      have PL := Lib.hid (place_calls 3 (by decide))
      cases hh : held 13 0 a with
      | none =>
        rw [hh] at H hTr2
        rw [heldN_none hh] at H
        subst hTr2
        clear ha
        go_wp2_with (first | (go_at_call 54; refine (PL.out _).mono ?_; rintro e w3 ⟨rfl, rfl⟩) | (go_at_call 69; refine (H.out _).mono ?_; rintro e w4 ⟨rfl, hbel⟩; obtain ⟨o4, j4, rfl⟩ := grow_of_below hbel; clear hbel))
        refine bodyPost_ret (by simp [results, Tryd.results49, go_sem, parV]) rfl ⟨rfl, ?_⟩
        repeat (first | (with_reducible exact hb) | ((with_reducible refine below_grow ?_ ?_); rotate_left; focus (first | omega | (simp [go_sem]; done) | (simp [go_sem]; omega))) | ((with_reducible refine Below.alloc ?_ ?_ _); rotate_left; focus (first | omega | (simp [go_sem]; done) | (simp [go_sem]; omega))) | ((with_reducible refine Below.setCell ?_ ?_ _); rotate_left; focus (first | omega | (simp [go_sem]; done) | (simp [go_sem]; omega))) | (with_reducible refine Below.drew ?_) | (with_reducible refine below_drewN _ ?_))
      | some x =>
        rw [hh] at H hTr2
        obtain ⟨e1, e2⟩ := heldN_some hh
        rw [e1] at H
        obtain ⟨n1, n2, n3⟩ := or_shift acc x 39 ha e2 (by decide) 549755813888 (by decide)
        obtain ⟨acc', ha'⟩ : ∃ q, acc ||| x <<< 39 = q := ⟨_, rfl⟩
        replace hTr2 : prsF (four a b c d) 0 4 (acc ||| x <<< 39) = T := hTr2
        rw [ha'] at n2 n3 hTr2
        have HH := Lib.hid (And.intro n3 hTr2)
        clear ha e2 n3 hTr2 ha' e1
        go_wp2_with (first | (go_at_call 54; refine (PL.out _).mono ?_; rintro e w3 ⟨rfl, rfl⟩) | (go_at_call 69; refine (H.out _).mono ?_; rintro e w4 ⟨rfl, hbel⟩; obtain ⟨o4, j4, rfl⟩ := grow_of_below hbel; clear hbel))
        go_roundw
        case rel => exact ⟨4, acc', by go_num, rfl, by decide, HH.out.1, HH.out.2, blk_grow hx _ _, by repeat (first | (with_reducible exact hb) | ((with_reducible refine below_grow ?_ ?_); rotate_left; focus (first | omega | (simp [go_sem]; done) | (simp [go_sem]; omega))) | ((with_reducible refine Below.alloc ?_ ?_ _); rotate_left; focus (first | omega | (simp [go_sem]; done) | (simp [go_sem]; omega))) | ((with_reducible refine Below.setCell ?_ ?_ _); rotate_left; focus (first | omega | (simp [go_sem]; done) | (simp [go_sem]; omega))) | (with_reducible refine Below.drew ?_) | (with_reducible refine below_drewN _ ?_))⟩
        case measure => simp [intOf]
    | 4, _ =>
      have hTr2 : some acc = T := hTr
      subst hTr2
      clear ha hTr
      go_wp2
      refine bodyPost_ret (by simp [results, Tryd.results49, go_sem, parV]) rfl ⟨rfl, ?_⟩
      exact hb
theorem parse_any (s : ByteArray) (hs : s.size ≤ 140737488355328) (w : World) :
    Calls Tryd.prog 49 #[.string s] w fun e w' => e = .returned (parV (prs s.data.toList)) ∧ Below w.heap.size w w' := by
  unfold prs
  by_cases h : s.data.toList.count 46 = 3
  · obtain ⟨a, b, c, d, hp, hj, na, nb, nc, nd⟩ := split_three h
    rw [if_pos h, hp]
    have hl : s.data.toList.length ≤ 140737488355328 := hs
    have e : s = ⟨(a ++ 46 :: (b ++ 46 :: (c ++ 46 :: d))).toArray⟩ := by rw [← hj]
    rw [hj] at hl
    rw [e]
    exact parse_four_any a b c d na nb nc nd hl w
  · rw [if_neg h]
    exact parse_count s h w
end Go.Proofs.YtalklogopepjpaaDoor.Ca
