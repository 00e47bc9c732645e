/- split, Parse. -/
import Derived.Test.YtcfkcfbgnciccaaDoorCJ
import Derived.Laws.IdiomCopy
namespace Go.Proofs.YtcfkcfbgnciccaaDoor
open Go.RowKit

/-- What the library's variables must hold for what follows. -/
structure Env (w : World) : Prop where
  tab : TabAt 0 Lib.deBruijn64tab w
  ml : ∃ m, w.cell? ⟨1, 0, none⟩ = some (.int .i64 m)
theorem Env.below {w w' : World} (h : Env w) (hb : Below w.heap.size w w') : Env w' :=
  ⟨fun j hj => (hb.cell (World.block_lt_of_cell? w _ (h.tab j hj))).trans (h.tab j hj), let ⟨m, hm⟩ := h.ml; ⟨m, (hb.cell (World.block_lt_of_cell? w _ hm)).trans hm⟩⟩
abbrev noParts : Value := .agg #[.string ⟨#[]⟩, .string ⟨#[]⟩, .string ⟨#[]⟩, .string ⟨#[]⟩]
theorem count_calls (s : ByteArray) (w : World) : Calls Tryd.prog 59 #[.string s, .string ⟨#[46]⟩] w fun e w' => e = .returned (.int .i64 ((s.data.toList.count 46 : Nat) : Int)) ∧ w = w' :=
  (Tryd.strings_Count_one s 46 w).mono fun e w' h => ⟨h.1, h.2.symm⟩
theorem map_four {l : List ByteArray} {a b c d : List UInt8} (h : l.map (·.data.toList) = [a, b, c, d]) : ∃ A B C D, l = [A, B, C, D] ∧ A = ⟨a.toArray⟩ ∧ B = ⟨b.toArray⟩ ∧ C = ⟨c.toArray⟩ ∧ D = ⟨d.toArray⟩ := by
  have hl := congrArg List.length h
  rw [List.length_map] at hl
  match l, hl with
  | [A, B, C, D], _ =>
    simp only [List.map_cons, List.map_nil, List.cons.injEq, and_true] at h
    obtain ⟨rfl, rfl, rfl, rfl⟩ := h
    exact ⟨A, B, C, D, rfl, rfl, rfl, rfl, rfl⟩
abbrev noCells : Obj := .cells #[.string ⟨#[]⟩, .string ⟨#[]⟩, .string ⟨#[]⟩, .string ⟨#[]⟩] 63
theorem copy_four (w : World) (a b c d : List UInt8) :
    (Builtin.copy_ #[31, 31] 3 #[.slice (some ⟨w.heap.size + 1, 0, none⟩) 4 4, .slice (some ⟨w.heap.size + 1 + 1, 0, none⟩) 4 4]).run Tryd.prog (((w.alloc noCells).alloc noCells).alloc (.cells #[strv a, strv b, strv c, strv d] 9)).drew =
      .ok (.int .i64 4) (((w.alloc noCells).alloc (.cells #[strv a, strv b, strv c, strv d] 63)).alloc (.cells #[strv a, strv b, strv c, strv d] 9)).drew := by
  have h := run_copy_cells (P := Tryd.prog) (((w.alloc noCells).alloc noCells).alloc (.cells #[strv a, strv b, strv c, strv d] 9)).drew 31 31 3 9 (w.heap.size + 1) 0 4 4 ⟨w.heap.size + 1 + 1, 0, none⟩ 4 4 [strv a, strv b, strv c, strv d] Tryd.underlying31 (by kernel_rfl) rfl ?_ ?_ ?_ ?_
  · rw [h]
    simp [World.setCells, go_sem, goInt]
  · intro j v hj
    rw [show (⟨w.heap.size + 1 + 1, 0, none⟩ : Addr).add j = ⟨w.heap.size + 1 + 1, 0 + j, none⟩ by unfold Addr.add; split <;> simp_all]
    match j, hj with
    | 0, hj => cases hj; simp [go_sem]
    | 1, hj => cases hj; simp [go_sem]
    | 2, hj => cases hj; simp [go_sem]
    | 3, hj => cases hj; simp [go_sem]
  · intro j hj
    match j, hj with
    | 0, _ => simp [go_sem]
    | 1, _ => simp [go_sem]
    | 2, _ => simp [go_sem]
    | 3, _ => simp [go_sem]
  · intro j hj
    simp [go_sem]
  · intro v hv
    simp at hv
    rcases hv with rfl | rfl | rfl | rfl <;> rfl
set_option maxRecDepth 100000 in
set_option maxHeartbeats 4000000 in
theorem split_no (s : ByteArray) (h : s.data.toList.count 46 ≠ 3) (w : World) :
    Calls Tryd.prog 46 #[.string s] w fun e w' => e = .returned (.tuple #[noParts, .bool false]) ∧ Below w.heap.size w w' := by
  have C := Lib.hid (count_calls s)
  obtain ⟨n, hn⟩ : ∃ n, s.data.toList.count 46 = n := ⟨_, rfl⟩
  rw [hn] at C h
  have h' : ¬ (n : Int) = 3 := by omega
  clear hn h
  go_enter Tryd.func46, Tryd.ntmps46
  go_wp2_with (go_at_call 59; refine (C.out _).mono ?_; rintro e w1 ⟨rfl, rfl⟩)
  refine bodyPost_ret (by simp [results, Tryd.results46, go_sem]) rfl ⟨rfl, ?_⟩
  repeat (first | (with_reducible exact Below.refl _ _) | ((with_reducible refine below_grow ?_ ?_); rotate_left; focus (first | omega | (simp [go_sem]; done) | (simp [go_sem]; omega))) | ((with_reducible refine Below.alloc ?_ ?_ _); rotate_left; focus (first | omega | (simp [go_sem]; done) | (simp [go_sem]; omega))) | ((with_reducible refine Below.setCell ?_ ?_ _); rotate_left; focus (first | omega | (simp [go_sem]; done) | (simp [go_sem]; omega))) | (with_reducible refine Below.drew ?_) | (with_reducible refine below_drewN _ ?_))
set_option maxRecDepth 100000 in
set_option maxHeartbeats 4000000 in
theorem split_yes (s : ByteArray) (hs : s.size < 4294967281) (h : s.data.toList.count 46 = 3) (a b c d : List UInt8) (hp : Lib.splitK [46] 0 3 s.data.toList = [a, b, c, d]) (w : World) (he : Env w) :
    Calls Tryd.prog 46 #[.string s] w fun e w' => e = .returned (.tuple #[.agg #[strv a, strv b, strv c, strv d], .bool true]) ∧ Below w.heap.size w w' := by
  have C := Lib.hid (count_calls s)
  rw [h] at C
  have hcnt : Lib.countB s ⟨#[46]⟩ = 3 := by
    have := Lib.count_one 46 s.data.toList
    rw [h] at this
    exact this
  have hdat := Lib.splitB_data ⟨#[46]⟩ 0 3 s
  rw [show (ByteArray.mk #[46]).data.toList = [46] from rfl, hp] at hdat
  obtain ⟨A, B, C', D, hABCD, hA, hB, hC, hD⟩ := map_four hdat
  obtain ⟨m, hm⟩ := he.ml
  have iM : NeZero (inW 1 w) := inW_mk (World.block_lt_of_cell? w _ hm)
  have S := fun W hW => Tryd.strings_Split s ⟨#[46]⟩ m W hs hW (by decide)
  rw [hcnt, hABCD, hA, hB, hC, hD] at S
  have S := Lib.hid S
  clear hcnt hABCD hA hB hC hD hdat hp h
  have hcp := copy_four w a b c d
  go_enter Tryd.func46, Tryd.ntmps46
  go_upto_region 4 with (go_at_call 59; refine (C.out _).mono ?_; rintro e w1 ⟨rfl, rfl⟩)
  go_region_with (first | (go_at_call 60; refine (S.out _ (by simp [go_sem, hm])).mono ?_; rintro e w2 ⟨rfl, rfl⟩))
  all_goals go_wp2
  all_goals (refine bodyPost_ret (by simp [results, Tryd.results46, go_sem]) rfl ⟨rfl, ?_⟩; repeat (first | (with_reducible exact Below.refl _ _) | ((with_reducible refine below_grow ?_ ?_); rotate_left; focus (first | omega | (simp [go_sem]; done) | (simp [go_sem]; omega))) | ((with_reducible refine Below.alloc ?_ ?_ _); rotate_left; focus (first | omega | (simp [go_sem]; done) | (simp [go_sem]; omega))) | ((with_reducible refine Below.setCell ?_ ?_ _); rotate_left; focus (first | omega | (simp [go_sem]; done) | (simp [go_sem]; omega))) | (with_reducible refine Below.drew ?_) | (with_reducible refine below_drewN _ ?_)))
/-- The suits from i on, k of them. -/
def prsF (ps : Nat → List UInt8) : Nat → Nat → Nat → Option Nat
  | 0, _, acc => some acc
  | k + 1, i, acc => match held 13 0 (ps i) with | none => none | some x => prsF ps k (i + 1) (acc ||| x <<< (13 * i))
def four (a b c d : List UInt8) : Nat → List UInt8
  | 0 => d
  | 1 => c
  | 2 => b
  | _ => a
theorem prsF_four (a b c d : List UInt8) : prsF (four a b c d) 4 0 0 = prs4 a b c d := by
  simp only [prsF, four, prs4]
  cases held 13 0 d with
  | none => rfl
  | some x0 =>
    cases held 13 0 c with
    | none => rfl
    | some x1 =>
      cases held 13 0 b with
      | none => rfl
      | some x2 =>
        cases held 13 0 a with
        | none => rfl
        | some x3 => simp [comb]
theorem or_shift (acc x k : Nat) (ha : acc < 4503599627370496) (hx : x < 8192) (hk : k ≤ 39) (P : Int) (hP : P = ((2 ^ k : Nat) : Int)) :
    IntKind.u64.wrap ((x : Int) * P) = (x : Int) * P ∧ bits .or .u64 (acc : Int) ((x : Int) * P) = ((acc ||| x <<< k : Nat) : Int) ∧ acc ||| x <<< k < 4503599627370496 := by
  have h2 : x * 2 ^ k < 2 ^ 52 := by
    have h1 : 2 ^ k ≤ 2 ^ 39 := Nat.pow_le_pow_right (by decide) hk
    calc x * 2 ^ k ≤ 8191 * 2 ^ 39 := Nat.mul_le_mul (by omega) h1
      _ < 2 ^ 52 := by decide
  have e : (x : Int) * P = ((x * 2 ^ k : Nat) : Int) := by rw [hP]; simp
  rw [e, Nat.shiftLeft_eq]
  refine ⟨?_, u64_or_nat acc (x * 2 ^ k) (by omega) (by omega), Nat.or_lt_two_pow (n := 52) ha h2⟩
  rw [IntKind.wrap_u64]
  generalize x * 2 ^ k = y at h2
  omega
theorem heldN_some {l : List UInt8} {x : Nat} (h : held 13 0 l = some x) : heldN l = x ∧ x < 8192 := ⟨by unfold heldN; rw [h]; rfl, (held_zero_lt h).1⟩
theorem heldN_none {l : List UInt8} (h : held 13 0 l = none) : heldN l = 0 := by unfold heldN; rw [h]; rfl
theorem held_one (l : List UInt8) (hl : l.length < 4294967296) (w : World) :
    Calls Tryd.prog 47 #[strv l] w fun e w' => e = .returned (.tuple #[.int .u64 (heldN l), .bool (held 13 0 l).isSome]) ∧ Below w.heap.size w w' := by
  have h := held_calls ⟨l.toArray⟩ hl w
  simpa using h
end Go.Proofs.YtcfkcfbgnciccaaDoor
