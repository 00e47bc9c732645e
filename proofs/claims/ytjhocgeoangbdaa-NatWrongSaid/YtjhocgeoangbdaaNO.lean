/- Pascal's rows. -/
import Derived.Test.YtjhocgeoangbdaaNN
import Derived.RangeFuncNested
import Derived.RangeFuncBound
import Derived.RangeFuncCalls
import Derived.RangeFuncLeaves
import Derived.OwnWalkIn
import Derived.TacticsInMore
import Derived.Deep.DeepCutAuto
import Derived.Deep.Cut
namespace Go.Proofs.Ytjhocgeoangbdaa
open Go.RowKit

def bin : Nat → Nat → Nat
  | _, 0 => 1
  | 0, _ + 1 => 0
  | i + 1, j + 1 => bin i j + bin i (j + 1)
theorem bin_two : ∀ i j : Nat, bin i j + bin i (j + 1) ≤ 2 ^ i
  | 0, 0 => by decide
  | 0, j + 1 => by simp [bin]
  | i + 1, 0 => by
    have := bin_two i 0
    have e : bin i 0 = 1 := by cases i <;> rfl
    have hp : 1 ≤ 2 ^ i := Nat.pow_pos (by decide)
    simp only [bin, Nat.pow_succ] at *
    omega
  | i + 1, j + 1 => by
    have h1 := bin_two i j
    have h2 := bin_two i (j + 1)
    simp only [bin, Nat.pow_succ] at *
    omega
theorem bin_zero (i : Nat) : bin i 0 = 1 := by cases i <;> rfl
theorem bin_le (i j : Nat) (h : i ≤ 128) : isN (bin i j) := by
  cases j with
  | zero => rw [bin_zero]; decide
  | succ j =>
    cases i with
    | zero => simp [bin]; decide
    | succ i =>
      have h1 := bin_two i j
      have h2 : 2 ^ i ≤ 2 ^ 127 := Nat.pow_le_pow_right (by decide) (by omega)
      have e : (2 : Nat) ^ 127 = 170141183460469231731687303715884105728 := by decide
      unfold isN
      simp only [bin]
      omega
/-- The cells of a row with the numbers c 0 to c K. -/
def rowCells (c : Nat → Nat) (K : Nat) : List Value := (List.range (4 * (K + 1))).map fun m => .int .u32 (pt (c (m / 4)) (m % 4))
theorem rowCells_len (c : Nat → Nat) (K : Nat) : (rowCells c K).length = (K + 1) * 4 := by simp [rowCells]; omega
theorem rowCells_at (c : Nat → Nat) (K j p : Nat) (hj : j ≤ K) (hp : p < 4) : (rowCells c K)[j * 4 + p]? = some (.int .u32 (pt (c j) p)) := by
  unfold rowCells
  rw [List.getElem?_map, List.getElem?_range (by omega)]
  simp only [Option.map_some]
  rw [show (j * 4 + p) / 4 = j from by omega, show (j * 4 + p) % 4 = p from by omega]
theorem rowCells_set (c : Nat → Nat) (K j v : Nat) : ((((rowCells c K).set (j * 4) (.int .u32 (pt v 0))).set (j * 4 + 1) (.int .u32 (pt v 1))).set (j * 4 + 2) (.int .u32 (pt v 2))).set (j * 4 + 3) (.int .u32 (pt v 3)) = rowCells (fun i => if i = j then v else c i) K := by
  apply List.ext_getElem?
  intro m
  unfold rowCells
  simp only [List.getElem?_set, List.length_set, List.length_map, List.length_range, List.getElem?_map]
  by_cases hm : m < 4 * (K + 1)
  · rw [List.getElem?_range hm]
    simp only [Option.map_some]
    by_cases e : m / 4 = j
    · rw [if_pos e]
      have : m = j * 4 ∨ m = j * 4 + 1 ∨ m = j * 4 + 2 ∨ m = j * 4 + 3 := by omega
      rcases this with h | h | h | h <;> subst h <;> simp <;> first | omega | (rw [show (j * 4 + 1) % 4 = 1 from by omega]) | (rw [show (j * 4 + 2) % 4 = 2 from by omega]) | (rw [show (j * 4 + 3) % 4 = 3 from by omega]) | skip
    · rw [if_neg e]
      repeat rw [if_neg (by omega)]
  · rw [List.getElem?_eq_none (by simp; omega)]
    simp only [Option.map_none]
    repeat' split
    all_goals first | rfl | omega
theorem rows_calls (n k : Int) (w : World) :
    Calls Try.prog 46 #[.int .i64 n, .int .i64 k] w fun e w' => e = .returned (.func (.func 67) #[] #[.pointer (some ⟨w.heap.size + 1, 0, none⟩), .pointer (some ⟨w.heap.size, 0, none⟩)]) ∧ w' = (w.alloc (.cells #[.int .i64 n] 3)).alloc (.cells #[.int .i64 k] 3) := by
  go_enter Try.func46, Try.ntmps46
  go_wp2
  go_ret
  exact ⟨rfl, rfl⟩
def mixed (r i j : Nat) : Nat := if i < j then bin (r + 1) j else bin r j
theorem Try.infoN : (Try.prog.info? 24).map (fun i => (i.zero, i.size, i.bytes)) = some (some (.agg #[.int .u32 0, .int .u32 0, .int .u32 0, .int .u32 0]), 4, 16) := by kernel_rfl
def KeepA (B : Nat) (w w' : World) : Prop := ∀ k, B ≤ k → k < w.heap.size → w'.heap[k]? = w.heap[k]?
theorem rowCells_congr {c c' : Nat → Nat} {K : Nat} (h : ∀ j, j ≤ K → c j = c' j) : rowCells c K = rowCells c' K := by
  unfold rowCells
  apply List.map_congr_left
  intro m hm
  rw [List.mem_range] at hm
  rw [h (m / 4) (by omega)]
theorem mixed_top (r K : Nat) : rowCells (mixed r K) K = rowCells (bin r) K := rowCells_congr (fun j hj => if_neg (by omega))
theorem mixed_zero (r K : Nat) : rowCells (mixed r 0) K = rowCells (bin (r + 1)) K := by
  refine rowCells_congr (fun j _ => ?_)
  unfold mixed
  cases j with
  | zero => rw [if_neg (by omega), bin_zero, bin_zero]
  | succ j => rw [if_pos (by omega)]
theorem mixed_isN (r i j : Nat) (h : r + 1 ≤ 128) : isN (mixed r i j) := by unfold mixed; split <;> exact bin_le _ _ (by omega)
theorem mixed_add (r m : Nat) (h : r + 1 ≤ 128) : addN (mixed r (m + 1) (m + 1)) (mixed r (m + 1) m) = bin (r + 1) (m + 1) := by
  have e1 : mixed r (m + 1) (m + 1) = bin r (m + 1) := if_neg (by omega)
  have e2 : mixed r (m + 1) m = bin r m := if_neg (by omega)
  have h2 := bin_le (r + 1) (m + 1) h
  rw [e1, e2]
  unfold addN
  unfold isN at h2
  simp only [bin] at *
  omega
theorem mixed_step (r m : Nat) : (fun i => if i = m + 1 then bin (r + 1) (m + 1) else mixed r (m + 1) i) = mixed r m := by
  funext i
  unfold mixed
  by_cases h : i = m + 1
  · subst h; rw [if_pos rfl, if_pos (by omega)]
  · rw [if_neg h]
    by_cases h2 : m < i
    · rw [if_pos h2, if_pos (by omega)]
    · rw [if_neg h2, if_neg (by omega)]
end Go.Proofs.Ytjhocgeoangbdaa
