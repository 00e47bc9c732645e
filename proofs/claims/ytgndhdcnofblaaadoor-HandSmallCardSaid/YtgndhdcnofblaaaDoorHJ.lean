/- The sort of the suits: its closure, insertion, the stable sort. -/
import Derived.Test.YtgndhdcnofblaaaDoorHI
import Derived.Test.YtgndhdcnofblaaaDoorShelf
namespace Go.Proofs.YtgndhdcnofblaaaDoor
open Go.RowKit Go.Sort

def encS (x : Fin 4) : Value := .int .u8 ((x.val : Nat) : Int)
theorem encS_one : OneCell encS := fun _ => rfl
/-- What the closure compares: the second's length with the first's. -/
def cfS (l : Fin 4 → Nat) (x y : Fin 4) : Int := Lib.compareInt (l y) (l x)
theorem ltS (l : Fin 4 → Nat) (x y : Fin 4) : ltOf (cfS l) x y = decide (l y < l x) := by
  unfold ltOf cfS Lib.compareInt
  congr 1
  by_cases h : l y < l x
  · rw [if_pos (by omega)]; simp [h]
  · rw [if_neg (by omega)]
    split <;> simp <;> omega
theorem insOuter_4 (lt : Fin 4 → Fin 4 → Bool) (d : Array (Fin 4)) : insertionSort lt d 0 4 = insInner lt 0 3 (insInner lt 0 2 (insInner lt 0 1 d)) := by
  unfold insertionSort
  rw [insOuter, if_pos (by decide), insOuter, if_pos (by decide), insOuter, if_pos (by decide), insOuter, if_neg (by decide)]
theorem insS (l : Fin 4 → Nat) : ∃ a b c d : Fin 4, insertionSort (ltOf (cfS l)) #[3, 2, 1, 0] 0 4 = #[a, b, c, d] ∧
    4 * l b + b.val < 4 * l a + a.val ∧ 4 * l c + c.val < 4 * l b + b.val ∧ 4 * l d + d.val < 4 * l c + c.val := by
  rw [insOuter_4]
  have h23 := ltS l 2 3
  have h12 := ltS l 1 2
  have h13 := ltS l 1 3
  have h01 := ltS l 0 1
  have h02 := ltS l 0 2
  have h03 := ltS l 0 3
  generalize ltOf (cfS l) = lt at *
  cases e23 : lt 2 3 <;> cases e12 : lt 1 2 <;> cases e13 : lt 1 3 <;> cases e01 : lt 0 1 <;> cases e02 : lt 0 2 <;> cases e03 : lt 0 3 <;>
  (rw [e23] at h23; rw [e12] at h12; rw [e13] at h13; rw [e01] at h01; rw [e02] at h02; rw [e03] at h03
   have h23 := h23.symm; have h12 := h12.symm; have h13 := h13.symm; have h01 := h01.symm; have h02 := h02.symm; have h03 := h03.symm
   simp only [decide_eq_true_eq, decide_eq_false_iff_not] at h23 h12 h13 h01 h02 h03
   first
   | (exfalso; omega)
   | (simp [insInner, swp, e23, e12, e13, e01, e02, e03]; refine ⟨_, _, _, _, ⟨rfl, rfl, rfl, rfl⟩, ?_⟩; simp; omega))
end Go.Proofs.YtgndhdcnofblaaaDoor
