/- DealBack: the mathematics. -/
import Derived.Test.YtgcfkhpondemlaaXS
namespace Go.Proofs.Ytgcfkhpondemlaa.Ca
open Go.RowKit
open Go.Proofs.DB (Pd Rd)

/-- The order of two deals behind k seats, from the last one on. -/
def oG (x y : Nat → Nat) : Nat → Int
  | 0 => 0
  | 1 => 0
  | k + 2 => if x (2 - k) = y (2 - k) then oG x y (k + 1) else if x (2 - k) < y (2 - k) then -1 else 1
theorem oG_cmp {p x y : Nat → Nat} {a b : Nat} (hp : Pd p) (ha : a < DB.ways bin p) (hb : b < DB.ways bin p) (hx : DB.complete bin p a = x) (hy : DB.complete bin p b = y) : oG x y 4 = cmpN a b := by
  have key : ∀ {x y : Nat → Nat}, (x 0 < y 0 ∨ (x 0 = y 0 ∧ (x 1 < y 1 ∨ (x 1 = y 1 ∧ x 2 < y 2)))) → oG x y 4 = -1 ∧ oG y x 4 = 1 := fun {x y} h => by
    have e1 : oG x y 4 = if x 0 = y 0 then (if x 1 = y 1 then (if x 2 = y 2 then 0 else if x 2 < y 2 then -1 else 1) else if x 1 < y 1 then -1 else 1) else if x 0 < y 0 then -1 else 1 := rfl
    have e2 : oG y x 4 = if y 0 = x 0 then (if y 1 = x 1 then (if y 2 = x 2 then 0 else if y 2 < x 2 then -1 else 1) else if y 1 < x 1 then -1 else 1) else if y 0 < x 0 then -1 else 1 := rfl
    rw [e1, e2]
    rcases h with h | ⟨h0, h | ⟨h1, h⟩⟩
    · constructor
      · rw [if_neg (by omega), if_pos h]
      · rw [if_neg (by omega), if_neg (by omega)]
    · constructor
      · rw [if_pos h0, if_neg (by omega), if_pos h]
      · rw [if_pos h0.symm, if_neg (by omega), if_neg (by omega)]
    · constructor
      · rw [if_pos h0, if_pos h1, if_neg (by omega), if_pos h]
      · rw [if_pos h0.symm, if_pos h1.symm, if_neg (by omega), if_neg (by omega)]
  unfold cmpN
  rcases Nat.lt_trichotomy a b with l | l | l
  · rw [if_pos l]
    have m := DB.complete_mono pas_bin hp ha hb l
    rw [hx, hy] at m
    exact (key m).1
  · subst l
    rw [hx] at hy
    subst hy
    rw [if_neg (by omega), if_neg (by omega)]
    have e1 : oG x x 4 = if x 0 = x 0 then (if x 1 = x 1 then (if x 2 = x 2 then 0 else if x 2 < x 2 then -1 else 1) else if x 1 < x 1 then -1 else 1) else if x 0 < x 0 then -1 else 1 := rfl
    rw [e1, if_pos rfl, if_pos rfl, if_pos rfl]
  · rw [if_neg (by omega), if_pos l]
    have m := DB.complete_mono pas_bin hp hb ha l
    rw [hx, hy] at m
    exact (key m).2
end Go.Proofs.Ytgcfkhpondemlaa.Ca
