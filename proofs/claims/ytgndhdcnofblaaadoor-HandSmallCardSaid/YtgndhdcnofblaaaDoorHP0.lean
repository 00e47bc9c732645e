/- Bits of a hand: one suit alone, one card more. -/
import Derived.Test.YtgndhdcnofblaaaDoorHO
namespace Go.Proofs.YtgndhdcnofblaaaDoor

theorem hol_bit (m s i : Nat) : (hol m s).testBit i = (decide (i < 13) && m.testBit (13 * s + i)) := by
  unfold hol
  rw [show 8192 = 2 ^ 13 from rfl, Nat.testBit_mod_two_pow, Nat.testBit_div_two_pow, Nat.add_comm]
theorem hol_ext {a b s t : Nat} (h : ∀ i, i < 13 → a.testBit (13 * s + i) = b.testBit (13 * t + i)) : hol a s = hol b t := by
  apply Nat.eq_of_testBit_eq
  intro i
  rw [hol_bit, hol_bit]
  by_cases hi : i < 13
  · rw [h i hi]
  · simp [hi]
/-- One suit alone. -/
def one (m s : Nat) : Nat := m &&& (8191 * 2 ^ (13 * s))
theorem one_bit (m s i : Nat) : (one m s).testBit i = (m.testBit i && (decide (13 * s ≤ i) && decide (i < 13 * s + 13))) := by
  unfold one
  rw [Nat.testBit_and, Nat.mul_comm, Nat.testBit_two_pow_mul, show 8191 = 2 ^ 13 - 1 from rfl, Nat.testBit_two_pow_sub_one]
  congr 1
  by_cases h : 13 * s ≤ i
  · simp [h]; omega
  · simp [h]
theorem one_le (m s : Nat) : one m s ≤ m := Nat.and_le_left
theorem hol_one (m s : Nat) : hol (one m s) s = hol m s := hol_ext fun i hi => by
  rw [one_bit, decide_eq_true (by omega), decide_eq_true (by omega)]; simp
theorem hol_one_ne (m s t : Nat) (h : s ≠ t) : hol (one m s) t = 0 := by
  apply Nat.eq_of_testBit_eq
  intro i
  rw [hol_bit, one_bit, Nat.zero_testBit]
  by_cases hi : i < 13
  · have : (decide (13 * s ≤ 13 * t + i) && decide (13 * t + i < 13 * s + 13)) = false := by
      rw [← Bool.decide_and, decide_eq_false]
      omega
    rw [this]; simp
  · simp [hi]
theorem tot_one (g : Nat → Nat) (hg : g 0 = 0) (m s : Nat) (hs : s < 4) : tot g (one m s) = g (hol m s) := by
  unfold tot
  match s, hs with
  | 0, _ => rw [hol_one, hol_one_ne _ _ _ (by decide), hol_one_ne _ _ _ (by decide), hol_one_ne _ _ _ (by decide), hg]; omega
  | 1, _ => rw [hol_one, hol_one_ne _ _ _ (by decide), hol_one_ne _ _ _ (by decide), hol_one_ne _ _ _ (by decide), hg]; omega
  | 2, _ => rw [hol_one, hol_one_ne _ _ _ (by decide), hol_one_ne _ _ _ (by decide), hol_one_ne _ _ _ (by decide), hg]; omega
  | 3, _ => rw [hol_one, hol_one_ne _ _ _ (by decide), hol_one_ne _ _ _ (by decide), hol_one_ne _ _ _ (by decide), hg]; omega
/-- The sum over the first suits. -/
def part (g : Nat → Nat) (m : Nat) : Nat → Nat
  | 0 => 0
  | i + 1 => part g m i + g (hol m i)
theorem part_4 (g : Nat → Nat) (m : Nat) : part g m 4 = tot g m := by simp [part, tot]
theorem part_le (g : Nat → Nat) (k m : Nat) (hg : ∀ h, g h ≤ k) : ∀ i, part g m i ≤ k * i
  | 0 => Nat.le_refl _
  | i + 1 => by
    have := part_le g k m hg i
    have := hg (hol m i)
    unfold part
    rw [Nat.mul_add]
    omega
end Go.Proofs.YtgndhdcnofblaaaDoor
