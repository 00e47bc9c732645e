/- Choose for every k; sums of choices. -/
import Derived.Test.YtjhocgeoangbdaaNT
namespace Go.Proofs.Ytjhocgeoangbdaa
open Go.RowKit

theorem bin_self : ∀ n : Nat, bin n n = 1
  | 0 => rfl
  | n + 1 => by simp only [bin]; rw [bin_self n, bin_big n (n + 1) (by omega)]
theorem bin_symm : ∀ n k : Nat, k ≤ n → bin n (n - k) = bin n k
  | 0, 0, _ => rfl
  | n + 1, 0, _ => by rw [Nat.sub_zero, bin_self, bin_zero]
  | n + 1, k + 1, h => by
    by_cases e : k = n
    · subst e
      rw [Nat.sub_self, bin_self, bin_zero]
    · have h1 : n + 1 - (k + 1) = (n - (k + 1)) + 1 := by omega
      rw [h1]
      simp only [bin]
      rw [show n - (k + 1) + 1 = n - k from by omega, bin_symm n k (by omega), bin_symm n (k + 1) (by omega), Nat.add_comm]
theorem bin_min (n k : Nat) (h : k ≤ n) : bin n (min k (n - k)) = bin n k := by
  by_cases e : k ≤ n - k
  · rw [Nat.min_eq_left e]
  · rw [Nat.min_eq_right (by omega), bin_symm n k h]
def chN (n : Nat) (k : Int) : Nat := if k < 0 then 0 else bin n k.toNat
theorem chN_isN (n : Nat) (k : Int) (h : n ≤ 128) : isN (chN n k) := by
  unfold chN; split
  · exact zeroN
  · exact bin_le _ _ h
theorem choose_calls (n : Nat) (k : Int) (hn : n ≤ 128) (hk0 : -9223372036854775808 ≤ k) (hk1 : k ≤ 9223372036854775807) (w : World) :
    Calls Try.prog 24 #[.int .i64 n, .int .i64 k] w fun e w' => e = .returned (.tuple #[.agg #[.int .u32 (pt (chN n k) 0), .int .u32 (pt (chN n k) 1), .int .u32 (pt (chN n k) 2), .int .u32 (pt (chN n k) 3)], .int .i64 0]) ∧ Below w.heap.size w w' := by
  by_cases h : 0 ≤ k ∧ k ≤ n
  · obtain ⟨j, rfl⟩ := Int.eq_ofNat_of_zero_le h.1
    have hj : j ≤ n := by omega
    have h1 := choose_good n j hn hj w
    rw [bin_min n j hj] at h1
    have e : chN n (j : Int) = bin n j := if_neg (by omega)
    rw [e]
    exact h1
  · have h1 := choose_bad n k (by omega) (by omega) hk0 hk1 (by omega) w
    rw [if_neg (by omega), if_neg (by omega)] at h1
    have e : chN n k = 0 := by
      unfold chN
      split
      · rfl
      · exact bin_big n k.toNat (by omega)
    rw [e]
    exact h1
/-- the choices of m things of the sizes below i -/
def sumB (m : Nat) : Nat → Nat
  | 0 => 0
  | i + 1 => sumB m i + bin m i
theorem sumB_succ (m : Nat) : ∀ i : Nat, sumB (m + 1) (i + 1) = sumB m (i + 1) + sumB m i
  | 0 => by simp [sumB, bin_zero]
  | i + 1 => by
    have h := sumB_succ m i
    have e1 : sumB (m + 1) (i + 1 + 1) = sumB (m + 1) (i + 1) + bin (m + 1) (i + 1) := rfl
    have e2 : sumB m (i + 1 + 1) = sumB m (i + 1) + bin m (i + 1) := rfl
    have e3 : sumB m (i + 1) = sumB m i + bin m i := rfl
    have e4 : bin (m + 1) (i + 1) = bin m i + bin m (i + 1) := rfl
    rw [e1, h, e2, e4]
    omega
theorem sumB_all : ∀ m : Nat, sumB m (m + 1) = 2 ^ m
  | 0 => rfl
  | m + 1 => by
    rw [sumB_succ, Nat.pow_succ]
    have h := sumB_all m
    have e : sumB m (m + 1 + 1) = sumB m (m + 1) + bin m (m + 1) := rfl
    rw [e, bin_big m (m + 1) (by omega), h]
    omega
theorem sumB_mono (m i j : Nat) (h : i ≤ j) : sumB m i ≤ sumB m j := by
  induction h with
  | refl => exact Nat.le_refl _
  | step _ ih => exact Nat.le_trans ih (Nat.le_add_right _ _)
theorem sumB_isN (m i : Nat) (hm : m ≤ 127) (hi : i ≤ m + 1) : isN (sumB m i) := by
  have h1 := sumB_mono m i (m + 1) hi
  rw [sumB_all] at h1
  have h2 : 2 ^ m ≤ 2 ^ 127 := Nat.pow_le_pow_right (by decide) hm
  have e : (2 : Nat) ^ 127 = 170141183460469231731687303715884105728 := by decide
  unfold isN
  omega
/-- Pascal's rule, the wrapped k - 1 with it. -/
theorem chN_pascal (m : Nat) (k : Int) (hm : m ≤ 127) (hk0 : -9223372036854775808 ≤ k) (hk1 : k ≤ 9223372036854775807) : chN m k + chN m (wrap64 (k - 1)) = chN (m + 1) k := by
  unfold chN
  by_cases h : k < 0
  · rw [if_pos h, if_pos h]
    by_cases h2 : wrap64 (k - 1) < 0
    · rw [if_pos h2]
    · rw [if_neg h2, bin_big]
      unfold wrap64 at *
      omega
  · rw [if_neg h, if_neg h]
    have e : wrap64 (k - 1) = k - 1 := by unfold wrap64; omega
    rw [e]
    by_cases h2 : k - 1 < 0
    · have : k = 0 := by omega
      subst this
      rw [if_pos (by decide)]
      simp [bin_zero]
    · rw [if_neg h2]
      obtain ⟨j, rfl⟩ : ∃ j : Nat, k = (j : Int) + 1 := ⟨(k - 1).toNat, by omega⟩
      have e1 : ((j : Int) + 1).toNat = j + 1 := by omega
      have e2 : ((j : Int) + 1 - 1).toNat = j := by omega
      rw [e1, e2]
      simp only [bin]
      omega
theorem pow_parts (m : Nat) (q : Nat) (hm : m ≤ 127) (hq : m / 32 = q) : ∀ i, i < 4 → pt (2 ^ m) i = if i = q then ((2 ^ (m % 32) : Nat) : Int) else 0 := by
  intro i hi
  have e : m = 32 * q + m % 32 := by omega
  have hr : m % 32 < 32 := Nat.mod_lt _ (by decide)
  generalize m % 32 = r at *
  subst e
  unfold pt
  by_cases h : i = q
  · subst h
    rw [if_pos rfl, pow32, Nat.mul_div_cancel_left _ (Nat.pow_pos (by decide)), Nat.mod_eq_of_lt]
    have : 2 ^ r ≤ 2 ^ 31 := Nat.pow_le_pow_right (by decide) (by omega)
    have e : (2 : Nat) ^ 31 = 2147483648 := by decide
    omega
  · rw [if_neg h]
    rcases Nat.lt_or_ge i q with h1 | h1
    · have := shift_lo 1 q r i h1
      rw [Nat.one_mul] at this
      rw [this]; rfl
    · rw [Nat.div_eq_of_lt]
      · rfl
      · have e1 : (4294967296 : Nat) ^ i = 2 ^ (32 * i) := by rw [Nat.pow_mul]
        rw [e1]
        exact Nat.pow_lt_pow_right (by decide) (by omega)
end Go.Proofs.Ytjhocgeoangbdaa
