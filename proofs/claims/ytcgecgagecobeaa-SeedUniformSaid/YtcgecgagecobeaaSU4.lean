/- No hundred states in a row are all in the upper half. -/
import Derived.Test.YtcgecgagecobeaaSU3
import Derived.Test.YtcgecgagecobeaaSUa
import Derived.Test.YtcgecgagecobeaaSUb
namespace Go.Proofs.Ytcgecgagecobeaa
open Go.RowKit

def firsts : List Nat := [1, 459571432, 1812301707, 1530024362, 911948401, 715875007, 493790410, 836684263, 1556258869, 537498443, 1266297032, 291503437, 1383068083, 182247854, 1296999627, 981606918, 265238836, 1209530113, 2013921877, 1143011899, 1101052064, 1652735897, 908267629, 220678697, 1585730237, 643275596, 1122980528, 1028520274, 578389903, 304549338, 1700531014, 1075197901, 684987251, 1284762399, 152823903, 25763862, 1329345889, 253348352, 2140822518, 1262819183, 785148241, 1452265074, 379216994, 1060784478, 297889248, 1569214764, 1498661296, 547182016, 2138079705, 1978398792]
theorem lows : ∀ (j : Nat), j < 50 → chunks 1024 120 1507342310 1297505139 7 (firsts[j]?.getD 0) = true
  | 0, _ => low_0
  | 1, _ => low_1
  | 2, _ => low_2
  | 3, _ => low_3
  | 4, _ => low_4
  | 5, _ => low_5
  | 6, _ => low_6
  | 7, _ => low_7
  | 8, _ => low_8
  | 9, _ => low_9
  | 10, _ => low_10
  | 11, _ => low_11
  | 12, _ => low_12
  | 13, _ => low_13
  | 14, _ => low_14
  | 15, _ => low_15
  | 16, _ => low_16
  | 17, _ => low_17
  | 18, _ => low_18
  | 19, _ => low_19
  | 20, _ => low_20
  | 21, _ => low_21
  | 22, _ => low_22
  | 23, _ => low_23
  | 24, _ => low_24
  | 25, _ => low_25
  | 26, _ => low_26
  | 27, _ => low_27
  | 28, _ => low_28
  | 29, _ => low_29
  | 30, _ => low_30
  | 31, _ => low_31
  | 32, _ => low_32
  | 33, _ => low_33
  | 34, _ => low_34
  | 35, _ => low_35
  | 36, _ => low_36
  | 37, _ => low_37
  | 38, _ => low_38
  | 39, _ => low_39
  | 40, _ => low_40
  | 41, _ => low_41
  | 42, _ => low_42
  | 43, _ => low_43
  | 44, _ => low_44
  | 45, _ => low_45
  | 46, _ => low_46
  | 47, _ => low_47
  | 48, _ => low_48
  | 49, _ => low_49
  | j + 50, h => absurd h (by omega)
/-- Each first one is 43008000 steps behind the one before it. -/
theorem firsts_at : ∀ j : Nat, j < 50 → firsts[j]?.getD 0 = jmp 1 (43008000 * j) := by
  intro j
  induction j with
  | zero => intro _; decide
  | succ j ih =>
    intro h
    have h1 := ih (by omega)
    rw [Nat.mul_succ, ← jmp_jmp, ← h1]
    have h2 : ∀ i : Nat, i < 49 → firsts[i + 1]?.getD 0 = (pows 48271 43008000).foldl times (firsts[i]?.getD 0) := by decide +kernel
    have h3 : ∀ i : Nat, i < 49 → firsts[i]?.getD 0 < 2147483647 := by decide +kernel
    rw [h2 j (by omega), jmp_fold _ _ (h3 j (by omega))]
theorem c_at (x : Nat) (hx : x = 6000) : 1507342310 = 48271 ^ x % 2147483647 := by
  have h := jmp_fold 1 x (by decide)
  rw [hx, show (pows 48271 6000).foldl times 1 = 1507342310 from by decide +kernel] at h
  rw [h, ← hx]
  unfold jmp
  rw [Nat.one_mul]
theorem d_at (x : Nat) (hx : x = 6144000) : 1297505139 = 48271 ^ x % 2147483647 := by
  have h := jmp_fold 1 x (by decide)
  rw [hx, show (pows 48271 6144000).foldl times 1 = 1297505139 from by decide +kernel] at h
  rw [h, ← hx]
  unfold jmp
  rw [Nat.one_mul]
theorem mul_pow_mod (A x r : Nat) : A * (48271 ^ x % 2147483647) ^ r % 2147483647 = A * 48271 ^ (x * r) % 2147483647 := by
  rw [Nat.mul_mod, ← Nat.pow_mod, ← Nat.pow_mul, ← Nat.mul_mod]
theorem gather (s x y r i t : Nat) : s * (48271 ^ x % 2147483647) ^ r * (48271 ^ y % 2147483647) ^ i * 48271 ^ t % 2147483647 = jmp s (x * r + y * i + t) := by
  have e : s * (48271 ^ x % 2147483647) ^ r * (48271 ^ y % 2147483647) ^ i * 48271 ^ t = s * 48271 ^ t * (48271 ^ x % 2147483647) ^ r * (48271 ^ y % 2147483647) ^ i := by
    rw [Nat.mul_right_comm _ _ (48271 ^ t), Nat.mul_right_comm _ _ (48271 ^ t)]
  rw [e, mul_pow_mod, Nat.mul_right_comm, mul_pow_mod]
  unfold jmp
  congr 1
  rw [Nat.pow_add, Nat.pow_add]
  ac_rfl
theorem block_low (q : Nat) (hq : q < 43008000) : ∃ t, 50 * q < t ∧ t ≤ 50 * q + 50 ∧ jmp 1 t < 1073741824 := by
  have hj : q / 860160 < 50 := by omega
  obtain ⟨t, h1, h2, h3⟩ := chunks_low 1024 120 1507342310 1297505139 7 _ (by rw [firsts_at _ hj]; exact Nat.mod_lt _ (by decide)) (lows _ hj) (q / 122880 % 7) (by omega) (q / 120 % 1024) (by omega) (q % 120) (by omega)
  obtain ⟨x, hx⟩ : ∃ x, x = 6144000 := ⟨_, rfl⟩
  obtain ⟨y, hy⟩ : ∃ y, y = 6000 := ⟨_, rfl⟩
  rw [c_at y hy, d_at x hx, gather, firsts_at _ hj, jmp_jmp] at h3
  subst hx hy
  refine ⟨_, ?_, ?_, h3⟩
  · omega
  · omega
theorem any_low (t : Nat) (ht : St t) : ∃ i, 1 ≤ i ∧ i ≤ 100 ∧ jmp t i < 1073741824 := by
  obtain ⟨m, hm, rfl⟩ := reached t ht
  obtain ⟨u, h1, h2, h3⟩ := block_low (m / 50 + 1) (by omega)
  refine ⟨u - m, by omega, by omega, ?_⟩
  rw [jmp_jmp, show m + (u - m) = u from by omega]
  exact h3
end Go.Proofs.Ytcgecgagecobeaa
