/- How many bits: what OnesCount64 reckons, on natural numbers. -/
import Derived.Test.YtgndhdcnofblaaaDoorHA
namespace Go.Proofs.YtgndhdcnofblaaaDoor

theorem and_byte (k mk b y M : Nat) (hk : k ≤ 8) (hb : b < 256) (hm : mk < 2 ^ (8 - k)) : (b + 256 * y) / 2 ^ k &&& (mk + 256 * M) = (b / 2 ^ k &&& mk) + 256 * (y / 2 ^ k &&& M) := by
  have hm8 : mk < 2 ^ 8 := Nat.lt_of_lt_of_le hm (Nat.pow_le_pow_right (by decide) (by omega))
  have hb8 : b < 2 ^ 8 := hb
  have hc : b / 2 ^ k &&& mk < 2 ^ 8 := Nat.lt_of_le_of_lt Nat.and_le_right hm8
  apply Nat.eq_of_testBit_eq
  intro i
  rw [Nat.testBit_and, Nat.testBit_div_two_pow, Nat.add_comm b, Nat.add_comm mk, Nat.add_comm (b / 2 ^ k &&& mk), show 256 = 2 ^ 8 from rfl,
    Nat.testBit_two_pow_mul_add _ hb8, Nat.testBit_two_pow_mul_add _ hm8, Nat.testBit_two_pow_mul_add _ hc, Nat.testBit_and, Nat.testBit_and, Nat.testBit_div_two_pow, Nat.testBit_div_two_pow]
  by_cases h1 : i < 8
  · rw [if_pos h1, if_pos h1]
    by_cases h2 : i + k < 8
    · rw [if_pos h2]
    · have : mk.testBit i = false := Nat.testBit_lt_two_pow (Nat.lt_of_lt_of_le hm (Nat.pow_le_pow_right (by decide) (by omega)))
      rw [this]; simp
  · rw [if_neg h1, if_neg h1, if_neg (by omega), show i + k - 8 = i - 8 + k by omega]
theorem and_low (b y mk M : Nat) (hb : b < 256) (hm : mk < 256) : (b + 256 * y) &&& (mk + 256 * M) = (b &&& mk) + 256 * (y &&& M) := by
  have := and_byte 0 mk b y M (by decide) hb hm
  simpa using this
def f1 (b : Nat) : Nat := (b / 2 &&& 85) + (b &&& 85)
def f2 (b : Nat) : Nat := (b / 4 &&& 51) + (b &&& 51)
def f3 (b : Nat) : Nat := (b / 16 + b) &&& 15
def g1 (x M : Nat) : Nat := (x / 2 &&& M) + (x &&& M)
def g2 (x M : Nat) : Nat := (x / 4 &&& M) + (x &&& M)
def g3 (x M : Nat) : Nat := (x / 16 + x) &&& M
theorem g1_byte (b y M : Nat) (hb : b < 256) : g1 (b + 256 * y) (85 + 256 * M) = f1 b + 256 * g1 y M := by
  have h := and_byte 1 85 b y M (by decide) hb (by decide)
  have h2 := and_low b y 85 M hb (by decide)
  unfold g1 f1
  simp only [Nat.pow_one] at h
  omega
theorem g2_byte (b y M : Nat) (hb : b < 256) : g2 (b + 256 * y) (51 + 256 * M) = f2 b + 256 * g2 y M := by
  have h := and_byte 2 51 b y M (by decide) hb (by decide)
  have h2 := and_low b y 51 M hb (by decide)
  unfold g2 f2
  simp only [show 2 ^ 2 = 4 from rfl] at h
  omega
theorem g3_byte (c y M : Nat) (hc : c ≤ 68) (hy : y % 16 ≤ 4) : g3 (c + 256 * y) (15 + 256 * M) = f3 c + 256 * g3 y M := by
  unfold g3 f3
  have e : (c + 256 * y) / 16 + (c + 256 * y) = (c / 16 + 16 * (y % 16) + c) + 256 * (y / 16 + y) := by omega
  rw [e, and_low _ _ 15 M (by omega) (by decide)]
  have : c / 16 + 16 * (y % 16) + c &&& 15 = c / 16 + c &&& 15 := by
    rw [show 15 = 2 ^ 4 - 1 from rfl, Nat.and_two_pow_sub_one_eq_mod, Nat.and_two_pow_sub_one_eq_mod]
    omega
  rw [this]
/-- A byte's bits. -/
def p8 (b : Nat) : Nat := b % 2 + b / 2 % 2 + b / 4 % 2 + b / 8 % 2 + b / 16 % 2 + b / 32 % 2 + b / 64 % 2 + b / 128 % 2
theorem byte_ok : ∀ b : Fin 256, f1 b.val < 256 ∧ f2 (f1 b.val) ≤ 68 ∧ f2 (f1 b.val) % 16 ≤ 4 ∧ f3 (f2 (f1 b.val)) = p8 b.val := by decide +kernel
/-- What OnesCount64 reckons. -/
def ones64 (m : Nat) : Nat :=
  let x := g3 (g2 (g1 m 6148914691236517205) 3689348814741910323) 1085102592571150095
  let x := x + x / 256
  let x := x + x / 65536
  let x := x + x / 4294967296
  x % 128
theorem ones64_parts (b0 b1 b2 b3 b4 b5 b6 b7 : Nat) (h0 : b0 < 256) (h1 : b1 < 256) (h2 : b2 < 256) (h3 : b3 < 256) (h4 : b4 < 256) (h5 : b5 < 256) (h6 : b6 < 256) (h7 : b7 < 256) :
    g3 (g2 (g1 (b0 + 256 * (b1 + 256 * (b2 + 256 * (b3 + 256 * (b4 + 256 * (b5 + 256 * (b6 + 256 * b7))))))) 6148914691236517205) 3689348814741910323) 1085102592571150095 =
      p8 b0 + 256 * (p8 b1 + 256 * (p8 b2 + 256 * (p8 b3 + 256 * (p8 b4 + 256 * (p8 b5 + 256 * (p8 b6 + 256 * p8 b7)))))) := by
  have k0 := byte_ok ⟨b0, h0⟩
  have k1 := byte_ok ⟨b1, h1⟩
  have k2 := byte_ok ⟨b2, h2⟩
  have k3 := byte_ok ⟨b3, h3⟩
  have k4 := byte_ok ⟨b4, h4⟩
  have k5 := byte_ok ⟨b5, h5⟩
  have k6 := byte_ok ⟨b6, h6⟩
  have k7 := byte_ok ⟨b7, h7⟩
  simp only at k0 k1 k2 k3 k4 k5 k6 k7
  have e1 : g1 b7 85 = f1 b7 := rfl
  have e2 : g2 (f1 b7) 51 = f2 (f1 b7) := rfl
  have e3 : g3 (f2 (f1 b7)) 15 = f3 (f2 (f1 b7)) := rfl
  rw [show 6148914691236517205 = 85 + 256 * (85 + 256 * (85 + 256 * (85 + 256 * (85 + 256 * (85 + 256 * (85 + 256 * 85)))))) from rfl,
    show 3689348814741910323 = 51 + 256 * (51 + 256 * (51 + 256 * (51 + 256 * (51 + 256 * (51 + 256 * (51 + 256 * 51)))))) from rfl,
    show 1085102592571150095 = 15 + 256 * (15 + 256 * (15 + 256 * (15 + 256 * (15 + 256 * (15 + 256 * (15 + 256 * 15)))))) from rfl]
  rw [g1_byte _ _ _ h0, g1_byte _ _ _ h1, g1_byte _ _ _ h2, g1_byte _ _ _ h3, g1_byte _ _ _ h4, g1_byte _ _ _ h5, g1_byte _ _ _ h6, e1,
    g2_byte _ _ _ k0.1, g2_byte _ _ _ k1.1, g2_byte _ _ _ k2.1, g2_byte _ _ _ k3.1, g2_byte _ _ _ k4.1, g2_byte _ _ _ k5.1, g2_byte _ _ _ k6.1, e2,
    g3_byte _ _ _ k0.2.1 (by omega), g3_byte _ _ _ k1.2.1 (by omega), g3_byte _ _ _ k2.2.1 (by omega), g3_byte _ _ _ k3.2.1 (by omega), g3_byte _ _ _ k4.2.1 (by omega), g3_byte _ _ _ k5.2.1 (by omega), g3_byte _ _ _ k6.2.1 (by omega), e3,
    k0.2.2.2, k1.2.2.2, k2.2.2.2, k3.2.2.2, k4.2.2.2, k5.2.2.2, k6.2.2.2, k7.2.2.2]
theorem p8_le (b : Nat) : p8 b ≤ 8 := by unfold p8; omega
def bt (m i : Nat) : Nat := m / 2 ^ i % 2
theorem bt_dig (m k n i : Nat) (h : i < n) : m / 2 ^ k % 2 ^ n / 2 ^ i % 2 = bt m (k + i) := by
  unfold bt
  rw [← Nat.toNat_testBit, ← Nat.toNat_testBit, Nat.testBit_mod_two_pow, decide_eq_true h, Bool.true_and, Nat.testBit_div_two_pow, Nat.add_comm]
theorem len_bt (m s : Nat) : len (hol m s) = bt m (13 * s) + bt m (13 * s + 1) + bt m (13 * s + 2) + bt m (13 * s + 3) + bt m (13 * s + 4) + bt m (13 * s + 5) + bt m (13 * s + 6) + bt m (13 * s + 7) + bt m (13 * s + 8) + bt m (13 * s + 9) + bt m (13 * s + 10) + bt m (13 * s + 11) + bt m (13 * s + 12) := by
  have h := fun i (hi : i < 13) => bt_dig m (13 * s) 13 i hi
  have h0 := h 0 (by decide); have h1 := h 1 (by decide); have h2 := h 2 (by decide); have h3 := h 3 (by decide); have h4 := h 4 (by decide); have h5 := h 5 (by decide); have h6 := h 6 (by decide); have h7 := h 7 (by decide); have h8 := h 8 (by decide); have h9 := h 9 (by decide); have h10 := h 10 (by decide); have h11 := h 11 (by decide); have h12 := h 12 (by decide)
  simp only [Nat.reducePow, Nat.div_one, Nat.add_zero] at h0 h1 h2 h3 h4 h5 h6 h7 h8 h9 h10 h11 h12
  unfold len hol
  rw [h0, h1, h2, h3, h4, h5, h6, h7, h8, h9, h10, h11, h12]
theorem p8_bt (m k : Nat) : p8 (m / 2 ^ k % 256) = bt m k + bt m (k + 1) + bt m (k + 2) + bt m (k + 3) + bt m (k + 4) + bt m (k + 5) + bt m (k + 6) + bt m (k + 7) := by
  have h := fun i (hi : i < 8) => bt_dig m k 8 i hi
  have h0 := h 0 (by decide); have h1 := h 1 (by decide); have h2 := h 2 (by decide); have h3 := h 3 (by decide); have h4 := h 4 (by decide); have h5 := h 5 (by decide); have h6 := h 6 (by decide); have h7 := h 7 (by decide)
  simp only [Nat.reducePow, Nat.div_one, Nat.add_zero] at h0 h1 h2 h3 h4 h5 h6 h7
  unfold p8
  rw [h0, h1, h2, h3, h4, h5, h6, h7]
/-- How many cards. -/
def cnt (m : Nat) : Nat := len (hol m 0) + len (hol m 1) + len (hol m 2) + len (hol m 3)
theorem ones64_cnt (m : Nat) (hm : m < 4503599627370496) :
    g3 (g2 (g1 m 6148914691236517205) 3689348814741910323) 1085102592571150095 < 650000000000000000 ∧ ones64 m = cnt m := by
  have hp := ones64_parts (m / 2 ^ 0 % 256) (m / 2 ^ 8 % 256) (m / 2 ^ 16 % 256) (m / 2 ^ 24 % 256) (m / 2 ^ 32 % 256) (m / 2 ^ 40 % 256) (m / 2 ^ 48 % 256) 0 (by omega) (by omega) (by omega) (by omega) (by omega) (by omega) (by omega) (by omega)
  have e : m / 2 ^ 0 % 256 + 256 * (m / 2 ^ 8 % 256 + 256 * (m / 2 ^ 16 % 256 + 256 * (m / 2 ^ 24 % 256 + 256 * (m / 2 ^ 32 % 256 + 256 * (m / 2 ^ 40 % 256 + 256 * (m / 2 ^ 48 % 256 + 256 * 0)))))) = m := by omega
  rw [e] at hp
  have hz : ∀ i, 52 ≤ i → bt m i = 0 := fun i hi => by
    unfold bt
    rw [Nat.div_eq_of_lt (Nat.lt_of_lt_of_le hm (Nat.pow_le_pow_right (n := 2) (by decide) hi : 2 ^ 52 ≤ 2 ^ i))]
  have hs : p8 (m / 2 ^ 0 % 256) + p8 (m / 2 ^ 8 % 256) + p8 (m / 2 ^ 16 % 256) + p8 (m / 2 ^ 24 % 256) + p8 (m / 2 ^ 32 % 256) + p8 (m / 2 ^ 40 % 256) + p8 (m / 2 ^ 48 % 256) = cnt m := by
    unfold cnt
    simp only [len_bt, p8_bt, Nat.reduceMul, Nat.reduceAdd]
    rw [hz 52 (by decide), hz 53 (by decide), hz 54 (by decide), hz 55 (by decide)]
    simp only [Nat.zero_add, Nat.add_zero]
    omega
  have l0 := p8_le (m / 2 ^ 0 % 256)
  have l1 := p8_le (m / 2 ^ 8 % 256)
  have l2 := p8_le (m / 2 ^ 16 % 256)
  have l3 := p8_le (m / 2 ^ 24 % 256)
  have l4 := p8_le (m / 2 ^ 32 % 256)
  have l5 := p8_le (m / 2 ^ 40 % 256)
  have l6 := p8_le (m / 2 ^ 48 % 256)
  have l7 : p8 0 = 0 := rfl
  unfold ones64
  rw [hp, l7]
  generalize p8 (m / 2 ^ 0 % 256) = q0 at *
  generalize p8 (m / 2 ^ 8 % 256) = q1 at *
  generalize p8 (m / 2 ^ 16 % 256) = q2 at *
  generalize p8 (m / 2 ^ 24 % 256) = q3 at *
  generalize p8 (m / 2 ^ 32 % 256) = q4 at *
  generalize p8 (m / 2 ^ 40 % 256) = q5 at *
  generalize p8 (m / 2 ^ 48 % 256) = q6 at *
  clear hp e hz
  rw [← hs]
  refine ⟨by omega, ?_⟩
  show _ % 128 = _
  have a1 : ∀ x, x = q0 + 256 * (q1 + 256 * (q2 + 256 * (q3 + 256 * (q4 + 256 * (q5 + 256 * (q6 + 256 * 0)))))) → x / 256 = q1 + 256 * (q2 + 256 * (q3 + 256 * (q4 + 256 * (q5 + 256 * q6)))) := fun x hx => by omega
  rw [a1 _ rfl]
  clear a1
  have a2 : ∀ x, x = q0 + 256 * (q1 + 256 * (q2 + 256 * (q3 + 256 * (q4 + 256 * (q5 + 256 * (q6 + 256 * 0)))))) + (q1 + 256 * (q2 + 256 * (q3 + 256 * (q4 + 256 * (q5 + 256 * q6))))) → x / 65536 = (q2 + q3) + 256 * (q3 + q4 + 256 * (q4 + q5 + 256 * (q5 + q6 + 256 * q6))) := fun x hx => by omega
  rw [a2 _ rfl]
  clear a2
  have e5 : q0 + 256 * (q1 + 256 * (q2 + 256 * (q3 + 256 * (q4 + 256 * (q5 + 256 * (q6 + 256 * 0)))))) + (q1 + 256 * (q2 + 256 * (q3 + 256 * (q4 + 256 * (q5 + 256 * q6))))) + (q2 + q3 + 256 * (q3 + q4 + 256 * (q4 + q5 + 256 * (q5 + q6 + 256 * q6)))) =
    (q0 + q1 + q2 + q3) + 256 * (q1 + q2 + q3 + q4) + 65536 * (q2 + q3 + q4 + q5) + 16777216 * (q3 + q4 + q5 + q6) + 4294967296 * (q4 + q5 + q6 + 256 * (q5 + q6 + 256 * q6)) := by omega
  rw [e5]
  have a3 : ((q0 + q1 + q2 + q3) + 256 * (q1 + q2 + q3 + q4) + 65536 * (q2 + q3 + q4 + q5) + 16777216 * (q3 + q4 + q5 + q6) + 4294967296 * (q4 + q5 + q6 + 256 * (q5 + q6 + 256 * q6))) / 4294967296 = q4 + q5 + q6 + 256 * (q5 + q6 + 256 * q6) := by omega
  rw [a3]
  clear a3 e5
  omega
end Go.Proofs.YtgndhdcnofblaaaDoor
