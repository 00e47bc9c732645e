/- HA, HB0, HB, HC. -/
import Derived.WalkKit
import Derived.Test.YtalklogopepjpaaDoorG
import Derived.Test.YtalklogopepjpaaDoorProg
import Derived.Lib.Hide
import Derived.Deep.RegionWith
import Derived.Lib.BitFns
import Derived.Laws.BitsAllLaws
/-! HA -/
namespace Go.Proofs.YtalklogopepjpaaDoor.Ha

/-- The cards of a suit by rank. -/
def hol (m s : Nat) : Nat := m / 2 ^ (13 * s) % 8192
/-- How many of the 13 ranks. -/
def len (h : Nat) : Nat := h % 2 + h / 2 % 2 + h / 4 % 2 + h / 8 % 2 + h / 16 % 2 + h / 32 % 2 + h / 64 % 2 + h / 128 % 2 + h / 256 % 2 + h / 512 % 2 + h / 1024 % 2 + h / 2048 % 2 + h / 4096 % 2
def pts (h : Nat) : Nat := h / 512 % 2 + 2 * (h / 1024 % 2) + 3 * (h / 2048 % 2) + 4 * (h / 4096 % 2)
def ctl (h : Nat) : Nat := h / 2048 % 2 + 2 * (h / 4096 % 2)
def los (h : Nat) : Nat := (if 1 ≤ len h ∧ h / 4096 % 2 = 0 then 1 else 0) + (if 2 ≤ len h ∧ h / 2048 % 2 = 0 then 1 else 0) + (if 3 ≤ len h ∧ h / 1024 % 2 = 0 then 1 else 0)
def qck (h : Nat) : Nat :=
  if h / 4096 % 2 = 1 ∧ h / 2048 % 2 = 1 then 4
  else if h / 4096 % 2 = 1 ∧ h / 1024 % 2 = 1 then 3
  else if h / 4096 % 2 = 1 ∨ (h / 2048 % 2 = 1 ∧ h / 1024 % 2 = 1) then 2
  else if h / 2048 % 2 = 1 ∧ 2 ≤ len h then 1 else 0
/-- The sum over the four suits. -/
def tot (g : Nat → Nat) (m : Nat) : Nat := g (hol m 0) + g (hol m 1) + g (hol m 2) + g (hol m 3)

theorem hol_lt (m s : Nat) : hol m s < 8192 := Nat.mod_lt _ (by decide)
theorem len_le (h : Nat) : len h ≤ 13 := by unfold len; omega
theorem hol0 (m : Nat) : hol m 0 = m % 8192 := by simp [hol]
theorem hol1 (m : Nat) : hol m 1 = m / 8192 % 8192 := by simp [hol]
theorem hol2 (m : Nat) : hol m 2 = m / 67108864 % 8192 := by simp [hol]
theorem hol3 (m : Nat) : hol m 3 = m / 549755813888 % 8192 := by simp [hol]
theorem los_le (h : Nat) : los h ≤ 3 := by unfold los; split <;> split <;> split <;> omega
theorem los_len (h : Nat) : los h ≤ len h := by
  unfold los
  generalize len h = n
  split <;> split <;> split <;> omega
theorem los_tops {h : Nat} (h3 : 3 ≤ len h) : los h + (h / 4096 % 2 + h / 2048 % 2 + h / 1024 % 2) = 3 := by
  unfold los
  generalize len h = n at *
  split <;> split <;> split <;> omega
theorem los_one {h : Nat} (h1 : len h = 1) : los h = 1 ↔ h / 4096 % 2 = 0 := by
  unfold los
  rw [h1]
  split <;> simp <;> omega
theorem los_zero : los 0 = 0 := by decide
theorem pts_le (h : Nat) : pts h ≤ 10 := by unfold pts; omega
theorem ctl_le (h : Nat) : ctl h ≤ 3 := by unfold ctl; omega
theorem qck_le (h : Nat) : qck h ≤ 4 := by unfold qck; split <;> (try split) <;> (try split) <;> (try split) <;> omega
end Go.Proofs.YtalklogopepjpaaDoor.Ha

/-! HB0 -/
namespace Go.Proofs.YtalklogopepjpaaDoor.Ha

theorem and_byte (k mk b y M : Nat) (hk : k ≤ 8) (hb : b < 256) (hm : mk < 2 ^ (8 - k)) : (b + 256 * y) / 2 ^ k &&& (mk + 256 * M) = (b / 2 ^ k &&& mk) + 256 * (y / 2 ^ k &&& M) := by
  have hm8 : mk < 2 ^ 8 := Nat.lt_of_lt_of_le hm (Nat.pow_le_pow_right (by decide) (by omega))
  have hb8 : b < 2 ^ 8 := hb
  have hc : b / 2 ^ k &&& mk < 2 ^ 8 := Nat.lt_of_le_of_lt Nat.and_le_right hm8
  apply Nat.eq_of_testBit_eq
  intro i
  rw [Nat.testBit_and, Nat.testBit_div_two_pow, Nat.add_comm b, Nat.add_comm mk, Nat.add_comm (b / 2 ^ k &&& mk), show 256 = 2 ^ 8 from rfl,
    Nat.testBit_two_pow_mul_add _ hb8, Nat.testBit_two_pow_mul_add _ hm8, Nat.testBit_two_pow_mul_add _ hc, Nat.testBit_and, Nat.testBit_and, Nat.testBit_div_two_pow, Nat.testBit_div_two_pow]
  by_cases h1 : i < 8
  · rw [if_pos h1, if_pos h1]
    by_cases h2 : i + k < 8
    · rw [if_pos h2]
    · have : mk.testBit i = false := Nat.testBit_lt_two_pow (Nat.lt_of_lt_of_le hm (Nat.pow_le_pow_right (by decide) (by omega)))
      rw [this]; simp
  · rw [if_neg h1, if_neg h1, if_neg (by omega), show i + k - 8 = i - 8 + k by omega]
theorem and_low (b y mk M : Nat) (hb : b < 256) (hm : mk < 256) : (b + 256 * y) &&& (mk + 256 * M) = (b &&& mk) + 256 * (y &&& M) := by
  have := and_byte 0 mk b y M (by decide) hb hm
  simpa using this
def f1 (b : Nat) : Nat := (b / 2 &&& 85) + (b &&& 85)
def f2 (b : Nat) : Nat := (b / 4 &&& 51) + (b &&& 51)
def f3 (b : Nat) : Nat := (b / 16 + b) &&& 15
def g1 (x M : Nat) : Nat := (x / 2 &&& M) + (x &&& M)
def g2 (x M : Nat) : Nat := (x / 4 &&& M) + (x &&& M)
def g3 (x M : Nat) : Nat := (x / 16 + x) &&& M
theorem g1_byte (b y M : Nat) (hb : b < 256) : g1 (b + 256 * y) (85 + 256 * M) = f1 b + 256 * g1 y M := by
  have h := and_byte 1 85 b y M (by decide) hb (by decide)
  have h2 := and_low b y 85 M hb (by decide)
  unfold g1 f1
  simp only [Nat.pow_one] at h
  omega
theorem g2_byte (b y M : Nat) (hb : b < 256) : g2 (b + 256 * y) (51 + 256 * M) = f2 b + 256 * g2 y M := by
  have h := and_byte 2 51 b y M (by decide) hb (by decide)
  have h2 := and_low b y 51 M hb (by decide)
  unfold g2 f2
  simp only [show 2 ^ 2 = 4 from rfl] at h
  omega
theorem g3_byte (c y M : Nat) (hc : c ≤ 68) (hy : y % 16 ≤ 4) : g3 (c + 256 * y) (15 + 256 * M) = f3 c + 256 * g3 y M := by
  unfold g3 f3
  have e : (c + 256 * y) / 16 + (c + 256 * y) = (c / 16 + 16 * (y % 16) + c) + 256 * (y / 16 + y) := by omega
  rw [e, and_low _ _ 15 M (by omega) (by decide)]
  have : c / 16 + 16 * (y % 16) + c &&& 15 = c / 16 + c &&& 15 := by
    rw [show 15 = 2 ^ 4 - 1 from rfl, Nat.and_two_pow_sub_one_eq_mod, Nat.and_two_pow_sub_one_eq_mod]
    omega
  rw [this]
/-- A byte's bits. -/
def p8 (b : Nat) : Nat := b % 2 + b / 2 % 2 + b / 4 % 2 + b / 8 % 2 + b / 16 % 2 + b / 32 % 2 + b / 64 % 2 + b / 128 % 2
theorem byte_ok : ∀ b : Fin 256, f1 b.val < 256 ∧ f2 (f1 b.val) ≤ 68 ∧ f2 (f1 b.val) % 16 ≤ 4 ∧ f3 (f2 (f1 b.val)) = p8 b.val := by decide +kernel
/-- What OnesCount64 reckons. -/
def ones64 (m : Nat) : Nat :=
  let x := g3 (g2 (g1 m 6148914691236517205) 3689348814741910323) 1085102592571150095
  let x := x + x / 256
  let x := x + x / 65536
  let x := x + x / 4294967296
  x % 128
theorem ones64_parts (b0 b1 b2 b3 b4 b5 b6 b7 : Nat) (h0 : b0 < 256) (h1 : b1 < 256) (h2 : b2 < 256) (h3 : b3 < 256) (h4 : b4 < 256) (h5 : b5 < 256) (h6 : b6 < 256) (h7 : b7 < 256) :
    g3 (g2 (g1 (b0 + 256 * (b1 + 256 * (b2 + 256 * (b3 + 256 * (b4 + 256 * (b5 + 256 * (b6 + 256 * b7))))))) 6148914691236517205) 3689348814741910323) 1085102592571150095 =
      p8 b0 + 256 * (p8 b1 + 256 * (p8 b2 + 256 * (p8 b3 + 256 * (p8 b4 + 256 * (p8 b5 + 256 * (p8 b6 + 256 * p8 b7)))))) := by
  have k0 := byte_ok ⟨b0, h0⟩
  have k1 := byte_ok ⟨b1, h1⟩
  have k2 := byte_ok ⟨b2, h2⟩
  have k3 := byte_ok ⟨b3, h3⟩
  have k4 := byte_ok ⟨b4, h4⟩
  have k5 := byte_ok ⟨b5, h5⟩
  have k6 := byte_ok ⟨b6, h6⟩
  have k7 := byte_ok ⟨b7, h7⟩
  simp only at k0 k1 k2 k3 k4 k5 k6 k7
  have e1 : g1 b7 85 = f1 b7 := rfl
  have e2 : g2 (f1 b7) 51 = f2 (f1 b7) := rfl
  have e3 : g3 (f2 (f1 b7)) 15 = f3 (f2 (f1 b7)) := rfl
  rw [show 6148914691236517205 = 85 + 256 * (85 + 256 * (85 + 256 * (85 + 256 * (85 + 256 * (85 + 256 * (85 + 256 * 85)))))) from rfl,
    show 3689348814741910323 = 51 + 256 * (51 + 256 * (51 + 256 * (51 + 256 * (51 + 256 * (51 + 256 * (51 + 256 * 51)))))) from rfl,
    show 1085102592571150095 = 15 + 256 * (15 + 256 * (15 + 256 * (15 + 256 * (15 + 256 * (15 + 256 * (15 + 256 * 15)))))) from rfl]
  rw [g1_byte _ _ _ h0, g1_byte _ _ _ h1, g1_byte _ _ _ h2, g1_byte _ _ _ h3, g1_byte _ _ _ h4, g1_byte _ _ _ h5, g1_byte _ _ _ h6, e1,
    g2_byte _ _ _ k0.1, g2_byte _ _ _ k1.1, g2_byte _ _ _ k2.1, g2_byte _ _ _ k3.1, g2_byte _ _ _ k4.1, g2_byte _ _ _ k5.1, g2_byte _ _ _ k6.1, e2,
    g3_byte _ _ _ k0.2.1 (by omega), g3_byte _ _ _ k1.2.1 (by omega), g3_byte _ _ _ k2.2.1 (by omega), g3_byte _ _ _ k3.2.1 (by omega), g3_byte _ _ _ k4.2.1 (by omega), g3_byte _ _ _ k5.2.1 (by omega), g3_byte _ _ _ k6.2.1 (by omega), e3,
    k0.2.2.2, k1.2.2.2, k2.2.2.2, k3.2.2.2, k4.2.2.2, k5.2.2.2, k6.2.2.2, k7.2.2.2]
theorem p8_le (b : Nat) : p8 b ≤ 8 := by unfold p8; omega
def bt (m i : Nat) : Nat := m / 2 ^ i % 2
theorem bt_dig (m k n i : Nat) (h : i < n) : m / 2 ^ k % 2 ^ n / 2 ^ i % 2 = bt m (k + i) := by
  unfold bt
  rw [← Nat.toNat_testBit, ← Nat.toNat_testBit, Nat.testBit_mod_two_pow, decide_eq_true h, Bool.true_and, Nat.testBit_div_two_pow, Nat.add_comm]
theorem len_bt (m s : Nat) : len (hol m s) = bt m (13 * s) + bt m (13 * s + 1) + bt m (13 * s + 2) + bt m (13 * s + 3) + bt m (13 * s + 4) + bt m (13 * s + 5) + bt m (13 * s + 6) + bt m (13 * s + 7) + bt m (13 * s + 8) + bt m (13 * s + 9) + bt m (13 * s + 10) + bt m (13 * s + 11) + bt m (13 * s + 12) := by
  have h := fun i (hi : i < 13) => bt_dig m (13 * s) 13 i hi
  have h0 := h 0 (by decide); have h1 := h 1 (by decide); have h2 := h 2 (by decide); have h3 := h 3 (by decide); have h4 := h 4 (by decide); have h5 := h 5 (by decide); have h6 := h 6 (by decide); have h7 := h 7 (by decide); have h8 := h 8 (by decide); have h9 := h 9 (by decide); have h10 := h 10 (by decide); have h11 := h 11 (by decide); have h12 := h 12 (by decide)
  simp only [Nat.reducePow, Nat.div_one, Nat.add_zero] at h0 h1 h2 h3 h4 h5 h6 h7 h8 h9 h10 h11 h12
  unfold len hol
  rw [h0, h1, h2, h3, h4, h5, h6, h7, h8, h9, h10, h11, h12]
theorem p8_bt (m k : Nat) : p8 (m / 2 ^ k % 256) = bt m k + bt m (k + 1) + bt m (k + 2) + bt m (k + 3) + bt m (k + 4) + bt m (k + 5) + bt m (k + 6) + bt m (k + 7) := by
  have h := fun i (hi : i < 8) => bt_dig m k 8 i hi
  have h0 := h 0 (by decide); have h1 := h 1 (by decide); have h2 := h 2 (by decide); have h3 := h 3 (by decide); have h4 := h 4 (by decide); have h5 := h 5 (by decide); have h6 := h 6 (by decide); have h7 := h 7 (by decide)
  simp only [Nat.reducePow, Nat.div_one, Nat.add_zero] at h0 h1 h2 h3 h4 h5 h6 h7
  unfold p8
  rw [h0, h1, h2, h3, h4, h5, h6, h7]
/-- How many cards. -/
def cnt (m : Nat) : Nat := len (hol m 0) + len (hol m 1) + len (hol m 2) + len (hol m 3)
theorem ones64_cnt (m : Nat) (hm : m < 4503599627370496) :
    g3 (g2 (g1 m 6148914691236517205) 3689348814741910323) 1085102592571150095 < 650000000000000000 ∧ ones64 m = cnt m := by
  have hp := ones64_parts (m / 2 ^ 0 % 256) (m / 2 ^ 8 % 256) (m / 2 ^ 16 % 256) (m / 2 ^ 24 % 256) (m / 2 ^ 32 % 256) (m / 2 ^ 40 % 256) (m / 2 ^ 48 % 256) 0 (by omega) (by omega) (by omega) (by omega) (by omega) (by omega) (by omega) (by omega)
  have e : m / 2 ^ 0 % 256 + 256 * (m / 2 ^ 8 % 256 + 256 * (m / 2 ^ 16 % 256 + 256 * (m / 2 ^ 24 % 256 + 256 * (m / 2 ^ 32 % 256 + 256 * (m / 2 ^ 40 % 256 + 256 * (m / 2 ^ 48 % 256 + 256 * 0)))))) = m := by omega
  rw [e] at hp
  have hz : ∀ i, 52 ≤ i → bt m i = 0 := fun i hi => by
    unfold bt
    rw [Nat.div_eq_of_lt (Nat.lt_of_lt_of_le hm (Nat.pow_le_pow_right (n := 2) (by decide) hi : 2 ^ 52 ≤ 2 ^ i))]
  have hs : p8 (m / 2 ^ 0 % 256) + p8 (m / 2 ^ 8 % 256) + p8 (m / 2 ^ 16 % 256) + p8 (m / 2 ^ 24 % 256) + p8 (m / 2 ^ 32 % 256) + p8 (m / 2 ^ 40 % 256) + p8 (m / 2 ^ 48 % 256) = cnt m := by
    unfold cnt
    simp only [len_bt, p8_bt, Nat.reduceMul, Nat.reduceAdd]
    rw [hz 52 (by decide), hz 53 (by decide), hz 54 (by decide), hz 55 (by decide)]
    simp only [Nat.add_zero]
    omega
  have l0 := p8_le (m / 2 ^ 0 % 256)
  have l1 := p8_le (m / 2 ^ 8 % 256)
  have l2 := p8_le (m / 2 ^ 16 % 256)
  have l3 := p8_le (m / 2 ^ 24 % 256)
  have l4 := p8_le (m / 2 ^ 32 % 256)
  have l5 := p8_le (m / 2 ^ 40 % 256)
  have l6 := p8_le (m / 2 ^ 48 % 256)
  have l7 : p8 0 = 0 := rfl
  unfold ones64
  rw [hp, l7]
  generalize p8 (m / 2 ^ 0 % 256) = q0 at *
  generalize p8 (m / 2 ^ 8 % 256) = q1 at *
  generalize p8 (m / 2 ^ 16 % 256) = q2 at *
  generalize p8 (m / 2 ^ 24 % 256) = q3 at *
  generalize p8 (m / 2 ^ 32 % 256) = q4 at *
  generalize p8 (m / 2 ^ 40 % 256) = q5 at *
  generalize p8 (m / 2 ^ 48 % 256) = q6 at *
  clear hp e hz
  rw [← hs]
  refine ⟨by omega, ?_⟩
  show _ % 128 = _
  have a1 : ∀ x, x = q0 + 256 * (q1 + 256 * (q2 + 256 * (q3 + 256 * (q4 + 256 * (q5 + 256 * (q6 + 256 * 0)))))) → x / 256 = q1 + 256 * (q2 + 256 * (q3 + 256 * (q4 + 256 * (q5 + 256 * q6)))) := fun x hx => by omega
  rw [a1 _ rfl]
  clear a1
  have a2 : ∀ x, x = q0 + 256 * (q1 + 256 * (q2 + 256 * (q3 + 256 * (q4 + 256 * (q5 + 256 * (q6 + 256 * 0)))))) + (q1 + 256 * (q2 + 256 * (q3 + 256 * (q4 + 256 * (q5 + 256 * q6))))) → x / 65536 = (q2 + q3) + 256 * (q3 + q4 + 256 * (q4 + q5 + 256 * (q5 + q6 + 256 * q6))) := fun x hx => by omega
  rw [a2 _ rfl]
  clear a2
  have e5 : q0 + 256 * (q1 + 256 * (q2 + 256 * (q3 + 256 * (q4 + 256 * (q5 + 256 * (q6 + 256 * 0)))))) + (q1 + 256 * (q2 + 256 * (q3 + 256 * (q4 + 256 * (q5 + 256 * q6))))) + (q2 + q3 + 256 * (q3 + q4 + 256 * (q4 + q5 + 256 * (q5 + q6 + 256 * q6)))) =
    (q0 + q1 + q2 + q3) + 256 * (q1 + q2 + q3 + q4) + 65536 * (q2 + q3 + q4 + q5) + 16777216 * (q3 + q4 + q5 + q6) + 4294967296 * (q4 + q5 + q6 + 256 * (q5 + q6 + 256 * q6)) := by omega
  rw [e5]
  have a3 : ((q0 + q1 + q2 + q3) + 256 * (q1 + q2 + q3 + q4) + 65536 * (q2 + q3 + q4 + q5) + 16777216 * (q3 + q4 + q5 + q6) + 4294967296 * (q4 + q5 + q6 + 256 * (q5 + q6 + 256 * q6))) / 4294967296 = q4 + q5 + q6 + 256 * (q5 + q6 + 256 * q6) := by omega
  rw [a3]
  clear a3 e5
  omega
end Go.Proofs.YtalklogopepjpaaDoor.Ha

/-! HB -/
namespace Go.Proofs.YtalklogopepjpaaDoor.Ha
open Go.RowKit

theorem pop_len0 : ∀ a : Fin 32, ∀ b : Fin 256, Lib.pop8 (a.val : Int) + Lib.pop8 (b.val : Int) = (len (256 * a.val + b.val) : Int) := by decide +kernel
theorem pop_len (h : Nat) (hh : h < 8192) : Lib.pop8 ((h / 256 : Nat) : Int) + Lib.pop8 ((h % 256 : Nat) : Int) = (len h : Int) := by
  have := pop_len0 ⟨h / 256, by omega⟩ ⟨h % 256, Nat.mod_lt _ (by decide)⟩
  simp only [Nat.div_add_mod] at this
  exact this
end Go.Proofs.YtalklogopepjpaaDoor.Ha

/-! HC -/
namespace Go.Proofs.YtalklogopepjpaaDoor.Ha
open Go.RowKit

theorem and_mask_i64 (d : Int) (m k : Nat) (hm : m + 1 = 2 ^ k) (hk : k < 63) : bits .and .i64 d (m : Int) = d % ((2 ^ k : Nat) : Int) := by
  have hp : 2 ^ k ≤ 2 ^ 62 := Nat.pow_le_pow_right (by omega) (by omega)
  have h0 : 0 < 2 ^ k := Nat.pos_of_ne_zero (by simp)
  have h2 : (BitVec.ofInt 64 (m : Int)).toNat = m := by
    rw [BitVec.ofInt_natCast, BitVec.toNat_ofNat]; exact Nat.mod_eq_of_lt (by omega)
  have h1 : (BitVec.ofInt 64 d).toNat = (d % 18446744073709551616).toNat := by
    rw [BitVec.toNat_ofInt]; rfl
  show IntKind.i64.wrap ((BitVec.ofInt 64 d &&& BitVec.ofInt 64 (m : Int)).toNat : Int) = _
  have hm' : m = 2 ^ k - 1 := by omega
  rw [BitVec.toNat_and, h1, h2]
  rw [hm', Nat.and_two_pow_sub_one_eq_mod]
  have e : (((d % 18446744073709551616).toNat % 2 ^ k : Nat) : Int) = d % ((2 ^ k : Nat) : Int) := by
    rw [Int.natCast_emod, Int.toNat_of_nonneg (Int.emod_nonneg _ (by omega))]
    exact Int.emod_emod_of_dvd _ (by
      have : (18446744073709551616 : Int) = ((2 ^ 64 : Nat) : Int) := by decide
      rw [this]; exact Int.natCast_dvd_natCast.2 (Nat.pow_dvd_pow 2 (by omega)))
  rw [e]
  have a1 := Int.emod_nonneg d (b := ((2 ^ k : Nat) : Int)) (by omega)
  have a2 := Int.emod_lt_of_pos d (b := ((2 ^ k : Nat) : Int)) (by omega)
  generalize d % ((2 ^ k : Nat) : Int) = x at *
  generalize 2 ^ k = y at *
  rw [IntKind.wrap_i64]
  omega
/-- the fraction that 'some' makes -/
def someR (n d : Int) : Rat := Rat.divInt n (d % 32768 + 1)
set_option maxRecDepth 100000 in
theorem ones64_calls (m : Nat) (hm : m < 4503599627370496) (w : World) : Calls Tryd.prog 50 #[.int .u64 m] w fun e w' => e = .returned (.int .i64 (cnt m)) ∧ w = w' := by
  obtain ⟨hlt, hc⟩ := ones64_cnt m hm
  have a1 : bits .and .u64 ((m : Int) / 2) 6148914691236517205 = ((m / 2 &&& 6148914691236517205 : Nat) : Int) := by
    have := u64_and_nat (m / 2) 6148914691236517205 (by omega) (by decide)
    simpa using this
  have a2 : bits .and .u64 (m : Int) 6148914691236517205 = ((m &&& 6148914691236517205 : Nat) : Int) := by
    have := u64_and_nat m 6148914691236517205 (by omega) (by decide)
    simpa using this
  have l1 : m / 2 &&& 6148914691236517205 ≤ m / 2 := Nat.and_le_left
  have l2 : m &&& 6148914691236517205 ≤ m := Nat.and_le_left
  have a3 : IntKind.u64.wrap (((m / 2 &&& 6148914691236517205 : Nat) : Int) + ((m &&& 6148914691236517205 : Nat) : Int)) = ((g1 m 6148914691236517205 : Nat) : Int) := by
    unfold g1
    rw [IntKind.wrap_u64]
    omega
  have l3 : g1 m 6148914691236517205 ≤ 2 * m := by unfold g1; omega
  unfold ones64 at hc
  obtain ⟨x1, hx1⟩ : ∃ x, g1 m 6148914691236517205 = x := ⟨_, rfl⟩
  rw [hx1] at hlt hc a3 l3
  clear hx1
  obtain ⟨c1, hc1⟩ : ∃ x, m / 2 &&& 6148914691236517205 = x := ⟨_, rfl⟩
  obtain ⟨c2, hc2⟩ : ∃ x, m &&& 6148914691236517205 = x := ⟨_, rfl⟩
  rw [hc1] at a1 a3
  rw [hc2] at a2 a3
  clear hc1 hc2 l1 l2
  have b1 : bits .and .u64 ((x1 : Int) / 4) 3689348814741910323 = ((x1 / 4 &&& 3689348814741910323 : Nat) : Int) := by
    have := u64_and_nat (x1 / 4) 3689348814741910323 (by omega) (by decide)
    simpa using this
  have b2 : bits .and .u64 (x1 : Int) 3689348814741910323 = ((x1 &&& 3689348814741910323 : Nat) : Int) := by
    have := u64_and_nat x1 3689348814741910323 (by omega) (by decide)
    simpa using this
  have l1 : x1 / 4 &&& 3689348814741910323 ≤ x1 / 4 := Nat.and_le_left
  have l2 : x1 &&& 3689348814741910323 ≤ x1 := Nat.and_le_left
  have b3 : IntKind.u64.wrap (((x1 / 4 &&& 3689348814741910323 : Nat) : Int) + ((x1 &&& 3689348814741910323 : Nat) : Int)) = ((g2 x1 3689348814741910323 : Nat) : Int) := by
    unfold g2
    rw [IntKind.wrap_u64]
    omega
  have l4 : g2 x1 3689348814741910323 ≤ 2 * x1 := by unfold g2; omega
  obtain ⟨x2, hx2⟩ : ∃ x, g2 x1 3689348814741910323 = x := ⟨_, rfl⟩
  rw [hx2] at hlt hc b3 l4
  clear hx2
  obtain ⟨d1, hd1⟩ : ∃ x, x1 / 4 &&& 3689348814741910323 = x := ⟨_, rfl⟩
  obtain ⟨d2, hd2⟩ : ∃ x, x1 &&& 3689348814741910323 = x := ⟨_, rfl⟩
  rw [hd1] at b1 b3
  rw [hd2] at b2 b3
  clear hd1 hd2 l1 l2
  have e0 : IntKind.u64.wrap ((x2 : Int) / 16 + x2) = ((x2 / 16 + x2 : Nat) : Int) := by rw [IntKind.wrap_u64]; omega
  have e1 : bits .and .u64 ((x2 / 16 + x2 : Nat) : Int) 1085102592571150095 = ((g3 x2 1085102592571150095 : Nat) : Int) := by
    have := u64_and_nat (x2 / 16 + x2) 1085102592571150095 (by omega) (by decide)
    unfold g3
    exact this
  obtain ⟨x3, hx3⟩ : ∃ x, g3 x2 1085102592571150095 = x := ⟨_, rfl⟩
  rw [hx3] at hlt hc e1
  dsimp only at hc
  clear hx3
  obtain ⟨y2, hy2⟩ : ∃ x, x2 / 16 + x2 = x := ⟨_, rfl⟩
  rw [hy2] at e0 e1
  clear hy2
  have f1 : IntKind.u64.wrap ((x3 : Int) + (x3 : Int) / 256) = ((x3 + x3 / 256 : Nat) : Int) := by rw [IntKind.wrap_u64]; omega
  obtain ⟨x4, hx4⟩ : ∃ x, x3 + x3 / 256 = x := ⟨_, rfl⟩
  have l5 : x4 ≤ 700000000000000000 := by omega
  rw [hx4] at f1 hc
  clear hx4
  have f2 : IntKind.u64.wrap ((x4 : Int) + (x4 : Int) / 65536) = ((x4 + x4 / 65536 : Nat) : Int) := by rw [IntKind.wrap_u64]; omega
  obtain ⟨x5, hx5⟩ : ∃ x, x4 + x4 / 65536 = x := ⟨_, rfl⟩
  have l6 : x5 ≤ 800000000000000000 := by omega
  rw [hx5] at f2 hc
  clear hx5
  have f3 : IntKind.u64.wrap ((x5 : Int) + (x5 : Int) / 4294967296) = ((x5 + x5 / 4294967296 : Nat) : Int) := by rw [IntKind.wrap_u64]; omega
  obtain ⟨x6, hx6⟩ : ∃ x, x5 + x5 / 4294967296 = x := ⟨_, rfl⟩
  have l7 : x6 ≤ 900000000000000000 := by omega
  rw [hx6] at f3 hc
  clear hx6
  have f4 : IntKind.i64.wrap (x6 : Int) = (x6 : Int) := IntWalk.i64_in _ (by omega)
  have f5 : bits .and .i64 (x6 : Int) 127 = (cnt m : Int) := by
    have := and_mask_i64 (x6 : Int) 127 7 (by decide) (by decide)
    rw [← hc]
    exact this
  obtain ⟨n, hn⟩ : ∃ x, cnt m = x := ⟨_, rfl⟩
  rw [hn] at f5 ⊢
  clear hn hc hlt l3 l4 l5 l6 l7
  go_enter Tryd.func50, Tryd.ntmps50
  go_wp2
  go_ret
  refine ⟨?_, rfl⟩
  simp []
end Go.Proofs.YtalklogopepjpaaDoor.Ha
