/- Index: the mathematics of the walk. -/
import Derived.Test.YtgcfkhpondemlaaXF0
namespace Go.Proofs.Ytgcfkhpondemlaa.Ca
open Go.RowKit
open Go.Proofs.DB (ct bt Pd Rd lack W2 W3 W4 rk Sb left wo)

/-- What is left in front of seat s; what has been added. -/
def LI (p d : Nat → Nat) : Nat → Nat
  | 0 => left p
  | s + 1 => wo (LI p d s) (d s)
def rI (p d : Nat → Nat) (s : Nat) : Nat := rk bin (LI p d s) (d s &&& LI p d s) 52
def jI (p d : Nat → Nat) : Nat → Nat
  | 0 => 0
  | s + 1 => jI p d s + rI p d s * Wv p (s + 1)
theorem LI_lt (p d : Nat → Nat) : ∀ s, LI p d s < 4503599627370496
  | 0 => DB.left_lt p
  | s + 1 => Nat.lt_of_le_of_lt (DB.wo_le _ _) (LI_lt p d s)
theorem and_sb (a L : Nat) : Sb L (a &&& L) 52 := fun j _ => by
  have := DB.bt_and a L j
  unfold DB.bt at this
  omega
theorem jI_le (p d : Nat → Nat) (s : Nat) : jI p d s ≤ jI p d (s + 1) := Nat.le_add_right _ _
theorem jI_prod (p d : Nat → Nat) (s : Nat) : rI p d s * Wv p (s + 1) ≤ jI p d (s + 1) := Nat.le_add_left _ _
theorem jI_le4 (p d : Nat → Nat) : ∀ s, s ≤ 4 → jI p d s ≤ jI p d 4
  | 4, _ => Nat.le_refl _
  | 3, _ => jI_le p d 3
  | 2, _ => Nat.le_trans (jI_le p d 2) (jI_le p d 3)
  | 1, _ => Nat.le_trans (jI_le p d 1) (Nat.le_trans (jI_le p d 2) (jI_le p d 3))
  | 0, _ => Nat.zero_le _
set_option maxHeartbeats 4000000 in
theorem jI_all {p d : Nat → Nat} (hp : Pd p) (hd : Rd d) (h : DB.In p d) : jI p d 4 = DB.index bin p d := by
  obtain ⟨q, e⟩ := DB.parts_of hp hd h
  have dj := fun i hi => q.dj hp i hi
  have qb := fun j => q.bits j
  obtain ⟨x0, h0⟩ : ∃ x, d 0 - p 0 = x := ⟨_, rfl⟩
  obtain ⟨x1, h1⟩ : ∃ x, d 1 - p 1 = x := ⟨_, rfl⟩
  obtain ⟨x2, h2⟩ : ∃ x, d 2 - p 2 = x := ⟨_, rfl⟩
  have ei : DB.index bin p d = DB.ix4 bin (lack p 1) (lack p 2) (lack p 3) (left p) x0 x1 x2 := by rw [← h0, ← h1, ← h2]; rfl
  rw [h0, h1, h2] at e dj qb q
  obtain ⟨x3, h3⟩ : ∃ x, left p - x0 - x1 - x2 = x := ⟨_, rfl⟩
  rw [h3] at dj qb
  have e0 : d 0 = p 0 + x0 := (e 0 (by decide)).symm
  have e1 : d 1 = p 1 + x1 := (e 1 (by decide)).symm
  have e2 : d 2 = p 2 + x2 := (e 2 (by decide)).symm
  have e3 : d 3 = p 3 + x3 := by rw [← h3]; exact (e 3 (by decide)).symm
  have lt := fun s => Nat.lt_of_lt_of_le (LI_lt p d s) (show 4503599627370496 ≤ 2 ^ 64 by decide)
  -- the bits of all
  have K : ∀ j, bt (LI p d 1) j = bt (left p - x0) j ∧ bt (LI p d 2) j = bt (left p - x0 - x1) j ∧ bt (LI p d 3) j = bt (left p - x0 - x1 - x2) j ∧
      bt (d 0 &&& LI p d 0) j = bt x0 j ∧ bt (d 1 &&& LI p d 1) j = bt x1 j ∧ bt (d 2 &&& LI p d 2) j = bt x2 j ∧ bt (d 3 &&& LI p d 3) j = bt (LI p d 3) j := fun j => by
    have b0 := DB.bt_add j (dj 0 (by decide)).1
    have b1 := DB.bt_add j (dj 1 (by decide)).2.1
    have b2 := DB.bt_add j (dj 2 (by decide)).2.2.1
    have b3 := DB.bt_add j (dj 3 (by decide)).2.2.2
    rw [← e0] at b0
    rw [← e1] at b1
    rw [← e2] at b2
    rw [← e3] at b3
    have c0 := q.p0.bit j
    have c1 := q.p1.bit j
    have c2 := q.p2.bit j
    rw [h3] at c2
    have s := qb j
    have l0 : LI p d 0 = left p := rfl
    have l1 : bt (LI p d 1) j = bt (left p) j - bt (d 0) j := DB.bt_wo _ (lt 0) j
    have l2 : bt (LI p d 2) j = bt (LI p d 1) j - bt (d 1) j := DB.bt_wo _ (lt 1) j
    have l3 : bt (LI p d 3) j = bt (LI p d 2) j - bt (d 2) j := DB.bt_wo _ (lt 2) j
    have a0 := DB.bt_and (d 0) (LI p d 0) j
    have a1 := DB.bt_and (d 1) (LI p d 1) j
    have a2 := DB.bt_and (d 2) (LI p d 2) j
    have a3 := DB.bt_and (d 3) (LI p d 3) j
    rw [l0] at a0
    -- no card of a hand is left
    have z : ∀ i, i < 4 → bt (p i) j + bt (left p) j ≤ 1 := fun i hi => by
      by_cases hj : j < 52
      · have lb := DB.left_bit hp j hj
        rw [hp.bit] at lb
        have p0 := DB.bt_lt2 (p 0) j; have p1 := DB.bt_lt2 (p 1) j; have p2 := DB.bt_lt2 (p 2) j; have p3 := DB.bt_lt2 (p 3) j
        match i, hi with
        | 0, _ => omega
        | 1, _ => omega
        | 2, _ => omega
        | 3, _ => omega
      · rw [DB.bt_high (DB.left_lt p) (by omega)]; have := DB.bt_lt2 (p i) j; omega
    have z0 := z 0 (by decide); have z1 := z 1 (by decide); have z2 := z 2 (by decide); have z3 := z 3 (by decide)
    have t0 := DB.bt_lt2 (d 0) j; have t1 := DB.bt_lt2 (d 1) j; have t2 := DB.bt_lt2 (d 2) j; have t3 := DB.bt_lt2 (d 3) j
    have v := DB.bt_lt2 (left p) j
    rw [h3, l0]
    refine ⟨by omega, by omega, by omega, by omega, by omega, by omega, by omega⟩
  have L1 : LI p d 1 = left p - x0 := DB.bt_ext fun j => (K j).1
  have L2 : LI p d 2 = left p - x0 - x1 := DB.bt_ext fun j => (K j).2.1
  have X0 : d 0 &&& LI p d 0 = x0 := DB.bt_ext fun j => (K j).2.2.2.1
  have X1 : d 1 &&& LI p d 1 = x1 := DB.bt_ext fun j => (K j).2.2.2.2.1
  have X2 : d 2 &&& LI p d 2 = x2 := DB.bt_ext fun j => (K j).2.2.2.2.2.1
  have X3 : d 3 &&& LI p d 3 = LI p d 3 := DB.bt_ext fun j => (K j).2.2.2.2.2.2
  have R0 : rI p d 0 = rk bin (left p) x0 52 := by unfold rI; rw [X0]; rfl
  have R1 : rI p d 1 = rk bin (left p - x0) x1 52 := by unfold rI; rw [X1, L1]
  have R2 : rI p d 2 = rk bin (left p - x0 - x1) x2 52 := by unfold rI; rw [X2, L2]
  have R3 : rI p d 3 = 0 := by unfold rI; rw [X3]; exact DB.rk_full pas_bin _ _
  rw [ei]
  show 0 + rI p d 0 * W3 bin _ _ _ + rI p d 1 * W2 bin _ _ + rI p d 2 * 1 + rI p d 3 * 1 = DB.ix4 bin _ _ _ _ _ _ _
  rw [R0, R1, R2, R3]
  unfold DB.ix4 DB.ix3
  omega
end Go.Proofs.Ytgcfkhpondemlaa.Ca
