/- Plain mathematics of fractions: no Go. -/
namespace Go.Proofs.YtignphcnjgbikaaDoor

theorem rat_add_parts (a b : Rat) (g : Nat) (hg : a.den.gcd b.den = g) (t : Int) (ht : a.num * ((b.den / g : Nat) : Int) + b.num * ((a.den / g : Nat) : Int) = t) (L : Nat) (hL : t.natAbs.gcd g = L) :
    (a + b).num = t / L ∧ (a + b).den = (a.den / g) * (b.den / L) := by
  subst hg
  have hLg : L ∣ a.den.gcd b.den := by rw [← hL]; exact Nat.gcd_dvd_right _ _
  have hLb : L ∣ b.den := Nat.dvd_trans hLg (Nat.gcd_dvd_right _ _)
  have key : (a + b) = Rat.add a b := rfl
  rw [key]
  unfold Rat.add
  simp only [ht, hL]
  by_cases h : a.den.gcd b.den = 1
  · rw [dif_pos h]
    rw [h] at hL ht hLg
    have hL1 : L = 1 := Nat.dvd_one.1 hLg
    subst hL1
    simp at ht
    simp [ht, h]
  · rw [dif_neg h]
    unfold Rat.maybeNormalize
    split
    · rename_i h1
      simp [h1]
    · simp only [Int.divExact, Nat.divExact]
      exact ⟨trivial, Nat.mul_div_assoc _ hLb⟩
theorem rat_mul_parts (a b : Rat) (g h : Nat) (hg : a.num.natAbs.gcd b.den = g) (hh : b.num.natAbs.gcd a.den = h) :
    (a * b).num = (a.num / g) * (b.num / h) ∧ (a * b).den = (a.den / h) * (b.den / g) := by
  have key : (a * b) = Rat.mul a b := rfl
  rw [key]
  unfold Rat.mul
  subst hg hh
  simp [Int.divExact, Nat.divExact]

/-- Does a number fit: a numerator and a denominator of 64 bits? -/
def fitsR (r : Rat) : Prop := -9223372036854775808 ≤ r.num ∧ r.num ≤ 9223372036854775807 ∧ (r.den : Int) ≤ 9223372036854775807
instance (r : Rat) : Decidable (fitsR r) := by unfold fitsR; infer_instance
/-- What a function returns for the number r: numerator, denominator, error. -/
def outN (r : Rat) : Int := if fitsR r then r.num else 0
def outD (r : Rat) : Int := if fitsR r then r.den else 0
def outE (r : Rat) : Int := if fitsR r then 0 else 3

/-- The sign and the size of a number, and what a product of sizes makes. -/
theorem ediv_natAbs (n : Int) (g : Nat) (h : (g : Int) ∣ n) : (n / g).natAbs = n.natAbs / g := by
  obtain ⟨k, rfl⟩ := h
  by_cases hg : g = 0
  · subst hg; simp
  · rw [Int.mul_ediv_cancel_left _ (by omega), Int.natAbs_mul, Int.natAbs_natCast, Nat.mul_div_cancel_left _ (by omega)]
end Go.Proofs.YtignphcnjgbikaaDoor
