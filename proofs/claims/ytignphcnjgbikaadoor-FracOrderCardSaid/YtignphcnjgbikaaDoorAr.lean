/- Bounds and the order of fractions. -/
import Derived.Test.YtignphcnjgbikaaDoorS
namespace Go.Proofs.YtignphcnjgbikaaDoor
/-- bounds of a fraction's parts -/
def bndR (A B : Nat) (r : Rat) : Prop := r.num.natAbs ≤ A ∧ r.den ≤ B
theorem bnd_fits {A B : Nat} {r : Rat} (h : bndR A B r) (hA : A ≤ 9223372036854775807) (hB : B ≤ 9223372036854775807) : fitsR r := by
  obtain ⟨h1, h2⟩ := h
  have := r.den_pos
  exact ⟨by omega, by omega, by omega⟩
theorem bnd_mk {n : Int} {d A B : Nat} (hd : d ≠ 0) (hn : n.natAbs ≤ A) (hB : d ≤ B) : bndR A B (mkRat n d) := by
  unfold bndR
  rw [Rat.num_mkRat, Rat.den_mkRat, if_neg hd, if_neg hd]
  exact ⟨Nat.le_trans (Int.natAbs_ediv_le_natAbs _ _) hn, Nat.le_trans (Nat.div_le_self _ _) hB⟩
theorem bnd_add {A B C D : Nat} {r s : Rat} (hr : bndR A B r) (hs : bndR C D s) : bndR (A * D + C * B) (B * D) (r + s) := by
  rw [Rat.add_def']
  obtain ⟨a1, a2⟩ := hr
  obtain ⟨b1, b2⟩ := hs
  refine bnd_mk (Nat.mul_ne_zero r.den_nz s.den_nz) ?_ (Nat.mul_le_mul a2 b2)
  refine Nat.le_trans (Int.natAbs_add_le _ _) (Nat.add_le_add ?_ ?_)
  · rw [Int.natAbs_mul]; exact Nat.mul_le_mul a1 b2
  · rw [Int.natAbs_mul]; exact Nat.mul_le_mul b1 a2
theorem bnd_neg {A B : Nat} {r : Rat} (hr : bndR A B r) : bndR A B (-r) := by
  obtain ⟨a1, a2⟩ := hr
  exact ⟨by rw [Rat.neg_num]; omega, a2⟩
theorem bnd_sub {A B C D : Nat} {r s : Rat} (hr : bndR A B r) (hs : bndR C D s) : bndR (A * D + C * B) (B * D) (r - s) := by
  rw [Rat.sub_eq_add_neg]; exact bnd_add hr (bnd_neg hs)
theorem bnd_mul {A B C D : Nat} {r s : Rat} (hr : bndR A B r) (hs : bndR C D s) : bndR (A * C) (B * D) (r * s) := by
  rw [Rat.mul_def']
  obtain ⟨a1, a2⟩ := hr
  obtain ⟨b1, b2⟩ := hs
  refine bnd_mk (Nat.mul_ne_zero r.den_nz s.den_nz) ?_ (Nat.mul_le_mul a2 b2)
  rw [Int.natAbs_mul]; exact Nat.mul_le_mul a1 b1

theorem cmp_self (r : Rat) : cmpR r r = 0 := by simp [cmpR]
theorem cmp_range (r s : Rat) : cmpR r s = -1 ∨ cmpR r s = 0 ∨ cmpR r s = 1 := by
  unfold cmpR; split
  · simp
  · split <;> simp
theorem cmp_zero {r s : Rat} : cmpR r s = 0 ↔ r = s := by
  unfold cmpR; split
  · simp [*]
  · split <;> simp [*]
theorem cmp_neg {r s : Rat} : cmpR r s = -1 ↔ r < s := by
  unfold cmpR; split
  · rename_i h; subst h; simp [Rat.lt_irrefl]
  · split <;> simp [*]
theorem cmp_one {r s : Rat} : cmpR r s = 1 ↔ s < r := by
  unfold cmpR; split
  · rename_i h; subst h; simp [Rat.lt_irrefl]
  · rename_i hne
    split
    · rename_i h
      simp
      exact Rat.not_lt.2 (Rat.le_of_lt h)
    · rename_i h
      simp
      exact Rat.lt_of_le_of_ne (Rat.not_lt.1 h) (fun e => hne e.symm)
theorem lt_or (r s : Rat) : r < s ∨ r = s ∨ s < r := by
  rcases cmp_range r s with h | h | h
  · exact .inl (cmp_neg.1 h)
  · exact .inr (.inl (cmp_zero.1 h))
  · exact .inr (.inr (cmp_one.1 h))
theorem cmp_back (r s : Rat) : cmpR s r = -cmpR r s := by
  rcases lt_or r s with h | h | h
  · rw [cmp_neg.2 h, cmp_one.2 h]; rfl
  · subst h; rw [cmp_self]; rfl
  · rw [cmp_neg.2 h, cmp_one.2 h]
theorem cmp_add (r s t : Rat) : cmpR (r + t) (s + t) = cmpR r s := by
  rcases lt_or r s with h | h | h
  · rw [cmp_neg.2 h, cmp_neg.2 (Rat.add_lt_add_right.2 h)]
  · subst h; rw [cmp_self, cmp_self]
  · rw [cmp_one.2 h, cmp_one.2 (Rat.add_lt_add_right.2 h)]
/-- the sign of a number -/
def sgnR (r : Rat) : Int := if 0 < r.num then 1 else if r.num < 0 then -1 else 0
theorem sgn_pos {r : Rat} (h : 0 < r) : sgnR r = 1 := by
  have := (Rat.lt_iff 0 r).1 h
  simp at this
  unfold sgnR; rw [if_pos this]
theorem sgn_neg {r : Rat} (h : r < 0) : sgnR r = -1 := by
  have := (Rat.lt_iff r 0).1 h
  simp at this
  unfold sgnR; rw [if_neg (by omega), if_pos this]
theorem sgn_sub (r s : Rat) : sgnR (r - s) = cmpR r s := by
  rcases lt_or r s with h | h | h
  · rw [cmp_neg.2 h]
    apply sgn_neg
    have := (Rat.lt_iff_sub_pos r s).1 h
    have h2 := Rat.neg_lt_neg this
    rw [Rat.neg_sub, Rat.neg_zero] at h2
    exact h2
  · subst h; rw [Rat.sub_self, cmp_self]; rfl
  · rw [cmp_one.2 h]
    exact sgn_pos ((Rat.lt_iff_sub_pos s r).1 h)
theorem cmp_mul (r s t : Rat) : cmpR (r * t) (s * t) = cmpR r s * sgnR t := by
  rcases lt_or t 0 with ht | ht | ht
  · rw [sgn_neg ht]
    have hn : 0 < -t := by have := Rat.neg_lt_neg ht; rwa [Rat.neg_zero] at this
    rcases lt_or r s with h | h | h
    · have := Rat.mul_lt_mul_of_pos_right h hn
      rw [Rat.mul_neg, Rat.mul_neg, Rat.neg_lt_neg_iff] at this
      rw [cmp_neg.2 h, cmp_one.2 this]; rfl
    · subst h; rw [cmp_self, cmp_self]; rfl
    · have := Rat.mul_lt_mul_of_pos_right h hn
      rw [Rat.mul_neg, Rat.mul_neg, Rat.neg_lt_neg_iff] at this
      rw [cmp_one.2 h, cmp_neg.2 this]; rfl
  · subst ht; rw [Rat.mul_zero, Rat.mul_zero, cmp_self]; simp [sgnR]
  · rw [sgn_pos ht, Int.mul_one]
    rcases lt_or r s with h | h | h
    · rw [cmp_neg.2 h, cmp_neg.2 (Rat.mul_lt_mul_of_pos_right h ht)]
    · subst h; rw [cmp_self, cmp_self]
    · rw [cmp_one.2 h, cmp_one.2 (Rat.mul_lt_mul_of_pos_right h ht)]
theorem lt_trans' {a b c : Rat} (h1 : a < b) (h2 : b < c) : a < c :=
  Rat.lt_of_le_of_ne (Rat.le_trans (Rat.le_of_lt h1) (Rat.le_of_lt h2)) (fun e => by
    subst e; exact absurd (Rat.le_of_lt h1) (Rat.not_le.2 h2))
theorem cmp_chain (r s t : Rat) (h : cmpR r s = cmpR s t) : cmpR r t = cmpR r s := by
  rcases lt_or r s with h1 | h1 | h1
  · rw [cmp_neg.2 h1] at h ⊢
    exact cmp_neg.2 (lt_trans' h1 (cmp_neg.1 h.symm))
  · subst h1; rw [cmp_self] at h ⊢; exact h.symm
  · rw [cmp_one.2 h1] at h ⊢
    exact cmp_one.2 (lt_trans' (cmp_one.1 h.symm) h1)
end Go.Proofs.YtignphcnjgbikaaDoor
