/- 48271 is a primitive root: each state is reached from 1. -/
import Derived.Test.YtcgecgagecobeaaSA
namespace Go.Proofs.Ytcgecgagecobeaa
open Go.RowKit

/-- n numbers below n, no two the same, are all of them. -/
theorem php : ∀ (n : Nat) (f : Nat → Nat), (∀ i, i < n → f i < n) → (∀ i j, i < n → j < n → f i = f j → i = j) → ∀ y, y < n → ∃ i, i < n ∧ f i = y
  | 0, _, _, _ => fun y hy => absurd hy (Nat.not_lt_zero y)
  | n + 1, f, hf, hi => by
    have hne : ∀ i, i < n → f i ≠ f n := fun i h e => by have := hi i n (by omega) (by omega) e; omega
    have hfn := hf n (by omega)
    by_cases hn : f n = n
    · have ih := php n f (fun i h => by have := hf i (by omega); have := hne i h; omega) (fun i j h1 h2 => hi i j (by omega) (by omega))
      intro y hy
      by_cases e : y = n
      · exact ⟨n, by omega, by omega⟩
      · obtain ⟨i, h1, h2⟩ := ih y (by omega)
        exact ⟨i, by omega, h2⟩
    · by_cases hex : ∃ i, i < n ∧ f i = n
      · obtain ⟨i0, hi0, hf0⟩ := hex
        have ih := php n (fun i => if f i = n then f n else f i) (fun i h => by
            show (if f i = n then f n else f i) < n
            have := hf i (by omega)
            split <;> omega) (fun i j h1 h2 e => by
            have e : (if f i = n then f n else f i) = (if f j = n then f n else f j) := e
            by_cases a1 : f i = n <;> by_cases a2 : f j = n
            · exact hi i j (by omega) (by omega) (by omega)
            · rw [if_pos a1, if_neg a2] at e
              exact absurd e.symm (hne j h2)
            · rw [if_neg a1, if_pos a2] at e
              exact absurd e (hne i h1)
            · rw [if_neg a1, if_neg a2] at e
              exact hi i j (by omega) (by omega) e)
        intro y hy
        by_cases e : y = n
        · exact ⟨i0, by omega, by omega⟩
        · obtain ⟨i, h1, h2⟩ := ih y (by omega)
          have h2 : (if f i = n then f n else f i) = y := h2
          by_cases a1 : f i = n
          · rw [if_pos a1] at h2
            exact ⟨n, by omega, h2⟩
          · rw [if_neg a1] at h2
            exact ⟨i, by omega, h2⟩
      · have ih := php n f (fun i h => by
            have h1 := hf i (by omega)
            have h2 : f i ≠ n := fun e => hex ⟨i, h, e⟩
            omega) (fun i j h1 h2 => hi i j (by omega) (by omega))
        obtain ⟨i, h1, h2⟩ := ih (f n) (by omega)
        exact absurd h2 (hne i h1)
def E (k : Nat) : Prop := jmp 1 k = 1
theorem E_add {m : Nat} (h : E m) (k : Nat) : jmp 1 (m + k) = jmp 1 k := by
  unfold E at h
  rw [← jmp_jmp, h]
theorem E_mul {m : Nat} (h : E m) (r : Nat) : ∀ q, jmp 1 (m * q + r) = jmp 1 r
  | 0 => by rw [Nat.mul_zero, Nat.zero_add]
  | q + 1 => by rw [Nat.mul_succ, Nat.add_comm (m * q), Nat.add_assoc, E_add h, E_mul h r q]
theorem E_gcd (m n : Nat) : E m → E n → E (Nat.gcd m n) := by
  refine Nat.gcd.induction (P := fun m n => E m → E n → E (Nat.gcd m n)) m n (fun n _ h => by rw [Nat.gcd_zero_left]; exact h) ?_
  intro m n hm ih h1 h2
  rw [Nat.gcd_rec]
  refine ih ?_ h1
  have h3 := E_mul h1 (n % m) (n / m)
  rw [Nat.div_add_mod] at h3
  unfold E at *
  rw [← h3, h2]
theorem E_N : E 2147483646 := by
  have h := jmp_cycle 1 0
  rw [jmp_zero (show St 1 by unfold St; decide)] at h
  exact h
theorem cop (q h : Nat) (hq0 : 0 < q) (hq : ∀ x, x < q + 1 → x ∣ q → x = 1 ∨ x = q) (hn : ¬ q ∣ h) : Nat.Coprime h q := by
  have h1 := Nat.gcd_dvd_right h q
  rcases hq (Nat.gcd h q) (by have := Nat.le_of_dvd hq0 h1; omega) h1 with e | e
  · exact e
  · exact absurd (e ▸ Nat.gcd_dvd_left h q) hn
theorem fold_ne (k r : Nat) (h : (pows 48271 k).foldl times 1 = r) (hr : r ≠ 1) : ¬ E k := by
  intro e
  unfold E at e
  rw [← jmp_fold 1 k (by decide), h] at e
  exact hr e
theorem not_E (g h q k : Nat) (hN : 2147483646 = g * h) (hg : E g) (hq : q ∣ h) (hq0 : 0 < q) (hk : 2147483646 = q * k) : E k := by
  obtain ⟨h', rfl⟩ := hq
  have e : k = g * h' := by
    have : q * k = q * (g * h') := by rw [← hk, hN, Nat.mul_left_comm]
    exact Nat.eq_of_mul_eq_mul_left hq0 this
  have h3 := E_mul hg 0 h'
  rw [Nat.add_zero, ← e] at h3
  unfold E
  rw [h3]
  exact jmp_zero (show St 1 by unfold St; decide)
theorem no_E (d : Nat) (h0 : 0 < d) (h1 : d < 2147483646) : ¬ E d := by
  intro hd
  have hg := E_gcd d 2147483646 hd E_N
  obtain ⟨g, hgg⟩ : ∃ g, Nat.gcd d 2147483646 = g := ⟨_, rfl⟩
  have hgN : g ∣ 2147483646 := by rw [← hgg]; exact Nat.gcd_dvd_right _ _
  have hgd : g ≤ d := by rw [← hgg]; exact Nat.le_of_dvd h0 (Nat.gcd_dvd_left _ _)
  rw [hgg] at hg
  obtain ⟨h, hh⟩ := hgN
  have h2 : ¬ 2 ∣ h := fun q => fold_ne 1073741823 2147483646 (by decide +kernel) (by decide) (not_E g h 2 _ hh hg q (by decide) (by decide))
  have h3 : ¬ 3 ∣ h := fun q => fold_ne 715827882 634005911 (by decide +kernel) (by decide) (not_E g h 3 _ hh hg q (by decide) (by decide))
  have h7 : ¬ 7 ∣ h := fun q => fold_ne 306783378 1752599774 (by decide +kernel) (by decide) (not_E g h 7 _ hh hg q (by decide) (by decide))
  have h11 : ¬ 11 ∣ h := fun q => fold_ne 195225786 219454379 (by decide +kernel) (by decide) (not_E g h 11 _ hh hg q (by decide) (by decide))
  have h31 : ¬ 31 ∣ h := fun q => fold_ne 69273666 64 (by decide +kernel) (by decide) (not_E g h 31 _ hh hg q (by decide) (by decide))
  have h151 : ¬ 151 ∣ h := fun q => fold_ne 14221746 556613938 (by decide +kernel) (by decide) (not_E g h 151 _ hh hg q (by decide) (by decide))
  have h331 : ¬ 331 ∣ h := fun q => fold_ne 6487866 1627574666 (by decide +kernel) (by decide) (not_E g h 331 _ hh hg q (by decide) (by decide))
  have c2 := cop 2 h (by decide) (by decide +kernel) h2
  have c3 := cop 3 h (by decide) (by decide +kernel) h3
  have c7 := cop 7 h (by decide) (by decide +kernel) h7
  have c11 := cop 11 h (by decide) (by decide +kernel) h11
  have c31 := cop 31 h (by decide) (by decide +kernel) h31
  have c151 := cop 151 h (by decide) (by decide +kernel) h151
  have c331 := cop 331 h (by decide) (by decide +kernel) h331
  have hc : Nat.Coprime h (2 * (3 * (3 * (7 * (11 * (31 * (151 * 331))))))) := c2.mul_right (c3.mul_right (c3.mul_right (c7.mul_right (c11.mul_right (c31.mul_right (c151.mul_right c331))))))
  have e : 2 * (3 * (3 * (7 * (11 * (31 * (151 * 331)))))) = g * h := hh
  rw [e] at hc
  have h4 : h = 1 := by
    have h5 : Nat.gcd h (g * h) = h := Nat.gcd_eq_left (Nat.dvd_mul_left h g)
    exact h5.symm.trans hc
  rw [h4, Nat.mul_one] at hh
  omega
theorem jmp_inj (i j : Nat) (hij : i < j) (hj : j < 2147483646) : jmp 1 i ≠ jmp 1 j := by
  intro e
  refine no_E (j - i) (by omega) (by omega) ?_
  have h1 := congrArg (fun s => jmp s (2147483646 - i)) e
  simp only [jmp_jmp] at h1
  rw [show i + (2147483646 - i) = 2147483646 from by omega, show j + (2147483646 - i) = 2147483646 + (j - i) from by omega, jmp_cycle] at h1
  unfold E
  rw [← h1]
  exact E_N
theorem reached (t : Nat) (ht : St t) : ∃ m, m < 2147483646 ∧ jmp 1 m = t := by
  have h1 : St 1 := by unfold St; decide
  have h := php 2147483646 (fun i => jmp 1 i - 1) (fun i _ => by
      have := jmp_St h1 i
      unfold St at this
      show jmp 1 i - 1 < _
      omega) (fun i j hi hj e => by
      have e : jmp 1 i - 1 = jmp 1 j - 1 := e
      have h2 := jmp_St h1 i
      have h3 := jmp_St h1 j
      unfold St at h2 h3
      rcases Nat.lt_trichotomy i j with h | h | h
      · exact absurd (show jmp 1 i = jmp 1 j by omega) (jmp_inj i j h hj)
      · exact h
      · exact absurd (show jmp 1 j = jmp 1 i by omega) (jmp_inj j i h hi)) (t - 1) (by unfold St at ht; omega)
  obtain ⟨m, h2, h3⟩ := h
  have h3 : jmp 1 m - 1 = t - 1 := h3
  have h4 := jmp_St h1 m
  unfold St at h4 ht
  exact ⟨m, h2, by omega⟩
end Go.Proofs.Ytcgecgagecobeaa
