/- A deal made of numbers: the mathematics of Dealt. -/
import Derived.Test.YtgndhdcnofblaaaDoorHQ0
namespace Go.Proofs.YtgndhdcnofblaaaDoor
open Go.RowKit

/-- An order of the cards: no card twice. -/
structure Ord (f : Nat → Nat) : Prop where
  lt : ∀ j, j < 52 → f j < 52
  inj : ∀ i j, i < 52 → j < 52 → f i = f j → i = j
def xch (f : Nat → Nat) (i k : Nat) : Nat → Nat := fun j => if j = k then f i else if j = i then f k else f j
theorem Ord.id : Ord fun j => j := ⟨fun _ h => h, fun _ _ _ _ h => h⟩
theorem Ord.xch {f : Nat → Nat} (h : Ord f) {i k : Nat} (hi : i < 52) (hk : k < 52) : Ord (xch f i k) := by
  refine ⟨fun j hj => ?_, fun a b ha hb e => ?_⟩
  · unfold Go.Proofs.YtgndhdcnofblaaaDoor.xch
    split
    · exact h.lt i hi
    · split
      · exact h.lt k hk
      · exact h.lt j hj
  · have q := fun x y (hx : x < 52) (hy : y < 52) => h.inj x y hx hy
    unfold Go.Proofs.YtgndhdcnofblaaaDoor.xch at e
    by_cases a1 : a = k <;> by_cases b1 : b = k
    · omega
    · rw [if_pos a1, if_neg b1] at e
      by_cases b2 : b = i
      · rw [if_pos b2] at e; have := q _ _ hi hk e; omega
      · rw [if_neg b2] at e; have := q _ _ hi hb e; omega
    · rw [if_neg a1, if_pos b1] at e
      by_cases a2 : a = i
      · rw [if_pos a2] at e; have := q _ _ hk hi e; omega
      · rw [if_neg a2] at e; have := q _ _ ha hi e; omega
    · rw [if_neg a1, if_neg b1] at e
      by_cases a2 : a = i <;> by_cases b2 : b = i
      · omega
      · rw [if_pos a2, if_neg b2] at e; have := q _ _ hk hb e; omega
      · rw [if_neg a2, if_pos b2] at e; have := q _ _ ha hk e; omega
      · rw [if_neg a2, if_neg b2] at e; exact q _ _ ha hb e
/-- The hand q, behind i cards. -/
def dl (f : Nat → Nat) (q : Nat) : Nat → Nat
  | 0 => 0
  | i + 1 => if i / 13 = q then dl f q i ||| 2 ^ f i else dl f q i
theorem dl_succ (f : Nat → Nat) (q i : Nat) : dl f q (i + 1) = if i / 13 = q then dl f q i ||| 2 ^ f i else dl f q i := rfl
theorem dl_bit (f : Nat → Nat) (q c : Nat) : ∀ i, (dl f q i).testBit c = true ↔ ∃ j, j < i ∧ j / 13 = q ∧ f j = c
  | 0 => by simp [dl]
  | i + 1 => by
    have ih := dl_bit f q c i
    unfold dl
    by_cases h : i / 13 = q
    · rw [if_pos h, Nat.testBit_or, Bool.or_eq_true, ih, Nat.testBit_two_pow, decide_eq_true_eq]
      constructor
      · rintro (⟨j, h1, h2, h3⟩ | h1)
        · exact ⟨j, by omega, h2, h3⟩
        · exact ⟨i, by omega, h, h1⟩
      · rintro ⟨j, h1, h2, h3⟩
        by_cases e : j = i
        · subst e; exact .inr h3
        · exact .inl ⟨j, by omega, h2, h3⟩
    · rw [if_neg h, ih]
      constructor
      · rintro ⟨j, h1, h2, h3⟩; exact ⟨j, by omega, h2, h3⟩
      · rintro ⟨j, h1, h2, h3⟩
        by_cases e : j = i
        · subst e; exact absurd h2 h
        · exact ⟨j, by omega, h2, h3⟩
theorem dl_lt {f : Nat → Nat} (h : Ord f) (q : Nat) : ∀ i, i ≤ 52 → dl f q i < 4503599627370496
  | 0, _ => by simp [dl]
  | i + 1, hi => by
    have ih := dl_lt h q i (by omega)
    unfold dl
    split
    · exact Nat.or_lt_two_pow (n := 52) ih (Nat.pow_lt_pow_right (by decide) (h.lt i (by omega)))
    · exact ih
theorem clr_same {a c : Nat} (ha : a < 4503599627370496) (hc : c < 52) (h : a.testBit c = false) : clr a c = a := by
  apply Nat.eq_of_testBit_eq
  intro i
  rw [clr_bit (by omega) (by omega)]
  by_cases e : i = c
  · subst e; rw [h]; rfl
  · simp [e]
theorem cnt_more {a c : Nat} (ha : a < 4503599627370496) (hc : c < 52) (h : a.testBit c = false) : cnt (a ||| 2 ^ c) = cnt a + 1 := by
  have om := one_more (hol (clr a c) (c / 13)) (c % 13) (Nat.mod_lt _ (by decide)) (clr_bit0 a c ha hc)
  rw [← hol_mine ha hc] at om
  have t := tot_more len ha hc 1 om.2.2.1
  unfold mor at t
  rw [clr_same ha hc h] at t
  exact t
theorem cnt_zero : cnt 0 = 0 := by decide
theorem dl_cnt {f : Nat → Nat} (h : Ord f) (q : Nat) : ∀ i, i ≤ 52 → cnt (dl f q i) = min (i - 13 * q) 13
  | 0, _ => by rw [show dl f q 0 = 0 from rfl, cnt_zero]; omega
  | i + 1, hi => by
    have ih := dl_cnt h q i (by omega)
    unfold dl
    by_cases e : i / 13 = q
    · rw [if_pos e, cnt_more (dl_lt h q i (by omega)) (h.lt i (by omega)), ih]
      · omega
      · rw [Bool.eq_false_iff]
        intro hb
        obtain ⟨j, h1, _, h3⟩ := (dl_bit f q _ i).1 hb
        have := h.inj j i (by omega) (by omega) h3
        omega
    · rw [if_neg e, ih]
      omega
/-- No card lies in two hands. -/
theorem dl_once {f : Nat → Nat} (h : Ord f) (c : Nat) : bt (dl f 0 52) c + bt (dl f 1 52) c + bt (dl f 2 52) c + bt (dl f 3 52) c ≤ 1 := by
  have key : ∀ p q, p ≠ q → ¬ ((dl f p 52).testBit c = true ∧ (dl f q 52).testBit c = true) := fun p q hpq hb => by
    obtain ⟨i, a1, a2, a3⟩ := (dl_bit f p c 52).1 hb.1
    obtain ⟨j, b1, b2, b3⟩ := (dl_bit f q c 52).1 hb.2
    have := h.inj i j a1 b1 (a3.trans b3.symm)
    subst this
    omega
  unfold bt
  simp only [← Nat.toNat_testBit]
  have k01 := key 0 1 (by decide)
  have k02 := key 0 2 (by decide)
  have k03 := key 0 3 (by decide)
  have k12 := key 1 2 (by decide)
  have k13 := key 1 3 (by decide)
  have k23 := key 2 3 (by decide)
  cases e0 : (dl f 0 52).testBit c <;> cases e1 : (dl f 1 52).testBit c <;> cases e2 : (dl f 2 52).testBit c <;> cases e3 : (dl f 3 52).testBit c <;> simp_all
end Go.Proofs.YtgndhdcnofblaaaDoor
