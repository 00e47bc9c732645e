/- The suits exchanged for one another: the mathematics of turned. -/
import Derived.Test.YtgndhdcnofblaaaDoorHP0
namespace Go.Proofs.YtgndhdcnofblaaaDoor
open Go.RowKit

/-- The number, the suits left, behind t rounds. -/
def nwt (y : Nat) : Nat → Nat
  | 0 => y
  | t + 1 => nwt y t / (4 - t)
def kt (y t : Nat) : Nat := nwt y t % (4 - t)
def rmt (y : Nat) : Nat → List Nat
  | 0 => [0, 1, 2, 3]
  | t + 1 => (rmt y t).eraseIdx (kt y t)
/-- The suit that the suit 3 - t becomes. -/
def tg (y t : Nat) : Nat := (rmt y t).getD (kt y t) 0
/-- The hand behind t rounds. -/
def ott (m y : Nat) : Nat → Nat
  | 0 => 0
  | t + 1 => ott m y t ||| hol m (3 - t) * 2 ^ (13 * tg y t)
theorem rmt_len0 : ∀ y : Fin 24, ∀ t : Fin 5, (rmt y.val t.val).length = 4 - t.val := by decide +kernel
theorem tg_lt0 : ∀ y : Fin 24, ∀ t : Fin 4, tg y.val t.val < 4 := by decide +kernel
theorem tg_ne0 : ∀ y : Fin 24, ∀ t u : Fin 4, t = u ∨ ¬ tg y.val t.val = tg y.val u.val := by decide +kernel
theorem nwt_le (y : Nat) : ∀ t, nwt y t ≤ y
  | 0 => Nat.le_refl _
  | t + 1 => Nat.le_trans (Nat.div_le_self _ _) (nwt_le y t)
theorem hol_or (a h p q : Nat) (hh : h < 8192) : hol (a ||| h * 2 ^ (13 * p)) q = if q = p then hol a q ||| h else hol a q := by
  have hb : ∀ i, 13 ≤ i → h.testBit i = false := fun i hi => Nat.testBit_lt_two_pow (Nat.lt_of_lt_of_le hh (Nat.pow_le_pow_right (n := 2) (by decide) hi : 2 ^ 13 ≤ 2 ^ i))
  apply Nat.eq_of_testBit_eq
  intro i
  rw [hol_bit, Nat.testBit_or, Nat.mul_comm h, Nat.testBit_two_pow_mul]
  by_cases hi : i < 13
  · by_cases e : q = p
    · subst e
      rw [if_pos rfl, Nat.testBit_or, hol_bit, decide_eq_true hi, decide_eq_true (show 13 * q ≤ 13 * q + i by omega), Nat.add_sub_cancel_left]
      simp
    · rw [if_neg e, hol_bit, decide_eq_true hi]
      by_cases h1 : 13 * p ≤ 13 * q + i
      · rw [decide_eq_true h1, hb (13 * q + i - 13 * p) (by omega)]
        simp
      · rw [decide_eq_false h1]
        simp
  · by_cases e : q = p
    · rw [if_pos e, Nat.testBit_or, hol_bit, hb i (by omega), decide_eq_false hi]
      simp
    · rw [if_neg e, hol_bit, decide_eq_false hi]
      simp
theorem ott_lt (m : Nat) (y : Fin 24) : ∀ t, t ≤ 4 → ott m y.val t < 4503599627370496
  | 0, _ => by simp [ott]
  | t + 1, h => by
    have h1 := ott_lt m y t (by omega)
    have h2 := tg_lt0 y ⟨t, by omega⟩
    have h3 := hol_lt m (3 - t)
    refine Nat.or_lt_two_pow (n := 52) h1 ?_
    have h4 : 2 ^ (13 * tg y.val t) ≤ 2 ^ 39 := Nat.pow_le_pow_right (by decide) (by simp only at h2; omega)
    calc hol m (3 - t) * 2 ^ (13 * tg y.val t) ≤ hol m (3 - t) * 2 ^ 39 := Nat.mul_le_mul_left _ h4
      _ < 2 ^ 52 := by omega
/-- What turned returns has the holdings of the suits exchanged. -/
theorem hol_ott (m : Nat) (y : Fin 24) (t : Nat) (ht : t < 4) : hol (ott m y.val 4) (tg y.val t) = hol m (3 - t) := by
  have ne : ∀ a b, (ha : a < 4) → (hb : b < 4) → a ≠ b → ¬ tg y.val a = tg y.val b := fun a b ha hb h => (tg_ne0 y ⟨a, ha⟩ ⟨b, hb⟩).resolve_left (fun e => h (congrArg Fin.val e))
  have z : ∀ q, hol 0 q = 0 := fun q => by simp [hol]
  have l := fun s => hol_lt m s
  simp only [ott, hol_or _ _ _ _ (l _), z]
  match t, ht with
  | 0, _ =>
    rw [if_neg (ne 0 3 (by decide) (by decide) (by decide)), if_neg (ne 0 2 (by decide) (by decide) (by decide)), if_neg (ne 0 1 (by decide) (by decide) (by decide)), if_pos rfl, Nat.zero_or]
  | 1, _ =>
    rw [if_neg (ne 1 3 (by decide) (by decide) (by decide)), if_neg (ne 1 2 (by decide) (by decide) (by decide)), if_pos rfl, if_neg (ne 1 0 (by decide) (by decide) (by decide)), Nat.zero_or]
  | 2, _ =>
    rw [if_neg (ne 2 3 (by decide) (by decide) (by decide)), if_pos rfl, if_neg (ne 2 1 (by decide) (by decide) (by decide)), if_neg (ne 2 0 (by decide) (by decide) (by decide)), Nat.zero_or]
  | 3, _ =>
    rw [if_pos rfl, if_neg (ne 3 2 (by decide) (by decide) (by decide)), if_neg (ne 3 1 (by decide) (by decide) (by decide)), if_neg (ne 3 0 (by decide) (by decide) (by decide)), Nat.zero_or]
/-- The four targets are the four suits. -/
theorem tg_all : ∀ y : Fin 24, ∀ s : Fin 4, s.val = tg y.val 0 ∨ s.val = tg y.val 1 ∨ s.val = tg y.val 2 ∨ s.val = tg y.val 3 := by decide +kernel
theorem tg_sum (g : Nat → Nat) (y : Fin 24) : g (tg y.val 0) + g (tg y.val 1) + g (tg y.val 2) + g (tg y.val 3) = g 0 + g 1 + g 2 + g 3 := by
  have e : ∀ y : Fin 24, (tg y.val 0, tg y.val 1, tg y.val 2, tg y.val 3) ∈ [(0,1,2,3),(0,1,3,2),(0,2,1,3),(0,2,3,1),(0,3,1,2),(0,3,2,1),(1,0,2,3),(1,0,3,2),(1,2,0,3),(1,2,3,0),(1,3,0,2),(1,3,2,0),(2,0,1,3),(2,0,3,1),(2,1,0,3),(2,1,3,0),(2,3,0,1),(2,3,1,0),(3,0,1,2),(3,0,2,1),(3,1,0,2),(3,1,2,0),(3,2,0,1),(3,2,1,0)] := by decide +kernel
  have h := e y
  simp only [List.mem_cons, Prod.mk.injEq, List.not_mem_nil, or_false] at h
  rcases h with ⟨h0, h1, h2, h3⟩ | ⟨h0, h1, h2, h3⟩ | ⟨h0, h1, h2, h3⟩ | ⟨h0, h1, h2, h3⟩ | ⟨h0, h1, h2, h3⟩ | ⟨h0, h1, h2, h3⟩ | ⟨h0, h1, h2, h3⟩ | ⟨h0, h1, h2, h3⟩ | ⟨h0, h1, h2, h3⟩ | ⟨h0, h1, h2, h3⟩ | ⟨h0, h1, h2, h3⟩ | ⟨h0, h1, h2, h3⟩ | ⟨h0, h1, h2, h3⟩ | ⟨h0, h1, h2, h3⟩ | ⟨h0, h1, h2, h3⟩ | ⟨h0, h1, h2, h3⟩ | ⟨h0, h1, h2, h3⟩ | ⟨h0, h1, h2, h3⟩ | ⟨h0, h1, h2, h3⟩ | ⟨h0, h1, h2, h3⟩ | ⟨h0, h1, h2, h3⟩ | ⟨h0, h1, h2, h3⟩ | ⟨h0, h1, h2, h3⟩ | ⟨h0, h1, h2, h3⟩ <;> rw [h0, h1, h2, h3] <;> omega
theorem tot_ott (g : Nat → Nat) (m : Nat) (y : Fin 24) : tot g (ott m y.val 4) = tot g m := by
  have h := tg_sum (fun s => g (hol (ott m y.val 4) s)) y
  have e0 := hol_ott m y 0 (by decide)
  have e1 := hol_ott m y 1 (by decide)
  have e2 := hol_ott m y 2 (by decide)
  have e3 := hol_ott m y 3 (by decide)
  simp only [Nat.reduceSub] at e0 e1 e2 e3
  simp only [e0, e1, e2, e3] at h
  unfold tot
  omega
theorem cnt_tot (m : Nat) : cnt m = tot len m := rfl
end Go.Proofs.YtgndhdcnofblaaaDoor
