/- Numbers and their decimal digits: what is read back, and their order (plain mathematics). -/
import Derived.Test.YtjhocgeoangbdaaNM
namespace Go.Proofs.Ytjhocgeoangbdaa
open Go.RowKit Go.Shelf Go.Sort

theorem dec_facts : ∀ n : Nat, isN n → decD n ≠ [] ∧ (decD n).all digB = true ∧ valL (decD n) = n ∧ (n ≠ 0 → (decD n).head? ≠ some 48) ∧ n < 10 ^ (decD n).length ∧ (10 ≤ n → 10 ^ ((decD n).length - 1) ≤ n ∧ 2 ≤ (decD n).length) := by
  intro n
  induction n using Nat.strongRecOn with
  | ind n ih =>
    intro hn
    by_cases h : n < 10
    · rw [decD_low n h]
      have hd := dig_nat h
      refine ⟨by simp, ?_, ?_, ?_, ?_, fun h10 => by omega⟩
      · simp [digB, hd]; omega
      · simp [valL, hd]
      · intro h0 he
        simp only [List.head?_cons, Option.some.injEq] at he
        have : (dig n).toNat = 48 := by rw [he]; rfl
        omega
      · simpa using h
    · have hlt : n / 10 < n := by omega
      have hn' : isN (n / 10) := by unfold isN at hn ⊢; omega
      obtain ⟨h1, h2, h3, h4, h5, h6⟩ := ih (n / 10) hlt hn'
      rw [decD_step n hn h]
      have hd := dig_nat (Nat.mod_lt n (show 10 > 0 by decide))
      have hlen : 1 ≤ (decD (n / 10)).length := by
        cases hc : decD (n / 10) with
        | nil => exact absurd hc h1
        | cons => simp
      refine ⟨by simp, ?_, ?_, ?_, ?_, ?_⟩
      · simp only [List.all_append, h2, Bool.true_and, List.all_cons, List.all_nil, Bool.and_true, digB, hd, Bool.and_eq_true, decide_eq_true_eq]
        omega
      · rw [valL_snoc, h3, hd]; omega
      · intro _
        have hne : n / 10 ≠ 0 := by omega
        cases hc : decD (n / 10) with
        | nil => exact absurd hc h1
        | cons x l => have := h4 hne; rw [hc] at this; simpa using this
      · simp only [List.length_append, List.length_singleton, Nat.pow_succ]
        omega
      · intro _
        simp only [List.length_append, List.length_singleton, Nat.add_sub_cancel]
        refine ⟨?_, by omega⟩
        by_cases h10 : 10 ≤ n / 10
        · have := (h6 h10).1
          have e : (decD (n / 10)).length = (decD (n / 10)).length - 1 + 1 := by omega
          rw [e, Nat.pow_succ]
          omega
        · rw [decD_low (n / 10) (by omega)]
          simp only [List.length_singleton, Nat.pow_one]
          omega
theorem dec_read (n : Nat) (hn : isN n) : readR (decD n) = n ∧ readE (decD n) = 0 := by
  obtain ⟨h1, h2, h3, h4, _, _⟩ := dec_facts n hn
  have hb : decB (decD n) = true := by
    unfold decB
    rw [h2]
    simp only [Bool.and_true, Bool.and_eq_true, Bool.not_eq_true', List.isEmpty_eq_false_iff, ne_eq, h1, not_false_eq_true, true_and, Bool.and_eq_false_imp, decide_eq_true_eq]
    by_cases h0 : n = 0
    · subst h0
      intro _
      decide
    · intro hh
      exact absurd hh (h4 h0)
  have hv : isN (valL (decD n)) := by rw [h3]; exact hn
  unfold readR readE
  rw [if_pos ⟨hb, hv⟩, if_pos hb, if_pos hv, h3]
  exact ⟨rfl, rfl⟩
theorem dec_longer (a b : Nat) (ha : isN a) (hb : isN b) (h : (decD a).length < (decD b).length) : a < b := by
  obtain ⟨h1, _, _, _, h5, _⟩ := dec_facts a ha
  obtain ⟨_, _, _, _, _, h6⟩ := dec_facts b hb
  have hlen : 1 ≤ (decD a).length := by
    cases hc : decD a with
    | nil => exact absurd hc h1
    | cons => simp
  by_cases h10 : 10 ≤ b
  · have h7 := (h6 h10).1
    exact Nat.lt_of_lt_of_le h5 (Nat.le_trans (Nat.pow_le_pow_right (by decide) (by omega)) h7)
  · rw [decD_low b (by omega)] at h
    simp only [List.length_singleton] at h
    omega
def foldV (n : Nat) (l : List UInt8) : Nat := l.foldl (fun n c => n * 10 + (c.toNat - 48)) n
theorem foldV_cons (n : Nat) (a : UInt8) (x : List UInt8) : foldV n (a :: x) = foldV (n * 10 + (a.toNat - 48)) x := by unfold foldV; rw [List.foldl_cons]
theorem foldV_lt : ∀ (x y : List UInt8) (m n : Nat), x.length = y.length → x.all digB = true → y.all digB = true → m < n → foldV m x < foldV n y := by
  intro x
  induction x with
  | nil =>
    intro y m n hl _ _ h
    cases y with
    | nil => exact h
    | cons => simp at hl
  | cons a x ih =>
    intro y m n hl hx hy h
    cases y with
    | nil => simp at hl
    | cons b y =>
      simp only [List.all_cons, Bool.and_eq_true, digB, decide_eq_true_eq] at hx hy
      rw [foldV_cons, foldV_cons]
      exact ih y _ _ (by simpa using hl) hx.2 hy.2 (by omega)
theorem foldV_less : ∀ (x y : List UInt8) (n : Nat), x.length = y.length → x.all digB = true → y.all digB = true → Op.bytesLess x y = decide (foldV n x < foldV n y)
  | [], [], n, _, _, _ => by simp [Op.bytesLess, foldV]
  | [], _ :: _, _, hl, _, _ => by simp at hl
  | _ :: _, [], _, hl, _, _ => by simp at hl
  | a :: x, b :: y, n, hl, hx, hy => by
    simp only [List.all_cons, Bool.and_eq_true, digB, decide_eq_true_eq] at hx hy
    have hl' : x.length = y.length := by simpa using hl
    rw [Op.bytesLess, foldV_cons, foldV_cons]
    by_cases h1 : a < b
    · have h1' : a.toNat < b.toNat := h1
      have := foldV_lt x y (n * 10 + (a.toNat - 48)) (n * 10 + (b.toNat - 48)) hl' hx.2 hy.2 (by omega)
      rw [decide_eq_true this]
      simp [h1]
    · by_cases h2 : a = b
      · subst h2
        rw [← foldV_less x y (n * 10 + (a.toNat - 48)) hl' hx.2 hy.2]
        simp
      · have h1' : ¬ a.toNat < b.toNat := h1
        have h2' : a.toNat ≠ b.toNat := fun h => h2 (UInt8.toNat_inj.1 h)
        have := foldV_lt y x (n * 10 + (b.toNat - 48)) (n * 10 + (a.toNat - 48)) hl'.symm hy.2 hx.2 (by omega)
        rw [decide_eq_false (Nat.lt_asymm this)]
        simp [h1, h2]
theorem dec_less (a b : Nat) (ha : isN a) (hb : isN b) (h : (decD a).length = (decD b).length) : Op.bytesLess (decD a) (decD b) = decide (a < b) := by
  obtain ⟨_, a2, a3, _, _, _⟩ := dec_facts a ha
  obtain ⟨_, b2, b3, _, _, _⟩ := dec_facts b hb
  rw [foldV_less _ _ 0 h a2 b2]
  show decide (valL (decD a) < valL (decD b)) = _
  rw [a3, b3]
theorem dec_same (a b : Nat) (ha : isN a) (hb : isN b) (h : decD a = decD b) : a = b := by
  rw [← (dec_facts a ha).2.2.1, h, (dec_facts b hb).2.2.1]
/-- the order that NatBack reads from two texts -/
theorem dec_order (a b : Nat) (ha : isN a) (hb : isN b) :
    (if (decD a).length ≠ (decD b).length then (if (decD a).length < (decD b).length then (-1 : Int) else 1) else if Op.bytesLess (decD a) (decD b) then -1 else if Op.bytesLess (decD b) (decD a) then 1 else 0) = cmpN a b := by
  unfold cmpN
  by_cases hl : (decD a).length = (decD b).length
  · rw [if_neg (by simpa using hl), dec_less a b ha hb hl, dec_less b a hb ha hl.symm]
    simp only [decide_eq_true_eq]
  · rw [if_pos hl]
    by_cases hlt : (decD a).length < (decD b).length
    · rw [if_pos hlt, if_pos (dec_longer a b ha hb hlt)]
    · rw [if_neg hlt]
      have := dec_longer b a hb ha (by omega)
      rw [if_neg (by omega), if_pos this]
end Go.Proofs.Ytjhocgeoangbdaa
