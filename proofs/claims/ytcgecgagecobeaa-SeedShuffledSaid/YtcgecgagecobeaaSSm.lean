/- Shuffled lists: plain mathematics. -/
import Derived.Test.YtcgecgagecobeaaSH
namespace Go.Proofs.Ytcgecgagecobeaa
open Go.RowKit Go.Shelf

theorem getD_map (ys : List Int) (f : Int → Int) (i : Nat) (h : i < ys.length) : (ys.map f)[i]?.getD 0 = f (ys[i]?.getD 0) := by
  rw [List.getElem?_map, List.getElem?_eq_getElem h]
  rfl
theorem swp_map (ys : List Int) (f : Int → Int) (i j : Nat) (hi : i < ys.length) (hj : j < ys.length) : swp (ys.map f) i j = (swp ys i j).map f := by
  unfold swp
  rw [getD_map ys f i hi, getD_map ys f j hj, List.map_set, List.map_set]
theorem shuf_map (f : Int → Int) : ∀ (k s : Nat) (ys : List Int), k < ys.length → shuf k s (ys.map f) = ((shuf k s ys).1, (shuf k s ys).2.map f)
  | 0, _, _, _ => rfl
  | k + 1, s, ys, h => by
    have hj : (blwS s (k + 2) - 1) % (k + 2) < k + 2 := Nat.mod_lt _ (by omega)
    unfold shuf
    rw [swp_map ys f _ _ h (by omega), shuf_map f k _ _ (by rw [swp_length]; omega)]
theorem count_set (l : List Int) (i : Nat) (v a : Int) (h : i < l.length) : (l.set i v).count a + (if l[i]?.getD 0 = a then 1 else 0) = l.count a + (if v = a then 1 else 0) := by
  induction l generalizing i with
  | nil => simp at h
  | cons x l ih =>
    cases i with
    | zero =>
      simp only [List.set_cons_zero, List.count_cons, List.getElem?_cons_zero, Option.getD_some, beq_iff_eq]
      omega
    | succ i =>
      have := ih i (by simpa using h)
      simp only [List.set_cons_succ, List.count_cons, List.getElem?_cons_succ, beq_iff_eq] at *
      omega
theorem swp_count (ys : List Int) (i j : Nat) (a : Int) (hi : i < ys.length) (hj : j < ys.length) : (swp ys i j).count a = ys.count a := by
  unfold swp
  have h1 := count_set ys i (ys[j]?.getD 0) a hi
  have h2 := count_set (ys.set i (ys[j]?.getD 0)) j (ys[i]?.getD 0) a (by rw [List.length_set]; exact hj)
  have h3 : (ys.set i (ys[j]?.getD 0))[j]?.getD 0 = ys[j]?.getD 0 := by
    rw [List.getElem?_set]
    by_cases e : i = j
    · rw [if_pos e, if_pos hi]; rfl
    · rw [if_neg e]
  rw [h3] at h2
  omega
theorem shuf_count (a : Int) : ∀ (k s : Nat) (ys : List Int), k < ys.length → (shuf k s ys).2.count a = ys.count a
  | 0, _, _, _ => rfl
  | k + 1, s, ys, h => by
    have hj : (blwS s (k + 2) - 1) % (k + 2) < k + 2 := Nat.mod_lt _ (by omega)
    unfold shuf
    rw [shuf_count a k _ _ (by rw [swp_length]; omega), swp_count _ _ _ _ h (by omega)]
theorem shuf_above (m : Nat) : ∀ (k s : Nat) (ys : List Int), k < m → (shuf k s ys).2[m]? = ys[m]?
  | 0, _, _, _ => rfl
  | k + 1, s, ys, h => by
    have hj : (blwS s (k + 2) - 1) % (k + 2) < k + 2 := Nat.mod_lt _ (by omega)
    unfold shuf
    rw [shuf_above m k _ _ (by omega)]
    unfold swp
    rw [List.getElem?_set, if_neg (by omega), List.getElem?_set, if_neg (by omega)]
/-- 0, 1, .. n - 1. -/
def rngI (n : Nat) : List Int := (List.range n).map (fun (i : Nat) => (i : Int))
theorem rngI_length (n : Nat) : (rngI n).length = n := by simp [rngI]
theorem rngI_succ (n : Nat) : rngI (n + 1) = rngI n ++ [(n : Int)] := by simp [rngI, List.range_succ]
theorem rngI_count : ∀ (n : Nat) (p : Nat), (rngI n).count (p : Int) = if p < n then 1 else 0
  | 0, p => by simp [rngI]
  | n + 1, p => by
    rw [rngI_succ, List.count_append, rngI_count n p]
    by_cases h : p = n
    · subst h
      simp
    · have e : ((n : Int) == (p : Int)) = false := by simp; omega
      have e2 : [(n : Int)].count (p : Int) = 0 := by rw [List.count_cons, e]; rfl
      rw [e2]
      by_cases h2 : p < n
      · rw [if_pos h2, if_pos (show p < n + 1 by omega)]
      · rw [if_neg h2, if_neg (show ¬ p < n + 1 by omega)]
theorem rngI_mem (n : Nat) (x : Int) : x ∈ rngI n ↔ ∃ p : Nat, p < n ∧ x = p := by
  simp only [rngI, List.mem_map, List.mem_range]
  exact ⟨fun ⟨p, h1, h2⟩ => ⟨p, h1, h2.symm⟩, fun ⟨p, h1, h2⟩ => ⟨p, h1, h2.symm⟩⟩
def pickF (xs : List Int) (p : Int) : Int := xs[p.toNat]?.getD 0
theorem rngI_pick (xs : List Int) : (rngI xs.length).map (pickF xs) = xs := by
  apply List.ext_getElem?
  intro i
  rw [rngI, List.map_map, List.getElem?_map]
  by_cases h : i < xs.length
  · rw [List.getElem?_range h]
    simp [pickF, List.getElem?_eq_getElem h]
  · rw [List.getElem?_eq_none (by simpa using h), List.getElem?_eq_none (by omega)]
    rfl
/-- All that a shuffle of xs, not empty, and of its places does. -/
theorem shuf_facts (s n : Nat) (xs : List Int) (hn : xs.length = n) (h1 : 1 ≤ n) : ∃ (t : Nat) (out ord : List Int),
    shuf (n - 1) s xs = (t, out) ∧ shuf (n - 1) s (rngI n) = (t, ord) ∧ out.length = n ∧ ord.length = n ∧
    (∀ i, i < n → ∃ p : Nat, p < n ∧ ord[i]? = some (p : Int) ∧ out[i]? = xs[p]?) ∧ (∀ p : Nat, p < n → ord.count (p : Int) = 1) ∧
    (n < 2 → t = s) ∧ (2 ≤ n → out[n - 1]? = xs[(blwS s n - 1) % n]?) := by
  have hl : n - 1 < (rngI n).length := by rw [rngI_length]; omega
  have hm := shuf_map (pickF xs) (n - 1) s (rngI n) hl
  have hp := rngI_pick xs
  rw [hn] at hp
  rw [hp] at hm
  obtain ⟨t, ord, ho⟩ : ∃ t ord, shuf (n - 1) s (rngI n) = (t, ord) := ⟨_, _, rfl⟩
  have hol : ord.length = n := by have := shuf_length (n - 1) s (rngI n); rw [ho, rngI_length] at this; exact this
  have hc : ∀ a, ord.count a = (rngI n).count a := fun a => by have := shuf_count a (n - 1) s (rngI n) hl; rw [ho] at this; exact this
  rw [ho] at hm
  refine ⟨t, ord.map (pickF xs), ord, hm, ho, by rw [List.length_map, hol], hol, ?_, ?_, ?_, ?_⟩
  · intro i hi
    have hg := List.getElem?_eq_getElem (l := ord) (i := i) (by omega)
    have hmem : ord[i] ∈ rngI n := by
      rw [← List.count_pos_iff, ← hc, List.count_pos_iff]
      exact List.getElem_mem _
    obtain ⟨p, hp1, hp2⟩ := (rngI_mem n _).1 hmem
    refine ⟨p, hp1, by rw [hg, hp2], ?_⟩
    rw [List.getElem?_map, hg, hp2]
    simp [pickF, List.getElem?_eq_getElem (l := xs) (i := p) (by omega)]
  · intro p hp1
    rw [hc, rngI_count, if_pos hp1]
  · intro h2
    obtain rfl : n = 1 := by omega
    have := congrArg Prod.fst hm
    exact this.symm
  · intro h2
    obtain ⟨k, rfl⟩ : ∃ k, n = k + 2 := ⟨n - 2, by omega⟩
    have hj : (blwS s (k + 2) - 1) % (k + 2) < k + 2 := Nat.mod_lt _ (by omega)
    have h3 : (shuf (k + 2 - 1) s xs).2 = ord.map (pickF xs) := by rw [hm]
    rw [← h3]
    show (shuf k (blwS s (k + 2)) (swp xs (k + 1) ((blwS s (k + 2) - 1) % (k + 2)))).2[k + 1]? = _
    rw [shuf_above (k + 1) k _ _ (by omega)]
    obtain ⟨j, hjj⟩ : ∃ j, (blwS s (k + 2) - 1) % (k + 2) = j := ⟨_, rfl⟩
    rw [hjj] at hj ⊢
    unfold swp
    rw [List.getElem?_set]
    by_cases e : j = k + 1
    · rw [if_pos e, List.length_set, if_pos (by omega)]
      subst e
      rw [List.getElem?_eq_getElem (by omega)]
      rfl
    · rw [if_neg e, List.getElem?_set, if_pos rfl, if_pos (by omega), List.getElem?_eq_getElem (by omega)]
      rfl
/-- How often each place has come. -/
def metL (n : Nat) (l : List Int) : List Int := (List.range n).map (fun (p : Nat) => ((l.count (p : Int) : Nat) : Int))
theorem metL_at (n : Nat) (l : List Int) (p : Nat) (h : p < n) : (metL n l)[p]? = some ((l.count (p : Int) : Nat) : Int) := by
  unfold metL
  rw [List.getElem?_map, List.getElem?_range h]
  rfl
theorem metL_step (n : Nat) (l : List Int) (p : Nat) (h : p < n) : (metL n l).set p (((l.count (p : Int) : Nat) : Int) + 1) = metL n (l ++ [(p : Int)]) := by
  apply List.ext_getElem?
  intro i
  rw [List.getElem?_set]
  by_cases hi : i < n
  · rw [metL_at n _ i hi, metL_at n _ i hi, List.count_append]
    by_cases e : p = i
    · subst e
      rw [if_pos rfl, if_pos (by simp [metL]; omega)]
      simp
    · rw [if_neg e]
      have : ((p : Int) == (i : Int)) = false := by simp; omega
      simp [List.count_cons, this]
  · have e1 : (metL n l)[i]? = none := List.getElem?_eq_none (by simp [metL]; omega)
    have e2 : (metL n (l ++ [(p : Int)]))[i]? = none := List.getElem?_eq_none (by simp [metL]; omega)
    rw [if_neg (by omega), e1, e2]
theorem metL_nil (n : Nat) : metL n [] = List.replicate n 0 := by
  apply List.ext_getElem?
  intro i
  by_cases hi : i < n
  · rw [metL_at n _ i hi, List.getElem?_replicate, if_pos hi]
    rfl
  · rw [List.getElem?_eq_none (by simp [metL]; omega), List.getElem?_eq_none (by simp; omega)]
end Go.Proofs.Ytcgecgagecobeaa
