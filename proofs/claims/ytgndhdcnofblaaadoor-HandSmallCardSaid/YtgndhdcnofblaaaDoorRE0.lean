/- The reference's counting: the mathematics of Pattern and Suits. -/
import Derived.Test.YtgndhdcnofblaaaDoorRD
import Derived.Test.YtgndhdcnofblaaaDoorHV0
namespace Go.Proofs.YtgndhdcnofblaaaDoor
open Go.RowKit

/-- How many of four values reach t. -/
def gt (L : Nat → Nat) (t : Nat) : Nat := (if t ≤ L 0 then 1 else 0) + (if t ≤ L 1 then 1 else 0) + (if t ≤ L 2 then 1 else 0) + (if t ≤ L 3 then 1 else 0)
/-- How many of the first s are n. -/
def ecn (L : Nat → Nat) (n : Nat) : Nat → Nat
  | 0 => 0
  | s + 1 => ecn L n s + if L s = n then 1 else 0
theorem gt_step (L : Nat → Nat) (n : Nat) : gt L (n + 1) + ecn L n 4 = gt L n := by
  unfold gt
  simp only [ecn]
  have k : ∀ x, (if n + 1 ≤ x then 1 else 0) + (if x = n then 1 else 0) = (if n ≤ x then 1 else 0 : Nat) := fun x => by
    by_cases h : x = n
    · subst h; simp
    · by_cases h2 : n ≤ x
      · rw [if_pos h2, if_neg h, if_pos (by omega)]
      · rw [if_neg h2, if_neg h, if_neg (by omega)]
  rw [← k (L 0), ← k (L 1), ← k (L 2), ← k (L 3)]
  omega
theorem gt_top (L : Nat → Nat) (t : Nat) (h : ∀ s, s < 4 → L s < t) : gt L t = 0 := by
  have h0 := h 0 (by decide)
  have h1 := h 1 (by decide)
  have h2 := h 2 (by decide)
  have h3 := h 3 (by decide)
  unfold gt
  rw [if_neg (by omega), if_neg (by omega), if_neg (by omega), if_neg (by omega)]
theorem gt_zero (L : Nat → Nat) : gt L 0 = 4 := by
  unfold gt
  rw [if_pos (Nat.zero_le _), if_pos (Nat.zero_le _), if_pos (Nat.zero_le _), if_pos (Nat.zero_le _)]
theorem ecn_lt (L : Nat → Nat) (n s : Nat) (hs : s < 4) (h : L s = n) : ecn L n s < ecn L n 4 := by
  have z : (if L s = n then 1 else 0 : Nat) = 1 := if_pos h
  match s, hs with
  | 0, _ => simp only [ecn] at *; omega
  | 1, _ => simp only [ecn] at *; omega
  | 2, _ => simp only [ecn] at *; omega
  | 3, _ => simp only [ecn] at *; omega
theorem iv (t x : Nat) : (t ≤ x ∧ (if t ≤ x then 1 else 0 : Nat) = 1) ∨ (x < t ∧ (if t ≤ x then 1 else 0 : Nat) = 0) := by
  by_cases h : t ≤ x
  · exact Or.inl ⟨h, if_pos h⟩
  · exact Or.inr ⟨by omega, if_neg h⟩
theorem pick4 (x : Nat → Nat) (n k : Nat) (h1 : x 1 ≤ x 0) (h2 : x 2 ≤ x 1) (h3 : x 3 ≤ x 2) (lo : gt x (n + 1) ≤ k) (hi : k < gt x n) : k < 4 ∧ x k = n := by
  unfold gt at lo hi
  have a0 := iv n (x 0)
  have a1 := iv n (x 1)
  have a2 := iv n (x 2)
  have a3 := iv n (x 3)
  have b0 := iv (n + 1) (x 0)
  have b1 := iv (n + 1) (x 1)
  have b2 := iv (n + 1) (x 2)
  have b3 := iv (n + 1) (x 3)
  generalize (if n ≤ x 0 then 1 else 0 : Nat) = p0 at *
  generalize (if n ≤ x 1 then 1 else 0 : Nat) = p1 at *
  generalize (if n ≤ x 2 then 1 else 0 : Nat) = p2 at *
  generalize (if n ≤ x 3 then 1 else 0 : Nat) = p3 at *
  generalize (if n + 1 ≤ x 0 then 1 else 0 : Nat) = q0 at *
  generalize (if n + 1 ≤ x 1 then 1 else 0 : Nat) = q1 at *
  generalize (if n + 1 ≤ x 2 then 1 else 0 : Nat) = q2 at *
  generalize (if n + 1 ≤ x 3 then 1 else 0 : Nat) = q3 at *
  match k with
  | 0 => omega
  | 1 => omega
  | 2 => omega
  | 3 => omega
  | k + 4 => omega
theorem sum_perm2 {l : Fin 4 → Nat} {a b c d : Fin 4} (k1 : 4 * l b + b.val < 4 * l a + a.val) (k2 : 4 * l c + c.val < 4 * l b + b.val) (k3 : 4 * l d + d.val < 4 * l c + c.val) (g : Fin 4 → Nat) :
    g a + g b + g c + g d = g 0 + g 1 + g 2 + g 3 := by
  rcases perm4 a b c d with (h | h | h | h | h | h) | h
  · subst h; omega
  · subst h; omega
  · subst h; omega
  · subst h; omega
  · subst h; omega
  · subst h; omega
  · simp only [List.mem_cons, Prod.mk.injEq, List.not_mem_nil, or_false] at h
    rcases h with ⟨h0, h1, h2, h3⟩ | ⟨h0, h1, h2, h3⟩ | ⟨h0, h1, h2, h3⟩ | ⟨h0, h1, h2, h3⟩ | ⟨h0, h1, h2, h3⟩ | ⟨h0, h1, h2, h3⟩ | ⟨h0, h1, h2, h3⟩ | ⟨h0, h1, h2, h3⟩ | ⟨h0, h1, h2, h3⟩ | ⟨h0, h1, h2, h3⟩ | ⟨h0, h1, h2, h3⟩ | ⟨h0, h1, h2, h3⟩ | ⟨h0, h1, h2, h3⟩ | ⟨h0, h1, h2, h3⟩ | ⟨h0, h1, h2, h3⟩ | ⟨h0, h1, h2, h3⟩ | ⟨h0, h1, h2, h3⟩ | ⟨h0, h1, h2, h3⟩ | ⟨h0, h1, h2, h3⟩ | ⟨h0, h1, h2, h3⟩ | ⟨h0, h1, h2, h3⟩ | ⟨h0, h1, h2, h3⟩ | ⟨h0, h1, h2, h3⟩ | ⟨h0, h1, h2, h3⟩ <;> rw [h0, h1, h2, h3] <;> omega
theorem gt_at4 {K : Nat → Nat} {l : Fin 4 → Nat} {a b c d : Fin 4} (k1 : 4 * l b + b.val < 4 * l a + a.val) (k2 : 4 * l c + c.val < 4 * l b + b.val) (k3 : 4 * l d + d.val < 4 * l c + c.val) (t : Nat) :
    gt (fun i => K (at4 a b c d i)) t = gt K t :=
  sum_perm2 k1 k2 k3 fun i => if t ≤ K i.val then 1 else 0
/-- The pattern's k-th length. -/
theorem pat_pick {L : Nat → Nat} {a b c d : Fin 4} (k1 : 4 * L b.val + b.val < 4 * L a.val + a.val) (k2 : 4 * L c.val + c.val < 4 * L b.val + b.val) (k3 : 4 * L d.val + d.val < 4 * L c.val + c.val)
    (n s : Nat) (hs : s < 4) (h : L s = n) : gt L (n + 1) + ecn L n s < 4 ∧ L (at4 a b c d (gt L (n + 1) + ecn L n s)) = n := by
  have g := gt_at4 (K := L) (l := fun i => L i.val) k1 k2 k3
  have st := gt_step L n
  have el := ecn_lt L n s hs h
  refine pick4 (fun i => L (at4 a b c d i)) n _ ?_ ?_ ?_ ?_ ?_
  · show L b.val ≤ L a.val; omega
  · show L c.val ≤ L b.val; omega
  · show L d.val ≤ L c.val; omega
  · rw [g]; omega
  · rw [g]; omega
/-- The suits' k-th. -/
theorem gt_key (L : Nat → Nat) (n s : Nat) (hs : s < 4) : gt (fun i => 4 * L i + i) (4 * n + s) = gt (fun i => 4 * L i + i) (4 * n + s + 1) + if L s = n then 1 else 0 := by
  rw [← gt_step (fun i => 4 * L i + i) (4 * n + s)]
  congr 1
  simp only [ecn]
  match s, hs with
  | 0, _ =>
    rw [if_neg (by omega : ¬ 4 * L 1 + 1 = 4 * n + 0), if_neg (by omega : ¬ 4 * L 2 + 2 = 4 * n + 0), if_neg (by omega : ¬ 4 * L 3 + 3 = 4 * n + 0)]
    by_cases h : L 0 = n
    · rw [if_pos h, if_pos (by omega)]
    · rw [if_neg h, if_neg (by omega)]
  | 1, _ =>
    rw [if_neg (by omega : ¬ 4 * L 0 + 0 = 4 * n + 1), if_neg (by omega : ¬ 4 * L 2 + 2 = 4 * n + 1), if_neg (by omega : ¬ 4 * L 3 + 3 = 4 * n + 1)]
    by_cases h : L 1 = n
    · rw [if_pos h, if_pos (by omega)]
    · rw [if_neg h, if_neg (by omega)]
  | 2, _ =>
    rw [if_neg (by omega : ¬ 4 * L 0 + 0 = 4 * n + 2), if_neg (by omega : ¬ 4 * L 1 + 1 = 4 * n + 2), if_neg (by omega : ¬ 4 * L 3 + 3 = 4 * n + 2)]
    by_cases h : L 2 = n
    · rw [if_pos h, if_pos (by omega)]
    · rw [if_neg h, if_neg (by omega)]
  | 3, _ =>
    rw [if_neg (by omega : ¬ 4 * L 0 + 0 = 4 * n + 3), if_neg (by omega : ¬ 4 * L 1 + 1 = 4 * n + 3), if_neg (by omega : ¬ 4 * L 2 + 2 = 4 * n + 3)]
    by_cases h : L 3 = n
    · rw [if_pos h, if_pos (by omega)]
    · rw [if_neg h, if_neg (by omega)]
theorem sui_pick {L : Nat → Nat} {a b c d : Fin 4} (k1 : 4 * L b.val + b.val < 4 * L a.val + a.val) (k2 : 4 * L c.val + c.val < 4 * L b.val + b.val) (k3 : 4 * L d.val + d.val < 4 * L c.val + c.val)
    (n s : Nat) (hs : s < 4) (h : L s = n) : gt (fun i => 4 * L i + i) (4 * n + s + 1) < 4 ∧ at4 a b c d (gt (fun i => 4 * L i + i) (4 * n + s + 1)) = s := by
  have g := gt_at4 (K := fun i => 4 * L i + i) (l := fun i => L i.val) k1 k2 k3
  have st := gt_key L n s hs
  rw [if_pos h] at st
  have p := pick4 (fun i => 4 * L (at4 a b c d i) + at4 a b c d i) (4 * n + s) (gt (fun i => 4 * L i + i) (4 * n + s + 1)) (by show 4 * L b.val + b.val ≤ 4 * L a.val + a.val; omega) (by show 4 * L c.val + c.val ≤ 4 * L b.val + b.val; omega) (by show 4 * L d.val + d.val ≤ 4 * L c.val + c.val; omega) (by rw [g (4 * n + s + 1)]; exact Nat.le_refl _) (by rw [g (4 * n + s)]; omega)
  refine ⟨p.1, ?_⟩
  have := p.2
  have h4 := at4_lt a b c d (gt (fun i => 4 * L i + i) (4 * n + s + 1))
  omega
theorem txt_ne (n : Nat → Nat) : ∀ i, 0 < i → txt n i ≠ []
  | 0, h => absurd h (by decide)
  | i + 1, _ => by
    unfold txt dig
    simp
theorem txt_1 (n : Nat → Nat) : txt n 1 = dig (n 0) := by simp [txt]
theorem txt_s (n : Nat → Nat) (i : Nat) (h : 0 < i) : txt n (i + 1) = txt n i ++ [45] ++ dig (n i) := by
  show txt n i ++ (if 0 < i then [45] else []) ++ dig (n i) = _
  rw [if_pos h]
end Go.Proofs.YtgndhdcnofblaaaDoor
