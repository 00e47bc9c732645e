/- Suits exchanged: the pattern stays; the suits of both hands are met one by one. -/
import Derived.Test.YtgndhdcnofblaaaDoorHU0
import Derived.Test.YtgndhdcnofblaaaDoorHR0
namespace Go.Proofs.YtgndhdcnofblaaaDoor
open Go.RowKit

/-- Two decreasing lists with the same sums of every function are equal. -/
theorem dec_eq (x0 x1 x2 x3 y0 y1 y2 y3 : Nat) (h1 : x1 ≤ x0) (h2 : x2 ≤ x1) (h3 : x3 ≤ x2) (k1 : y1 ≤ y0) (k2 : y2 ≤ y1) (k3 : y3 ≤ y2)
    (h : ∀ f : Nat → Nat, f x0 + f x1 + f x2 + f x3 = f y0 + f y1 + f y2 + f y3) : x0 = y0 ∧ x1 = y1 ∧ x2 = y2 ∧ x3 = y3 := by
  have z0 : x0 = y0 := by
    have a := h fun n => if x0 ≤ n then 1 else 0
    have b := h fun n => if y0 ≤ n then 1 else 0
    by_cases c : x0 < y0
    · rw [if_neg (by omega : ¬ y0 ≤ x0), if_neg (by omega : ¬ y0 ≤ x1), if_neg (by omega : ¬ y0 ≤ x2), if_neg (by omega : ¬ y0 ≤ x3), if_pos (Nat.le_refl y0)] at b
      omega
    · by_cases d : y0 < x0
      · rw [if_neg (by omega : ¬ x0 ≤ y0), if_neg (by omega : ¬ x0 ≤ y1), if_neg (by omega : ¬ x0 ≤ y2), if_neg (by omega : ¬ x0 ≤ y3), if_pos (Nat.le_refl x0)] at a
        omega
      · omega
  subst z0
  have h' : ∀ f : Nat → Nat, f x1 + f x2 + f x3 = f y1 + f y2 + f y3 := fun f => by have := h f; omega
  have z1 : x1 = y1 := by
    have a := h' fun n => if x1 ≤ n then 1 else 0
    have b := h' fun n => if y1 ≤ n then 1 else 0
    by_cases c : x1 < y1
    · rw [if_neg (by omega : ¬ y1 ≤ x1), if_neg (by omega : ¬ y1 ≤ x2), if_neg (by omega : ¬ y1 ≤ x3), if_pos (Nat.le_refl y1)] at b
      omega
    · by_cases d : y1 < x1
      · rw [if_neg (by omega : ¬ x1 ≤ y1), if_neg (by omega : ¬ x1 ≤ y2), if_neg (by omega : ¬ x1 ≤ y3), if_pos (Nat.le_refl x1)] at a
        omega
      · omega
  subst z1
  have h'' : ∀ f : Nat → Nat, f x2 + f x3 = f y2 + f y3 := fun f => by have := h' f; omega
  have z2 : x2 = y2 := by
    have a := h'' fun n => if x2 ≤ n then 1 else 0
    have b := h'' fun n => if y2 ≤ n then 1 else 0
    by_cases c : x2 < y2
    · rw [if_neg (by omega : ¬ y2 ≤ x2), if_neg (by omega : ¬ y2 ≤ x3), if_pos (Nat.le_refl y2)] at b
      omega
    · by_cases d : y2 < x2
      · rw [if_neg (by omega : ¬ x2 ≤ y2), if_neg (by omega : ¬ x2 ≤ y3), if_pos (Nat.le_refl x2)] at a
        omega
      · omega
  subst z2
  have := h'' fun n => n
  exact ⟨rfl, rfl, rfl, by omega⟩
theorem perm4 : ∀ a b c d : Fin 4, (a = b ∨ a = c ∨ a = d ∨ b = c ∨ b = d ∨ c = d) ∨ (a, b, c, d) ∈ [(0,1,2,3),(0,1,3,2),(0,2,1,3),(0,2,3,1),(0,3,1,2),(0,3,2,1),(1,0,2,3),(1,0,3,2),(1,2,0,3),(1,2,3,0),(1,3,0,2),(1,3,2,0),(2,0,1,3),(2,0,3,1),(2,1,0,3),(2,1,3,0),(2,3,0,1),(2,3,1,0),(3,0,1,2),(3,0,2,1),(3,1,0,2),(3,1,2,0),(3,2,0,1),(3,2,1,0)] := by decide +kernel
theorem sum_perm {l : Fin 4 → Nat} {a b c d : Fin 4} (k1 : 4 * l b + b.val < 4 * l a + a.val) (k2 : 4 * l c + c.val < 4 * l b + b.val) (k3 : 4 * l d + d.val < 4 * l c + c.val) (f : Nat → Nat) :
    f (l a) + f (l b) + f (l c) + f (l d) = f (l 0) + f (l 1) + f (l 2) + f (l 3) := by
  rcases perm4 a b c d with (h | h | h | h | h | h) | h
  · subst h; omega
  · subst h; omega
  · subst h; omega
  · subst h; omega
  · subst h; omega
  · subst h; omega
  · simp only [List.mem_cons, Prod.mk.injEq, List.not_mem_nil, or_false] at h
    rcases h with ⟨h0, h1, h2, h3⟩ | ⟨h0, h1, h2, h3⟩ | ⟨h0, h1, h2, h3⟩ | ⟨h0, h1, h2, h3⟩ | ⟨h0, h1, h2, h3⟩ | ⟨h0, h1, h2, h3⟩ | ⟨h0, h1, h2, h3⟩ | ⟨h0, h1, h2, h3⟩ | ⟨h0, h1, h2, h3⟩ | ⟨h0, h1, h2, h3⟩ | ⟨h0, h1, h2, h3⟩ | ⟨h0, h1, h2, h3⟩ | ⟨h0, h1, h2, h3⟩ | ⟨h0, h1, h2, h3⟩ | ⟨h0, h1, h2, h3⟩ | ⟨h0, h1, h2, h3⟩ | ⟨h0, h1, h2, h3⟩ | ⟨h0, h1, h2, h3⟩ | ⟨h0, h1, h2, h3⟩ | ⟨h0, h1, h2, h3⟩ | ⟨h0, h1, h2, h3⟩ | ⟨h0, h1, h2, h3⟩ | ⟨h0, h1, h2, h3⟩ | ⟨h0, h1, h2, h3⟩ <;> rw [h0, h1, h2, h3] <;> omega
/-- The pattern depends on the lengths alone. -/
theorem pat_same {m n : Nat} (h : ∀ g : Nat → Nat, tot g m = tot g n) : pat m = pat n := by
  obtain ⟨a, b, c, d, hs, k1, k2, k3⟩ := srt_key m
  obtain ⟨a', b', c', d', hs', k1', k2', k3'⟩ := srt_key n
  rw [pat_of hs, pat_of hs']
  have e := dec_eq (lens m a) (lens m b) (lens m c) (lens m d) (lens n a') (lens n b') (lens n c') (lens n d') (by omega) (by omega) (by omega) (by omega) (by omega) (by omega) fun f => by
    rw [sum_perm k1 k2 k3, sum_perm k1' k2' k3']
    exact h fun x => f (len x)
  rw [e.1, e.2.1, e.2.2.1, e.2.2.2]
theorem bal_same {m n : Nat} (hm : m < 4503599627370496) (hn : n < 4503599627370496) (h : ∀ g : Nat → Nat, tot g m = tot g n) : bal m = bal n := by
  unfold bal
  rw [pat_same h, cnt_tot, cnt_tot, h len]
  simp only [hm, hn]
/-- The first of the other hand's suits that is free and has the same cards. -/
def fnd (E : Nat → Bool) (met : Nat) : Nat :=
  if met / 1 % 2 = 0 ∧ E 0 = true then 0 else if met / 2 % 2 = 0 ∧ E 1 = true then 1 else if met / 4 % 2 = 0 ∧ E 2 = true then 2 else if met / 8 % 2 = 0 ∧ E 3 = true then 3 else 4
def gre (E : Nat → Nat → Bool) : Nat → Nat
  | 0 => 0
  | s + 1 => if fnd (E s) (gre E s) < 4 then gre E s ||| 2 ^ fnd (E s) (gre E s) else gre E s
theorem fnd_at (E : Nat → Bool) (met o : Nat) (ho : o < 4) (hle : o ≤ fnd E met) (h : met / 2 ^ o % 2 = 0 ∧ E o = true) : fnd E met = o := by
  unfold fnd at *
  match o, ho with
  | 0, _ => rw [if_pos h]
  | 1, _ =>
    by_cases c0 : met / 1 % 2 = 0 ∧ E 0 = true
    · rw [if_pos c0] at hle; omega
    · rw [if_neg c0, if_pos h]
  | 2, _ =>
    by_cases c0 : met / 1 % 2 = 0 ∧ E 0 = true
    · rw [if_pos c0] at hle; omega
    · rw [if_neg c0] at hle ⊢
      by_cases c1 : met / 2 % 2 = 0 ∧ E 1 = true
      · rw [if_pos c1] at hle; omega
      · rw [if_neg c1, if_pos h]
  | 3, _ =>
    by_cases c0 : met / 1 % 2 = 0 ∧ E 0 = true
    · rw [if_pos c0] at hle; omega
    · rw [if_neg c0] at hle ⊢
      by_cases c1 : met / 2 % 2 = 0 ∧ E 1 = true
      · rw [if_pos c1] at hle; omega
      · rw [if_neg c1] at hle ⊢
        by_cases c2 : met / 4 % 2 = 0 ∧ E 2 = true
        · rw [if_pos c2] at hle; omega
        · rw [if_neg c2, if_pos h]
theorem fnd_past (E : Nat → Bool) (met o : Nat) (ho : o < 4) (hle : o ≤ fnd E met) (h : ¬ (met / 2 ^ o % 2 = 0 ∧ E o = true)) : o + 1 ≤ fnd E met := by
  refine Nat.lt_of_le_of_ne hle fun e => h ?_
  unfold fnd at e
  match o, ho with
  | 0, _ => (repeat' (split at e)) <;> first | assumption | omega
  | 1, _ => (repeat' (split at e)) <;> first | assumption | omega
  | 2, _ => (repeat' (split at e)) <;> first | assumption | omega
  | 3, _ => (repeat' (split at e)) <;> first | assumption | omega
theorem gre_lt (E : Nat → Nat → Bool) : ∀ s, gre E s < 16
  | 0 => by simp [gre]
  | s + 1 => by
    have h := gre_lt E s
    unfold gre
    split
    · rename_i hc
      exact Nat.or_lt_two_pow (n := 4) h (Nat.pow_lt_pow_right (by decide) hc)
    · exact h
/-- The least suit with the same value. -/
def cls (x : Nat → Nat) (s : Nat) : Nat := if x 0 = x s then 0 else if x 1 = x s then 1 else if x 2 = x s then 2 else 3
theorem cls_eq (x : Nat → Nat) (s u : Nat) (hs : s < 4) (hu : u < 4) : decide (x s = x u) = decide (cls x s = cls x u) := by
  have e : x s = x u ↔ cls x s = cls x u := by
    constructor
    · intro h; unfold cls; rw [h]
    · intro h
      have key : ∀ v, v < 4 → x (cls x v) = x v := fun v hv => by
        unfold cls
        by_cases c0 : x 0 = x v
        · rw [if_pos c0]; exact c0
        · rw [if_neg c0]
          by_cases c1 : x 1 = x v
          · rw [if_pos c1]; exact c1
          · rw [if_neg c1]
            by_cases c2 : x 2 = x v
            · rw [if_pos c2]; exact c2
            · rw [if_neg c2]
              match v, hv with
              | 0, _ => exact absurd rfl c0
              | 1, _ => exact absurd rfl c1
              | 2, _ => exact absurd rfl c2
              | 3, _ => rfl
      rw [← key s hs, ← key u hu, h]
  simp only [e]
theorem cls_lt (x : Nat → Nat) (s : Nat) : cls x s < 4 := by unfold cls; (repeat' split) <;> omega
/-- Where a suit of the other hand comes from. -/
def src (y o : Nat) : Nat := if tg y 0 = o then 3 else if tg y 1 = o then 2 else if tg y 2 = o then 1 else 0
theorem src_lt (y o : Nat) : src y o < 4 := by unfold src; (repeat' split) <;> omega
theorem hol_src (m : Nat) (y : Fin 24) (o : Nat) (ho : o < 4) : hol (ott m y.val 4) o = hol m (src y.val o) := by
  unfold src
  have h0 := hol_ott m y 0 (by decide)
  have h1 := hol_ott m y 1 (by decide)
  have h2 := hol_ott m y 2 (by decide)
  have h3 := hol_ott m y 3 (by decide)
  by_cases c0 : tg y.val 0 = o
  · rw [if_pos c0, ← c0]; exact h0
  · rw [if_neg c0]
    by_cases c1 : tg y.val 1 = o
    · rw [if_pos c1, ← c1]; exact h1
    · rw [if_neg c1]
      by_cases c2 : tg y.val 2 = o
      · rw [if_pos c2, ← c2]; exact h2
      · rw [if_neg c2]
        have c3 : o = tg y.val 3 := by
          rcases tg_all y ⟨o, ho⟩ with h | h | h | h
          · exact absurd h.symm c0
          · exact absurd h.symm c1
          · exact absurd h.symm c2
          · exact h
        rw [c3]; exact h3
def clsE (e0 e1 e2 e3 : Fin 4) (y : Nat) (s o : Nat) : Bool := decide (([e0, e1, e2, e3].getD s 0) = ([e0, e1, e2, e3].getD (src y o) 0))
theorem gre_all : ∀ y : Fin 24, ∀ e0 e1 e2 e3 : Fin 4, gre (clsE e0 e1 e2 e3 y.val) 4 = 15 := by decide +kernel
theorem gre_congr {E F : Nat → Nat → Bool} (h : ∀ s, s < 4 → ∀ o, o < 4 → E s o = F s o) : ∀ s, s ≤ 4 → gre E s = gre F s
  | 0, _ => rfl
  | s + 1, hs => by
    have ih := gre_congr h s (by omega)
    unfold gre
    have e : fnd (E s) (gre E s) = fnd (F s) (gre F s) := by
      unfold fnd
      rw [ih, h s (by omega) 0 (by decide), h s (by omega) 1 (by decide), h s (by omega) 2 (by decide), h s (by omega) 3 (by decide)]
    rw [e, ih]
/-- The suits of the hand and those of the hand with its suits exchanged are met, all four. -/
theorem gre_done (m : Nat) (y : Fin 24) : gre (fun s o => decide (hol m s = hol (ott m y.val 4) o)) 4 = 15 := by
  rw [← gre_all y ⟨cls (hol m) 0, cls_lt _ _⟩ ⟨cls (hol m) 1, cls_lt _ _⟩ ⟨cls (hol m) 2, cls_lt _ _⟩ ⟨cls (hol m) 3, cls_lt _ _⟩]
  refine gre_congr (fun s hs o ho => ?_) 4 (Nat.le_refl _)
  rw [hol_src m y o ho, cls_eq (hol m) s _ hs (src_lt _ _)]
  have at_ : ∀ v, v < 4 → ([(⟨cls (hol m) 0, cls_lt _ _⟩ : Fin 4), ⟨cls (hol m) 1, cls_lt _ _⟩, ⟨cls (hol m) 2, cls_lt _ _⟩, ⟨cls (hol m) 3, cls_lt _ _⟩].getD v 0) = ⟨cls (hol m) v, cls_lt _ _⟩ := fun v hv => by
    match v, hv with
    | 0, _ => rfl
    | 1, _ => rfl
    | 2, _ => rfl
    | 3, _ => rfl
  unfold clsE
  rw [at_ s hs, at_ _ (src_lt _ _)]
  simp only [Fin.mk.injEq]
end Go.Proofs.YtgndhdcnofblaaaDoor
