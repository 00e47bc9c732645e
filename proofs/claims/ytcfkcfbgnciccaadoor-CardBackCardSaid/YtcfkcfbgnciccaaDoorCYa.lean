/- Mask of the cards in any order; an append as a step of a drawn region. -/
import Derived.Test.YtcfkcfbgnciccaaDoorCXp
import Derived.OwnWalk
import Derived.Deep.RegionLawGrows
namespace Go.Proofs.YtcfkcfbgnciccaaDoor
open Go.RowKit

theorem mskR_cons (m c : Nat) (l : List Nat) : mskR m (c :: l) = if 52 ≤ c then (0, 41) else if m.testBit c then (0, 42) else mskR (m ||| 2 ^ c) l := rfl
theorem mskR_app : ∀ (l r : List Nat) (m : Nat), (mskR m l).2 = 0 → mskR m (l ++ r) = mskR (mskR m l).1 r
  | [], _, _, _ => rfl
  | c :: l, r, m, h => by
    rw [mskR_cons] at h
    rw [List.cons_append, mskR_cons, mskR_cons]
    by_cases h1 : 52 ≤ c
    · rw [if_pos h1] at h; cases h
    · rw [if_neg h1] at h
      rw [if_neg h1, if_neg h1]
      cases hb : m.testBit c with
      | true => rw [hb, if_pos rfl] at h; cases h
      | false =>
        rw [hb] at h
        simp only [Bool.false_eq_true, if_false] at h ⊢
        exact mskR_app l r _ h
theorem mskR_set : ∀ (l : List Nat) (m : Nat), (∀ x ∈ l, x < 52) → l.Nodup → (∀ x ∈ l, m.testBit x = false) → (mskR m l).2 = 0 ∧ ∀ i, (mskR m l).1.testBit i = (m.testBit i || decide (i ∈ l))
  | [], m, _, _, _ => ⟨rfl, fun i => by simp [mskR]⟩
  | c :: l, m, h1, h2, h3 => by
    rw [List.nodup_cons] at h2
    have hb : ∀ i, (m ||| 2 ^ c).testBit i = (m.testBit i || decide (i = c)) := fun i => by
      rw [Nat.testBit_or, Nat.testBit_two_pow]
      simp only [eq_comm]
    obtain ⟨k1, k2⟩ := mskR_set l (m ||| 2 ^ c) (fun x hx => h1 x (List.mem_cons_of_mem _ hx)) h2.2 (fun x hx => by
      rw [hb, h3 x (List.mem_cons_of_mem _ hx)]
      have : x ≠ c := by rintro rfl; exact h2.1 hx
      simp [this])
    unfold mskR
    rw [if_neg (by have := h1 c List.mem_cons_self; omega), h3 c List.mem_cons_self]
    simp only [Bool.false_eq_true, if_false]
    refine ⟨k1, fun i => ?_⟩
    rw [k2, hb, Bool.or_assoc]
    congr 1
    simp only [List.mem_cons, ← Bool.decide_or]
theorem cds_nodup (m : Nat) : (cds m).Nodup := (cds_pair m).imp (fun h => by omega)
theorem rot_mask (a i : Nat) (ha : a < 4503599627370496) : mskR 0 ((cds a).drop i ++ (cds a).take i) = (a, 0) := by
  have hp : ((cds a).drop i ++ (cds a).take i).Perm (cds a) := by
    have := List.perm_append_comm (l₁ := (cds a).drop i) (l₂ := (cds a).take i)
    rwa [List.take_append_drop] at this
  obtain ⟨k1, k2⟩ := mskR_set _ 0 (fun x hx => (cds_mem.1 (hp.mem_iff.1 hx)).1) (hp.nodup_iff.2 (cds_nodup a)) (fun x _ => Nat.zero_testBit x)
  refine Prod.ext (Nat.eq_of_testBit_eq fun j => ?_) k1
  rw [k2, Nat.zero_testBit, Bool.false_or]
  have hm : j ∈ (cds a).drop i ++ (cds a).take i ↔ j < 52 ∧ a.testBit j = true := by rw [hp.mem_iff, cds_mem]
  by_cases hj : j < 52
  · cases hb : a.testBit j with
    | true => exact decide_eq_true (hm.2 ⟨hj, hb⟩)
    | false => exact decide_eq_false (fun h => by have := (hm.1 h).2; rw [hb] at this; cases this)
  · have hz : a.testBit j = false := Nat.testBit_lt_two_pow (Nat.lt_of_lt_of_le ha (Nat.pow_le_pow_right (n := 2) (by decide) (by omega : 52 ≤ j)))
    rw [hz]
    exact decide_eq_false (fun h => by have := (hm.1 h).1; omega)
theorem rot_twice (a i c : Nat) (ha : a < 4503599627370496) (hc : (cds a)[i]? = some c) : mskR 0 (((cds a).drop i ++ (cds a).take i) ++ [c]) = (0, 42) := by
  have h := rot_mask a i ha
  rw [mskR_app _ _ _ (by rw [h]), h]
  obtain ⟨h1, h2⟩ := cds_mem.1 (List.mem_of_getElem? hc)
  unfold mskR
  rw [if_neg (by omega), h2, if_pos rfl]
theorem wrt_inj {a b : Nat} (ha : a < 4503599627370496) (hb : b < 4503599627370496) (h : wrt a = wrt b) : a = b := by
  have h1 := prs_wrt a ha
  rw [h, prs_wrt b hb] at h1
  exact (Option.some.inj h1).symm
theorem step_append_own {P : Program} {ops : Array Oper} {o : Oper} {a : Act} {w : World} {K : Act → World → Prop} {Q : Exit → Act → World → Prop} {E : Prop}
    (hg : o.guard = none) (s x : Operand) (t : TypeId) (hop : o.op = Op.call { callee := Callee.builtin Builtin.append, args := #[s, x], argTypes := #[t, t] })
    (base : Nat) (e : TypeId) (i : TypeInfo) (z : Value) (size bytes : Nat) (h1 : P.underlying t = some (.slice e)) (h2 : P.info? e = some i) (h3 : i.zero = some z) (h4 : i.size = size) (h5 : i.bytes = bytes) (h6 : z.cells.size = size) (h7 : 0 < size)
    (v : Value) (k : Nat) (xs : List Value) (hs : a.eval s = v) (hown : w.ownsRow base e size v k xs) (ad : Addr) (m c : Nat) (news : List Value) (hx : a.eval x = .slice (some ad) m c) (hn : news.length = m * size)
    (hc : ∀ (j : Nat) u, news[j]? = some u → w.cell? (ad.add j) = some u) (h1c : ∀ u ∈ news, u.oneCell' = true) (b1 : k + m ≤ maxLen) (b2 : (k + m) * bytes ≤ 140737488355328) (b3 : base ≤ w.heap.size)
    (hK : ∀ v' w', w'.ownsRow base e size v' (k + m) (xs ++ news) → w.grownBy w' v.ownBlock → K (a.put o.dst v') w') :
    if Region.wanted o (yielded ops a.tmps) = true then Oper.wp P o a w K Q else E := by
  have hw : Region.wanted o (yielded ops a.tmps) = true := by simp [Region.wanted, hg]
  rw [if_pos hw]
  obtain ⟨v', w', hrun, r1, r2, _⟩ := run_append_own (P := P) w base t o.type e i z size bytes h1 h2 h3 h4 h5 h6 h7 v k xs hown ad m c news hn hc h1c b1 b2 b3
  unfold Oper.wp
  simp [execOp, hop, resolve, invoke, builtin, hs, hx, hrun, Result.andThen]
  exact hK v' w' r1 r2
end Go.Proofs.YtcfkcfbgnciccaaDoor
