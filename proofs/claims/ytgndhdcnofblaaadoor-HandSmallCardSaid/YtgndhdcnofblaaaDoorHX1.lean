/- The four hands of a deal: their sums. -/
import Derived.Test.YtgndhdcnofblaaaDoorHX0
namespace Go.Proofs.YtgndhdcnofblaaaDoor
open Go.RowKit

theorem pts_bt (m s : Nat) : pts (hol m s) = bt m (13 * s + 9) + 2 * bt m (13 * s + 10) + 3 * bt m (13 * s + 11) + 4 * bt m (13 * s + 12) := by
  have h := fun i (hi : i < 13) => bt_dig m (13 * s) 13 i hi
  have h9 := h 9 (by decide); have h10 := h 10 (by decide); have h11 := h 11 (by decide); have h12 := h 12 (by decide)
  simp only [Nat.reducePow] at h9 h10 h11 h12
  unfold pts hol
  rw [h9, h10, h11, h12]
theorem ctl_bt (m s : Nat) : ctl (hol m s) = bt m (13 * s + 11) + 2 * bt m (13 * s + 12) := by
  have h := fun i (hi : i < 13) => bt_dig m (13 * s) 13 i hi
  have h11 := h 11 (by decide); have h12 := h 12 (by decide)
  simp only [Nat.reducePow] at h11 h12
  unfold ctl hol
  rw [h11, h12]
theorem suit_sum (h0 h1 h2 h3 s : Nat) (once : ∀ c, bt h0 c + bt h1 c + bt h2 c + bt h3 c ≤ 1) :
    len (hol h0 s) + len (hol h1 s) + len (hol h2 s) + len (hol h3 s) ≤ 13 ∧
    (len (hol h0 s) + len (hol h1 s) + len (hol h2 s) + len (hol h3 s) = 13 → pts (hol h0 s) + pts (hol h1 s) + pts (hol h2 s) + pts (hol h3 s) = 10 ∧ ctl (hol h0 s) + ctl (hol h1 s) + ctl (hol h2 s) + ctl (hol h3 s) = 3) := by
  have X : ∀ i, ∃ x, bt h0 (13 * s + i) + bt h1 (13 * s + i) + bt h2 (13 * s + i) + bt h3 (13 * s + i) = x ∧ x ≤ 1 := fun i => ⟨_, rfl, once _⟩
  obtain ⟨x0, e0, l0⟩ := X 0
  obtain ⟨x1, e1, l1⟩ := X 1
  obtain ⟨x2, e2, l2⟩ := X 2
  obtain ⟨x3, e3, l3⟩ := X 3
  obtain ⟨x4, e4, l4⟩ := X 4
  obtain ⟨x5, e5, l5⟩ := X 5
  obtain ⟨x6, e6, l6⟩ := X 6
  obtain ⟨x7, e7, l7⟩ := X 7
  obtain ⟨x8, e8, l8⟩ := X 8
  obtain ⟨x9, e9, l9⟩ := X 9
  obtain ⟨x10, e10, l10⟩ := X 10
  obtain ⟨x11, e11, l11⟩ := X 11
  obtain ⟨x12, e12, l12⟩ := X 12
  simp only [Nat.add_zero] at e0
  have hl : len (hol h0 s) + len (hol h1 s) + len (hol h2 s) + len (hol h3 s) = x0 + x1 + x2 + x3 + x4 + x5 + x6 + x7 + x8 + x9 + x10 + x11 + x12 := by
    simp only [len_bt]
    rw [← e0, ← e1, ← e2, ← e3, ← e4, ← e5, ← e6, ← e7, ← e8, ← e9, ← e10, ← e11, ← e12]
    ac_rfl
  have hp : pts (hol h0 s) + pts (hol h1 s) + pts (hol h2 s) + pts (hol h3 s) = x9 + 2 * x10 + 3 * x11 + 4 * x12 := by
    simp only [pts_bt]
    rw [← e9, ← e10, ← e11, ← e12]
    simp only [Nat.mul_add]
    ac_rfl
  have hc : ctl (hol h0 s) + ctl (hol h1 s) + ctl (hol h2 s) + ctl (hol h3 s) = x11 + 2 * x12 := by
    simp only [ctl_bt]
    rw [← e11, ← e12]
    simp only [Nat.mul_add]
    ac_rfl
  clear e0 e1 e2 e3 e4 e5 e6 e7 e8 e9 e10 e11 e12 X once
  rw [hl, hp, hc]
  exact ⟨by omega, fun h => ⟨by omega, by omega⟩⟩
/-- The four hands of a deal have 13 cards of each suit, 40 points and 12 controls, and 13 cards each. -/
theorem deal_sums {f : Nat → Nat} (h : Ord f) :
    (∀ q, q < 4 → cnt (dl f q 52) = 13) ∧ (∀ s, s < 4 → len (hol (dl f 0 52) s) + len (hol (dl f 1 52) s) + len (hol (dl f 2 52) s) + len (hol (dl f 3 52) s) = 13) ∧
    tot pts (dl f 0 52) + tot pts (dl f 1 52) + tot pts (dl f 2 52) + tot pts (dl f 3 52) = 40 ∧ tot ctl (dl f 0 52) + tot ctl (dl f 1 52) + tot ctl (dl f 2 52) + tot ctl (dl f 3 52) = 12 := by
  have c := fun q => dl_cnt h q 52 (Nat.le_refl _)
  have o := dl_once h
  have c0 := c 0; have c1 := c 1; have c2 := c 2; have c3 := c 3
  simp only [Nat.reduceMul, Nat.reduceSub] at c0 c1 c2 c3
  generalize dl f 0 52 = h0 at *
  generalize dl f 1 52 = h1 at *
  generalize dl f 2 52 = h2 at *
  generalize dl f 3 52 = h3 at *
  have s := fun s => suit_sum h0 h1 h2 h3 s o
  obtain ⟨s0, t0⟩ := s 0
  obtain ⟨s1, t1⟩ := s 1
  obtain ⟨s2, t2⟩ := s 2
  obtain ⟨s3, t3⟩ := s 3
  unfold cnt at c0 c1 c2 c3
  have L0 : len (hol h0 0) + len (hol h1 0) + len (hol h2 0) + len (hol h3 0) = 13 := by omega
  have L1 : len (hol h0 1) + len (hol h1 1) + len (hol h2 1) + len (hol h3 1) = 13 := by omega
  have L2 : len (hol h0 2) + len (hol h1 2) + len (hol h2 2) + len (hol h3 2) = 13 := by omega
  have L3 : len (hol h0 3) + len (hol h1 3) + len (hol h2 3) + len (hol h3 3) = 13 := by omega
  have t0 := t0 L0; have t1 := t1 L1; have t2 := t2 L2; have t3 := t3 L3
  refine ⟨fun q hq => ?_, fun s hs => ?_, ?_, ?_⟩
  · rw [c q]; omega
  · match s, hs with
    | 0, _ => exact L0
    | 1, _ => exact L1
    | 2, _ => exact L2
    | 3, _ => exact L3
  · unfold tot; omega
  · unfold tot; omega
end Go.Proofs.YtgndhdcnofblaaaDoor
