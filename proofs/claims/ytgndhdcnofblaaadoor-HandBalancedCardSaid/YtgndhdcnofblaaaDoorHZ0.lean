/- When a hand is balanced: the mathematics. -/
import Derived.Test.YtgndhdcnofblaaaDoorHV0
import Derived.Test.YtgndhdcnofblaaaDoorHY
namespace Go.Proofs.YtgndhdcnofblaaaDoor
open Go.RowKit

def P4 (n0 n1 n2 n3 : Nat) : List UInt8 := Lib.join [Lib.decDigits n0, Lib.decDigits n1, Lib.decDigits n2, Lib.decDigits n3] [45]
def i2 (n : Nat) : Nat := if n = 2 then 1 else 0
def io (n : Nat) : Nat := if 2 ≤ n ∧ n ≤ 5 then 0 else 1
theorem P4_bal : ∀ a b c : Fin 14, ¬ (c.val ≤ b.val ∧ b.val ≤ a.val ∧ a.val + b.val + c.val ≤ 13 ∧ 13 - (a.val + b.val + c.val) ≤ c.val) ∨
    (P4 a.val b.val c.val (13 - (a.val + b.val + c.val)) == b1 || P4 a.val b.val c.val (13 - (a.val + b.val + c.val)) == b2 || P4 a.val b.val c.val (13 - (a.val + b.val + c.val)) == b3) =
      (decide (io a.val + io b.val + io c.val + io (13 - (a.val + b.val + c.val)) = 0) && decide (i2 a.val + i2 b.val + i2 c.val + i2 (13 - (a.val + b.val + c.val)) ≤ 1)) := by decide +kernel
/-- Whether the lengths of the first suits are from 2 to 5. -/
def okn (m : Nat) : Nat → Bool
  | 0 => true
  | i + 1 => okn m i && decide (2 ≤ len (hol m i)) && decide (len (hol m i) ≤ 5)
theorem okn_io (m : Nat) : okn m 4 = decide (io (len (hol m 0)) + io (len (hol m 1)) + io (len (hol m 2)) + io (len (hol m 3)) = 0) := by
  unfold io
  simp only [okn]
  generalize len (hol m 0) = a
  generalize len (hol m 1) = b
  generalize len (hol m 2) = c
  generalize len (hol m 3) = d
  rw [Bool.eq_iff_iff]
  simp only [Bool.true_and, Bool.and_eq_true, decide_eq_true_eq]
  constructor
  · rintro ⟨⟨⟨⟨⟨⟨⟨h0, h1⟩, h2⟩, h3⟩, h4⟩, h5⟩, h6⟩, h7⟩
    rw [if_pos ⟨h0, h1⟩, if_pos ⟨h2, h3⟩, if_pos ⟨h4, h5⟩, if_pos ⟨h6, h7⟩]
  · intro h
    have ha : 2 ≤ a ∧ a ≤ 5 := by
      by_cases c : 2 ≤ a ∧ a ≤ 5
      · exact c
      · rw [if_neg c] at h; omega
    have hb : 2 ≤ b ∧ b ≤ 5 := by
      by_cases c : 2 ≤ b ∧ b ≤ 5
      · exact c
      · rw [if_neg c] at h; omega
    have hc : 2 ≤ c ∧ c ≤ 5 := by
      by_cases e : 2 ≤ c ∧ c ≤ 5
      · exact e
      · rw [if_neg e] at h; omega
    have hd : 2 ≤ d ∧ d ≤ 5 := by
      by_cases e : 2 ≤ d ∧ d ≤ 5
      · exact e
      · rw [if_neg e] at h; omega
    exact ⟨⟨⟨⟨⟨⟨⟨ha.1, ha.2⟩, hb.1⟩, hb.2⟩, hc.1⟩, hc.2⟩, hd.1⟩, hd.2⟩
theorem bal_counts (m : Nat) (hm : m < 4503599627370496) : bal m = (okn m 4 && decide (sm (fun s => i2 (len (hol m s))) 4 ≤ 1) && decide (sm (fun s => len (hol m s)) 4 = 13)) := by
  obtain ⟨a, b, c, d, hs, k1, k2, k3⟩ := srt_key m
  have hp := pat_of hs
  have sp := fun f : Nat → Nat => sum_perm k1 k2 k3 f
  have la := lens_lt m a
  have lb := lens_lt m b
  have lc := lens_lt m c
  have hcnt : cnt m = sm (fun s => len (hol m s)) 4 := by simp [cnt, sm]
  have h2 : sm (fun s => i2 (len (hol m s))) 4 = i2 (lens m a) + i2 (lens m b) + i2 (lens m c) + i2 (lens m d) := by
    rw [sp i2]; simp [sm, lens]; rfl
  have ho : okn m 4 = decide (io (lens m a) + io (lens m b) + io (lens m c) + io (lens m d) = 0) := by
    rw [okn_io, sp io]; rfl
  have hl : sm (fun s => len (hol m s)) 4 = lens m a + lens m b + lens m c + lens m d := by
    rw [sp (fun n => n)]; simp [sm, lens]; rfl
  unfold bal
  rw [hp, hcnt, h2, ho, hl]
  generalize lens m a = x at *
  generalize lens m b = y at *
  generalize lens m c = z at *
  generalize lens m d = t at *
  by_cases h13 : x + y + z + t = 13
  · have key := P4_bal ⟨x, la⟩ ⟨y, lb⟩ ⟨z, lc⟩
    simp only at key
    have et : 13 - (x + y + z) = t := by omega
    rw [et] at key
    have key := key.resolve_left (fun h => h ⟨by omega, by omega, by omega, by omega⟩)
    unfold P4 at key
    rw [key, decide_eq_true ⟨hm, h13⟩, decide_eq_true h13, Bool.true_and, Bool.and_true]
  · rw [decide_eq_false (fun h => h13 h.2), decide_eq_false h13, Bool.false_and, Bool.and_false]
end Go.Proofs.YtgndhdcnofblaaaDoor
