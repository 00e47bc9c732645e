/- One card more: the mathematics. -/
import Derived.Test.YtgndhdcnofblaaaDoorHP0
namespace Go.Proofs.YtgndhdcnofblaaaDoor
open Go.RowKit

def clr (a g : Nat) : Nat := a &&& (18446744073709551615 - 2 ^ g)
theorem clr_bit {a g : Nat} (ha : a < 18446744073709551616) (hg : g < 64) (i : Nat) : (clr a g).testBit i = (a.testBit i && decide (i ≠ g)) := by
  unfold clr
  rw [Nat.testBit_and]
  have h2 : 2 ^ g < 2 ^ 64 := Nat.pow_lt_pow_right (by decide) hg
  have e : (18446744073709551615 - 2 ^ g : Nat) = 2 ^ 64 - (2 ^ g + 1) := by omega
  rw [e, Nat.testBit_two_pow_sub_succ h2, Nat.testBit_two_pow]
  by_cases hi : i < 64
  · by_cases e2 : g = i <;> simp [hi, e2]
    omega
  · have : a.testBit i = false := Nat.testBit_lt_two_pow (Nat.lt_of_lt_of_le ha (Nat.pow_le_pow_right (n := 2) (by decide) (by omega : 64 ≤ i)))
    simp [this]
theorem clr_le (a g : Nat) : clr a g ≤ a := Nat.and_le_left
theorem clr_num (a g : Nat) (ha : a < 18446744073709551616) (hg : g < 64) : IntKind.u64.wrap ((2 : Int) ^ g) = ((2 ^ g : Nat) : Int) ∧ bits .andNot .u64 (a : Int) ((2 ^ g : Nat) : Int) = (clr a g : Int) := by
  have h2 : 2 ^ g < 2 ^ 64 := Nat.pow_lt_pow_right (by decide) hg
  have e : ((2 : Int) ^ g) = ((2 ^ g : Nat) : Int) := by simp
  rw [e]
  refine ⟨?_, u64_andNot_nat a (2 ^ g) ha (by omega)⟩
  rw [IntKind.wrap_u64]
  generalize 2 ^ g = p at h2
  omega
/-- The hand with the card. -/
def mor (m c : Nat) : Nat := clr m c ||| 2 ^ c
theorem mor_lt {m c : Nat} (hm : m < 4503599627370496) (hc : c < 52) : mor m c < 4503599627370496 :=
  Nat.or_lt_two_pow (n := 52) (Nat.lt_of_le_of_lt (clr_le _ _) hm) (Nat.pow_lt_pow_right (by decide) hc)
theorem mor_bit {m c : Nat} (hm : m < 4503599627370496) (hc : c < 52) (i : Nat) : (mor m c).testBit i = (m.testBit i || decide (i = c)) := by
  unfold mor
  rw [Nat.testBit_or, clr_bit (by omega) (by omega), Nat.testBit_two_pow]
  by_cases h : i = c
  · simp [h]
  · have h2 : ¬ c = i := fun e => h e.symm
    simp [h, h2]
theorem hol_other {m c s : Nat} (hm : m < 4503599627370496) (hc : c < 52) (hs : s ≠ c / 13) : hol (mor m c) s = hol (clr m c) s := hol_ext fun i hi => by
  have : 13 * s + i ≠ c := by omega
  rw [mor_bit hm hc, clr_bit (by omega) (by omega)]
  simp [this]
theorem hol_mine {m c : Nat} (hm : m < 4503599627370496) (hc : c < 52) : hol (mor m c) (c / 13) = hol (clr m c) (c / 13) ||| 2 ^ (c % 13) := by
  apply Nat.eq_of_testBit_eq
  intro i
  rw [Nat.testBit_or, hol_bit, hol_bit, mor_bit hm hc, clr_bit (by omega) (by omega), Nat.testBit_two_pow]
  by_cases hi : i < 13
  · by_cases h : 13 * (c / 13) + i = c
    · have h2 : c % 13 = i := by omega
      simp [hi, h, h2]
    · have h2 : ¬ c % 13 = i := by omega
      simp [hi, h, h2]
  · have h2 : ¬ c % 13 = i := by omega
    simp [hi, h2]
theorem bt_or (h r i : Nat) : (h ||| 2 ^ r) / 2 ^ i % 2 = if i = r then 1 else h / 2 ^ i % 2 := by
  rw [← Nat.toNat_testBit, ← Nat.toNat_testBit, Nat.testBit_or, Nat.testBit_two_pow]
  by_cases e : i = r
  · simp [e]
  · have e2 : ¬ r = i := fun x => e x.symm
    simp [e, e2]
theorem clr_bit0 (m c : Nat) (hm : m < 4503599627370496) (hc : c < 52) : hol (clr m c) (c / 13) / 2 ^ (c % 13) % 2 = 0 := by
  rw [← Nat.toNat_testBit, hol_bit, clr_bit (by omega) (by omega)]
  have : 13 * (c / 13) + c % 13 = c := by omega
  rw [this]
  simp
/-- What one bit more does. -/
theorem one_more (h r : Nat) (hr : r < 13) (h0 : h / 2 ^ r % 2 = 0) :
    pts (h ||| 2 ^ r) = pts h + (r - 8) ∧ ctl (h ||| 2 ^ r) = ctl h + (r - 10) ∧ len (h ||| 2 ^ r) = len h + 1 ∧ qck h ≤ qck (h ||| 2 ^ r) := by
  have b := bt_or h r
  have c0 := b 0; have c1 := b 1; have c2 := b 2; have c3 := b 3; have c4 := b 4; have c5 := b 5; have c6 := b 6
  have c7 := b 7; have c8 := b 8; have c9 := b 9; have c10 := b 10; have c11 := b 11; have c12 := b 12
  simp only [Nat.reducePow, Nat.div_one] at c0 c1 c2 c3 c4 c5 c6 c7 c8 c9 c10 c11 c12
  have hl : len (h ||| 2 ^ r) = len h + 1 := by
    unfold len
    rw [c0, c1, c2, c3, c4, c5, c6, c7, c8, c9, c10, c11, c12]
    clear c0 c1 c2 c3 c4 c5 c6 c7 c8 c9 c10 c11 c12 b
    match r, hr with
    | 0, _ => simp at h0 ⊢; omega
    | 1, _ => simp at h0 ⊢; omega
    | 2, _ => simp at h0 ⊢; omega
    | 3, _ => simp at h0 ⊢; omega
    | 4, _ => simp at h0 ⊢; omega
    | 5, _ => simp at h0 ⊢; omega
    | 6, _ => simp at h0 ⊢; omega
    | 7, _ => simp at h0 ⊢; omega
    | 8, _ => simp at h0 ⊢; omega
    | 9, _ => simp at h0 ⊢; omega
    | 10, _ => simp at h0 ⊢; omega
    | 11, _ => simp at h0 ⊢; omega
    | 12, _ => simp at h0 ⊢; omega
  refine ⟨?_, ?_, hl, ?_⟩
  · unfold pts
    rw [c9, c10, c11, c12]
    clear c0 c1 c2 c3 c4 c5 c6 c7 c8 c9 c10 c11 c12 b hl
    rcases (show r ≤ 8 ∨ r = 9 ∨ r = 10 ∨ r = 11 ∨ r = 12 by omega) with h1 | rfl | rfl | rfl | rfl
    · rw [if_neg (by omega), if_neg (by omega), if_neg (by omega), if_neg (by omega)]; omega
    · simp at h0 ⊢; omega
    · simp at h0 ⊢; omega
    · simp at h0 ⊢; omega
    · simp at h0 ⊢; omega
  · unfold ctl
    rw [c11, c12]
    clear c0 c1 c2 c3 c4 c5 c6 c7 c8 c9 c10 c11 c12 b hl
    rcases (show r ≤ 10 ∨ r = 11 ∨ r = 12 by omega) with h1 | rfl | rfl
    · rw [if_neg (by omega), if_neg (by omega)]; omega
    · simp at h0 ⊢; omega
    · simp at h0 ⊢; omega
  · unfold qck
    rw [hl, c10, c11, c12]
    clear c0 c1 c2 c3 c4 c5 c6 c7 c8 c9 c10 c11 c12 b hl
    generalize len h = n
    have k0 : h / 1024 % 2 < 2 := Nat.mod_lt _ (by decide)
    have k1 : h / 2048 % 2 < 2 := Nat.mod_lt _ (by decide)
    have k2 : h / 4096 % 2 < 2 := Nat.mod_lt _ (by decide)
    rcases (show r ≤ 9 ∨ r = 10 ∨ r = 11 ∨ r = 12 by omega) with h1 | rfl | rfl | rfl
    · rw [if_neg (show ¬ 12 = r by omega), if_neg (show ¬ 11 = r by omega), if_neg (show ¬ 10 = r by omega)]
      generalize h / 1024 % 2 = x at *
      generalize h / 2048 % 2 = y at *
      generalize h / 4096 % 2 = z at *
      (repeat' split) <;> omega
    · simp at h0 ⊢
      generalize h / 1024 % 2 = x at *
      generalize h / 2048 % 2 = y at *
      generalize h / 4096 % 2 = z at *
      (repeat' split) <;> omega
    · simp at h0 ⊢
      generalize h / 1024 % 2 = x at *
      generalize h / 2048 % 2 = y at *
      generalize h / 4096 % 2 = z at *
      (repeat' split) <;> omega
    · simp at h0 ⊢
      generalize h / 1024 % 2 = x at *
      generalize h / 2048 % 2 = y at *
      generalize h / 4096 % 2 = z at *
      (repeat' split) <;> omega
/-- A sum over the suits, where one of them changes. -/
theorem tot_more (g : Nat → Nat) {m c : Nat} (hm : m < 4503599627370496) (hc : c < 52) (k : Nat) (h : g (hol (mor m c) (c / 13)) = g (hol (clr m c) (c / 13)) + k) : tot g (mor m c) = tot g (clr m c) + k := by
  have o := fun s (hs : s ≠ c / 13) => hol_other (s := s) hm hc hs
  unfold tot
  rcases (show c / 13 = 0 ∨ c / 13 = 1 ∨ c / 13 = 2 ∨ c / 13 = 3 by omega) with e | e | e | e <;> rw [e] at h o
  · rw [o 1 (by decide), o 2 (by decide), o 3 (by decide)]; omega
  · rw [o 0 (by decide), o 2 (by decide), o 3 (by decide)]; omega
  · rw [o 0 (by decide), o 1 (by decide), o 3 (by decide)]; omega
  · rw [o 0 (by decide), o 1 (by decide), o 2 (by decide)]; omega
theorem tot_le (g : Nat → Nat) {m c : Nat} (hm : m < 4503599627370496) (hc : c < 52) (h : g (hol (clr m c) (c / 13)) ≤ g (hol (mor m c) (c / 13))) : tot g (clr m c) ≤ tot g (mor m c) := by
  have := tot_more g hm hc (g (hol (mor m c) (c / 13)) - g (hol (clr m c) (c / 13))) (by omega)
  omega
end Go.Proofs.YtgndhdcnofblaaaDoor
