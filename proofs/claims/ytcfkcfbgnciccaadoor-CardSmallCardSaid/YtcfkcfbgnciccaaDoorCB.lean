/- The text of a set is read as it was, as plain mathematics. -/
import Derived.Test.YtcfkcfbgnciccaaDoorCA
import Derived.Lib.Split
import Derived.Lib.SplitLaws
import Derived.Lib.IndexBytes
import Derived.Lib.IndexLaws
namespace Go.Proofs.YtcfkcfbgnciccaaDoor
open Go

theorem cut_unique : ∀ {a b r t : List UInt8}, 46 ∉ a → 46 ∉ b → a ++ 46 :: r = b ++ 46 :: t → a = b ∧ r = t
  | [], [], _, _, _, _, h => by simpa using h
  | [], y :: b, _, _, _, hb, h => by
    simp only [List.nil_append, List.cons_append, List.cons.injEq] at h
    exact absurd (by rw [h.1]; exact List.mem_cons_self) hb
  | x :: a, [], _, _, ha, _, h => by
    simp only [List.nil_append, List.cons_append, List.cons.injEq] at h
    exact absurd (by rw [h.1]; exact List.mem_cons_self) ha
  | x :: a, y :: b, r, t, ha, hb, h => by
    simp only [List.cons_append, List.cons.injEq] at h
    obtain ⟨h1, h2⟩ := cut_unique (fun e => ha (List.mem_cons_of_mem _ e)) (fun e => hb (List.mem_cons_of_mem _ e)) h.2
    exact ⟨by rw [h.1, h1], h2⟩
theorem split_step {s : List UInt8} {k : Nat} (h : s.count 46 = k + 1) : ∃ a r, s = a ++ 46 :: r ∧ 46 ∉ a ∧ r.count 46 = k ∧ ∀ n, Lib.splitK [46] 0 (n + 1) s = a :: Lib.splitK [46] 0 n r := by
  have hmem : (46 : UInt8) ∈ s := List.count_pos_iff.1 (by omega)
  obtain ⟨i, hi⟩ : ∃ i : Nat, Lib.index s [46] = i := by
    rw [Lib.index_one]
    have hge := Lib.indexByte_ge s 46
    rcases Int.lt_or_le (Lib.indexByte s 46) 0 with hl | hl
    · have := Lib.indexByte_none (show Lib.indexByte s 46 = -1 by omega)
      obtain ⟨k, hk, e⟩ := List.getElem_of_mem hmem
      exact absurd (by rw [List.getElem?_eq_getElem hk, e]) (this k)
    · exact ⟨(Lib.indexByte s 46).toNat, by omega⟩
  have hi' := hi
  rw [Lib.index_one] at hi
  obtain ⟨h1, h2⟩ := Lib.indexByte_some hi
  have hl := (List.getElem?_eq_some_iff.1 h1).1
  have e : s = s.take i ++ 46 :: s.drop (i + 1) := by
    conv => lhs; rw [← List.take_append_drop i s]
    rw [List.drop_eq_getElem_cons hl, (List.getElem?_eq_some_iff.1 h1).2]
  have hn : 46 ∉ s.take i := by
    intro hm
    obtain ⟨k, hk, ek⟩ := List.getElem_of_mem hm
    rw [List.length_take] at hk
    refine h2 k (by omega) ?_
    rw [← List.getElem?_take_of_lt (h := (by omega : k < i))]
    rw [List.getElem?_eq_getElem (by rw [List.length_take]; omega), ek]
  refine ⟨_, _, e, hn, ?_, fun n => ?_⟩
  · have := congrArg (List.count 46) e
    rw [List.count_append, List.count_cons, List.count_eq_zero_of_not_mem hn, h] at this
    simp at this
    omega
  · have : (Lib.index s [46] == -1) = false := by rw [hi', beq_eq_false_iff_ne]; omega
    show (if Lib.index s [46] == -1 then [s] else _) = _
    rw [this, hi']
    rfl
theorem split_three {s : List UInt8} (h : s.count 46 = 3) : ∃ a b c d, Lib.splitK [46] 0 3 s = [a, b, c, d] ∧ s = a ++ 46 :: (b ++ 46 :: (c ++ 46 :: d)) ∧ 46 ∉ a ∧ 46 ∉ b ∧ 46 ∉ c ∧ 46 ∉ d := by
  obtain ⟨a, r, e1, n1, c1, k1⟩ := split_step h
  obtain ⟨b, t, e2, n2, c2, k2⟩ := split_step c1
  obtain ⟨c, d, e3, n3, c3, k3⟩ := split_step c2
  refine ⟨a, b, c, d, ?_, by rw [e1, e2, e3], n1, n2, n3, List.count_eq_zero.1 c3⟩
  rw [k1, k2, k3]
  rfl
/-- Four suits in one mask. -/
def comb (x0 x1 x2 x3 : Nat) : Nat := x0 ||| x1 <<< 13 ||| x2 <<< 26 ||| x3 <<< 39
theorem comb_bit (x0 x1 x2 x3 i : Nat) (h0 : x0 < 8192) (h1 : x1 < 8192) (h2 : x2 < 8192) (h3 : x3 < 8192) :
    (comb x0 x1 x2 x3).testBit i = if i < 13 then x0.testBit i else if i < 26 then x1.testBit (i - 13) else if i < 39 then x2.testBit (i - 26) else x3.testBit (i - 39) := by
  have hz : ∀ {x j : Nat}, x < 8192 → 13 ≤ j → x.testBit j = false := fun hx hj => Nat.testBit_lt_two_pow (Nat.lt_of_lt_of_le hx (Nat.pow_le_pow_right (n := 2) (by decide) hj))
  unfold comb
  simp only [Nat.testBit_or, Nat.testBit_shiftLeft]
  by_cases a : i < 13
  · simp [a, show ¬ 13 ≤ i by omega, show ¬ 26 ≤ i by omega, show ¬ 39 ≤ i by omega]
  · by_cases b : i < 26
    · simp [a, b, hz h0 (show 13 ≤ i by omega), show 13 ≤ i by omega, show ¬ 26 ≤ i by omega, show ¬ 39 ≤ i by omega]
    · by_cases c : i < 39
      · simp [a, b, c, hz h0 (show 13 ≤ i by omega), hz h1 (show 13 ≤ i - 13 by omega), show 13 ≤ i by omega, show 26 ≤ i by omega, show ¬ 39 ≤ i by omega]
      · simp [a, b, c, hz h0 (show 13 ≤ i by omega), hz h1 (show 13 ≤ i - 13 by omega), hz h2 (show 13 ≤ i - 26 by omega), show 13 ≤ i by omega, show 26 ≤ i by omega, show 39 ≤ i by omega]
theorem comb_lt (x0 x1 x2 x3 : Nat) (h0 : x0 < 8192) (h1 : x1 < 8192) (h2 : x2 < 8192) (h3 : x3 < 8192) : comb x0 x1 x2 x3 < 4503599627370496 := by
  refine Nat.lt_pow_two_of_testBit (n := 52) _ fun i hi => ?_
  rw [comb_bit _ _ _ _ _ h0 h1 h2 h3, if_neg (by omega), if_neg (by omega), if_neg (by omega)]
  exact Nat.testBit_lt_two_pow (Nat.lt_of_lt_of_le h3 (Nat.pow_le_pow_right (n := 2) (by decide) (by omega : 13 ≤ i - 39)))
theorem comb_sut (m : Nat) (h : m < 4503599627370496) : comb (sut m 0) (sut m 1) (sut m 2) (sut m 3) = m := by
  refine Nat.eq_of_testBit_eq fun i => ?_
  rw [comb_bit _ _ _ _ _ (sut_lt _ _) (sut_lt _ _) (sut_lt _ _) (sut_lt _ _)]
  split
  · rw [sut_bit]; simp; omega
  · split
    · rw [sut_bit, show 13 * 1 + (i - 13) = i by omega]; simp; omega
    · split
      · rw [sut_bit, show 13 * 2 + (i - 26) = i by omega]; simp; omega
      · rw [sut_bit, show 13 * 3 + (i - 39) = i by omega]
        by_cases e : i < 52
        · simp; omega
        · have : m.testBit i = false := Nat.testBit_lt_two_pow (Nat.lt_of_lt_of_le h (Nat.pow_le_pow_right (n := 2) (by decide) (by omega : 52 ≤ i)))
          simp [this]
theorem sut_comb (x0 x1 x2 x3 : Nat) (h0 : x0 < 8192) (h1 : x1 < 8192) (h2 : x2 < 8192) (h3 : x3 < 8192) :
    sut (comb x0 x1 x2 x3) 0 = x0 ∧ sut (comb x0 x1 x2 x3) 1 = x1 ∧ sut (comb x0 x1 x2 x3) 2 = x2 ∧ sut (comb x0 x1 x2 x3) 3 = x3 := by
  have hz : ∀ {x j : Nat}, x < 8192 → 13 ≤ j → x.testBit j = false := fun hx hj => Nat.testBit_lt_two_pow (Nat.lt_of_lt_of_le hx (Nat.pow_le_pow_right (n := 2) (by decide) hj))
  refine ⟨?_, ?_, ?_, ?_⟩
  all_goals
    refine Nat.eq_of_testBit_eq fun i => ?_
    rw [sut_bit, comb_bit _ _ _ _ _ h0 h1 h2 h3]
    by_cases e : i < 13
    · simp [e, show ¬ 13 + i < 13 by omega, show 13 + i < 26 by omega, show ¬ 26 + i < 26 by omega, show ¬ 26 + i < 13 by omega, show 26 + i < 39 by omega, show ¬ 39 + i < 39 by omega, show ¬ 39 + i < 26 by omega, show ¬ 39 + i < 13 by omega]
    · simp only [e, decide_false, Bool.false_and]
      first | exact (hz h0 (by omega)).symm | exact (hz h1 (by omega)).symm | exact (hz h2 (by omega)).symm | exact (hz h3 (by omega)).symm
theorem held_zero_lt {l : List UInt8} {h : Nat} (he : held 13 0 l = some h) : h < 8192 ∧ l = (cdsF h 13).map chr := by
  obtain ⟨h1, h2⟩ := held_back l 13 0 h (Nat.le_refl _) (fun i _ => Nat.zero_testBit i) he
  refine ⟨Nat.lt_pow_two_of_testBit (n := 13) _ fun i hi => ?_, h1⟩
  rw [h2 i hi, Nat.zero_testBit]
theorem held_prt (m s : Nat) : held 13 0 (prt m s) = some (sut m s) := by
  unfold prt
  rw [held_chr _ 13 13 0 (Nat.le_refl _) (Nat.le_refl _), Nat.zero_or, Nat.mod_eq_of_lt (sut_lt m s)]
/-- What four parts say: from the spades on. -/
def prs4 (a b c d : List UInt8) : Option Nat :=
  match held 13 0 d, held 13 0 c, held 13 0 b, held 13 0 a with
  | some x0, some x1, some x2, some x3 => some (comb x0 x1 x2 x3)
  | _, _, _, _ => none
/-- What a text says. -/
def prs (s : List UInt8) : Option Nat := if s.count 46 = 3 then (match Lib.splitK [46] 0 3 s with | [a, b, c, d] => prs4 a b c d | _ => none) else none
theorem prs_wrt (m : Nat) (h : m < 4503599627370496) : prs (wrt m) = some m := by
  have hc : (wrt m).count 46 = 3 := by
    unfold wrt
    simp [List.count_append, List.count_cons, List.count_eq_zero_of_not_mem (prt_dot _ _)]
  obtain ⟨a, b, c, d, h1, h2, na, nb, nc, nd⟩ := split_three hc
  unfold prs
  rw [if_pos hc, h1]
  unfold wrt at h2
  obtain ⟨e1, h3⟩ := cut_unique (prt_dot _ _) na h2
  obtain ⟨e2, h4⟩ := cut_unique (prt_dot _ _) nb h3
  obtain ⟨e3, e4⟩ := cut_unique (prt_dot _ _) nc h4
  subst e1 e2 e3 e4
  simp only [prs4, held_prt, comb_sut m h]
theorem wrt_prs {s : List UInt8} {m : Nat} (h : prs s = some m) : m < 4503599627370496 ∧ wrt m = s := by
  unfold prs at h
  split at h
  · rename_i hc
    obtain ⟨a, b, c, d, h1, h2, -⟩ := split_three hc
    rw [h1] at h
    simp only [prs4] at h
    split at h
    · rename_i x0 x1 x2 x3 k0 k1 k2 k3
      obtain ⟨b0, f0⟩ := held_zero_lt k0
      obtain ⟨b1, f1⟩ := held_zero_lt k1
      obtain ⟨b2, f2⟩ := held_zero_lt k2
      obtain ⟨b3, f3⟩ := held_zero_lt k3
      simp only [Option.some.injEq] at h
      subst h
      refine ⟨comb_lt _ _ _ _ b0 b1 b2 b3, ?_⟩
      obtain ⟨s0, s1, s2, s3⟩ := sut_comb x0 x1 x2 x3 b0 b1 b2 b3
      unfold wrt prt
      rw [s0, s1, s2, s3, ← f0, ← f1, ← f2, ← f3, ← h2]
    · cases h
  · cases h
end Go.Proofs.YtcfkcfbgnciccaaDoor
