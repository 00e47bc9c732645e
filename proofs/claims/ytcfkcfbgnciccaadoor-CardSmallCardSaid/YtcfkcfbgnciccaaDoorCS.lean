/- The cards of a suit; how many; count. -/
import Derived.Test.YtcfkcfbgnciccaaDoorCN
namespace Go.Proofs.YtcfkcfbgnciccaaDoor
open Go.RowKit

theorem cdsF_sui (m s : Nat) : ∀ k, cdsF (sui m s) k = (cdsF m k).filter (fun c => c / 13 == s)
  | 0 => rfl
  | k + 1 => by
    rw [cdsF_succ, cdsF_succ, cdsF_sui m s k, sui_bit]
    cases m.testBit k with
    | false => simp
    | true =>
      by_cases h : k / 13 = s
      · rw [decide_eq_true (show 13 * s ≤ k by omega), decide_eq_true (show k < 13 * s + 13 by omega)]
        simp [h]
      · have : (decide (13 * s ≤ k) && decide (k < 13 * s + 13)) = false := by
          rw [Bool.and_eq_false_iff, decide_eq_false_iff_not, decide_eq_false_iff_not]
          omega
        rw [this]
        simp [h]
theorem cds_sui (m s : Nat) : cds (sui m s) = (cds m).filter (fun c => c / 13 == s) := cdsF_sui m s 52
theorem cdsF_last {x t : Nat} (ht : x.testBit t = true) (hl : ∀ i, i < t → x.testBit i = false) : ∀ {k : Nat}, t < k → (cdsF x k).getLast? = some t
  | 0, h => by omega
  | k + 1, h => by
    rw [cdsF_succ]
    by_cases e : k = t
    · subst e
      rw [if_pos ht, cdsF_low (g := 0) (k := k) (Nat.zero_le _) (fun i _ h => hl i h)]
      rfl
    · have ih := cdsF_last ht hl (k := k) (by omega)
      split
      · rw [List.getLast?_cons, ih]
        rfl
      · exact ih
theorem cds_last {x : Nat} (h0 : x ≠ 0) (h : x < 4503599627370496) : (cds x).getLast? = some (lst x) := by
  obtain ⟨h1, h2, h3⟩ := lst_facts h0 h
  exact cdsF_last h2 h3 h1
theorem cdsF_less {a b t : Nat} (ht : a.testBit t = true) (hb : ∀ i, b.testBit i = (a.testBit i && decide (i ≠ t))) : ∀ {k : Nat}, t < k → (cdsF b k).length + 1 = (cdsF a k).length
  | 0, h => by omega
  | k + 1, h => by
    rw [cdsF_succ, cdsF_succ, hb]
    by_cases e : k = t
    · subst e
      rw [ht]
      simp only [ne_eq, not_true_eq_false, decide_false, Bool.and_false, Bool.false_eq_true, if_false, if_true, List.length_cons]
      rw [cdsF_congr (a := b) (b := a) (fun i hi => by rw [hb]; simp; omega)]
    · have ih := cdsF_less ht hb (k := k) (by omega)
      rw [decide_eq_true e, Bool.and_true]
      split
      · rw [List.length_cons, List.length_cons]; omega
      · exact ih
theorem low_clear {m : Nat} (h0 : m ≠ 0) (h : m < 4503599627370496) : (cds (m &&& (m - 1))).length + 1 = (cds m).length ∧ m &&& (m - 1) < m := by
  obtain ⟨h1, h2, h3⟩ := lst_facts h0 h
  have hb : ∀ i, (m &&& (m - 1)).testBit i = (m.testBit i && decide (i ≠ lst m)) := by
    obtain ⟨k, hk, -⟩ := Lib.ctzFrom_spec 64 m (by omega) (by omega)
    have e : lst m = Lib.ctzFrom 64 m := by unfold lst Lib.ctz; rw [if_neg h0]
    rw [e]
    generalize Lib.ctzFrom 64 m = t at hk
    intro i
    have hp : 0 < 2 ^ t := Nat.two_pow_pos t
    have e1 : m = 2 ^ t * (2 * k + 1) + 0 := by omega
    have e2 : m - 1 = 2 ^ t * (2 * k) + (2 ^ t - 1) := by rw [hk, Nat.mul_add]; omega
    have b1 : m.testBit i = if i < t then false else (2 * k + 1).testBit (i - t) := by
      conv => lhs; rw [e1]
      rw [Nat.testBit_two_pow_mul_add _ hp, Nat.zero_testBit]
    have b2 : (m - 1).testBit i = if i < t then true else (2 * k).testBit (i - t) := by
      rw [e2, Nat.testBit_two_pow_mul_add _ (by omega), Nat.testBit_two_pow_sub_one]
      by_cases h : i < t <;> simp [h]
    rw [Nat.testBit_and, b2, b1]
    by_cases h : i < t
    · simp [h]
    · rw [if_neg h, if_neg h]
      by_cases h' : i = t
      · subst h'
        simp
      · obtain ⟨d, hd⟩ : ∃ d, i - t = d + 1 := ⟨i - t - 1, by omega⟩
        rw [hd, decide_eq_true h', Nat.testBit_succ, Nat.testBit_succ, show (2 * k + 1) / 2 = k by omega, show 2 * k / 2 = k by omega]
        simp
  refine ⟨cdsF_less h2 hb h1, ?_⟩
  refine Nat.lt_of_le_of_ne Nat.and_le_left fun e => ?_
  have := hb (lst m)
  rw [e, h2] at this
  simp at this
theorem low_num (a : Nat) (h0 : a ≠ 0) (ha : a < 4503599627370496) : IntKind.u64.wrap ((a : Int) - 1) = ((a - 1 : Nat) : Int) ∧ bits .and .u64 (a : Int) ((a - 1 : Nat) : Int) = ((a &&& (a - 1) : Nat) : Int) := by
  refine ⟨?_, u64_and_nat a (a - 1) (by omega) (by omega)⟩
  rw [IntKind.wrap_u64]
  omega
set_option maxRecDepth 100000 in
set_option maxHeartbeats 4000000 in
theorem count4_calls (m : Nat) (hm : m < 4503599627370496) (w : World) :
    Calls Tryd.prog 19 #[.int .u64 m] w fun e w' => e = .returned (.int .i64 ((cds m).length : Int)) ∧ Below w.heap.size w w' := by
  have hlen := cds_length_le m
  obtain ⟨n, hn⟩ : ∃ n, (cds m).length = n := ⟨_, rfl⟩
  rw [hn] at hlen ⊢
  go_enter Tryd.func19, Tryd.ntmps19
  go_wp2
  go_loopw [0, 3] (fun s0 s3 wr => ∃ a k : Nat, s0 = .int .u64 a ∧ s3 = .int .i64 k ∧ a < 4503599627370496 ∧ k + (cds a).length = n ∧ Below w.heap.size w wr) (fun s0 _ _ => (intOf s0).toNat)
  case atStart => exact ⟨m, 0, rfl, rfl, hm, by omega, by repeat (first | (with_reducible exact Below.refl _ _) | ((with_reducible refine below_grow ?_ ?_); rotate_left; focus (first | omega | (simp [go_sem]; done) | (simp [go_sem]; omega))) | ((with_reducible refine Below.alloc ?_ ?_ _); rotate_left; focus (first | omega | (simp [go_sem]; done) | (simp [go_sem]; omega))) | ((with_reducible refine Below.setCell ?_ ?_ _); rotate_left; focus (first | omega | (simp [go_sem]; done) | (simp [go_sem]; omega))) | (with_reducible refine Below.drew ?_) | (with_reducible refine below_drewN _ ?_))⟩
  case round =>
    obtain ⟨a, k, rfl, rfl, ha, hk, hb⟩ := hrel
    by_cases hz : a = 0
    · subst hz
      rw [cds_zero] at hk
      obtain rfl : k = n := by simpa using hk
      clear ha hk hn hm
      go_wp2
      go_ret
      exact ⟨rfl, hb⟩
    · have hz' : (0 : Int) < a := by omega
      obtain ⟨l1, l2⟩ := low_clear hz ha
      obtain ⟨n1, n2⟩ := low_num a hz ha
      have e1 : IntKind.i64.wrap ((k : Int) + 1) = (k : Int) + 1 := IntWalk.i64_in _ (by omega)
      obtain ⟨q, hq⟩ : ∃ q, a &&& (a - 1) = q := ⟨_, rfl⟩
      rw [hq] at l1 l2 n2
      have HH := Lib.hid (And.intro l1 (And.intro l2 (And.intro ha hk)))
      have HZ := Lib.hid hz
      clear l1 l2 ha hk hq hz hn hlen hm
      go_wp2
      go_roundw
      case rel => exact ⟨q, k + 1, rfl, by go_num, by have := HH.out; omega, by have := HH.out; omega, hb⟩
      case measure => simp [intOf]; exact HH.out.2.1
end Go.Proofs.YtcfkcfbgnciccaaDoor
