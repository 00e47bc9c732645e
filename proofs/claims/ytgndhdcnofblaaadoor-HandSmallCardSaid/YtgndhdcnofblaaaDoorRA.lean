/- The reference: Has, Length, Right, Controls, Points. -/
import Derived.Test.YtgndhdcnofblaaaDoorHP0
import Derived.Deep.LoopGhost
namespace Go.Proofs.YtgndhdcnofblaaaDoor
open Go.RowKit

set_option maxRecDepth 100000 in
set_option maxHeartbeats 2000000 in
theorem refHas (m s r : Nat) (hm : m < 18446744073709551616) (hs : s < 4) (hr : r < 13) (w : World) : Calls Tryd.prog 38 #[.int .u64 m, .int .i64 s, .int .i64 r] w fun e w' => e = .returned (.bool (decide (hol m s / 2 ^ r % 2 = 1))) ∧ w = w' := by
  have hb := bt_dig m (13 * s) 13 r hr
  rw [show 2 ^ 13 = 8192 from rfl] at hb
  have hb' : hol m s / 2 ^ r % 2 = m / 2 ^ (13 * s + r) % 2 := hb
  rw [hb']
  have e1 : IntKind.i64.wrap ((13 : Int) * s) = ((13 * s : Nat) : Int) := by rw [IntWalk.i64_in _ (by omega)]; omega
  have e2 : IntKind.i64.wrap (((13 * s : Nat) : Int) + r) = ((13 * s + r : Nat) : Int) := by rw [IntWalk.i64_in _ (by omega)]; omega
  have hK : 13 * s + r < 52 := by omega
  obtain ⟨t, ht⟩ : ∃ t, 13 * s = t := ⟨_, rfl⟩
  rw [ht] at e1 e2 hK ⊢
  obtain ⟨k, hk⟩ : ∃ k, t + r = k := ⟨_, rfl⟩
  rw [hk] at e2 hK ⊢
  clear hb hb' ht hk
  go_enter Tryd.func38, Tryd.ntmps38
  go_wp2
  go_loopw [0, 7] (fun s0 s7 wr => ∃ i : Nat, s0 = .int .u64 ((m / 2 ^ i : Nat) : Int) ∧ s7 = .int .i64 i ∧ i ≤ k ∧ wr = w) (fun _ s7 _ => k - (intOf s7).toNat)
  case atStart => exact ⟨0, by simp, rfl, Nat.zero_le _, rfl⟩
  case round =>
    obtain ⟨i, rfl, rfl, hi, rfl⟩ := hrel
    by_cases hlt : i < k
    · have hlt2 : (i : Int) < k := by omega
      have hq : m / 2 ^ (i + 1) = m / 2 ^ i / 2 := by rw [Nat.pow_succ, Nat.div_div_eq_div_mul]
      obtain ⟨q, hqq⟩ : ∃ q, m / 2 ^ i = q := ⟨_, rfl⟩
      rw [hqq] at hq ⊢
      have d1 : (q : Int).tdiv 2 = ((q / 2 : Nat) : Int) := by rw [Int.tdiv_eq_ediv_of_nonneg (by omega)]; omega
      have d1' : (q : Int) / 2 = ((q / 2 : Nat) : Int) := by omega
      rw [← hq] at d1 d1'
      obtain ⟨z, hz⟩ : ∃ q, m / 2 ^ (i + 1) = q := ⟨_, rfl⟩
      rw [hz] at d1 d1'
      have d3 : IntKind.u64.wrap (z : Int) = z := IntWalk.u64_in _ (by have : m / 2 ^ (i + 1) ≤ m := Nat.div_le_self _ _
                                                                       omega)
      have f1 : IntKind.i64.wrap ((i : Int) + 1) = (i : Int) + 1 := IntWalk.i64_in _ (by omega)
      have HZ := Lib.hid hz
      have HL := Lib.hid hlt
      clear hq hqq hz hi hlt hK
      go_wp2
      go_roundw
      case rel => exact ⟨i + 1, by rw [HZ.out], by go_num, HL.out, by first | rfl | trivial⟩
      case measure => simp [intOf]; have := HL.out; omega
    · obtain rfl : i = k := by omega
      have hlt2 : ¬ (i : Int) < i := by omega
      obtain ⟨q, hqq⟩ : ∃ q, m / 2 ^ i = q := ⟨_, rfl⟩
      rw [hqq]
      have d1 : (q : Int).tmod 2 = ((q % 2 : Nat) : Int) := by rw [Int.tmod_eq_emod_of_nonneg (by omega)]; omega
      have d1' : (q : Int) % 2 = ((q % 2 : Nat) : Int) := by omega
      have d2 : (((q % 2 : Nat) : Int) == 1) = decide (q % 2 = 1) := by
        by_cases hq : q % 2 = 1
        · rw [hq]; rfl
        · rw [decide_eq_false hq, beq_eq_false_iff_ne]; omega
      obtain ⟨z, hz⟩ : ∃ z, q % 2 = z := ⟨_, rfl⟩
      rw [hz] at d1 d1' d2
      have HZ := Lib.hid hz
      have HQ := Lib.hid hqq
      clear hz hi hlt hK hqq
      go_wp2
      go_ret
      refine ⟨?_, rfl⟩
      rw [HQ.out, HZ.out]
      first | (simp [d2]; done) | simp
def lenp (h : Nat) : Nat → Nat
  | 0 => 0
  | i + 1 => lenp h i + h / 2 ^ i % 2
theorem lenp_13 (h : Nat) : lenp h 13 = len h := by simp [lenp, len]
theorem lenp_le (h : Nat) : ∀ i, lenp h i ≤ i
  | 0 => Nat.le_refl _
  | i + 1 => by
    have := lenp_le h i
    have : h / 2 ^ i % 2 < 2 := Nat.mod_lt _ (by decide)
    unfold lenp
    omega
set_option maxRecDepth 100000 in
set_option maxHeartbeats 2000000 in
theorem refLength (m s : Nat) (hm : m < 18446744073709551616) (hs : s < 4) (w : World) : Calls Tryd.prog 50 #[.int .u64 m, .int .i64 s] w fun e w' => e = .returned (.int .i64 (len (hol m s))) ∧ w = w' := by
  have H := fun r hr => refHas m s r hm hs hr
  rw [← lenp_13]
  obtain ⟨h, hh⟩ : ∃ h, hol m s = h := ⟨_, rfl⟩
  rw [hh] at H ⊢
  have H := Lib.hid H
  clear hh hs hm
  go_enter Tryd.func50, Tryd.ntmps50
  go_wp2
  go_loopw [5, 6] (fun s5 s6 wr => ∃ i : Nat, s5 = .int .i64 (lenp h i) ∧ s6 = .int .i64 i ∧ i ≤ 13 ∧ wr = w) (fun _ s6 _ => 13 - (intOf s6).toNat)
  case atStart => exact ⟨0, rfl, rfl, by decide, rfl⟩
  case round =>
    obtain ⟨i, rfl, rfl, hi, rfl⟩ := hrel
    by_cases hlt : i < 13
    · have hlt2 : (i : Int) < 13 := by omega
      have f1 : IntKind.i64.wrap ((i : Int) + 1) = (i : Int) + 1 := IntWalk.i64_in _ (by omega)
      have HH := H.out i hlt
      have hn : lenp h (i + 1) = lenp h i + h / 2 ^ i % 2 := rfl
      have hl := lenp_le h i
      have h2 : h / 2 ^ i % 2 < 2 := Nat.mod_lt _ (by decide)
      obtain ⟨a, ha⟩ : ∃ a, lenp h i = a := ⟨_, rfl⟩
      obtain ⟨b, hb⟩ : ∃ a, h / 2 ^ i % 2 = a := ⟨_, rfl⟩
      rw [ha] at hn hl ⊢
      rw [hb] at hn h2 HH
      have f2 : IntKind.i64.wrap ((a : Int) + 1) = (a : Int) + 1 := IntWalk.i64_in _ (by omega)
      have HL := Lib.hid hlt
      by_cases h1 : b = 1
      · rw [decide_eq_true h1] at HH
        have HH := Lib.hid HH
        rw [h1] at hn
        have HN := Lib.hid hn
        clear ha hb hn hl h2 h1 hlt hi
        go_wp2_with (go_at_call 38; refine (HH.out _).mono ?_; rintro e w1 ⟨rfl, rfl⟩)
        go_roundw
        case rel => exact ⟨i + 1, by rw [HN.out]; first | done | rfl | simp, by go_num, HL.out, by first | rfl | trivial⟩
        case measure => simp [intOf]; have := HL.out; omega
      · rw [decide_eq_false h1] at HH
        have HH := Lib.hid HH
        have hb0 : b = 0 := by omega
        have hn : lenp h (i + 1) = a := by rw [hn, hb0]; rfl
        have HN := Lib.hid hn
        clear ha hb hl h2 h1 hlt hi hb0 hn
        go_wp2_with (go_at_call 38; refine (HH.out _).mono ?_; rintro e w1 ⟨rfl, rfl⟩)
        go_roundw
        case rel => exact ⟨i + 1, by rw [HN.out], by go_num, HL.out, by first | rfl | trivial⟩
        case measure => simp [intOf]; have := HL.out; omega
    · obtain rfl : i = 13 := by omega
      go_wp2
      go_ret
      exact ⟨rfl, rfl⟩
set_option maxRecDepth 100000 in
set_option maxHeartbeats 2000000 in
theorem refRight (m : Nat) (hm : m < 18446744073709551616) (w : World) : Calls Tryd.prog 29 #[.int .u64 m] w fun e w' => e = .returned (.bool (decide (m < 4503599627370496 ∧ cnt m = 13))) ∧ w = w' := by
  have H := Lib.hid fun s hs => refLength m s hm hs
  have hc : cnt m = part len m 4 := by simp [cnt, part]
  rw [hc]
  go_enter Tryd.func29, Tryd.ntmps29
  go_wp2
  go_loopw [3, 4] (fun s3 s4 wr => ∃ i : Nat, s3 = .int .i64 (part len m i) ∧ s4 = .int .i64 i ∧ i ≤ 4 ∧ wr = w) (fun _ s4 _ => 4 - (intOf s4).toNat)
  case atStart => exact ⟨0, rfl, rfl, by decide, rfl⟩
  case round =>
    obtain ⟨i, rfl, rfl, hi, rfl⟩ := hrel
    by_cases hlt : i < 4
    · have hlt2 : (i : Int) < 4 := by omega
      have f1 : IntKind.i64.wrap ((i : Int) + 1) = (i : Int) + 1 := IntWalk.i64_in _ (by omega)
      have HH := H.out i hlt
      have hn : part len m (i + 1) = part len m i + len (hol m i) := rfl
      have hl := part_le len 13 m len_le i
      have ll := len_le (hol m i)
      obtain ⟨a, ha⟩ : ∃ a, part len m i = a := ⟨_, rfl⟩
      obtain ⟨b, hb⟩ : ∃ a, len (hol m i) = a := ⟨_, rfl⟩
      rw [ha] at hn hl ⊢
      rw [hb] at hn HH ll
      have f2 : IntKind.i64.wrap ((a : Int) + b) = ((a + b : Nat) : Int) := by rw [IntWalk.i64_in _ (by omega)]; omega
      have HL := Lib.hid hlt
      have HN := Lib.hid hn
      have HH := Lib.hid HH
      clear ha hb hn hl ll hlt hi
      go_wp2_with (go_at_call 50; refine (HH.out _).mono ?_; rintro e w1 ⟨rfl, rfl⟩)
      go_roundw
      case rel => exact ⟨i + 1, by rw [HN.out]; first | done | rfl | simp, by go_num, HL.out, by first | rfl | trivial⟩
      case measure => simp [intOf]; have := HL.out; omega
    · obtain rfl : i = 4 := by omega
      obtain ⟨c, hcc⟩ : ∃ c, part len m 4 = c := ⟨_, rfl⟩
      rw [hcc]
      by_cases h13 : c = 13
      · have g : ((c : Int) == 13) = true := by rw [h13]; rfl
        subst h13
        have g2 : ((m : Int) < 4503599627370496) ↔ m < 4503599627370496 := by omega
        have HC := Lib.hid hcc
        clear hcc hi hlt hc
        go_wp2
        go_ret
        refine ⟨?_, rfl⟩
        rw [HC.out]
        simp [g2]
      · have g : ((c : Int) == 13) = false := by rw [beq_eq_false_iff_ne]; omega
        have g2 : (c == 13) = false := by rw [beq_eq_false_iff_ne]; exact h13
        have HC := Lib.hid hcc
        have H13 := Lib.hid h13
        clear hcc hi hlt hc h13
        go_wp2
        go_ret
        refine ⟨?_, rfl⟩
        rw [HC.out, decide_eq_false (fun h => H13.out h.2)]
        first | rfl | simp
end Go.Proofs.YtgndhdcnofblaaaDoor
