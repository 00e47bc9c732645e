/- CardLess: the walk. -/
import Derived.Test.YtcfkcfbgnciccaaDoorCN
namespace Go.Proofs.YtcfkcfbgnciccaaDoor
open Go.RowKit

theorem clr_lt {a c : Nat} (ha : a < 4503599627370496) (hc : c < 52) (hb : a.testBit c = true) : clr a c < a := by
  refine Nat.lt_of_le_of_ne (clr_le _ _) fun e => ?_
  have := clr_bit (a := a) (g := c) (by omega) (by omega) c
  rw [e, hb] at this
  simp at this
theorem sui_zero {m s : Nat} (h : sui m s = 0) {c : Nat} (hc : c / 13 = s) : m.testBit c = false := by
  have := sui_bit m s c
  rw [h, Nat.zero_testBit, decide_eq_true (show 13 * s ≤ c by omega), decide_eq_true (show c < 13 * s + 13 by omega)] at this
  simpa using this.symm
/-- What the first loop keeps. -/
structure LessI (m s rest last : Nat) : Prop where
  lt : rest < 4503599627370496
  same : ∀ i, i / 13 ≠ s → rest.testBit i = m.testBit i
  low : ∀ i, (sui rest s).testBit i = true → i < last
theorem LessI.step {m s rest last : Nat} (h : LessI m s rest last) (h0 : sui rest s ≠ 0) :
    let c := grt (sui rest s)
    c < last ∧ c < 52 ∧ c / 13 = s ∧ rest.testBit c = true ∧ clr rest c < rest ∧ LessI m s (clr rest c) c := by
  intro c
  have hb := grt_bit h0
  have hlt := grt_lt (k := 52) h0 (sui_lt h.lt s)
  have hs := sui_bit rest s c
  rw [show (sui rest s).testBit c = true from hb] at hs
  have h1 : rest.testBit c = true ∧ 13 * s ≤ c ∧ c < 13 * s + 13 := by
    have := hs.symm
    simp only [Bool.and_eq_true, decide_eq_true_eq] at this
    exact this
  have hcl := clr_lt h.lt hlt h1.1
  have hbit := fun i => clr_bit (a := rest) (g := c) (by have := h.lt; omega) (by omega) i
  refine ⟨h.low c hb, hlt, by omega, h1.1, hcl, Nat.lt_trans hcl h.lt, fun i hi => ?_, fun i hi => ?_⟩
  · rw [hbit, h.same i hi]
    have : i ≠ c := by rintro rfl; omega
    simp [this]
  · rw [sui_bit, hbit] at hi
    simp only [Bool.and_eq_true, decide_eq_true_eq] at hi
    rcases Nat.lt_or_ge i c with h2 | h2
    · exact h2
    · have h3 : (sui rest s).testBit i = false := grt_above (show grt (sui rest s) < i by have := hi.1.2; omega)
      rw [sui_bit, hi.1.1, decide_eq_true hi.2.1, decide_eq_true hi.2.2] at h3
      cases h3
set_option maxRecDepth 100000 in
set_option maxHeartbeats 8000000 in
theorem cardLess_nat (a0 a1 : Int) (m s : Nat) (hm : m < 4503599627370496) (hs : s < 4) (h0 : a0.tmod 4503599627370496 = (m : Int)) (h1 : a1.tmod 4 = (s : Int)) (w : World) (he : Env w) :
    Calls Tryd.prog 9 #[.int .u64 a0, .int .u8 a1] w fun e w' => e = .returned (.bool true) ∧ Below w.heap.size w w' := by
  go_enter Tryd.func9, Tryd.ntmps9
  go_wp2
  go_loopw [5, 6] (fun s5 s6 wr => ∃ rest last : Nat, s5 = .int .u64 rest ∧ s6 = .int .u8 last ∧ last ≤ 52 ∧ LessI m s rest last ∧ Below w.heap.size w wr) (fun s5 _ _ => (intOf s5).toNat)
  case atStart =>
    refine ⟨m, 52, rfl, rfl, Nat.le_refl _, ⟨hm, fun _ _ => rfl, fun i hi => ?_⟩, by repeat (first | (with_reducible exact Below.refl _ _) | ((with_reducible refine below_grow ?_ ?_); rotate_left; focus (first | omega | (simp [go_sem]; done) | (simp [go_sem]; omega))) | ((with_reducible refine Below.alloc ?_ ?_ _); rotate_left; focus (first | omega | (simp [go_sem]; done) | (simp [go_sem]; omega))) | ((with_reducible refine Below.setCell ?_ ?_ _); rotate_left; focus (first | omega | (simp [go_sem]; done) | (simp [go_sem]; omega))) | (with_reducible refine Below.drew ?_) | (with_reducible refine below_drewN _ ?_))⟩
    rcases Nat.lt_or_ge i 52 with h2 | h2
    · exact h2
    · have := Nat.testBit_lt_two_pow (Nat.lt_of_lt_of_le (sui_lt hm s) (Nat.pow_le_pow_right (n := 2) (by decide) h2))
      rw [hi] at this
      cases this
  case round =>
    obtain ⟨rest, last, rfl, rfl, hlast, hI, hb⟩ := hrel
    by_cases hz : sui rest s = 0
    · have T := Lib.hid (top_none rest s (by omega) (fun _ => hz))
      have HI := Lib.hid (And.intro hI hz)
      have HM := Lib.hid (And.intro hm hs)
      clear hI hz hm hs hlast
      go_upto_region 10 with (first | (go_at_call 27; refine (T.out _).mono ?_; rintro e w1 ⟨rfl, rfl⟩))
      go_wp2
      go_loopw [9] (fun s9 wq => ∃ c : Nat, s9 = .int .u8 c ∧ c ≤ 52 ∧ Below w.heap.size w wq) (fun s9 _ => 52 - (intOf s9).toNat)
      case atStart => exact ⟨0, rfl, by decide, hb⟩
      case round =>
        obtain ⟨c, rfl, hc, hbq⟩ := hrel
        by_cases hlt : c < 52
        · have hlt2 : (c : Int) < 52 := by omega
          have S := Lib.hid (suit_yes c hlt)
          have e1 : IntKind.u8.wrap ((c : Int) + 1) = (c : Int) + 1 := u8_wrap (by omega) (by omega)
          have hmn : min c 64 = c := by omega
          have bm := bit_num m c HM.out.1 hlt
          have br := bit_num rest c HI.out.1.lt hlt
          obtain ⟨q, hq⟩ : ∃ q, c / 13 = q := ⟨_, rfl⟩
          rw [hq] at S
          by_cases hqs : q = s
          · subst hqs
            rw [sui_zero HI.out.2 hq] at br
            simp only [Bool.false_eq_true, if_false] at br
            have HC := Lib.hid hc
            clear hc hlt hq bm
            go_wp2_with (first | (go_at_call 22; refine (S.out _).mono ?_; rintro e w1 ⟨rfl, rfl⟩))
            go_roundw
            case rel => exact ⟨c + 1, by go_num, by omega, hbq⟩
            case measure => simp [intOf]; omega
          · rw [HI.out.1.same c (by omega)] at br
            have hne : ¬ (q : Int) = s := by omega
            obtain ⟨z, hz⟩ : ∃ z : Int, (if m.testBit c then 1 else 0) = z := ⟨_, rfl⟩
            rw [hz] at bm br
            have HC := Lib.hid hc
            clear hc hlt hq hqs hz
            go_wp2_with (first | (go_at_call 22; refine (S.out _).mono ?_; rintro e w1 ⟨rfl, rfl⟩))
            go_roundw
            case rel => exact ⟨c + 1, by go_num, by omega, hbq⟩
            case measure => simp [intOf]; omega
        · obtain rfl : c = 52 := by omega
          go_wp2_with (go_at_call 12; refine (awake_calls _ (he.below hbq)).mono ?_; rintro e w4 ⟨rfl, hb4⟩)
          go_ret
          exact ⟨rfl, hbq.trans (hb4.mono hbq.size)⟩
    · obtain ⟨k1, k2, k3, k4, k5, k6⟩ := hI.step hz
      have T := Lib.hid (top_some rest s hI.lt hs hz)
      obtain ⟨c, hc⟩ : ∃ c, grt (sui rest s) = c := ⟨_, rfl⟩
      rw [hc] at T k1 k2 k3 k4 k5 k6
      have S := Lib.hid (suit_yes c k2)
      rw [k3] at S
      have b1 := bit_num rest c hI.lt k2
      rw [k4, if_pos rfl] at b1
      obtain ⟨c1, c2⟩ := clr_num rest c (by have := hI.lt; omega) (by omega)
      have hmn : min c 64 = c := by omega
      have hcl : (c : Int) < last := by omega
      obtain ⟨q, hq⟩ : ∃ q, clr rest c = q := ⟨_, rfl⟩
      rw [hq] at c2 k5 k6
      have HH := Lib.hid (And.intro k6 (And.intro k5 (And.intro k2 (And.intro hm hs))))
      have HL := Lib.hid hlast
      clear hI hz hc k1 k2 k3 k4 k5 k6 hq hm hs hlast
      go_wp2_with (first | (go_at_call 27; refine (T.out _).mono ?_; rintro e w1 ⟨rfl, rfl⟩) | (go_at_call 22; refine (S.out _).mono ?_; rintro e w1 ⟨rfl, rfl⟩))
      go_roundw
      case rel => exact ⟨q, c, rfl, rfl, by have := HH.out.2.2.1; omega, HH.out.1, hb⟩
      case measure => simp [intOf]; exact HH.out.2.1
theorem cardLess_walk (a0 a1 : Int) (b0 : 0 ≤ a0 ∧ a0 ≤ 18446744073709551615) (b1 : 0 ≤ a1 ∧ a1 ≤ 255) (w : World) (he : Env w) :
    Calls Tryd.prog 9 #[.int .u64 a0, .int .u8 a1] w fun e w' => e = .returned (.bool true) ∧ Below w.heap.size w w' := by
  obtain ⟨n, rfl⟩ : ∃ n : Nat, a0 = n := ⟨a0.toNat, by omega⟩
  obtain ⟨k, rfl⟩ : ∃ k : Nat, a1 = k := ⟨a1.toNat, by omega⟩
  refine cardLess_nat _ _ (n % 4503599627370496) (k % 4) (Nat.mod_lt _ (by decide)) (Nat.mod_lt _ (by decide)) ?_ ?_ w he
  · rw [Int.tmod_eq_emod_of_nonneg (by omega)]; omega
  · rw [Int.tmod_eq_emod_of_nonneg (by omega)]; omega
end Go.Proofs.YtcfkcfbgnciccaaDoor
