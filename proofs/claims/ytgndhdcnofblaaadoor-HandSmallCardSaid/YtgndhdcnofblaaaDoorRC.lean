/- The reference: Losers, Quick. -/
import Derived.Test.YtgndhdcnofblaaaDoorRB
namespace Go.Proofs.YtgndhdcnofblaaaDoor
open Go.RowKit

set_option maxRecDepth 100000 in
set_option maxHeartbeats 8000000 in
theorem refLosers (m : Nat) (hm : m < 18446744073709551616) (w : World) : Calls Tryd.prog 32 #[.int .u64 m] w fun e w' => e = .returned (.int .i64 (tot los m)) ∧ w = w' := by
  have H := Lib.hid fun s hs r hr => refHas m s r hm hs hr
  have LN := Lib.hid fun s hs => refLength m s hm hs
  rw [← part_4]
  clear hm
  go_enter Tryd.func32, Tryd.ntmps32
  go_wp2
  go_loopw [3, 4] (fun s3 s4 wr => ∃ i : Nat, s3 = .int .i64 (part los m i) ∧ s4 = .int .i64 i ∧ i ≤ 4 ∧ wr = w) (fun _ s4 _ => 4 - (intOf s4).toNat)
  case atStart => exact ⟨0, rfl, rfl, by decide, rfl⟩
  case round =>
    obtain ⟨i, rfl, rfl, hi, rfl⟩ := hrel
    by_cases hlt : i < 4
    · have hlt2 : (i : Int) < 4 := by omega
      have f1 : IntKind.i64.wrap ((i : Int) + 1) = (i : Int) + 1 := IntWalk.i64_in _ (by omega)
      have hn : part los m (i + 1) = part los m i + los (hol m i) := rfl
      have hl := ltB (m := m) los 3 los_le (by decide) i (by omega)
      have HH := H.out i hlt
      have LL := LN.out i hlt
      obtain ⟨h, hh⟩ : ∃ h, hol m i = h := ⟨_, rfl⟩
      rw [hh] at HH LL hn
      obtain ⟨p, hp⟩ : ∃ a, part los m i = a := ⟨_, rfl⟩
      rw [hp] at hn hl ⊢
      have HL := Lib.hid hlt
      clear hh hp hlt hi
      have A0 : ∀ w, Calls Tryd.prog 38 #[.int .u64 m, .int .i64 i, .int .i64 12] w fun e w' => e = .returned (.bool (decide (h / 2 ^ 12 % 2 = 1))) ∧ w = w' := HH 12 (by decide)
      have K0 : ∀ w, Calls Tryd.prog 38 #[.int .u64 m, .int .i64 i, .int .i64 11] w fun e w' => e = .returned (.bool (decide (h / 2 ^ 11 % 2 = 1))) ∧ w = w' := HH 11 (by decide)
      have Q0 : ∀ w, Calls Tryd.prog 38 #[.int .u64 m, .int .i64 i, .int .i64 10] w fun e w' => e = .returned (.bool (decide (h / 2 ^ 10 % 2 = 1))) ∧ w = w' := HH 10 (by decide)
      simp only [Nat.reducePow] at A0 K0 Q0
      have lle := len_le h
      have hn : part los m (i + 1) = p + los h := hn
      unfold los at hn
      have hn : part los m (i + 1) = p + ((if 1 ≤ len h ∧ h / 4096 % 2 = 0 then 1 else 0) + (if 2 ≤ len h ∧ h / 2048 % 2 = 0 then 1 else 0) + (if 3 ≤ len h ∧ h / 1024 % 2 = 0 then 1 else 0)) := hn
      obtain ⟨n, hnn⟩ : ∃ a, len h = a := ⟨_, rfl⟩
      rw [hnn] at hn LL lle
      obtain ⟨a, ha⟩ : ∃ a, h / 4096 % 2 = a := ⟨_, rfl⟩
      obtain ⟨k, hk⟩ : ∃ a, h / 2048 % 2 = a := ⟨_, rfl⟩
      obtain ⟨q, hq⟩ : ∃ a, h / 1024 % 2 = a := ⟨_, rfl⟩
      have x1 : a < 2 := by rw [← ha]; exact Nat.mod_lt _ (by decide)
      have x2 : k < 2 := by rw [← hk]; exact Nat.mod_lt _ (by decide)
      have x3 : q < 2 := by rw [← hq]; exact Nat.mod_lt _ (by decide)
      rw [ha] at A0 hn
      rw [hk] at K0 hn
      rw [hq] at Q0 hn
      have w1' : IntKind.i64.wrap ((p : Int) + 1) = (p : Int) + 1 := IntWalk.i64_in _ (by omega)
      have w2' : IntKind.i64.wrap ((p : Int) + 1 + 1) = (p : Int) + 1 + 1 := IntWalk.i64_in _ (by omega)
      have w3' : IntKind.i64.wrap ((p : Int) + 1 + 1 + 1) = (p : Int) + 1 + 1 + 1 := IntWalk.i64_in _ (by omega)
      have w4' : IntKind.i64.wrap ((p : Int) + 2) = (p : Int) + 2 := IntWalk.i64_in _ (by omega)
      have w5' : IntKind.i64.wrap ((p : Int) + 3) = (p : Int) + 3 := IntWalk.i64_in _ (by omega)
      have w6' : IntKind.i64.wrap ((p : Int) + 4) = (p : Int) + 4 := IntWalk.i64_in _ (by omega)
      have LL := Lib.hid LL
      clear HH ha hk hq hnn hl
      by_cases ha1 : a = 1
      · skip
        rw [decide_eq_true ha1] at A0
        have A := Lib.hid A0
        by_cases hk1 : k = 1
        · skip
          rw [decide_eq_true hk1] at K0
          have K := Lib.hid K0
          by_cases hq1 : q = 1
          · skip
            rw [decide_eq_true hq1] at Q0
            have Q := Lib.hid Q0
            rcases (show n = 0 ∨ n = 1 ∨ n = 2 ∨ 3 ≤ n by omega) with hc | hc | hc | hc
            · skip
              have g1 : decide ((n : Int) ≥ 1) = false := decide_eq_false (by omega)
              have gn1 : decide (1 ≤ n) = false := decide_eq_false (by omega)
              have gz1 : ¬ (1 : Int) ≤ n := by omega
              have g2 : decide ((n : Int) ≥ 2) = false := decide_eq_false (by omega)
              have gn2 : decide (2 ≤ n) = false := decide_eq_false (by omega)
              have gz2 : ¬ (2 : Int) ≤ n := by omega
              have g3 : decide ((n : Int) ≥ 3) = false := decide_eq_false (by omega)
              have gn3 : decide (3 ≤ n) = false := decide_eq_false (by omega)
              have gz3 : ¬ (3 : Int) ≤ n := by omega
              have hn : part los m (i + 1) = p := by
                rw [hn]
                rw [if_neg (by omega), if_neg (by omega), if_neg (by omega)] <;> omega
              have HN := Lib.hid hn
              clear A0 K0 Q0 ha1 hk1 hq1 hn x1 x2 x3 lle hc
              go_wp2_with (first | (go_at_call_of 38 (Value.int .i64 12); refine (A.out _).mono ?_; rintro e w1 ⟨rfl, rfl⟩) | (go_at_call_of 38 (Value.int .i64 11); refine (K.out _).mono ?_; rintro e w1 ⟨rfl, rfl⟩) | (go_at_call_of 38 (Value.int .i64 10); refine (Q.out _).mono ?_; rintro e w1 ⟨rfl, rfl⟩) | (go_at_call 50; refine (LL.out _).mono ?_; rintro e w1 ⟨rfl, rfl⟩))
              go_roundw
              case rel => exact ⟨i + 1, by rw [HN.out]; first | done | rfl | simp, by go_num, HL.out, by first | rfl | trivial⟩
              case measure => simp [intOf]; have := HL.out; omega
            · skip
              have g1 : decide ((n : Int) ≥ 1) = true := decide_eq_true (by omega)
              have gn1 : decide (1 ≤ n) = true := decide_eq_true (by omega)
              have gz1 : (1 : Int) ≤ n := by omega
              have g2 : decide ((n : Int) ≥ 2) = false := decide_eq_false (by omega)
              have gn2 : decide (2 ≤ n) = false := decide_eq_false (by omega)
              have gz2 : ¬ (2 : Int) ≤ n := by omega
              have g3 : decide ((n : Int) ≥ 3) = false := decide_eq_false (by omega)
              have gn3 : decide (3 ≤ n) = false := decide_eq_false (by omega)
              have gz3 : ¬ (3 : Int) ≤ n := by omega
              have hn : part los m (i + 1) = p := by
                rw [hn]
                rw [if_neg (by omega), if_neg (by omega), if_neg (by omega)] <;> omega
              have HN := Lib.hid hn
              clear A0 K0 Q0 ha1 hk1 hq1 hn x1 x2 x3 lle hc
              go_wp2_with (first | (go_at_call_of 38 (Value.int .i64 12); refine (A.out _).mono ?_; rintro e w1 ⟨rfl, rfl⟩) | (go_at_call_of 38 (Value.int .i64 11); refine (K.out _).mono ?_; rintro e w1 ⟨rfl, rfl⟩) | (go_at_call_of 38 (Value.int .i64 10); refine (Q.out _).mono ?_; rintro e w1 ⟨rfl, rfl⟩) | (go_at_call 50; refine (LL.out _).mono ?_; rintro e w1 ⟨rfl, rfl⟩))
              go_roundw
              case rel => exact ⟨i + 1, by rw [HN.out]; first | done | rfl | simp, by go_num, HL.out, by first | rfl | trivial⟩
              case measure => simp [intOf]; have := HL.out; omega
            · skip
              have g1 : decide ((n : Int) ≥ 1) = true := decide_eq_true (by omega)
              have gn1 : decide (1 ≤ n) = true := decide_eq_true (by omega)
              have gz1 : (1 : Int) ≤ n := by omega
              have g2 : decide ((n : Int) ≥ 2) = true := decide_eq_true (by omega)
              have gn2 : decide (2 ≤ n) = true := decide_eq_true (by omega)
              have gz2 : (2 : Int) ≤ n := by omega
              have g3 : decide ((n : Int) ≥ 3) = false := decide_eq_false (by omega)
              have gn3 : decide (3 ≤ n) = false := decide_eq_false (by omega)
              have gz3 : ¬ (3 : Int) ≤ n := by omega
              have hn : part los m (i + 1) = p := by
                rw [hn]
                rw [if_neg (by omega), if_neg (by omega), if_neg (by omega)] <;> omega
              have HN := Lib.hid hn
              clear A0 K0 Q0 ha1 hk1 hq1 hn x1 x2 x3 lle hc
              go_wp2_with (first | (go_at_call_of 38 (Value.int .i64 12); refine (A.out _).mono ?_; rintro e w1 ⟨rfl, rfl⟩) | (go_at_call_of 38 (Value.int .i64 11); refine (K.out _).mono ?_; rintro e w1 ⟨rfl, rfl⟩) | (go_at_call_of 38 (Value.int .i64 10); refine (Q.out _).mono ?_; rintro e w1 ⟨rfl, rfl⟩) | (go_at_call 50; refine (LL.out _).mono ?_; rintro e w1 ⟨rfl, rfl⟩))
              go_roundw
              case rel => exact ⟨i + 1, by rw [HN.out]; first | done | rfl | simp, by go_num, HL.out, by first | rfl | trivial⟩
              case measure => simp [intOf]; have := HL.out; omega
            · skip
              have g1 : decide ((n : Int) ≥ 1) = true := decide_eq_true (by omega)
              have gn1 : decide (1 ≤ n) = true := decide_eq_true (by omega)
              have gz1 : (1 : Int) ≤ n := by omega
              have g2 : decide ((n : Int) ≥ 2) = true := decide_eq_true (by omega)
              have gn2 : decide (2 ≤ n) = true := decide_eq_true (by omega)
              have gz2 : (2 : Int) ≤ n := by omega
              have g3 : decide ((n : Int) ≥ 3) = true := decide_eq_true (by omega)
              have gn3 : decide (3 ≤ n) = true := decide_eq_true (by omega)
              have gz3 : (3 : Int) ≤ n := by omega
              have hn : part los m (i + 1) = p := by
                rw [hn]
                rw [if_neg (by omega), if_neg (by omega), if_neg (by omega)] <;> omega
              have HN := Lib.hid hn
              clear A0 K0 Q0 ha1 hk1 hq1 hn x1 x2 x3 lle hc
              go_wp2_with (first | (go_at_call_of 38 (Value.int .i64 12); refine (A.out _).mono ?_; rintro e w1 ⟨rfl, rfl⟩) | (go_at_call_of 38 (Value.int .i64 11); refine (K.out _).mono ?_; rintro e w1 ⟨rfl, rfl⟩) | (go_at_call_of 38 (Value.int .i64 10); refine (Q.out _).mono ?_; rintro e w1 ⟨rfl, rfl⟩) | (go_at_call 50; refine (LL.out _).mono ?_; rintro e w1 ⟨rfl, rfl⟩))
              go_roundw
              case rel => exact ⟨i + 1, by rw [HN.out]; first | done | rfl | simp, by go_num, HL.out, by first | rfl | trivial⟩
              case measure => simp [intOf]; have := HL.out; omega
          · skip
            rw [decide_eq_false hq1] at Q0
            have Q := Lib.hid Q0
            rcases (show n = 0 ∨ n = 1 ∨ n = 2 ∨ 3 ≤ n by omega) with hc | hc | hc | hc
            · skip
              have g1 : decide ((n : Int) ≥ 1) = false := decide_eq_false (by omega)
              have gn1 : decide (1 ≤ n) = false := decide_eq_false (by omega)
              have gz1 : ¬ (1 : Int) ≤ n := by omega
              have g2 : decide ((n : Int) ≥ 2) = false := decide_eq_false (by omega)
              have gn2 : decide (2 ≤ n) = false := decide_eq_false (by omega)
              have gz2 : ¬ (2 : Int) ≤ n := by omega
              have g3 : decide ((n : Int) ≥ 3) = false := decide_eq_false (by omega)
              have gn3 : decide (3 ≤ n) = false := decide_eq_false (by omega)
              have gz3 : ¬ (3 : Int) ≤ n := by omega
              have hn : part los m (i + 1) = p := by
                rw [hn]
                rw [if_neg (by omega), if_neg (by omega), if_neg (by omega)] <;> omega
              have HN := Lib.hid hn
              clear A0 K0 Q0 ha1 hk1 hq1 hn x1 x2 x3 lle hc
              go_wp2_with (first | (go_at_call_of 38 (Value.int .i64 12); refine (A.out _).mono ?_; rintro e w1 ⟨rfl, rfl⟩) | (go_at_call_of 38 (Value.int .i64 11); refine (K.out _).mono ?_; rintro e w1 ⟨rfl, rfl⟩) | (go_at_call_of 38 (Value.int .i64 10); refine (Q.out _).mono ?_; rintro e w1 ⟨rfl, rfl⟩) | (go_at_call 50; refine (LL.out _).mono ?_; rintro e w1 ⟨rfl, rfl⟩))
              go_roundw
              case rel => exact ⟨i + 1, by rw [HN.out]; first | done | rfl | simp, by go_num, HL.out, by first | rfl | trivial⟩
              case measure => simp [intOf]; have := HL.out; omega
            · skip
              have g1 : decide ((n : Int) ≥ 1) = true := decide_eq_true (by omega)
              have gn1 : decide (1 ≤ n) = true := decide_eq_true (by omega)
              have gz1 : (1 : Int) ≤ n := by omega
              have g2 : decide ((n : Int) ≥ 2) = false := decide_eq_false (by omega)
              have gn2 : decide (2 ≤ n) = false := decide_eq_false (by omega)
              have gz2 : ¬ (2 : Int) ≤ n := by omega
              have g3 : decide ((n : Int) ≥ 3) = false := decide_eq_false (by omega)
              have gn3 : decide (3 ≤ n) = false := decide_eq_false (by omega)
              have gz3 : ¬ (3 : Int) ≤ n := by omega
              have hn : part los m (i + 1) = p := by
                rw [hn]
                rw [if_neg (by omega), if_neg (by omega), if_neg (by omega)] <;> omega
              have HN := Lib.hid hn
              clear A0 K0 Q0 ha1 hk1 hq1 hn x1 x2 x3 lle hc
              go_wp2_with (first | (go_at_call_of 38 (Value.int .i64 12); refine (A.out _).mono ?_; rintro e w1 ⟨rfl, rfl⟩) | (go_at_call_of 38 (Value.int .i64 11); refine (K.out _).mono ?_; rintro e w1 ⟨rfl, rfl⟩) | (go_at_call_of 38 (Value.int .i64 10); refine (Q.out _).mono ?_; rintro e w1 ⟨rfl, rfl⟩) | (go_at_call 50; refine (LL.out _).mono ?_; rintro e w1 ⟨rfl, rfl⟩))
              go_roundw
              case rel => exact ⟨i + 1, by rw [HN.out]; first | done | rfl | simp, by go_num, HL.out, by first | rfl | trivial⟩
              case measure => simp [intOf]; have := HL.out; omega
            · skip
              have g1 : decide ((n : Int) ≥ 1) = true := decide_eq_true (by omega)
              have gn1 : decide (1 ≤ n) = true := decide_eq_true (by omega)
              have gz1 : (1 : Int) ≤ n := by omega
              have g2 : decide ((n : Int) ≥ 2) = true := decide_eq_true (by omega)
              have gn2 : decide (2 ≤ n) = true := decide_eq_true (by omega)
              have gz2 : (2 : Int) ≤ n := by omega
              have g3 : decide ((n : Int) ≥ 3) = false := decide_eq_false (by omega)
              have gn3 : decide (3 ≤ n) = false := decide_eq_false (by omega)
              have gz3 : ¬ (3 : Int) ≤ n := by omega
              have hn : part los m (i + 1) = p := by
                rw [hn]
                rw [if_neg (by omega), if_neg (by omega), if_neg (by omega)] <;> omega
              have HN := Lib.hid hn
              clear A0 K0 Q0 ha1 hk1 hq1 hn x1 x2 x3 lle hc
              go_wp2_with (first | (go_at_call_of 38 (Value.int .i64 12); refine (A.out _).mono ?_; rintro e w1 ⟨rfl, rfl⟩) | (go_at_call_of 38 (Value.int .i64 11); refine (K.out _).mono ?_; rintro e w1 ⟨rfl, rfl⟩) | (go_at_call_of 38 (Value.int .i64 10); refine (Q.out _).mono ?_; rintro e w1 ⟨rfl, rfl⟩) | (go_at_call 50; refine (LL.out _).mono ?_; rintro e w1 ⟨rfl, rfl⟩))
              go_roundw
              case rel => exact ⟨i + 1, by rw [HN.out]; first | done | rfl | simp, by go_num, HL.out, by first | rfl | trivial⟩
              case measure => simp [intOf]; have := HL.out; omega
            · skip
              have g1 : decide ((n : Int) ≥ 1) = true := decide_eq_true (by omega)
              have gn1 : decide (1 ≤ n) = true := decide_eq_true (by omega)
              have gz1 : (1 : Int) ≤ n := by omega
              have g2 : decide ((n : Int) ≥ 2) = true := decide_eq_true (by omega)
              have gn2 : decide (2 ≤ n) = true := decide_eq_true (by omega)
              have gz2 : (2 : Int) ≤ n := by omega
              have g3 : decide ((n : Int) ≥ 3) = true := decide_eq_true (by omega)
              have gn3 : decide (3 ≤ n) = true := decide_eq_true (by omega)
              have gz3 : (3 : Int) ≤ n := by omega
              have hn : part los m (i + 1) = p + 1 := by
                rw [hn]
                rw [if_neg (by omega), if_neg (by omega), if_pos (by omega)] <;> omega
              have HN := Lib.hid hn
              clear A0 K0 Q0 ha1 hk1 hq1 hn x1 x2 x3 lle hc
              go_wp2_with (first | (go_at_call_of 38 (Value.int .i64 12); refine (A.out _).mono ?_; rintro e w1 ⟨rfl, rfl⟩) | (go_at_call_of 38 (Value.int .i64 11); refine (K.out _).mono ?_; rintro e w1 ⟨rfl, rfl⟩) | (go_at_call_of 38 (Value.int .i64 10); refine (Q.out _).mono ?_; rintro e w1 ⟨rfl, rfl⟩) | (go_at_call 50; refine (LL.out _).mono ?_; rintro e w1 ⟨rfl, rfl⟩))
              go_roundw
              case rel => exact ⟨i + 1, by rw [HN.out]; first | done | rfl | simp, by go_num, HL.out, by first | rfl | trivial⟩
              case measure => simp [intOf]; have := HL.out; omega
        · skip
          rw [decide_eq_false hk1] at K0
          have K := Lib.hid K0
          by_cases hq1 : q = 1
          · skip
            rw [decide_eq_true hq1] at Q0
            have Q := Lib.hid Q0
            rcases (show n = 0 ∨ n = 1 ∨ n = 2 ∨ 3 ≤ n by omega) with hc | hc | hc | hc
            · skip
              have g1 : decide ((n : Int) ≥ 1) = false := decide_eq_false (by omega)
              have gn1 : decide (1 ≤ n) = false := decide_eq_false (by omega)
              have gz1 : ¬ (1 : Int) ≤ n := by omega
              have g2 : decide ((n : Int) ≥ 2) = false := decide_eq_false (by omega)
              have gn2 : decide (2 ≤ n) = false := decide_eq_false (by omega)
              have gz2 : ¬ (2 : Int) ≤ n := by omega
              have g3 : decide ((n : Int) ≥ 3) = false := decide_eq_false (by omega)
              have gn3 : decide (3 ≤ n) = false := decide_eq_false (by omega)
              have gz3 : ¬ (3 : Int) ≤ n := by omega
              have hn : part los m (i + 1) = p := by
                rw [hn]
                rw [if_neg (by omega), if_neg (by omega), if_neg (by omega)] <;> omega
              have HN := Lib.hid hn
              clear A0 K0 Q0 ha1 hk1 hq1 hn x1 x2 x3 lle hc
              go_wp2_with (first | (go_at_call_of 38 (Value.int .i64 12); refine (A.out _).mono ?_; rintro e w1 ⟨rfl, rfl⟩) | (go_at_call_of 38 (Value.int .i64 11); refine (K.out _).mono ?_; rintro e w1 ⟨rfl, rfl⟩) | (go_at_call_of 38 (Value.int .i64 10); refine (Q.out _).mono ?_; rintro e w1 ⟨rfl, rfl⟩) | (go_at_call 50; refine (LL.out _).mono ?_; rintro e w1 ⟨rfl, rfl⟩))
              go_roundw
              case rel => exact ⟨i + 1, by rw [HN.out]; first | done | rfl | simp, by go_num, HL.out, by first | rfl | trivial⟩
              case measure => simp [intOf]; have := HL.out; omega
            · skip
              have g1 : decide ((n : Int) ≥ 1) = true := decide_eq_true (by omega)
              have gn1 : decide (1 ≤ n) = true := decide_eq_true (by omega)
              have gz1 : (1 : Int) ≤ n := by omega
              have g2 : decide ((n : Int) ≥ 2) = false := decide_eq_false (by omega)
              have gn2 : decide (2 ≤ n) = false := decide_eq_false (by omega)
              have gz2 : ¬ (2 : Int) ≤ n := by omega
              have g3 : decide ((n : Int) ≥ 3) = false := decide_eq_false (by omega)
              have gn3 : decide (3 ≤ n) = false := decide_eq_false (by omega)
              have gz3 : ¬ (3 : Int) ≤ n := by omega
              have hn : part los m (i + 1) = p := by
                rw [hn]
                rw [if_neg (by omega), if_neg (by omega), if_neg (by omega)] <;> omega
              have HN := Lib.hid hn
              clear A0 K0 Q0 ha1 hk1 hq1 hn x1 x2 x3 lle hc
              go_wp2_with (first | (go_at_call_of 38 (Value.int .i64 12); refine (A.out _).mono ?_; rintro e w1 ⟨rfl, rfl⟩) | (go_at_call_of 38 (Value.int .i64 11); refine (K.out _).mono ?_; rintro e w1 ⟨rfl, rfl⟩) | (go_at_call_of 38 (Value.int .i64 10); refine (Q.out _).mono ?_; rintro e w1 ⟨rfl, rfl⟩) | (go_at_call 50; refine (LL.out _).mono ?_; rintro e w1 ⟨rfl, rfl⟩))
              go_roundw
              case rel => exact ⟨i + 1, by rw [HN.out]; first | done | rfl | simp, by go_num, HL.out, by first | rfl | trivial⟩
              case measure => simp [intOf]; have := HL.out; omega
            · skip
              have g1 : decide ((n : Int) ≥ 1) = true := decide_eq_true (by omega)
              have gn1 : decide (1 ≤ n) = true := decide_eq_true (by omega)
              have gz1 : (1 : Int) ≤ n := by omega
              have g2 : decide ((n : Int) ≥ 2) = true := decide_eq_true (by omega)
              have gn2 : decide (2 ≤ n) = true := decide_eq_true (by omega)
              have gz2 : (2 : Int) ≤ n := by omega
              have g3 : decide ((n : Int) ≥ 3) = false := decide_eq_false (by omega)
              have gn3 : decide (3 ≤ n) = false := decide_eq_false (by omega)
              have gz3 : ¬ (3 : Int) ≤ n := by omega
              have hn : part los m (i + 1) = p + 1 := by
                rw [hn]
                rw [if_neg (by omega), if_pos (by omega), if_neg (by omega)] <;> omega
              have HN := Lib.hid hn
              clear A0 K0 Q0 ha1 hk1 hq1 hn x1 x2 x3 lle hc
              go_wp2_with (first | (go_at_call_of 38 (Value.int .i64 12); refine (A.out _).mono ?_; rintro e w1 ⟨rfl, rfl⟩) | (go_at_call_of 38 (Value.int .i64 11); refine (K.out _).mono ?_; rintro e w1 ⟨rfl, rfl⟩) | (go_at_call_of 38 (Value.int .i64 10); refine (Q.out _).mono ?_; rintro e w1 ⟨rfl, rfl⟩) | (go_at_call 50; refine (LL.out _).mono ?_; rintro e w1 ⟨rfl, rfl⟩))
              go_roundw
              case rel => exact ⟨i + 1, by rw [HN.out]; first | done | rfl | simp, by go_num, HL.out, by first | rfl | trivial⟩
              case measure => simp [intOf]; have := HL.out; omega
            · skip
              have g1 : decide ((n : Int) ≥ 1) = true := decide_eq_true (by omega)
              have gn1 : decide (1 ≤ n) = true := decide_eq_true (by omega)
              have gz1 : (1 : Int) ≤ n := by omega
              have g2 : decide ((n : Int) ≥ 2) = true := decide_eq_true (by omega)
              have gn2 : decide (2 ≤ n) = true := decide_eq_true (by omega)
              have gz2 : (2 : Int) ≤ n := by omega
              have g3 : decide ((n : Int) ≥ 3) = true := decide_eq_true (by omega)
              have gn3 : decide (3 ≤ n) = true := decide_eq_true (by omega)
              have gz3 : (3 : Int) ≤ n := by omega
              have hn : part los m (i + 1) = p + 1 := by
                rw [hn]
                rw [if_neg (by omega), if_pos (by omega), if_neg (by omega)] <;> omega
              have HN := Lib.hid hn
              clear A0 K0 Q0 ha1 hk1 hq1 hn x1 x2 x3 lle hc
              go_wp2_with (first | (go_at_call_of 38 (Value.int .i64 12); refine (A.out _).mono ?_; rintro e w1 ⟨rfl, rfl⟩) | (go_at_call_of 38 (Value.int .i64 11); refine (K.out _).mono ?_; rintro e w1 ⟨rfl, rfl⟩) | (go_at_call_of 38 (Value.int .i64 10); refine (Q.out _).mono ?_; rintro e w1 ⟨rfl, rfl⟩) | (go_at_call 50; refine (LL.out _).mono ?_; rintro e w1 ⟨rfl, rfl⟩))
              go_roundw
              case rel => exact ⟨i + 1, by rw [HN.out]; first | done | rfl | simp, by go_num, HL.out, by first | rfl | trivial⟩
              case measure => simp [intOf]; have := HL.out; omega
          · skip
            rw [decide_eq_false hq1] at Q0
            have Q := Lib.hid Q0
            rcases (show n = 0 ∨ n = 1 ∨ n = 2 ∨ 3 ≤ n by omega) with hc | hc | hc | hc
            · skip
              have g1 : decide ((n : Int) ≥ 1) = false := decide_eq_false (by omega)
              have gn1 : decide (1 ≤ n) = false := decide_eq_false (by omega)
              have gz1 : ¬ (1 : Int) ≤ n := by omega
              have g2 : decide ((n : Int) ≥ 2) = false := decide_eq_false (by omega)
              have gn2 : decide (2 ≤ n) = false := decide_eq_false (by omega)
              have gz2 : ¬ (2 : Int) ≤ n := by omega
              have g3 : decide ((n : Int) ≥ 3) = false := decide_eq_false (by omega)
              have gn3 : decide (3 ≤ n) = false := decide_eq_false (by omega)
              have gz3 : ¬ (3 : Int) ≤ n := by omega
              have hn : part los m (i + 1) = p := by
                rw [hn]
                rw [if_neg (by omega), if_neg (by omega), if_neg (by omega)] <;> omega
              have HN := Lib.hid hn
              clear A0 K0 Q0 ha1 hk1 hq1 hn x1 x2 x3 lle hc
              go_wp2_with (first | (go_at_call_of 38 (Value.int .i64 12); refine (A.out _).mono ?_; rintro e w1 ⟨rfl, rfl⟩) | (go_at_call_of 38 (Value.int .i64 11); refine (K.out _).mono ?_; rintro e w1 ⟨rfl, rfl⟩) | (go_at_call_of 38 (Value.int .i64 10); refine (Q.out _).mono ?_; rintro e w1 ⟨rfl, rfl⟩) | (go_at_call 50; refine (LL.out _).mono ?_; rintro e w1 ⟨rfl, rfl⟩))
              go_roundw
              case rel => exact ⟨i + 1, by rw [HN.out]; first | done | rfl | simp, by go_num, HL.out, by first | rfl | trivial⟩
              case measure => simp [intOf]; have := HL.out; omega
            · skip
              have g1 : decide ((n : Int) ≥ 1) = true := decide_eq_true (by omega)
              have gn1 : decide (1 ≤ n) = true := decide_eq_true (by omega)
              have gz1 : (1 : Int) ≤ n := by omega
              have g2 : decide ((n : Int) ≥ 2) = false := decide_eq_false (by omega)
              have gn2 : decide (2 ≤ n) = false := decide_eq_false (by omega)
              have gz2 : ¬ (2 : Int) ≤ n := by omega
              have g3 : decide ((n : Int) ≥ 3) = false := decide_eq_false (by omega)
              have gn3 : decide (3 ≤ n) = false := decide_eq_false (by omega)
              have gz3 : ¬ (3 : Int) ≤ n := by omega
              have hn : part los m (i + 1) = p := by
                rw [hn]
                rw [if_neg (by omega), if_neg (by omega), if_neg (by omega)] <;> omega
              have HN := Lib.hid hn
              clear A0 K0 Q0 ha1 hk1 hq1 hn x1 x2 x3 lle hc
              go_wp2_with (first | (go_at_call_of 38 (Value.int .i64 12); refine (A.out _).mono ?_; rintro e w1 ⟨rfl, rfl⟩) | (go_at_call_of 38 (Value.int .i64 11); refine (K.out _).mono ?_; rintro e w1 ⟨rfl, rfl⟩) | (go_at_call_of 38 (Value.int .i64 10); refine (Q.out _).mono ?_; rintro e w1 ⟨rfl, rfl⟩) | (go_at_call 50; refine (LL.out _).mono ?_; rintro e w1 ⟨rfl, rfl⟩))
              go_roundw
              case rel => exact ⟨i + 1, by rw [HN.out]; first | done | rfl | simp, by go_num, HL.out, by first | rfl | trivial⟩
              case measure => simp [intOf]; have := HL.out; omega
            · skip
              have g1 : decide ((n : Int) ≥ 1) = true := decide_eq_true (by omega)
              have gn1 : decide (1 ≤ n) = true := decide_eq_true (by omega)
              have gz1 : (1 : Int) ≤ n := by omega
              have g2 : decide ((n : Int) ≥ 2) = true := decide_eq_true (by omega)
              have gn2 : decide (2 ≤ n) = true := decide_eq_true (by omega)
              have gz2 : (2 : Int) ≤ n := by omega
              have g3 : decide ((n : Int) ≥ 3) = false := decide_eq_false (by omega)
              have gn3 : decide (3 ≤ n) = false := decide_eq_false (by omega)
              have gz3 : ¬ (3 : Int) ≤ n := by omega
              have hn : part los m (i + 1) = p + 1 := by
                rw [hn]
                rw [if_neg (by omega), if_pos (by omega), if_neg (by omega)] <;> omega
              have HN := Lib.hid hn
              clear A0 K0 Q0 ha1 hk1 hq1 hn x1 x2 x3 lle hc
              go_wp2_with (first | (go_at_call_of 38 (Value.int .i64 12); refine (A.out _).mono ?_; rintro e w1 ⟨rfl, rfl⟩) | (go_at_call_of 38 (Value.int .i64 11); refine (K.out _).mono ?_; rintro e w1 ⟨rfl, rfl⟩) | (go_at_call_of 38 (Value.int .i64 10); refine (Q.out _).mono ?_; rintro e w1 ⟨rfl, rfl⟩) | (go_at_call 50; refine (LL.out _).mono ?_; rintro e w1 ⟨rfl, rfl⟩))
              go_roundw
              case rel => exact ⟨i + 1, by rw [HN.out]; first | done | rfl | simp, by go_num, HL.out, by first | rfl | trivial⟩
              case measure => simp [intOf]; have := HL.out; omega
            · skip
              have g1 : decide ((n : Int) ≥ 1) = true := decide_eq_true (by omega)
              have gn1 : decide (1 ≤ n) = true := decide_eq_true (by omega)
              have gz1 : (1 : Int) ≤ n := by omega
              have g2 : decide ((n : Int) ≥ 2) = true := decide_eq_true (by omega)
              have gn2 : decide (2 ≤ n) = true := decide_eq_true (by omega)
              have gz2 : (2 : Int) ≤ n := by omega
              have g3 : decide ((n : Int) ≥ 3) = true := decide_eq_true (by omega)
              have gn3 : decide (3 ≤ n) = true := decide_eq_true (by omega)
              have gz3 : (3 : Int) ≤ n := by omega
              have hn : part los m (i + 1) = p + 1 + 1 := by
                rw [hn]
                rw [if_neg (by omega), if_pos (by omega), if_pos (by omega)] <;> omega
              have HN := Lib.hid hn
              clear A0 K0 Q0 ha1 hk1 hq1 hn x1 x2 x3 lle hc
              go_wp2_with (first | (go_at_call_of 38 (Value.int .i64 12); refine (A.out _).mono ?_; rintro e w1 ⟨rfl, rfl⟩) | (go_at_call_of 38 (Value.int .i64 11); refine (K.out _).mono ?_; rintro e w1 ⟨rfl, rfl⟩) | (go_at_call_of 38 (Value.int .i64 10); refine (Q.out _).mono ?_; rintro e w1 ⟨rfl, rfl⟩) | (go_at_call 50; refine (LL.out _).mono ?_; rintro e w1 ⟨rfl, rfl⟩))
              go_roundw
              case rel => exact ⟨i + 1, by rw [HN.out]; first | done | rfl | simp, by go_num, HL.out, by first | rfl | trivial⟩
              case measure => simp [intOf]; have := HL.out; omega
      · skip
        rw [decide_eq_false ha1] at A0
        have A := Lib.hid A0
        by_cases hk1 : k = 1
        · skip
          rw [decide_eq_true hk1] at K0
          have K := Lib.hid K0
          by_cases hq1 : q = 1
          · skip
            rw [decide_eq_true hq1] at Q0
            have Q := Lib.hid Q0
            rcases (show n = 0 ∨ n = 1 ∨ n = 2 ∨ 3 ≤ n by omega) with hc | hc | hc | hc
            · skip
              have g1 : decide ((n : Int) ≥ 1) = false := decide_eq_false (by omega)
              have gn1 : decide (1 ≤ n) = false := decide_eq_false (by omega)
              have gz1 : ¬ (1 : Int) ≤ n := by omega
              have g2 : decide ((n : Int) ≥ 2) = false := decide_eq_false (by omega)
              have gn2 : decide (2 ≤ n) = false := decide_eq_false (by omega)
              have gz2 : ¬ (2 : Int) ≤ n := by omega
              have g3 : decide ((n : Int) ≥ 3) = false := decide_eq_false (by omega)
              have gn3 : decide (3 ≤ n) = false := decide_eq_false (by omega)
              have gz3 : ¬ (3 : Int) ≤ n := by omega
              have hn : part los m (i + 1) = p := by
                rw [hn]
                rw [if_neg (by omega), if_neg (by omega), if_neg (by omega)] <;> omega
              have HN := Lib.hid hn
              clear A0 K0 Q0 ha1 hk1 hq1 hn x1 x2 x3 lle hc
              go_wp2_with (first | (go_at_call_of 38 (Value.int .i64 12); refine (A.out _).mono ?_; rintro e w1 ⟨rfl, rfl⟩) | (go_at_call_of 38 (Value.int .i64 11); refine (K.out _).mono ?_; rintro e w1 ⟨rfl, rfl⟩) | (go_at_call_of 38 (Value.int .i64 10); refine (Q.out _).mono ?_; rintro e w1 ⟨rfl, rfl⟩) | (go_at_call 50; refine (LL.out _).mono ?_; rintro e w1 ⟨rfl, rfl⟩))
              go_roundw
              case rel => exact ⟨i + 1, by rw [HN.out]; first | done | rfl | simp, by go_num, HL.out, by first | rfl | trivial⟩
              case measure => simp [intOf]; have := HL.out; omega
            · skip
              have g1 : decide ((n : Int) ≥ 1) = true := decide_eq_true (by omega)
              have gn1 : decide (1 ≤ n) = true := decide_eq_true (by omega)
              have gz1 : (1 : Int) ≤ n := by omega
              have g2 : decide ((n : Int) ≥ 2) = false := decide_eq_false (by omega)
              have gn2 : decide (2 ≤ n) = false := decide_eq_false (by omega)
              have gz2 : ¬ (2 : Int) ≤ n := by omega
              have g3 : decide ((n : Int) ≥ 3) = false := decide_eq_false (by omega)
              have gn3 : decide (3 ≤ n) = false := decide_eq_false (by omega)
              have gz3 : ¬ (3 : Int) ≤ n := by omega
              have hn : part los m (i + 1) = p + 1 := by
                rw [hn]
                rw [if_pos (by omega), if_neg (by omega), if_neg (by omega)] <;> omega
              have HN := Lib.hid hn
              clear A0 K0 Q0 ha1 hk1 hq1 hn x1 x2 x3 lle hc
              go_wp2_with (first | (go_at_call_of 38 (Value.int .i64 12); refine (A.out _).mono ?_; rintro e w1 ⟨rfl, rfl⟩) | (go_at_call_of 38 (Value.int .i64 11); refine (K.out _).mono ?_; rintro e w1 ⟨rfl, rfl⟩) | (go_at_call_of 38 (Value.int .i64 10); refine (Q.out _).mono ?_; rintro e w1 ⟨rfl, rfl⟩) | (go_at_call 50; refine (LL.out _).mono ?_; rintro e w1 ⟨rfl, rfl⟩))
              go_roundw
              case rel => exact ⟨i + 1, by rw [HN.out]; first | done | rfl | simp, by go_num, HL.out, by first | rfl | trivial⟩
              case measure => simp [intOf]; have := HL.out; omega
            · skip
              have g1 : decide ((n : Int) ≥ 1) = true := decide_eq_true (by omega)
              have gn1 : decide (1 ≤ n) = true := decide_eq_true (by omega)
              have gz1 : (1 : Int) ≤ n := by omega
              have g2 : decide ((n : Int) ≥ 2) = true := decide_eq_true (by omega)
              have gn2 : decide (2 ≤ n) = true := decide_eq_true (by omega)
              have gz2 : (2 : Int) ≤ n := by omega
              have g3 : decide ((n : Int) ≥ 3) = false := decide_eq_false (by omega)
              have gn3 : decide (3 ≤ n) = false := decide_eq_false (by omega)
              have gz3 : ¬ (3 : Int) ≤ n := by omega
              have hn : part los m (i + 1) = p + 1 := by
                rw [hn]
                rw [if_pos (by omega), if_neg (by omega), if_neg (by omega)] <;> omega
              have HN := Lib.hid hn
              clear A0 K0 Q0 ha1 hk1 hq1 hn x1 x2 x3 lle hc
              go_wp2_with (first | (go_at_call_of 38 (Value.int .i64 12); refine (A.out _).mono ?_; rintro e w1 ⟨rfl, rfl⟩) | (go_at_call_of 38 (Value.int .i64 11); refine (K.out _).mono ?_; rintro e w1 ⟨rfl, rfl⟩) | (go_at_call_of 38 (Value.int .i64 10); refine (Q.out _).mono ?_; rintro e w1 ⟨rfl, rfl⟩) | (go_at_call 50; refine (LL.out _).mono ?_; rintro e w1 ⟨rfl, rfl⟩))
              go_roundw
              case rel => exact ⟨i + 1, by rw [HN.out]; first | done | rfl | simp, by go_num, HL.out, by first | rfl | trivial⟩
              case measure => simp [intOf]; have := HL.out; omega
            · skip
              have g1 : decide ((n : Int) ≥ 1) = true := decide_eq_true (by omega)
              have gn1 : decide (1 ≤ n) = true := decide_eq_true (by omega)
              have gz1 : (1 : Int) ≤ n := by omega
              have g2 : decide ((n : Int) ≥ 2) = true := decide_eq_true (by omega)
              have gn2 : decide (2 ≤ n) = true := decide_eq_true (by omega)
              have gz2 : (2 : Int) ≤ n := by omega
              have g3 : decide ((n : Int) ≥ 3) = true := decide_eq_true (by omega)
              have gn3 : decide (3 ≤ n) = true := decide_eq_true (by omega)
              have gz3 : (3 : Int) ≤ n := by omega
              have hn : part los m (i + 1) = p + 1 := by
                rw [hn]
                rw [if_pos (by omega), if_neg (by omega), if_neg (by omega)] <;> omega
              have HN := Lib.hid hn
              clear A0 K0 Q0 ha1 hk1 hq1 hn x1 x2 x3 lle hc
              go_wp2_with (first | (go_at_call_of 38 (Value.int .i64 12); refine (A.out _).mono ?_; rintro e w1 ⟨rfl, rfl⟩) | (go_at_call_of 38 (Value.int .i64 11); refine (K.out _).mono ?_; rintro e w1 ⟨rfl, rfl⟩) | (go_at_call_of 38 (Value.int .i64 10); refine (Q.out _).mono ?_; rintro e w1 ⟨rfl, rfl⟩) | (go_at_call 50; refine (LL.out _).mono ?_; rintro e w1 ⟨rfl, rfl⟩))
              go_roundw
              case rel => exact ⟨i + 1, by rw [HN.out]; first | done | rfl | simp, by go_num, HL.out, by first | rfl | trivial⟩
              case measure => simp [intOf]; have := HL.out; omega
          · skip
            rw [decide_eq_false hq1] at Q0
            have Q := Lib.hid Q0
            rcases (show n = 0 ∨ n = 1 ∨ n = 2 ∨ 3 ≤ n by omega) with hc | hc | hc | hc
            · skip
              have g1 : decide ((n : Int) ≥ 1) = false := decide_eq_false (by omega)
              have gn1 : decide (1 ≤ n) = false := decide_eq_false (by omega)
              have gz1 : ¬ (1 : Int) ≤ n := by omega
              have g2 : decide ((n : Int) ≥ 2) = false := decide_eq_false (by omega)
              have gn2 : decide (2 ≤ n) = false := decide_eq_false (by omega)
              have gz2 : ¬ (2 : Int) ≤ n := by omega
              have g3 : decide ((n : Int) ≥ 3) = false := decide_eq_false (by omega)
              have gn3 : decide (3 ≤ n) = false := decide_eq_false (by omega)
              have gz3 : ¬ (3 : Int) ≤ n := by omega
              have hn : part los m (i + 1) = p := by
                rw [hn]
                rw [if_neg (by omega), if_neg (by omega), if_neg (by omega)] <;> omega
              have HN := Lib.hid hn
              clear A0 K0 Q0 ha1 hk1 hq1 hn x1 x2 x3 lle hc
              go_wp2_with (first | (go_at_call_of 38 (Value.int .i64 12); refine (A.out _).mono ?_; rintro e w1 ⟨rfl, rfl⟩) | (go_at_call_of 38 (Value.int .i64 11); refine (K.out _).mono ?_; rintro e w1 ⟨rfl, rfl⟩) | (go_at_call_of 38 (Value.int .i64 10); refine (Q.out _).mono ?_; rintro e w1 ⟨rfl, rfl⟩) | (go_at_call 50; refine (LL.out _).mono ?_; rintro e w1 ⟨rfl, rfl⟩))
              go_roundw
              case rel => exact ⟨i + 1, by rw [HN.out]; first | done | rfl | simp, by go_num, HL.out, by first | rfl | trivial⟩
              case measure => simp [intOf]; have := HL.out; omega
            · skip
              have g1 : decide ((n : Int) ≥ 1) = true := decide_eq_true (by omega)
              have gn1 : decide (1 ≤ n) = true := decide_eq_true (by omega)
              have gz1 : (1 : Int) ≤ n := by omega
              have g2 : decide ((n : Int) ≥ 2) = false := decide_eq_false (by omega)
              have gn2 : decide (2 ≤ n) = false := decide_eq_false (by omega)
              have gz2 : ¬ (2 : Int) ≤ n := by omega
              have g3 : decide ((n : Int) ≥ 3) = false := decide_eq_false (by omega)
              have gn3 : decide (3 ≤ n) = false := decide_eq_false (by omega)
              have gz3 : ¬ (3 : Int) ≤ n := by omega
              have hn : part los m (i + 1) = p + 1 := by
                rw [hn]
                rw [if_pos (by omega), if_neg (by omega), if_neg (by omega)] <;> omega
              have HN := Lib.hid hn
              clear A0 K0 Q0 ha1 hk1 hq1 hn x1 x2 x3 lle hc
              go_wp2_with (first | (go_at_call_of 38 (Value.int .i64 12); refine (A.out _).mono ?_; rintro e w1 ⟨rfl, rfl⟩) | (go_at_call_of 38 (Value.int .i64 11); refine (K.out _).mono ?_; rintro e w1 ⟨rfl, rfl⟩) | (go_at_call_of 38 (Value.int .i64 10); refine (Q.out _).mono ?_; rintro e w1 ⟨rfl, rfl⟩) | (go_at_call 50; refine (LL.out _).mono ?_; rintro e w1 ⟨rfl, rfl⟩))
              go_roundw
              case rel => exact ⟨i + 1, by rw [HN.out]; first | done | rfl | simp, by go_num, HL.out, by first | rfl | trivial⟩
              case measure => simp [intOf]; have := HL.out; omega
            · skip
              have g1 : decide ((n : Int) ≥ 1) = true := decide_eq_true (by omega)
              have gn1 : decide (1 ≤ n) = true := decide_eq_true (by omega)
              have gz1 : (1 : Int) ≤ n := by omega
              have g2 : decide ((n : Int) ≥ 2) = true := decide_eq_true (by omega)
              have gn2 : decide (2 ≤ n) = true := decide_eq_true (by omega)
              have gz2 : (2 : Int) ≤ n := by omega
              have g3 : decide ((n : Int) ≥ 3) = false := decide_eq_false (by omega)
              have gn3 : decide (3 ≤ n) = false := decide_eq_false (by omega)
              have gz3 : ¬ (3 : Int) ≤ n := by omega
              have hn : part los m (i + 1) = p + 1 := by
                rw [hn]
                rw [if_pos (by omega), if_neg (by omega), if_neg (by omega)] <;> omega
              have HN := Lib.hid hn
              clear A0 K0 Q0 ha1 hk1 hq1 hn x1 x2 x3 lle hc
              go_wp2_with (first | (go_at_call_of 38 (Value.int .i64 12); refine (A.out _).mono ?_; rintro e w1 ⟨rfl, rfl⟩) | (go_at_call_of 38 (Value.int .i64 11); refine (K.out _).mono ?_; rintro e w1 ⟨rfl, rfl⟩) | (go_at_call_of 38 (Value.int .i64 10); refine (Q.out _).mono ?_; rintro e w1 ⟨rfl, rfl⟩) | (go_at_call 50; refine (LL.out _).mono ?_; rintro e w1 ⟨rfl, rfl⟩))
              go_roundw
              case rel => exact ⟨i + 1, by rw [HN.out]; first | done | rfl | simp, by go_num, HL.out, by first | rfl | trivial⟩
              case measure => simp [intOf]; have := HL.out; omega
            · skip
              have g1 : decide ((n : Int) ≥ 1) = true := decide_eq_true (by omega)
              have gn1 : decide (1 ≤ n) = true := decide_eq_true (by omega)
              have gz1 : (1 : Int) ≤ n := by omega
              have g2 : decide ((n : Int) ≥ 2) = true := decide_eq_true (by omega)
              have gn2 : decide (2 ≤ n) = true := decide_eq_true (by omega)
              have gz2 : (2 : Int) ≤ n := by omega
              have g3 : decide ((n : Int) ≥ 3) = true := decide_eq_true (by omega)
              have gn3 : decide (3 ≤ n) = true := decide_eq_true (by omega)
              have gz3 : (3 : Int) ≤ n := by omega
              have hn : part los m (i + 1) = p + 1 + 1 := by
                rw [hn]
                rw [if_pos (by omega), if_neg (by omega), if_pos (by omega)] <;> omega
              have HN := Lib.hid hn
              clear A0 K0 Q0 ha1 hk1 hq1 hn x1 x2 x3 lle hc
              go_wp2_with (first | (go_at_call_of 38 (Value.int .i64 12); refine (A.out _).mono ?_; rintro e w1 ⟨rfl, rfl⟩) | (go_at_call_of 38 (Value.int .i64 11); refine (K.out _).mono ?_; rintro e w1 ⟨rfl, rfl⟩) | (go_at_call_of 38 (Value.int .i64 10); refine (Q.out _).mono ?_; rintro e w1 ⟨rfl, rfl⟩) | (go_at_call 50; refine (LL.out _).mono ?_; rintro e w1 ⟨rfl, rfl⟩))
              go_roundw
              case rel => exact ⟨i + 1, by rw [HN.out]; first | done | rfl | simp, by go_num, HL.out, by first | rfl | trivial⟩
              case measure => simp [intOf]; have := HL.out; omega
        · skip
          rw [decide_eq_false hk1] at K0
          have K := Lib.hid K0
          by_cases hq1 : q = 1
          · skip
            rw [decide_eq_true hq1] at Q0
            have Q := Lib.hid Q0
            rcases (show n = 0 ∨ n = 1 ∨ n = 2 ∨ 3 ≤ n by omega) with hc | hc | hc | hc
            · skip
              have g1 : decide ((n : Int) ≥ 1) = false := decide_eq_false (by omega)
              have gn1 : decide (1 ≤ n) = false := decide_eq_false (by omega)
              have gz1 : ¬ (1 : Int) ≤ n := by omega
              have g2 : decide ((n : Int) ≥ 2) = false := decide_eq_false (by omega)
              have gn2 : decide (2 ≤ n) = false := decide_eq_false (by omega)
              have gz2 : ¬ (2 : Int) ≤ n := by omega
              have g3 : decide ((n : Int) ≥ 3) = false := decide_eq_false (by omega)
              have gn3 : decide (3 ≤ n) = false := decide_eq_false (by omega)
              have gz3 : ¬ (3 : Int) ≤ n := by omega
              have hn : part los m (i + 1) = p := by
                rw [hn]
                rw [if_neg (by omega), if_neg (by omega), if_neg (by omega)] <;> omega
              have HN := Lib.hid hn
              clear A0 K0 Q0 ha1 hk1 hq1 hn x1 x2 x3 lle hc
              go_wp2_with (first | (go_at_call_of 38 (Value.int .i64 12); refine (A.out _).mono ?_; rintro e w1 ⟨rfl, rfl⟩) | (go_at_call_of 38 (Value.int .i64 11); refine (K.out _).mono ?_; rintro e w1 ⟨rfl, rfl⟩) | (go_at_call_of 38 (Value.int .i64 10); refine (Q.out _).mono ?_; rintro e w1 ⟨rfl, rfl⟩) | (go_at_call 50; refine (LL.out _).mono ?_; rintro e w1 ⟨rfl, rfl⟩))
              go_roundw
              case rel => exact ⟨i + 1, by rw [HN.out]; first | done | rfl | simp, by go_num, HL.out, by first | rfl | trivial⟩
              case measure => simp [intOf]; have := HL.out; omega
            · skip
              have g1 : decide ((n : Int) ≥ 1) = true := decide_eq_true (by omega)
              have gn1 : decide (1 ≤ n) = true := decide_eq_true (by omega)
              have gz1 : (1 : Int) ≤ n := by omega
              have g2 : decide ((n : Int) ≥ 2) = false := decide_eq_false (by omega)
              have gn2 : decide (2 ≤ n) = false := decide_eq_false (by omega)
              have gz2 : ¬ (2 : Int) ≤ n := by omega
              have g3 : decide ((n : Int) ≥ 3) = false := decide_eq_false (by omega)
              have gn3 : decide (3 ≤ n) = false := decide_eq_false (by omega)
              have gz3 : ¬ (3 : Int) ≤ n := by omega
              have hn : part los m (i + 1) = p + 1 := by
                rw [hn]
                rw [if_pos (by omega), if_neg (by omega), if_neg (by omega)] <;> omega
              have HN := Lib.hid hn
              clear A0 K0 Q0 ha1 hk1 hq1 hn x1 x2 x3 lle hc
              go_wp2_with (first | (go_at_call_of 38 (Value.int .i64 12); refine (A.out _).mono ?_; rintro e w1 ⟨rfl, rfl⟩) | (go_at_call_of 38 (Value.int .i64 11); refine (K.out _).mono ?_; rintro e w1 ⟨rfl, rfl⟩) | (go_at_call_of 38 (Value.int .i64 10); refine (Q.out _).mono ?_; rintro e w1 ⟨rfl, rfl⟩) | (go_at_call 50; refine (LL.out _).mono ?_; rintro e w1 ⟨rfl, rfl⟩))
              go_roundw
              case rel => exact ⟨i + 1, by rw [HN.out]; first | done | rfl | simp, by go_num, HL.out, by first | rfl | trivial⟩
              case measure => simp [intOf]; have := HL.out; omega
            · skip
              have g1 : decide ((n : Int) ≥ 1) = true := decide_eq_true (by omega)
              have gn1 : decide (1 ≤ n) = true := decide_eq_true (by omega)
              have gz1 : (1 : Int) ≤ n := by omega
              have g2 : decide ((n : Int) ≥ 2) = true := decide_eq_true (by omega)
              have gn2 : decide (2 ≤ n) = true := decide_eq_true (by omega)
              have gz2 : (2 : Int) ≤ n := by omega
              have g3 : decide ((n : Int) ≥ 3) = false := decide_eq_false (by omega)
              have gn3 : decide (3 ≤ n) = false := decide_eq_false (by omega)
              have gz3 : ¬ (3 : Int) ≤ n := by omega
              have hn : part los m (i + 1) = p + 1 + 1 := by
                rw [hn]
                rw [if_pos (by omega), if_pos (by omega), if_neg (by omega)] <;> omega
              have HN := Lib.hid hn
              clear A0 K0 Q0 ha1 hk1 hq1 hn x1 x2 x3 lle hc
              go_wp2_with (first | (go_at_call_of 38 (Value.int .i64 12); refine (A.out _).mono ?_; rintro e w1 ⟨rfl, rfl⟩) | (go_at_call_of 38 (Value.int .i64 11); refine (K.out _).mono ?_; rintro e w1 ⟨rfl, rfl⟩) | (go_at_call_of 38 (Value.int .i64 10); refine (Q.out _).mono ?_; rintro e w1 ⟨rfl, rfl⟩) | (go_at_call 50; refine (LL.out _).mono ?_; rintro e w1 ⟨rfl, rfl⟩))
              go_roundw
              case rel => exact ⟨i + 1, by rw [HN.out]; first | done | rfl | simp, by go_num, HL.out, by first | rfl | trivial⟩
              case measure => simp [intOf]; have := HL.out; omega
            · skip
              have g1 : decide ((n : Int) ≥ 1) = true := decide_eq_true (by omega)
              have gn1 : decide (1 ≤ n) = true := decide_eq_true (by omega)
              have gz1 : (1 : Int) ≤ n := by omega
              have g2 : decide ((n : Int) ≥ 2) = true := decide_eq_true (by omega)
              have gn2 : decide (2 ≤ n) = true := decide_eq_true (by omega)
              have gz2 : (2 : Int) ≤ n := by omega
              have g3 : decide ((n : Int) ≥ 3) = true := decide_eq_true (by omega)
              have gn3 : decide (3 ≤ n) = true := decide_eq_true (by omega)
              have gz3 : (3 : Int) ≤ n := by omega
              have hn : part los m (i + 1) = p + 1 + 1 := by
                rw [hn]
                rw [if_pos (by omega), if_pos (by omega), if_neg (by omega)] <;> omega
              have HN := Lib.hid hn
              clear A0 K0 Q0 ha1 hk1 hq1 hn x1 x2 x3 lle hc
              go_wp2_with (first | (go_at_call_of 38 (Value.int .i64 12); refine (A.out _).mono ?_; rintro e w1 ⟨rfl, rfl⟩) | (go_at_call_of 38 (Value.int .i64 11); refine (K.out _).mono ?_; rintro e w1 ⟨rfl, rfl⟩) | (go_at_call_of 38 (Value.int .i64 10); refine (Q.out _).mono ?_; rintro e w1 ⟨rfl, rfl⟩) | (go_at_call 50; refine (LL.out _).mono ?_; rintro e w1 ⟨rfl, rfl⟩))
              go_roundw
              case rel => exact ⟨i + 1, by rw [HN.out]; first | done | rfl | simp, by go_num, HL.out, by first | rfl | trivial⟩
              case measure => simp [intOf]; have := HL.out; omega
          · skip
            rw [decide_eq_false hq1] at Q0
            have Q := Lib.hid Q0
            rcases (show n = 0 ∨ n = 1 ∨ n = 2 ∨ 3 ≤ n by omega) with hc | hc | hc | hc
            · skip
              have g1 : decide ((n : Int) ≥ 1) = false := decide_eq_false (by omega)
              have gn1 : decide (1 ≤ n) = false := decide_eq_false (by omega)
              have gz1 : ¬ (1 : Int) ≤ n := by omega
              have g2 : decide ((n : Int) ≥ 2) = false := decide_eq_false (by omega)
              have gn2 : decide (2 ≤ n) = false := decide_eq_false (by omega)
              have gz2 : ¬ (2 : Int) ≤ n := by omega
              have g3 : decide ((n : Int) ≥ 3) = false := decide_eq_false (by omega)
              have gn3 : decide (3 ≤ n) = false := decide_eq_false (by omega)
              have gz3 : ¬ (3 : Int) ≤ n := by omega
              have hn : part los m (i + 1) = p := by
                rw [hn]
                rw [if_neg (by omega), if_neg (by omega), if_neg (by omega)] <;> omega
              have HN := Lib.hid hn
              clear A0 K0 Q0 ha1 hk1 hq1 hn x1 x2 x3 lle hc
              go_wp2_with (first | (go_at_call_of 38 (Value.int .i64 12); refine (A.out _).mono ?_; rintro e w1 ⟨rfl, rfl⟩) | (go_at_call_of 38 (Value.int .i64 11); refine (K.out _).mono ?_; rintro e w1 ⟨rfl, rfl⟩) | (go_at_call_of 38 (Value.int .i64 10); refine (Q.out _).mono ?_; rintro e w1 ⟨rfl, rfl⟩) | (go_at_call 50; refine (LL.out _).mono ?_; rintro e w1 ⟨rfl, rfl⟩))
              go_roundw
              case rel => exact ⟨i + 1, by rw [HN.out]; first | done | rfl | simp, by go_num, HL.out, by first | rfl | trivial⟩
              case measure => simp [intOf]; have := HL.out; omega
            · skip
              have g1 : decide ((n : Int) ≥ 1) = true := decide_eq_true (by omega)
              have gn1 : decide (1 ≤ n) = true := decide_eq_true (by omega)
              have gz1 : (1 : Int) ≤ n := by omega
              have g2 : decide ((n : Int) ≥ 2) = false := decide_eq_false (by omega)
              have gn2 : decide (2 ≤ n) = false := decide_eq_false (by omega)
              have gz2 : ¬ (2 : Int) ≤ n := by omega
              have g3 : decide ((n : Int) ≥ 3) = false := decide_eq_false (by omega)
              have gn3 : decide (3 ≤ n) = false := decide_eq_false (by omega)
              have gz3 : ¬ (3 : Int) ≤ n := by omega
              have hn : part los m (i + 1) = p + 1 := by
                rw [hn]
                rw [if_pos (by omega), if_neg (by omega), if_neg (by omega)] <;> omega
              have HN := Lib.hid hn
              clear A0 K0 Q0 ha1 hk1 hq1 hn x1 x2 x3 lle hc
              go_wp2_with (first | (go_at_call_of 38 (Value.int .i64 12); refine (A.out _).mono ?_; rintro e w1 ⟨rfl, rfl⟩) | (go_at_call_of 38 (Value.int .i64 11); refine (K.out _).mono ?_; rintro e w1 ⟨rfl, rfl⟩) | (go_at_call_of 38 (Value.int .i64 10); refine (Q.out _).mono ?_; rintro e w1 ⟨rfl, rfl⟩) | (go_at_call 50; refine (LL.out _).mono ?_; rintro e w1 ⟨rfl, rfl⟩))
              go_roundw
              case rel => exact ⟨i + 1, by rw [HN.out]; first | done | rfl | simp, by go_num, HL.out, by first | rfl | trivial⟩
              case measure => simp [intOf]; have := HL.out; omega
            · skip
              have g1 : decide ((n : Int) ≥ 1) = true := decide_eq_true (by omega)
              have gn1 : decide (1 ≤ n) = true := decide_eq_true (by omega)
              have gz1 : (1 : Int) ≤ n := by omega
              have g2 : decide ((n : Int) ≥ 2) = true := decide_eq_true (by omega)
              have gn2 : decide (2 ≤ n) = true := decide_eq_true (by omega)
              have gz2 : (2 : Int) ≤ n := by omega
              have g3 : decide ((n : Int) ≥ 3) = false := decide_eq_false (by omega)
              have gn3 : decide (3 ≤ n) = false := decide_eq_false (by omega)
              have gz3 : ¬ (3 : Int) ≤ n := by omega
              have hn : part los m (i + 1) = p + 1 + 1 := by
                rw [hn]
                rw [if_pos (by omega), if_pos (by omega), if_neg (by omega)] <;> omega
              have HN := Lib.hid hn
              clear A0 K0 Q0 ha1 hk1 hq1 hn x1 x2 x3 lle hc
              go_wp2_with (first | (go_at_call_of 38 (Value.int .i64 12); refine (A.out _).mono ?_; rintro e w1 ⟨rfl, rfl⟩) | (go_at_call_of 38 (Value.int .i64 11); refine (K.out _).mono ?_; rintro e w1 ⟨rfl, rfl⟩) | (go_at_call_of 38 (Value.int .i64 10); refine (Q.out _).mono ?_; rintro e w1 ⟨rfl, rfl⟩) | (go_at_call 50; refine (LL.out _).mono ?_; rintro e w1 ⟨rfl, rfl⟩))
              go_roundw
              case rel => exact ⟨i + 1, by rw [HN.out]; first | done | rfl | simp, by go_num, HL.out, by first | rfl | trivial⟩
              case measure => simp [intOf]; have := HL.out; omega
            · skip
              have g1 : decide ((n : Int) ≥ 1) = true := decide_eq_true (by omega)
              have gn1 : decide (1 ≤ n) = true := decide_eq_true (by omega)
              have gz1 : (1 : Int) ≤ n := by omega
              have g2 : decide ((n : Int) ≥ 2) = true := decide_eq_true (by omega)
              have gn2 : decide (2 ≤ n) = true := decide_eq_true (by omega)
              have gz2 : (2 : Int) ≤ n := by omega
              have g3 : decide ((n : Int) ≥ 3) = true := decide_eq_true (by omega)
              have gn3 : decide (3 ≤ n) = true := decide_eq_true (by omega)
              have gz3 : (3 : Int) ≤ n := by omega
              have hn : part los m (i + 1) = p + 1 + 1 + 1 := by
                rw [hn]
                rw [if_pos (by omega), if_pos (by omega), if_pos (by omega)] <;> omega
              have HN := Lib.hid hn
              clear A0 K0 Q0 ha1 hk1 hq1 hn x1 x2 x3 lle hc
              go_wp2_with (first | (go_at_call_of 38 (Value.int .i64 12); refine (A.out _).mono ?_; rintro e w1 ⟨rfl, rfl⟩) | (go_at_call_of 38 (Value.int .i64 11); refine (K.out _).mono ?_; rintro e w1 ⟨rfl, rfl⟩) | (go_at_call_of 38 (Value.int .i64 10); refine (Q.out _).mono ?_; rintro e w1 ⟨rfl, rfl⟩) | (go_at_call 50; refine (LL.out _).mono ?_; rintro e w1 ⟨rfl, rfl⟩))
              go_roundw
              case rel => exact ⟨i + 1, by rw [HN.out]; first | done | rfl | simp, by go_num, HL.out, by first | rfl | trivial⟩
              case measure => simp [intOf]; have := HL.out; omega
    · obtain rfl : i = 4 := by omega
      go_wp2
      go_ret
      exact ⟨rfl, rfl⟩
set_option maxRecDepth 100000 in
set_option maxHeartbeats 8000000 in
theorem refQuick (m : Nat) (hm : m < 18446744073709551616) (w : World) : Calls Tryd.prog 33 #[.int .u64 m] w fun e w' => e = .returned (.int .i64 (tot qck m)) ∧ w = w' := by
  have H := Lib.hid fun s hs r hr => refHas m s r hm hs hr
  have LN := Lib.hid fun s hs => refLength m s hm hs
  rw [← part_4]
  clear hm
  go_enter Tryd.func33, Tryd.ntmps33
  go_wp2
  go_loopw [3, 4] (fun s3 s4 wr => ∃ i : Nat, s3 = .int .i64 (part qck m i) ∧ s4 = .int .i64 i ∧ i ≤ 4 ∧ wr = w) (fun _ s4 _ => 4 - (intOf s4).toNat)
  case atStart => exact ⟨0, rfl, rfl, by decide, rfl⟩
  case round =>
    obtain ⟨i, rfl, rfl, hi, rfl⟩ := hrel
    by_cases hlt : i < 4
    · have hlt2 : (i : Int) < 4 := by omega
      have f1 : IntKind.i64.wrap ((i : Int) + 1) = (i : Int) + 1 := IntWalk.i64_in _ (by omega)
      have hn : part qck m (i + 1) = part qck m i + qck (hol m i) := rfl
      have hl := ltB (m := m) qck 4 qck_le (by decide) i (by omega)
      have HH := H.out i hlt
      have LL := LN.out i hlt
      obtain ⟨h, hh⟩ : ∃ h, hol m i = h := ⟨_, rfl⟩
      rw [hh] at HH LL hn
      obtain ⟨p, hp⟩ : ∃ a, part qck m i = a := ⟨_, rfl⟩
      rw [hp] at hn hl ⊢
      have HL := Lib.hid hlt
      clear hh hp hlt hi
      have A0 : ∀ w, Calls Tryd.prog 38 #[.int .u64 m, .int .i64 i, .int .i64 12] w fun e w' => e = .returned (.bool (decide (h / 2 ^ 12 % 2 = 1))) ∧ w = w' := HH 12 (by decide)
      have K0 : ∀ w, Calls Tryd.prog 38 #[.int .u64 m, .int .i64 i, .int .i64 11] w fun e w' => e = .returned (.bool (decide (h / 2 ^ 11 % 2 = 1))) ∧ w = w' := HH 11 (by decide)
      have Q0 : ∀ w, Calls Tryd.prog 38 #[.int .u64 m, .int .i64 i, .int .i64 10] w fun e w' => e = .returned (.bool (decide (h / 2 ^ 10 % 2 = 1))) ∧ w = w' := HH 10 (by decide)
      simp only [Nat.reducePow] at A0 K0 Q0
      have lle := len_le h
      have hn : part qck m (i + 1) = p + qck h := hn
      unfold qck at hn
      have hn : part qck m (i + 1) = p + (if h / 4096 % 2 = 1 ∧ h / 2048 % 2 = 1 then 4 else if h / 4096 % 2 = 1 ∧ h / 1024 % 2 = 1 then 3 else if h / 4096 % 2 = 1 ∨ (h / 2048 % 2 = 1 ∧ h / 1024 % 2 = 1) then 2 else if h / 2048 % 2 = 1 ∧ 2 ≤ len h then 1 else 0) := hn
      obtain ⟨n, hnn⟩ : ∃ a, len h = a := ⟨_, rfl⟩
      rw [hnn] at hn LL lle
      obtain ⟨a, ha⟩ : ∃ a, h / 4096 % 2 = a := ⟨_, rfl⟩
      obtain ⟨k, hk⟩ : ∃ a, h / 2048 % 2 = a := ⟨_, rfl⟩
      obtain ⟨q, hq⟩ : ∃ a, h / 1024 % 2 = a := ⟨_, rfl⟩
      have x1 : a < 2 := by rw [← ha]; exact Nat.mod_lt _ (by decide)
      have x2 : k < 2 := by rw [← hk]; exact Nat.mod_lt _ (by decide)
      have x3 : q < 2 := by rw [← hq]; exact Nat.mod_lt _ (by decide)
      rw [ha] at A0 hn
      rw [hk] at K0 hn
      rw [hq] at Q0 hn
      have w1' : IntKind.i64.wrap ((p : Int) + 1) = (p : Int) + 1 := IntWalk.i64_in _ (by omega)
      have w2' : IntKind.i64.wrap ((p : Int) + 1 + 1) = (p : Int) + 1 + 1 := IntWalk.i64_in _ (by omega)
      have w3' : IntKind.i64.wrap ((p : Int) + 1 + 1 + 1) = (p : Int) + 1 + 1 + 1 := IntWalk.i64_in _ (by omega)
      have w4' : IntKind.i64.wrap ((p : Int) + 2) = (p : Int) + 2 := IntWalk.i64_in _ (by omega)
      have w5' : IntKind.i64.wrap ((p : Int) + 3) = (p : Int) + 3 := IntWalk.i64_in _ (by omega)
      have w6' : IntKind.i64.wrap ((p : Int) + 4) = (p : Int) + 4 := IntWalk.i64_in _ (by omega)
      have LL := Lib.hid LL
      clear HH ha hk hq hnn hl
      by_cases ha1 : a = 1
      · skip
        rw [decide_eq_true ha1] at A0
        have A := Lib.hid A0
        by_cases hk1 : k = 1
        · skip
          rw [decide_eq_true hk1] at K0
          have K := Lib.hid K0
          by_cases hq1 : q = 1
          · skip
            rw [decide_eq_true hq1] at Q0
            have Q := Lib.hid Q0
            have hn : part qck m (i + 1) = p + 4 := by
              rw [hn]
              rw [if_pos (by omega)] <;> omega
            have HN := Lib.hid hn
            clear A0 K0 Q0 ha1 hk1 hq1 hn x1 x2 x3 lle
            go_wp2_with (first | (go_at_call_of 38 (Value.int .i64 12); refine (A.out _).mono ?_; rintro e w1 ⟨rfl, rfl⟩) | (go_at_call_of 38 (Value.int .i64 11); refine (K.out _).mono ?_; rintro e w1 ⟨rfl, rfl⟩) | (go_at_call_of 38 (Value.int .i64 10); refine (Q.out _).mono ?_; rintro e w1 ⟨rfl, rfl⟩) | (go_at_call 50; refine (LL.out _).mono ?_; rintro e w1 ⟨rfl, rfl⟩))
            go_roundw
            case rel => exact ⟨i + 1, by rw [HN.out]; first | done | rfl | simp, by go_num, HL.out, by first | rfl | trivial⟩
            case measure => simp [intOf]; have := HL.out; omega
          · skip
            rw [decide_eq_false hq1] at Q0
            have Q := Lib.hid Q0
            have hn : part qck m (i + 1) = p + 4 := by
              rw [hn]
              rw [if_pos (by omega)] <;> omega
            have HN := Lib.hid hn
            clear A0 K0 Q0 ha1 hk1 hq1 hn x1 x2 x3 lle
            go_wp2_with (first | (go_at_call_of 38 (Value.int .i64 12); refine (A.out _).mono ?_; rintro e w1 ⟨rfl, rfl⟩) | (go_at_call_of 38 (Value.int .i64 11); refine (K.out _).mono ?_; rintro e w1 ⟨rfl, rfl⟩) | (go_at_call_of 38 (Value.int .i64 10); refine (Q.out _).mono ?_; rintro e w1 ⟨rfl, rfl⟩) | (go_at_call 50; refine (LL.out _).mono ?_; rintro e w1 ⟨rfl, rfl⟩))
            go_roundw
            case rel => exact ⟨i + 1, by rw [HN.out]; first | done | rfl | simp, by go_num, HL.out, by first | rfl | trivial⟩
            case measure => simp [intOf]; have := HL.out; omega
        · skip
          rw [decide_eq_false hk1] at K0
          have K := Lib.hid K0
          by_cases hq1 : q = 1
          · skip
            rw [decide_eq_true hq1] at Q0
            have Q := Lib.hid Q0
            have hn : part qck m (i + 1) = p + 3 := by
              rw [hn]
              rw [if_neg (by omega), if_pos (by omega)] <;> omega
            have HN := Lib.hid hn
            clear A0 K0 Q0 ha1 hk1 hq1 hn x1 x2 x3 lle
            go_wp2_with (first | (go_at_call_of 38 (Value.int .i64 12); refine (A.out _).mono ?_; rintro e w1 ⟨rfl, rfl⟩) | (go_at_call_of 38 (Value.int .i64 11); refine (K.out _).mono ?_; rintro e w1 ⟨rfl, rfl⟩) | (go_at_call_of 38 (Value.int .i64 10); refine (Q.out _).mono ?_; rintro e w1 ⟨rfl, rfl⟩) | (go_at_call 50; refine (LL.out _).mono ?_; rintro e w1 ⟨rfl, rfl⟩))
            go_roundw
            case rel => exact ⟨i + 1, by rw [HN.out]; first | done | rfl | simp, by go_num, HL.out, by first | rfl | trivial⟩
            case measure => simp [intOf]; have := HL.out; omega
          · skip
            rw [decide_eq_false hq1] at Q0
            have Q := Lib.hid Q0
            have hn : part qck m (i + 1) = p + 2 := by
              rw [hn]
              rw [if_neg (by omega), if_neg (by omega), if_pos (by omega)] <;> omega
            have HN := Lib.hid hn
            clear A0 K0 Q0 ha1 hk1 hq1 hn x1 x2 x3 lle
            go_wp2_with (first | (go_at_call_of 38 (Value.int .i64 12); refine (A.out _).mono ?_; rintro e w1 ⟨rfl, rfl⟩) | (go_at_call_of 38 (Value.int .i64 11); refine (K.out _).mono ?_; rintro e w1 ⟨rfl, rfl⟩) | (go_at_call_of 38 (Value.int .i64 10); refine (Q.out _).mono ?_; rintro e w1 ⟨rfl, rfl⟩) | (go_at_call 50; refine (LL.out _).mono ?_; rintro e w1 ⟨rfl, rfl⟩))
            go_roundw
            case rel => exact ⟨i + 1, by rw [HN.out]; first | done | rfl | simp, by go_num, HL.out, by first | rfl | trivial⟩
            case measure => simp [intOf]; have := HL.out; omega
      · skip
        rw [decide_eq_false ha1] at A0
        have A := Lib.hid A0
        by_cases hk1 : k = 1
        · skip
          rw [decide_eq_true hk1] at K0
          have K := Lib.hid K0
          by_cases hq1 : q = 1
          · skip
            rw [decide_eq_true hq1] at Q0
            have Q := Lib.hid Q0
            have hn : part qck m (i + 1) = p + 2 := by
              rw [hn]
              rw [if_neg (by omega), if_neg (by omega), if_pos (by omega)] <;> omega
            have HN := Lib.hid hn
            clear A0 K0 Q0 ha1 hk1 hq1 hn x1 x2 x3 lle
            go_wp2_with (first | (go_at_call_of 38 (Value.int .i64 12); refine (A.out _).mono ?_; rintro e w1 ⟨rfl, rfl⟩) | (go_at_call_of 38 (Value.int .i64 11); refine (K.out _).mono ?_; rintro e w1 ⟨rfl, rfl⟩) | (go_at_call_of 38 (Value.int .i64 10); refine (Q.out _).mono ?_; rintro e w1 ⟨rfl, rfl⟩) | (go_at_call 50; refine (LL.out _).mono ?_; rintro e w1 ⟨rfl, rfl⟩))
            go_roundw
            case rel => exact ⟨i + 1, by rw [HN.out]; first | done | rfl | simp, by go_num, HL.out, by first | rfl | trivial⟩
            case measure => simp [intOf]; have := HL.out; omega
          · skip
            rw [decide_eq_false hq1] at Q0
            have Q := Lib.hid Q0
            by_cases hc : 2 ≤ n
            · skip
              have g2 : decide ((n : Int) ≥ 2) = true := decide_eq_true (by omega)
              have gn2 : decide (2 ≤ n) = true := decide_eq_true (by omega)
              have gz2 : (2 : Int) ≤ n := by omega
              have hn : part qck m (i + 1) = p + 1 := by
                rw [hn]
                rw [if_neg (by omega), if_neg (by omega), if_neg (by omega), if_pos (by omega)] <;> omega
              have HN := Lib.hid hn
              clear A0 K0 Q0 ha1 hk1 hq1 hn x1 x2 x3 lle
              go_wp2_with (first | (go_at_call_of 38 (Value.int .i64 12); refine (A.out _).mono ?_; rintro e w1 ⟨rfl, rfl⟩) | (go_at_call_of 38 (Value.int .i64 11); refine (K.out _).mono ?_; rintro e w1 ⟨rfl, rfl⟩) | (go_at_call_of 38 (Value.int .i64 10); refine (Q.out _).mono ?_; rintro e w1 ⟨rfl, rfl⟩) | (go_at_call 50; refine (LL.out _).mono ?_; rintro e w1 ⟨rfl, rfl⟩))
              go_roundw
              case rel => exact ⟨i + 1, by rw [HN.out]; first | done | rfl | simp, by go_num, HL.out, by first | rfl | trivial⟩
              case measure => simp [intOf]; have := HL.out; omega
            · skip
              have g2 : decide ((n : Int) ≥ 2) = false := decide_eq_false (by omega)
              have gn2 : decide (2 ≤ n) = false := decide_eq_false (by omega)
              have gz2 : ¬ (2 : Int) ≤ n := by omega
              have hn : part qck m (i + 1) = p := by
                rw [hn]
                rw [if_neg (by omega), if_neg (by omega), if_neg (by omega), if_neg (by omega)] <;> omega
              have HN := Lib.hid hn
              clear A0 K0 Q0 ha1 hk1 hq1 hn x1 x2 x3 lle
              go_wp2_with (first | (go_at_call_of 38 (Value.int .i64 12); refine (A.out _).mono ?_; rintro e w1 ⟨rfl, rfl⟩) | (go_at_call_of 38 (Value.int .i64 11); refine (K.out _).mono ?_; rintro e w1 ⟨rfl, rfl⟩) | (go_at_call_of 38 (Value.int .i64 10); refine (Q.out _).mono ?_; rintro e w1 ⟨rfl, rfl⟩) | (go_at_call 50; refine (LL.out _).mono ?_; rintro e w1 ⟨rfl, rfl⟩))
              go_roundw
              case rel => exact ⟨i + 1, by rw [HN.out]; first | done | rfl | simp, by go_num, HL.out, by first | rfl | trivial⟩
              case measure => simp [intOf]; have := HL.out; omega
        · skip
          rw [decide_eq_false hk1] at K0
          have K := Lib.hid K0
          by_cases hq1 : q = 1
          · skip
            rw [decide_eq_true hq1] at Q0
            have Q := Lib.hid Q0
            have hn : part qck m (i + 1) = p := by
              rw [hn]
              rw [if_neg (by omega), if_neg (by omega), if_neg (by omega), if_neg (by omega)] <;> omega
            have HN := Lib.hid hn
            clear A0 K0 Q0 ha1 hk1 hq1 hn x1 x2 x3 lle
            go_wp2_with (first | (go_at_call_of 38 (Value.int .i64 12); refine (A.out _).mono ?_; rintro e w1 ⟨rfl, rfl⟩) | (go_at_call_of 38 (Value.int .i64 11); refine (K.out _).mono ?_; rintro e w1 ⟨rfl, rfl⟩) | (go_at_call_of 38 (Value.int .i64 10); refine (Q.out _).mono ?_; rintro e w1 ⟨rfl, rfl⟩) | (go_at_call 50; refine (LL.out _).mono ?_; rintro e w1 ⟨rfl, rfl⟩))
            go_roundw
            case rel => exact ⟨i + 1, by rw [HN.out]; first | done | rfl | simp, by go_num, HL.out, by first | rfl | trivial⟩
            case measure => simp [intOf]; have := HL.out; omega
          · skip
            rw [decide_eq_false hq1] at Q0
            have Q := Lib.hid Q0
            have hn : part qck m (i + 1) = p := by
              rw [hn]
              rw [if_neg (by omega), if_neg (by omega), if_neg (by omega), if_neg (by omega)] <;> omega
            have HN := Lib.hid hn
            clear A0 K0 Q0 ha1 hk1 hq1 hn x1 x2 x3 lle
            go_wp2_with (first | (go_at_call_of 38 (Value.int .i64 12); refine (A.out _).mono ?_; rintro e w1 ⟨rfl, rfl⟩) | (go_at_call_of 38 (Value.int .i64 11); refine (K.out _).mono ?_; rintro e w1 ⟨rfl, rfl⟩) | (go_at_call_of 38 (Value.int .i64 10); refine (Q.out _).mono ?_; rintro e w1 ⟨rfl, rfl⟩) | (go_at_call 50; refine (LL.out _).mono ?_; rintro e w1 ⟨rfl, rfl⟩))
            go_roundw
            case rel => exact ⟨i + 1, by rw [HN.out]; first | done | rfl | simp, by go_num, HL.out, by first | rfl | trivial⟩
            case measure => simp [intOf]; have := HL.out; omega
    · obtain rfl : i = 4 := by omega
      go_wp2
      go_ret
      exact ⟨rfl, rfl⟩
end Go.Proofs.YtgndhdcnofblaaaDoor
