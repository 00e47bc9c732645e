/- The reference: Points, Controls, Losers, Quick, Holding, Shape. -/
import Derived.Test.YtgndhdcnofblaaaDoorRA
namespace Go.Proofs.YtgndhdcnofblaaaDoor
open Go.RowKit

theorem ltB {m : Nat} (g : Nat → Nat) (k : Nat) (hg : ∀ h, g h ≤ k) (hk : k ≤ 1000) (i : Nat) (hi : i ≤ 4) : part g m i ≤ 4000 := by
  have := part_le g k m hg i
  have : k * i ≤ 1000 * 4 := Nat.mul_le_mul hk hi
  omega
theorem bitC (h r : Nat) : h / 2 ^ r % 2 = 1 ∨ h / 2 ^ r % 2 = 0 := by omega
set_option maxRecDepth 100000 in
set_option maxHeartbeats 8000000 in
theorem refControls (m : Nat) (hm : m < 18446744073709551616) (w : World) : Calls Tryd.prog 31 #[.int .u64 m] w fun e w' => e = .returned (.int .i64 (tot ctl m)) ∧ w = w' := by
  have H := Lib.hid fun s hs r hr => refHas m s r hm hs hr
  have LN := Lib.hid fun s hs => refLength m s hm hs
  rw [← part_4]
  clear hm
  go_enter Tryd.func31, Tryd.ntmps31
  go_wp2
  go_loopw [3, 4] (fun s3 s4 wr => ∃ i : Nat, s3 = .int .i64 (part ctl m i) ∧ s4 = .int .i64 i ∧ i ≤ 4 ∧ wr = w) (fun _ s4 _ => 4 - (intOf s4).toNat)
  case atStart => exact ⟨0, rfl, rfl, by decide, rfl⟩
  case round =>
    obtain ⟨i, rfl, rfl, hi, rfl⟩ := hrel
    by_cases hlt : i < 4
    · have hlt2 : (i : Int) < 4 := by omega
      have f1 : IntKind.i64.wrap ((i : Int) + 1) = (i : Int) + 1 := IntWalk.i64_in _ (by omega)
      have hn : part ctl m (i + 1) = part ctl m i + ctl (hol m i) := rfl
      have hl := ltB (m := m) ctl 3 ctl_le (by decide) i (by omega)
      have HH := H.out i hlt
      have LL := LN.out i hlt
      obtain ⟨h, hh⟩ : ∃ h, hol m i = h := ⟨_, rfl⟩
      rw [hh] at HH LL hn
      obtain ⟨p, hp⟩ : ∃ a, part ctl m i = a := ⟨_, rfl⟩
      rw [hp] at hn hl ⊢
      have HL := Lib.hid hlt
      clear hh hp hlt hi
      have A0 : ∀ w, Calls Tryd.prog 38 #[.int .u64 m, .int .i64 i, .int .i64 12] w fun e w' => e = .returned (.bool (decide (h / 2 ^ 12 % 2 = 1))) ∧ w = w' := HH 12 (by decide)
      have K0 : ∀ w, Calls Tryd.prog 38 #[.int .u64 m, .int .i64 i, .int .i64 11] w fun e w' => e = .returned (.bool (decide (h / 2 ^ 11 % 2 = 1))) ∧ w = w' := HH 11 (by decide)
      simp only [Nat.reducePow] at A0 K0
      have hn : part ctl m (i + 1) = p + (h / 2048 % 2 + 2 * (h / 4096 % 2)) := hn
      have x1 : h / 4096 % 2 < 2 := Nat.mod_lt _ (by decide)
      have x2 : h / 2048 % 2 < 2 := Nat.mod_lt _ (by decide)
      obtain ⟨a, ha⟩ : ∃ a, h / 4096 % 2 = a := ⟨_, rfl⟩
      obtain ⟨k, hk⟩ : ∃ a, h / 2048 % 2 = a := ⟨_, rfl⟩
      rw [ha] at A0 hn x1
      rw [hk] at K0 hn x2
      have w1' : IntKind.i64.wrap ((p : Int) + 1) = (p : Int) + 1 := IntWalk.i64_in _ (by omega)
      have w2' : IntKind.i64.wrap ((p : Int) + 2) = (p : Int) + 2 := IntWalk.i64_in _ (by omega)
      have w3' : IntKind.i64.wrap ((p : Int) + 1 + 2) = (p : Int) + 1 + 2 := IntWalk.i64_in _ (by omega)
      clear HH LL ha hk hl
      by_cases ha : a = 1
      · rw [decide_eq_true ha] at A0
        have A := Lib.hid A0
        by_cases hk : k = 1
        · rw [decide_eq_true hk] at K0
          have K := Lib.hid K0
          rw [ha, hk] at hn
          have hn : part ctl m (i + 1) = p + 1 + 2 := hn
          have HN := Lib.hid hn
          clear A0 K0 ha hk hn x1 x2
          go_wp2_with (first | (go_at_call_of 38 (Value.int .i64 12); refine (A.out _).mono ?_; rintro e w1 ⟨rfl, rfl⟩) | (go_at_call_of 38 (Value.int .i64 11); refine (K.out _).mono ?_; rintro e w1 ⟨rfl, rfl⟩))
          go_roundw
          case rel => exact ⟨i + 1, by rw [HN.out]; first | done | rfl | simp, by go_num, HL.out, by first | rfl | trivial⟩
          case measure => simp [intOf]; have := HL.out; omega
        · rw [decide_eq_false hk] at K0
          have K := Lib.hid K0
          have hk0 : k = 0 := by omega
          rw [ha, hk0] at hn
          have hn : part ctl m (i + 1) = p + 2 := hn.trans (by omega)
          have HN := Lib.hid hn
          clear A0 K0 ha hk hk0 hn x1 x2
          go_wp2_with (first | (go_at_call_of 38 (Value.int .i64 12); refine (A.out _).mono ?_; rintro e w1 ⟨rfl, rfl⟩) | (go_at_call_of 38 (Value.int .i64 11); refine (K.out _).mono ?_; rintro e w1 ⟨rfl, rfl⟩))
          go_roundw
          case rel => exact ⟨i + 1, by rw [HN.out]; first | done | rfl | simp, by go_num, HL.out, by first | rfl | trivial⟩
          case measure => simp [intOf]; have := HL.out; omega
      · rw [decide_eq_false ha] at A0
        have A := Lib.hid A0
        have ha0 : a = 0 := by omega
        by_cases hk : k = 1
        · rw [decide_eq_true hk] at K0
          have K := Lib.hid K0
          rw [ha0, hk] at hn
          have hn : part ctl m (i + 1) = p + 1 := hn
          have HN := Lib.hid hn
          clear A0 K0 ha ha0 hk hn x1 x2
          go_wp2_with (first | (go_at_call_of 38 (Value.int .i64 12); refine (A.out _).mono ?_; rintro e w1 ⟨rfl, rfl⟩) | (go_at_call_of 38 (Value.int .i64 11); refine (K.out _).mono ?_; rintro e w1 ⟨rfl, rfl⟩))
          go_roundw
          case rel => exact ⟨i + 1, by rw [HN.out]; first | done | rfl | simp, by go_num, HL.out, by first | rfl | trivial⟩
          case measure => simp [intOf]; have := HL.out; omega
        · rw [decide_eq_false hk] at K0
          have K := Lib.hid K0
          have hk0 : k = 0 := by omega
          rw [ha0, hk0] at hn
          have hn : part ctl m (i + 1) = p := hn.trans (by omega)
          have HN := Lib.hid hn
          clear A0 K0 ha ha0 hk hk0 hn x1 x2
          go_wp2_with (first | (go_at_call_of 38 (Value.int .i64 12); refine (A.out _).mono ?_; rintro e w1 ⟨rfl, rfl⟩) | (go_at_call_of 38 (Value.int .i64 11); refine (K.out _).mono ?_; rintro e w1 ⟨rfl, rfl⟩))
          go_roundw
          case rel => exact ⟨i + 1, by rw [HN.out]; first | done | rfl | simp, by go_num, HL.out, by first | rfl | trivial⟩
          case measure => simp [intOf]; have := HL.out; omega
    · obtain rfl : i = 4 := by omega
      go_wp2
      go_ret
      exact ⟨rfl, rfl⟩
def ptsp (h : Nat) : Nat → Nat
  | 0 => 0
  | k + 1 => ptsp h k + (k + 1) * (h / 2 ^ (9 + k) % 2)
theorem ptsp_4 (h : Nat) : ptsp h 4 = pts h := by simp [ptsp, pts]
theorem ptsp_le (h : Nat) : ∀ k, ptsp h k ≤ k * (k + 1)
  | 0 => Nat.le_refl _
  | k + 1 => by
    have := ptsp_le h k
    have h2 : h / 2 ^ (9 + k) % 2 ≤ 1 := by omega
    have : (k + 1) * (h / 2 ^ (9 + k) % 2) ≤ (k + 1) * 1 := Nat.mul_le_mul_left _ h2
    unfold ptsp
    have e : (k + 1) * (k + 1 + 1) = k * (k + 1) + 2 * (k + 1) := by
      rw [Nat.mul_comm (k + 1), Nat.add_mul, Nat.add_mul]; omega
    omega
set_option maxRecDepth 100000 in
set_option maxHeartbeats 8000000 in
theorem refPoints (m : Nat) (hm : m < 18446744073709551616) (w : World) : Calls Tryd.prog 30 #[.int .u64 m] w fun e w' => e = .returned (.int .i64 (tot pts m)) ∧ w = w' := by
  have H := Lib.hid fun s hs r hr => refHas m s r hm hs hr
  have LN := Lib.hid fun s hs => refLength m s hm hs
  rw [← part_4]
  clear hm
  go_enter Tryd.func30, Tryd.ntmps30
  go_wp2
  go_loopw [3, 4] (fun s3 s4 wr => ∃ i : Nat, s3 = .int .i64 (part pts m i) ∧ s4 = .int .i64 i ∧ i ≤ 4 ∧ wr = w) (fun _ s4 _ => 4 - (intOf s4).toNat)
  case atStart => exact ⟨0, rfl, rfl, by decide, rfl⟩
  case round =>
    obtain ⟨i, rfl, rfl, hi, rfl⟩ := hrel
    by_cases hlt : i < 4
    · have hlt2 : (i : Int) < 4 := by omega
      have f1 : IntKind.i64.wrap ((i : Int) + 1) = (i : Int) + 1 := IntWalk.i64_in _ (by omega)
      have hn : part pts m (i + 1) = part pts m i + pts (hol m i) := rfl
      have hl := ltB (m := m) pts 10 pts_le (by decide) i (by omega)
      have HH := H.out i hlt
      have LL := LN.out i hlt
      obtain ⟨h, hh⟩ : ∃ h, hol m i = h := ⟨_, rfl⟩
      rw [hh] at HH LL hn
      obtain ⟨p, hp⟩ : ∃ a, part pts m i = a := ⟨_, rfl⟩
      rw [hp] at hn hl ⊢
      have HL := Lib.hid hlt
      clear hh hp hlt hi
      have hs := fun r hr => HH r hr
      have HHH := Lib.hid HH
      have hpp : pts h = ptsp h 4 := (ptsp_4 h).symm
      rw [hpp] at hn
      have HN := Lib.hid hn
      have HLL := Lib.hid hl
      clear HH LL hs hpp hn hl
      go_wp2
      go_loopw [3, 5] (fun s3 s5 wq => ∃ k : Nat, s3 = .int .i64 ((p + ptsp h k : Nat) : Int) ∧ s5 = .int .i64 ((9 + k : Nat) : Int) ∧ k ≤ 4 ∧ wq = wr) (fun _ s5 _ => 13 - (intOf s5).toNat)
      case atStart => exact ⟨0, rfl, rfl, by decide, rfl⟩
      case round =>
        obtain ⟨k, rfl, rfl, hk, rfl⟩ := hrel
        have hp4 := HLL.out
        by_cases hk4 : k < 4
        · have HB := HHH.out (9 + k) (by omega)
          have pn : ptsp h (k + 1) = ptsp h k + (k + 1) * (h / 2 ^ (9 + k) % 2) := rfl
          have pl := ptsp_le h k
          have pl2 : k * (k + 1) ≤ 4 * 5 := Nat.mul_le_mul (by omega) (by omega)
          obtain ⟨q, hq⟩ : ∃ q, ptsp h k = q := ⟨_, rfl⟩
          rw [hq] at pn pl ⊢
          obtain ⟨r, hr⟩ : ∃ r, 9 + k = r := ⟨_, rfl⟩
          rw [hr] at HB pn ⊢
          have r13 : (r : Int) < 13 := by omega
          have g1 : IntKind.i64.wrap ((r : Int) + 1) = ((r + 1 : Nat) : Int) := by rw [IntWalk.i64_in _ (by omega)]; omega
          obtain ⟨pq, hpq⟩ : ∃ x, p + q = x := ⟨_, rfl⟩
          rw [hpq]
          have g2 : IntKind.i64.wrap ((pq : Int) + r) = ((pq + r : Nat) : Int) := by rw [IntWalk.i64_in _ (by omega)]; omega
          obtain ⟨pr, hpr⟩ : ∃ x, pq + r = x := ⟨_, rfl⟩
          rw [hpr] at g2
          have g3 : IntKind.i64.wrap ((pr : Int) - 8) = ((pr - 8 : Nat) : Int) := by rw [IntWalk.i64_in _ (by omega)]; omega
          have hr1 : r + 1 = 9 + (k + 1) := by omega
          obtain ⟨r', hr'⟩ : ∃ x, r + 1 = x := ⟨_, rfl⟩
          rw [hr'] at g1 hr1
          obtain ⟨p8, hp8⟩ : ∃ x, pr - 8 = x := ⟨_, rfl⟩
          rw [hp8] at g3
          have HK := Lib.hid hk4
          have HR1 := Lib.hid hr1
          have HRR := Lib.hid hr'
          by_cases hb : h / 2 ^ r % 2 = 1
          · rw [decide_eq_true hb] at HB
            rw [hb, Nat.mul_one] at pn
            have e8 : p8 = p + ptsp h (k + 1) := by omega
            have HB := Lib.hid HB
            have H8 := Lib.hid e8
            clear pn pl pl2 hq hr hpq hpr hr1 hr' hp8 hb e8 hk hk4 hp4
            go_wp2_with (go_at_call 38; refine (HB.out _).mono ?_; rintro e w1 ⟨rfl, rfl⟩)
            go_roundw
            case rel => exact ⟨k + 1, by rw [← H8.out], by rw [← HR1.out], HK.out, by first | rfl | trivial⟩
            case measure => simp [intOf]; have := HK.out; have := HRR.out; have := HR1.out; omega
          · rw [decide_eq_false hb] at HB
            have hb0 : h / 2 ^ r % 2 = 0 := by omega
            rw [hb0, Nat.mul_zero, Nat.add_zero] at pn
            have e8 : pq = p + ptsp h (k + 1) := by omega
            have HB := Lib.hid HB
            have H8 := Lib.hid e8
            clear pn pl pl2 hq hr hpq hpr hr1 hr' hp8 hb hb0 e8 hk hk4 hp4
            go_wp2_with (go_at_call 38; refine (HB.out _).mono ?_; rintro e w1 ⟨rfl, rfl⟩)
            go_roundw
            case rel => exact ⟨k + 1, by rw [← H8.out], by rw [← HR1.out], HK.out, by first | rfl | trivial⟩
            case measure => simp [intOf]; have := HK.out; have := HRR.out; have := HR1.out; omega
        · obtain rfl : k = 4 := by omega
          obtain ⟨q, hq⟩ : ∃ q, p + ptsp h 4 = q := ⟨_, rfl⟩
          rw [hq]
          have HQ := Lib.hid hq
          clear hk hk4 hp4 hq
          go_wp2
          go_roundw
          case rel => exact ⟨i + 1, by rw [HN.out, HQ.out], by go_num, HL.out, by first | rfl | trivial⟩
          case measure => simp [intOf]; have := HL.out; omega
    · obtain rfl : i = 4 := by omega
      go_wp2
      go_ret
      exact ⟨rfl, rfl⟩
end Go.Proofs.YtgndhdcnofblaaaDoor
