/- losers, quick, Losers, Quick. -/
import Derived.Test.YtgndhdcnofblaaaDoorHF
namespace Go.Proofs.YtgndhdcnofblaaaDoor
open Go.RowKit

def lsum (h : Nat) : Nat → Nat
  | 0 => 0
  | i + 1 => lsum h i + if i < len h ∧ ¬ h / 2 ^ (12 - i) % 2 = 1 then 1 else 0
theorem lsum_le (h : Nat) : ∀ i, lsum h i ≤ i
  | 0 => Nat.le_refl _
  | i + 1 => by
    have := lsum_le h i
    unfold lsum
    split <;> omega
theorem lsum_los (h : Nat) : lsum h 3 = los h := by
  unfold los
  have e : ∀ x, (¬ x % 2 = 1) ↔ (x % 2 = 0) := fun x => by omega
  simp only [lsum, e, Nat.reducePow, Nat.reduceSub]
  have e0 : (0 < len h) ↔ (1 ≤ len h) := by omega
  have e1 : (1 < len h) ↔ (2 ≤ len h) := by omega
  have e2 : (2 < len h) ↔ (3 ≤ len h) := by omega
  simp only [e0, e1, e2]
  omega
theorem lix_0 (W : World) : (Instr.index 60 (.agg #[.int .i64 12, .int .i64 11, .int .i64 10]) (.int .i64 0)).run Tryd.prog W = .ok (.int .i64 12) W := by kernel_rfl
theorem lix_1 (W : World) : (Instr.index 60 (.agg #[.int .i64 12, .int .i64 11, .int .i64 10]) (.int .i64 1)).run Tryd.prog W = .ok (.int .i64 11) W := by kernel_rfl
theorem lix_2 (W : World) : (Instr.index 60 (.agg #[.int .i64 12, .int .i64 11, .int .i64 10]) (.int .i64 2)).run Tryd.prog W = .ok (.int .i64 10) W := by kernel_rfl
theorem lix (i : Nat) (hi : i < 3) (W : World) : (Instr.index 60 (.agg #[.int .i64 12, .int .i64 11, .int .i64 10]) (.int .i64 i)).run Tryd.prog W = .ok (.int .i64 ((12 - i : Nat) : Int)) W := by
  match i, hi with
  | 0, _ => exact lix_0 W
  | 1, _ => exact lix_1 W
  | 2, _ => exact lix_2 W
set_option maxRecDepth 100000 in
set_option maxHeartbeats 2000000 in
theorem losers_calls (h : Nat) (hh : h < 8192) (w : World) : Calls Tryd.prog 41 #[.int .u16 h] w fun e w' => e = .returned (.int .i64 (los h)) ∧ Below w.heap.size w w' := by
  have LN := Lib.hid (length_calls h hh)
  rw [← lsum_los]
  go_enter Tryd.func41, Tryd.ntmps41
  go_wp2
  go_loopw [3, 7] (fun s3 s7 wr => ∃ i : Nat, s3 = .int .i64 (lsum h i) ∧ s7 = .int .i64 i ∧ i ≤ 3 ∧ Below w.heap.size w wr) (fun _ s7 _ => 3 - (intOf s7).toNat)
  case atStart => exact ⟨0, rfl, rfl, by decide, by repeat (first | (with_reducible exact Below.refl _ _) | ((with_reducible refine below_grow ?_ ?_); rotate_left; focus (first | omega | (simp [go_sem]; done) | (simp [go_sem]; omega))) | ((with_reducible refine Below.alloc ?_ ?_ _); rotate_left; focus (first | omega | (simp [go_sem]; done) | (simp [go_sem]; omega))) | ((with_reducible refine Below.setCell ?_ ?_ _); rotate_left; focus (first | omega | (simp [go_sem]; done) | (simp [go_sem]; omega))) | (with_reducible refine Below.drew ?_) | (with_reducible refine below_drewN _ ?_))⟩
  case round =>
    obtain ⟨i, rfl, rfl, hi, hb⟩ := hrel
    have hsz := hb.size
    by_cases hlt : i < 3
    · have hlt2 : (i : Int) < 3 := by omega
      have ix := lix i hlt
      have e1 : IntKind.i64.wrap ((i : Int) + 1) = (i : Int) + 1 := IntWalk.i64_in _ (by omega)
      have al := lsum_le h i
      have hn : lsum h (i + 1) = lsum h i + if i < len h ∧ ¬ h / 2 ^ (12 - i) % 2 = 1 then 1 else 0 := rfl
      have H := Lib.hid (has_calls h (12 - i) (by omega) (by omega))
      have HL := Lib.hid hlt
      have hle := len_le h
      obtain ⟨t, ht⟩ : ∃ x, 12 - i = x := ⟨_, rfl⟩
      rw [ht] at ix hn H
      obtain ⟨a, ha⟩ : ∃ x, lsum h i = x := ⟨_, rfl⟩
      rw [ha] at al hn ⊢
      obtain ⟨n, hnn⟩ : ∃ x, len h = x := ⟨_, rfl⟩
      rw [hnn] at LN hn hle
      have e2 : IntKind.i64.wrap ((a : Int) + 1) = ((a + 1 : Nat) : Int) := by rw [IntWalk.i64_in _ (by omega)]; omega
      clear ht ha al hi hlt hnn
      by_cases hl : i < n
      · have hd : decide ((n : Int) > i) = true := decide_eq_true (by omega)
        have hd2 : (i : Int) < n := by omega
        by_cases hbt : h / 2 ^ t % 2 = 1
        · rw [if_neg (fun hx => hx.2 hbt)] at hn
          have hn : lsum h (i + 1) = a := hn
          rw [decide_eq_true hbt] at H
          have HN := Lib.hid hn
          clear hbt hn hl
          go_wp2_with (first | (go_at_call 46; refine (LN.out _).mono ?_; rintro e w1 ⟨rfl, hbel⟩; obtain ⟨o1, j1, rfl⟩ := grow_of_below hbel; clear hbel) | (go_at_call 53; refine (H.out _).mono ?_; rintro e w1 ⟨rfl, rfl⟩))
          go_roundw
          case rel => exact ⟨i + 1, by rw [HN.out]; first | done | rfl | simp, by go_num, by have := HL.out; omega, by repeat (first | (with_reducible exact hb) | ((with_reducible refine below_grow ?_ ?_); rotate_left; focus (first | omega | (simp [go_sem]; done) | (simp [go_sem]; omega))) | ((with_reducible refine Below.alloc ?_ ?_ _); rotate_left; focus (first | omega | (simp [go_sem]; done) | (simp [go_sem]; omega))) | ((with_reducible refine Below.setCell ?_ ?_ _); rotate_left; focus (first | omega | (simp [go_sem]; done) | (simp [go_sem]; omega))) | (with_reducible refine Below.drew ?_) | (with_reducible refine below_drewN _ ?_))⟩
          case measure => simp [intOf]; have := HL.out; omega
        · rw [if_pos ⟨hl, hbt⟩] at hn
          rw [decide_eq_false hbt] at H
          have HN := Lib.hid hn
          clear hbt hn hl
          go_wp2_with (first | (go_at_call 46; refine (LN.out _).mono ?_; rintro e w1 ⟨rfl, hbel⟩; obtain ⟨o1, j1, rfl⟩ := grow_of_below hbel; clear hbel) | (go_at_call 53; refine (H.out _).mono ?_; rintro e w1 ⟨rfl, rfl⟩))
          go_roundw
          case rel => exact ⟨i + 1, by rw [HN.out]; first | done | rfl | simp, by go_num, by have := HL.out; omega, by repeat (first | (with_reducible exact hb) | ((with_reducible refine below_grow ?_ ?_); rotate_left; focus (first | omega | (simp [go_sem]; done) | (simp [go_sem]; omega))) | ((with_reducible refine Below.alloc ?_ ?_ _); rotate_left; focus (first | omega | (simp [go_sem]; done) | (simp [go_sem]; omega))) | ((with_reducible refine Below.setCell ?_ ?_ _); rotate_left; focus (first | omega | (simp [go_sem]; done) | (simp [go_sem]; omega))) | (with_reducible refine Below.drew ?_) | (with_reducible refine below_drewN _ ?_))⟩
          case measure => simp [intOf]; have := HL.out; omega
      · rw [if_neg (fun hx => hl hx.1)] at hn
        have hn : lsum h (i + 1) = a := hn
        have hd : decide ((n : Int) > i) = false := decide_eq_false (by omega)
        have hd2 : ¬ (i : Int) < n := by omega
        have HN := Lib.hid hn
        clear hn hl
        go_wp2_with (go_at_call 46; refine (LN.out _).mono ?_; rintro e w1 ⟨rfl, hbel⟩; obtain ⟨o1, j1, rfl⟩ := grow_of_below hbel; clear hbel)
        go_roundw
        case rel => exact ⟨i + 1, by rw [HN.out]; first | done | rfl | simp, by go_num, by have := HL.out; omega, by repeat (first | (with_reducible exact hb) | ((with_reducible refine below_grow ?_ ?_); rotate_left; focus (first | omega | (simp [go_sem]; done) | (simp [go_sem]; omega))) | ((with_reducible refine Below.alloc ?_ ?_ _); rotate_left; focus (first | omega | (simp [go_sem]; done) | (simp [go_sem]; omega))) | ((with_reducible refine Below.setCell ?_ ?_ _); rotate_left; focus (first | omega | (simp [go_sem]; done) | (simp [go_sem]; omega))) | (with_reducible refine Below.drew ?_) | (with_reducible refine below_drewN _ ?_))⟩
        case measure => simp [intOf]; have := HL.out; omega
    · obtain rfl : i = 3 := by omega
      go_wp2
      go_ret
      exact ⟨rfl, hb⟩
end Go.Proofs.YtgndhdcnofblaaaDoor
