/- adder and its closure. -/
import Derived.Test.YtgndhdcnofblaaaDoorHD
import Derived.Deep.LoopGhost
namespace Go.Proofs.YtgndhdcnofblaaaDoor
open Go.RowKit

def acc (vs : List Int) (h : Nat) : Nat → Int
  | 0 => 0
  | i + 1 => acc vs h i + if h / 2 ^ i % 2 = 1 then vs.getD i 0 else 0
theorem acc_le (vs : List Int) (hv : ∀ i, 0 ≤ vs.getD i 0 ∧ vs.getD i 0 ≤ 9) (h : Nat) : ∀ i, 0 ≤ acc vs h i ∧ acc vs h i ≤ 9 * i
  | 0 => by simp [acc]
  | i + 1 => by
    have := acc_le vs hv h i
    have := hv i
    unfold acc
    split <;> omega
theorem adder_calls (v0 v1 v2 v3 v4 v5 v6 v7 v8 v9 v10 v11 v12 : Int) (w : World) : Calls Tryd.prog 40 #[.agg #[.int .i64 v0, .int .i64 v1, .int .i64 v2, .int .i64 v3, .int .i64 v4, .int .i64 v5, .int .i64 v6, .int .i64 v7, .int .i64 v8, .int .i64 v9, .int .i64 v10, .int .i64 v11, .int .i64 v12]] w fun e w' => e = .returned (.func (.func 52) #[] #[.pointer (some ⟨w.heap.size, 0, none⟩)]) ∧ w' = w.alloc (.cells #[.int .i64 v0, .int .i64 v1, .int .i64 v2, .int .i64 v3, .int .i64 v4, .int .i64 v5, .int .i64 v6, .int .i64 v7, .int .i64 v8, .int .i64 v9, .int .i64 v10, .int .i64 v11, .int .i64 v12] 49) := by
  go_enter Tryd.func40, Tryd.ntmps40
  go_wp2
  go_ret
  exact ⟨rfl, rfl⟩
theorem adix_0 (v0 v1 v2 v3 v4 v5 v6 v7 v8 v9 v10 v11 v12 : Int) (W : World) : (Instr.index 49 (.agg #[.int .i64 v0, .int .i64 v1, .int .i64 v2, .int .i64 v3, .int .i64 v4, .int .i64 v5, .int .i64 v6, .int .i64 v7, .int .i64 v8, .int .i64 v9, .int .i64 v10, .int .i64 v11, .int .i64 v12]) (.int .i64 0)).run Tryd.prog W = .ok (.int .i64 v0) W := by kernel_rfl
theorem adix_1 (v0 v1 v2 v3 v4 v5 v6 v7 v8 v9 v10 v11 v12 : Int) (W : World) : (Instr.index 49 (.agg #[.int .i64 v0, .int .i64 v1, .int .i64 v2, .int .i64 v3, .int .i64 v4, .int .i64 v5, .int .i64 v6, .int .i64 v7, .int .i64 v8, .int .i64 v9, .int .i64 v10, .int .i64 v11, .int .i64 v12]) (.int .i64 1)).run Tryd.prog W = .ok (.int .i64 v1) W := by kernel_rfl
theorem adix_2 (v0 v1 v2 v3 v4 v5 v6 v7 v8 v9 v10 v11 v12 : Int) (W : World) : (Instr.index 49 (.agg #[.int .i64 v0, .int .i64 v1, .int .i64 v2, .int .i64 v3, .int .i64 v4, .int .i64 v5, .int .i64 v6, .int .i64 v7, .int .i64 v8, .int .i64 v9, .int .i64 v10, .int .i64 v11, .int .i64 v12]) (.int .i64 2)).run Tryd.prog W = .ok (.int .i64 v2) W := by kernel_rfl
theorem adix_3 (v0 v1 v2 v3 v4 v5 v6 v7 v8 v9 v10 v11 v12 : Int) (W : World) : (Instr.index 49 (.agg #[.int .i64 v0, .int .i64 v1, .int .i64 v2, .int .i64 v3, .int .i64 v4, .int .i64 v5, .int .i64 v6, .int .i64 v7, .int .i64 v8, .int .i64 v9, .int .i64 v10, .int .i64 v11, .int .i64 v12]) (.int .i64 3)).run Tryd.prog W = .ok (.int .i64 v3) W := by kernel_rfl
theorem adix_4 (v0 v1 v2 v3 v4 v5 v6 v7 v8 v9 v10 v11 v12 : Int) (W : World) : (Instr.index 49 (.agg #[.int .i64 v0, .int .i64 v1, .int .i64 v2, .int .i64 v3, .int .i64 v4, .int .i64 v5, .int .i64 v6, .int .i64 v7, .int .i64 v8, .int .i64 v9, .int .i64 v10, .int .i64 v11, .int .i64 v12]) (.int .i64 4)).run Tryd.prog W = .ok (.int .i64 v4) W := by kernel_rfl
theorem adix_5 (v0 v1 v2 v3 v4 v5 v6 v7 v8 v9 v10 v11 v12 : Int) (W : World) : (Instr.index 49 (.agg #[.int .i64 v0, .int .i64 v1, .int .i64 v2, .int .i64 v3, .int .i64 v4, .int .i64 v5, .int .i64 v6, .int .i64 v7, .int .i64 v8, .int .i64 v9, .int .i64 v10, .int .i64 v11, .int .i64 v12]) (.int .i64 5)).run Tryd.prog W = .ok (.int .i64 v5) W := by kernel_rfl
theorem adix_6 (v0 v1 v2 v3 v4 v5 v6 v7 v8 v9 v10 v11 v12 : Int) (W : World) : (Instr.index 49 (.agg #[.int .i64 v0, .int .i64 v1, .int .i64 v2, .int .i64 v3, .int .i64 v4, .int .i64 v5, .int .i64 v6, .int .i64 v7, .int .i64 v8, .int .i64 v9, .int .i64 v10, .int .i64 v11, .int .i64 v12]) (.int .i64 6)).run Tryd.prog W = .ok (.int .i64 v6) W := by kernel_rfl
theorem adix_7 (v0 v1 v2 v3 v4 v5 v6 v7 v8 v9 v10 v11 v12 : Int) (W : World) : (Instr.index 49 (.agg #[.int .i64 v0, .int .i64 v1, .int .i64 v2, .int .i64 v3, .int .i64 v4, .int .i64 v5, .int .i64 v6, .int .i64 v7, .int .i64 v8, .int .i64 v9, .int .i64 v10, .int .i64 v11, .int .i64 v12]) (.int .i64 7)).run Tryd.prog W = .ok (.int .i64 v7) W := by kernel_rfl
theorem adix_8 (v0 v1 v2 v3 v4 v5 v6 v7 v8 v9 v10 v11 v12 : Int) (W : World) : (Instr.index 49 (.agg #[.int .i64 v0, .int .i64 v1, .int .i64 v2, .int .i64 v3, .int .i64 v4, .int .i64 v5, .int .i64 v6, .int .i64 v7, .int .i64 v8, .int .i64 v9, .int .i64 v10, .int .i64 v11, .int .i64 v12]) (.int .i64 8)).run Tryd.prog W = .ok (.int .i64 v8) W := by kernel_rfl
theorem adix_9 (v0 v1 v2 v3 v4 v5 v6 v7 v8 v9 v10 v11 v12 : Int) (W : World) : (Instr.index 49 (.agg #[.int .i64 v0, .int .i64 v1, .int .i64 v2, .int .i64 v3, .int .i64 v4, .int .i64 v5, .int .i64 v6, .int .i64 v7, .int .i64 v8, .int .i64 v9, .int .i64 v10, .int .i64 v11, .int .i64 v12]) (.int .i64 9)).run Tryd.prog W = .ok (.int .i64 v9) W := by kernel_rfl
theorem adix_10 (v0 v1 v2 v3 v4 v5 v6 v7 v8 v9 v10 v11 v12 : Int) (W : World) : (Instr.index 49 (.agg #[.int .i64 v0, .int .i64 v1, .int .i64 v2, .int .i64 v3, .int .i64 v4, .int .i64 v5, .int .i64 v6, .int .i64 v7, .int .i64 v8, .int .i64 v9, .int .i64 v10, .int .i64 v11, .int .i64 v12]) (.int .i64 10)).run Tryd.prog W = .ok (.int .i64 v10) W := by kernel_rfl
theorem adix_11 (v0 v1 v2 v3 v4 v5 v6 v7 v8 v9 v10 v11 v12 : Int) (W : World) : (Instr.index 49 (.agg #[.int .i64 v0, .int .i64 v1, .int .i64 v2, .int .i64 v3, .int .i64 v4, .int .i64 v5, .int .i64 v6, .int .i64 v7, .int .i64 v8, .int .i64 v9, .int .i64 v10, .int .i64 v11, .int .i64 v12]) (.int .i64 11)).run Tryd.prog W = .ok (.int .i64 v11) W := by kernel_rfl
theorem adix_12 (v0 v1 v2 v3 v4 v5 v6 v7 v8 v9 v10 v11 v12 : Int) (W : World) : (Instr.index 49 (.agg #[.int .i64 v0, .int .i64 v1, .int .i64 v2, .int .i64 v3, .int .i64 v4, .int .i64 v5, .int .i64 v6, .int .i64 v7, .int .i64 v8, .int .i64 v9, .int .i64 v10, .int .i64 v11, .int .i64 v12]) (.int .i64 12)).run Tryd.prog W = .ok (.int .i64 v12) W := by kernel_rfl
theorem adix (v0 v1 v2 v3 v4 v5 v6 v7 v8 v9 v10 v11 v12 : Int) (i : Nat) (hi : i < 13) (W : World) : (Instr.index 49 (.agg #[.int .i64 v0, .int .i64 v1, .int .i64 v2, .int .i64 v3, .int .i64 v4, .int .i64 v5, .int .i64 v6, .int .i64 v7, .int .i64 v8, .int .i64 v9, .int .i64 v10, .int .i64 v11, .int .i64 v12]) (.int .i64 i)).run Tryd.prog W = .ok (.int .i64 ([v0, v1, v2, v3, v4, v5, v6, v7, v8, v9, v10, v11, v12].getD i 0)) W := by
  match i, hi with
  | 0, _ => exact adix_0 v0 v1 v2 v3 v4 v5 v6 v7 v8 v9 v10 v11 v12 W
  | 1, _ => exact adix_1 v0 v1 v2 v3 v4 v5 v6 v7 v8 v9 v10 v11 v12 W
  | 2, _ => exact adix_2 v0 v1 v2 v3 v4 v5 v6 v7 v8 v9 v10 v11 v12 W
  | 3, _ => exact adix_3 v0 v1 v2 v3 v4 v5 v6 v7 v8 v9 v10 v11 v12 W
  | 4, _ => exact adix_4 v0 v1 v2 v3 v4 v5 v6 v7 v8 v9 v10 v11 v12 W
  | 5, _ => exact adix_5 v0 v1 v2 v3 v4 v5 v6 v7 v8 v9 v10 v11 v12 W
  | 6, _ => exact adix_6 v0 v1 v2 v3 v4 v5 v6 v7 v8 v9 v10 v11 v12 W
  | 7, _ => exact adix_7 v0 v1 v2 v3 v4 v5 v6 v7 v8 v9 v10 v11 v12 W
  | 8, _ => exact adix_8 v0 v1 v2 v3 v4 v5 v6 v7 v8 v9 v10 v11 v12 W
  | 9, _ => exact adix_9 v0 v1 v2 v3 v4 v5 v6 v7 v8 v9 v10 v11 v12 W
  | 10, _ => exact adix_10 v0 v1 v2 v3 v4 v5 v6 v7 v8 v9 v10 v11 v12 W
  | 11, _ => exact adix_11 v0 v1 v2 v3 v4 v5 v6 v7 v8 v9 v10 v11 v12 W
  | 12, _ => exact adix_12 v0 v1 v2 v3 v4 v5 v6 v7 v8 v9 v10 v11 v12 W
set_option maxRecDepth 100000 in
set_option maxHeartbeats 2000000 in
theorem adder1_calls (v0 v1 v2 v3 v4 v5 v6 v7 v8 v9 v10 v11 v12 : Int) (hv : ∀ i, 0 ≤ [v0, v1, v2, v3, v4, v5, v6, v7, v8, v9, v10, v11, v12].getD i 0 ∧ [v0, v1, v2, v3, v4, v5, v6, v7, v8, v9, v10, v11, v12].getD i 0 ≤ 9) (h : Nat) (hh : h < 8192) (b : Nat) (W : World)
    (c0 : W.cell? ⟨b, 0, none⟩ = some (.int .i64 v0))
    (c1 : W.cell? ⟨b, 1, none⟩ = some (.int .i64 v1))
    (c2 : W.cell? ⟨b, 2, none⟩ = some (.int .i64 v2))
    (c3 : W.cell? ⟨b, 3, none⟩ = some (.int .i64 v3))
    (c4 : W.cell? ⟨b, 4, none⟩ = some (.int .i64 v4))
    (c5 : W.cell? ⟨b, 5, none⟩ = some (.int .i64 v5))
    (c6 : W.cell? ⟨b, 6, none⟩ = some (.int .i64 v6))
    (c7 : W.cell? ⟨b, 7, none⟩ = some (.int .i64 v7))
    (c8 : W.cell? ⟨b, 8, none⟩ = some (.int .i64 v8))
    (c9 : W.cell? ⟨b, 9, none⟩ = some (.int .i64 v9))
    (c10 : W.cell? ⟨b, 10, none⟩ = some (.int .i64 v10))
    (c11 : W.cell? ⟨b, 11, none⟩ = some (.int .i64 v11))
    (c12 : W.cell? ⟨b, 12, none⟩ = some (.int .i64 v12)) :
    Calls Tryd.prog 52 #[.int .u16 h, .pointer (some ⟨b, 0, none⟩)] W fun e w' => e = .returned (.int .i64 (acc [v0, v1, v2, v3, v4, v5, v6, v7, v8, v9, v10, v11, v12] h 13)) ∧ W = w' := by
  have IX := Lib.hid (adix v0 v1 v2 v3 v4 v5 v6 v7 v8 v9 v10 v11 v12)
  have AL := Lib.hid (acc_le [v0, v1, v2, v3, v4, v5, v6, v7, v8, v9, v10, v11, v12] hv h)
  have HV := Lib.hid hv
  clear hv
  obtain ⟨L, hL⟩ : ∃ L, [v0, v1, v2, v3, v4, v5, v6, v7, v8, v9, v10, v11, v12] = L := ⟨_, rfl⟩
  rw [hL] at IX AL HV ⊢
  clear hL
  go_enter Tryd.func52, Tryd.ntmps52
  go_wp2
  go_loopw [4, 8] (fun s4 s8 wr => ∃ i : Nat, s4 = .int .i64 (acc L h i) ∧ s8 = .int .i64 i ∧ i ≤ 13 ∧ wr = W) (fun _ s8 _ => 13 - (intOf s8).toNat)
  case atStart => exact ⟨0, rfl, rfl, by decide, rfl⟩
  case round =>
    obtain ⟨i, rfl, rfl, hi, rfl⟩ := hrel
    by_cases hlt : i < 13
    · have hlt2 : (i : Int) < 13 := by omega
      have ix := IX.out i hlt
      have e1 : IntKind.i64.wrap ((i : Int) + 1) = (i : Int) + 1 := IntWalk.i64_in _ (by omega)
      have al := AL.out i
      have hvi := HV.out i
      have hn : acc L h (i + 1) = acc L h i + if h / 2 ^ i % 2 = 1 then L.getD i 0 else 0 := rfl
      have H := Lib.hid (has_calls h i (by omega) (by omega))
      have HL := Lib.hid hlt
      obtain ⟨x, hx⟩ : ∃ x, L.getD i 0 = x := ⟨_, rfl⟩
      rw [hx] at ix hn hvi
      obtain ⟨a, ha⟩ : ∃ x, acc L h i = x := ⟨_, rfl⟩
      rw [ha] at al hn ⊢
      have e2 : IntKind.i64.wrap (a + x) = a + x := IntWalk.i64_in _ (by omega)
      clear hx ha al hvi IX AL HV hi hlt
      by_cases hb : h / 2 ^ i % 2 = 1
      · rw [if_pos hb] at hn
        rw [decide_eq_true hb] at H
        have HN := Lib.hid hn
        clear hb hn
        go_wp2_with (go_at_call 53; refine (H.out _).mono ?_; rintro e w1 ⟨rfl, rfl⟩)
        go_roundw
        case rel => exact ⟨i + 1, by rw [HN.out], by go_num, by have := HL.out; omega, by first | rfl | trivial⟩
        case measure => simp [intOf]; have := HL.out; omega
      · rw [if_neg hb, Int.add_zero] at hn
        rw [decide_eq_false hb] at H
        have HN := Lib.hid hn
        clear hb hn
        go_wp2_with (go_at_call 53; refine (H.out _).mono ?_; rintro e w1 ⟨rfl, rfl⟩)
        go_roundw
        case rel => exact ⟨i + 1, by rw [HN.out], by go_num, by have := HL.out; omega, by first | rfl | trivial⟩
        case measure => simp [intOf]; have := HL.out; omega
    · obtain rfl : i = 13 := by omega
      go_wp2
      go_ret
      exact ⟨rfl, rfl⟩
end Go.Proofs.YtgndhdcnofblaaaDoor
