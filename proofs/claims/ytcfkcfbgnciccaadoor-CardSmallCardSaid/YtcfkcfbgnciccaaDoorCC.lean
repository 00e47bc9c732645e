/- Right, Of, Suit, Rank, rightMask, suited, place. -/
import Derived.Test.YtcfkcfbgnciccaaDoorCB
import Derived.Test.YtcfkcfbgnciccaaDoorG
import Derived.Test.YtcfkcfbgnciccaaDoorProg
import Derived.Lib.Hide
import Derived.Deep.RegionWith
import Derived.StillTailTactics
namespace Go.Proofs.YtcfkcfbgnciccaaDoor
open Go.RowKit

theorem u8_wrap {n : Int} (h0 : 0 ≤ n) (h1 : n < 256) : IntKind.u8.wrap n = n := by
  rw [IntKind.wrap_u8', Int.emod_eq_of_lt h0 h1]
theorem right_calls (c : Nat) (w : World) : Calls Tryd.prog 26 #[.int .u8 c] w fun e w' => e = .returned (.bool (decide (c < 52))) ∧ w = w' := by
  go_enter Tryd.func26, Tryd.ntmps26
  go_wp2
  go_ret
  refine ⟨?_, rfl⟩
  first | rfl | (congr 2; simp; omega)
theorem right_yes (c : Nat) (h : c < 52) (w : World) : Calls Tryd.prog 26 #[.int .u8 c] w fun e w' => e = .returned (.bool true) ∧ w = w' := by
  have := right_calls c w
  rwa [decide_eq_true h] at this
theorem right_no (c : Nat) (h : ¬ c < 52) (w : World) : Calls Tryd.prog 26 #[.int .u8 c] w fun e w' => e = .returned (.bool false) ∧ w = w' := by
  have := right_calls c w
  rwa [decide_eq_false h] at this
theorem of_yes (s r : Nat) (hs : s < 4) (hr : r < 13) (w : World) : Calls Tryd.prog 21 #[.int .u8 s, .int .u8 r] w fun e w' => e = .returned (.tuple #[.int .u8 ((13 * s + r : Nat) : Int), .int .i64 0]) ∧ w = w' := by
  have e1 : IntKind.u8.wrap ((s : Int) * 13) = (s : Int) * 13 := u8_wrap (by omega) (by omega)
  have e2 : IntKind.u8.wrap ((s : Int) * 13 + r) = ((13 * s + r : Nat) : Int) := by rw [u8_wrap (by omega) (by omega)]; omega
  have b1 : ¬ (4 : Int) ≤ s := by omega
  have b2 : ¬ (13 : Int) ≤ r := by omega
  go_enter Tryd.func21, Tryd.ntmps21
  go_wp2
  refine bodyPost_ret (by simp [results, Tryd.results21, go_sem]) rfl ⟨rfl, rfl⟩
theorem of_no (s r : Nat) (h : ¬ (s < 4 ∧ r < 13)) (hs2 : s < 256) (hr2 : r < 256) (w : World) : Calls Tryd.prog 21 #[.int .u8 s, .int .u8 r] w fun e w' => e = .returned (.tuple #[.int .u8 0, .int .i64 2]) ∧ w = w' := by
  have e1 : IntKind.i64.wrap (s : Int) = s := IntWalk.i64_in _ (by omega)
  have e2 : IntKind.i64.wrap (r : Int) = r := IntWalk.i64_in _ (by omega)
  by_cases hs : s < 4
  · have b1 : ¬ (4 : Int) ≤ s := by omega
    have b2 : (13 : Int) ≤ r := by omega
    go_enter Tryd.func21, Tryd.ntmps21
    go_wp2
    refine bodyPost_ret (by simp [results, Tryd.results21, go_sem]) rfl ⟨rfl, rfl⟩
  · have b1 : (4 : Int) ≤ s := by omega
    go_enter Tryd.func21, Tryd.ntmps21
    go_wp2
    refine bodyPost_ret (by simp [results, Tryd.results21, go_sem]) rfl ⟨rfl, rfl⟩
theorem suit_yes (c : Nat) (h : c < 52) (w : World) : Calls Tryd.prog 22 #[.int .u8 c] w fun e w' => e = .returned (.int .u8 ((c / 13 : Nat) : Int)) ∧ w = w' := by
  have R := Lib.hid (right_yes c h)
  have e1 : (c : Int).tdiv 13 = ((c / 13 : Nat) : Int) := by rw [Int.tdiv_eq_ediv_of_nonneg (by omega)]; omega
  have e2 : IntKind.u8.wrap ((c / 13 : Nat) : Int) = ((c / 13 : Nat) : Int) := u8_wrap (by omega) (by omega)
  go_enter Tryd.func22, Tryd.ntmps22
  go_wp2_with (go_at_call 26; refine (R.out _).mono ?_; rintro e w1 ⟨rfl, rfl⟩)
  go_ret
  exact ⟨rfl, rfl⟩
theorem suit_no (c : Nat) (h : ¬ c < 52) (w : World) : Calls Tryd.prog 22 #[.int .u8 c] w fun e w' => e = .returned (.int .u8 0) ∧ w = w' := by
  have R := Lib.hid (right_no c h)
  go_enter Tryd.func22, Tryd.ntmps22
  go_wp2_with (go_at_call 26; refine (R.out _).mono ?_; rintro e w1 ⟨rfl, rfl⟩)
  go_ret
  exact ⟨rfl, rfl⟩
theorem rank_yes (c : Nat) (h : c < 52) (w : World) : Calls Tryd.prog 23 #[.int .u8 c] w fun e w' => e = .returned (.int .u8 ((c % 13 : Nat) : Int)) ∧ w = w' := by
  have R := Lib.hid (right_yes c h)
  have e1 : (c : Int).tmod 13 = ((c % 13 : Nat) : Int) := by rw [Int.tmod_eq_emod_of_nonneg (by omega)]; omega
  have e2 : IntKind.u8.wrap ((c % 13 : Nat) : Int) = ((c % 13 : Nat) : Int) := u8_wrap (by omega) (by omega)
  go_enter Tryd.func23, Tryd.ntmps23
  go_wp2_with (go_at_call 26; refine (R.out _).mono ?_; rintro e w1 ⟨rfl, rfl⟩)
  go_ret
  exact ⟨rfl, rfl⟩
theorem rank_no (c : Nat) (h : ¬ c < 52) (w : World) : Calls Tryd.prog 23 #[.int .u8 c] w fun e w' => e = .returned (.int .u8 0) ∧ w = w' := by
  have R := Lib.hid (right_no c h)
  go_enter Tryd.func23, Tryd.ntmps23
  go_wp2_with (go_at_call 26; refine (R.out _).mono ?_; rintro e w1 ⟨rfl, rfl⟩)
  go_ret
  exact ⟨rfl, rfl⟩
theorem rightMask_calls (m : Nat) (w : World) : Calls Tryd.prog 42 #[.int .u64 m] w fun e w' => e = .returned (.bool (decide (m < 4503599627370496))) ∧ w = w' := by
  go_enter Tryd.func42, Tryd.ntmps42
  go_wp2
  go_ret
  refine ⟨?_, rfl⟩
  first | rfl | (congr 2; simp; omega)
theorem rightMask_yes (m : Nat) (h : m < 4503599627370496) (w : World) : Calls Tryd.prog 42 #[.int .u64 m] w fun e w' => e = .returned (.bool true) ∧ w = w' := by
  have := rightMask_calls m w
  rwa [decide_eq_true h] at this
theorem rightMask_no (m : Nat) (h : ¬ m < 4503599627370496) (w : World) : Calls Tryd.prog 42 #[.int .u64 m] w fun e w' => e = .returned (.bool false) ∧ w = w' := by
  have := rightMask_calls m w
  rwa [decide_eq_false h] at this
theorem place_calls (s : Nat) (h : s < 4) (w : World) : Calls Tryd.prog 44 #[.int .u8 s] w fun e w' => e = .returned (.int .i64 ((3 - s : Nat) : Int)) ∧ w = w' := by
  have e1 : IntKind.i64.wrap (s : Int) = s := IntWalk.i64_in _ (by omega)
  have e2 : IntKind.i64.wrap (3 - (s : Int)) = ((3 - s : Nat) : Int) := by rw [IntWalk.i64_in _ (by omega)]; omega
  go_enter Tryd.func44, Tryd.ntmps44
  go_wp2
  go_ret
  exact ⟨rfl, rfl⟩
/-- The cards of a suit, where they are. -/
def sui (m s : Nat) : Nat := m &&& (8191 * 2 ^ (13 * s))
theorem sui_bit (m s i : Nat) : (sui m s).testBit i = (m.testBit i && (decide (13 * s ≤ i) && decide (i < 13 * s + 13))) := by
  unfold sui
  rw [Nat.testBit_and, Nat.mul_comm, Nat.testBit_two_pow_mul, show 8191 = 2 ^ 13 - 1 from rfl, Nat.testBit_two_pow_sub_one]
  congr 1
  by_cases h : 13 * s ≤ i
  · simp [h]; omega
  · simp [h]
theorem sui_lt {m : Nat} (h : m < 4503599627370496) (s : Nat) : sui m s < 4503599627370496 := Nat.lt_of_le_of_lt Nat.and_le_left h
theorem suited_yes (m s : Nat) (hm : m < 4503599627370496) (hs : s < 4) (w : World) : Calls Tryd.prog 50 #[.int .u64 m, .int .u8 s] w fun e w' => e = .returned (.int .u64 (sui m s)) ∧ w = w' := by
  have R := Lib.hid (rightMask_yes m hm)
  have e1 : IntKind.i64.wrap (s : Int) = s := IntWalk.i64_in _ (by omega)
  have e2 : IntKind.i64.wrap ((s : Int) * 13) = (s : Int) * 13 := IntWalk.i64_in _ (by omega)
  have hp : 2 ^ (13 * s) ≤ 2 ^ 39 := Nat.pow_le_pow_right (by decide) (by omega)
  have e3 : IntKind.u64.wrap ((8191 : Int) * 2 ^ ((s : Int) * 13).toNat) = ((8191 * 2 ^ (13 * s) : Nat) : Int) := by
    have : ((s : Int) * 13).toNat = 13 * s := by omega
    rw [this, IntKind.wrap_u64]
    have : (8191 * 2 ^ (13 * s) : Int) = ((8191 * 2 ^ (13 * s) : Nat) : Int) := by simp
    rw [this]
    omega
  have e4 : bits .and .u64 (m : Int) (8191 * 2 ^ (13 * s)) = (sui m s : Int) := by
    have := u64_and_nat m (8191 * 2 ^ (13 * s)) (by omega) (by omega)
    simpa [sui] using this
  have b1 : ¬ (4 : Int) ≤ s := by omega
  go_enter Tryd.func50, Tryd.ntmps50
  go_wp2_with (go_at_call 42; refine (R.out _).mono ?_; rintro e w1 ⟨rfl, rfl⟩)
  go_ret
  exact ⟨rfl, rfl⟩
theorem suited_no (m s : Nat) (h : ¬ (m < 4503599627370496 ∧ s < 4)) (hs : s < 256) (w : World) : Calls Tryd.prog 50 #[.int .u64 m, .int .u8 s] w fun e w' => e = .returned (.int .u64 0) ∧ w = w' := by
  have e1 : IntKind.i64.wrap (s : Int) = s := IntWalk.i64_in _ (by omega)
  by_cases hm : m < 4503599627370496
  · have R := Lib.hid (rightMask_yes m hm)
    have b1 : (4 : Int) ≤ s := by omega
    go_enter Tryd.func50, Tryd.ntmps50
    go_wp2_with (go_at_call 42; refine (R.out _).mono ?_; rintro e w1 ⟨rfl, rfl⟩)
    go_ret
    exact ⟨rfl, rfl⟩
  · have R := Lib.hid (rightMask_no m hm)
    go_enter Tryd.func50, Tryd.ntmps50
    go_wp2_with (go_at_call 42; refine (R.out _).mono ?_; rintro e w1 ⟨rfl, rfl⟩)
    go_ret
    exact ⟨rfl, rfl⟩
end Go.Proofs.YtcfkcfbgnciccaaDoor
