/- The reference's Has, Whole, bit. -/
import Derived.Test.YtcfkcfbgnciccaaDoorCZb
import Derived.Test.YtcfkcfbgnciccaaDoorCM
namespace Go.Proofs.YtcfkcfbgnciccaaDoor
open Go.RowKit

theorem has_calls (m c : Nat) (hm : m < 18446744073709551616) (hc : c ≤ 64) (w : World) : Calls Tryd.prog 40 #[.int .u64 m, .int .i64 c] w fun e w' => e = .returned (.bool (m.testBit c)) ∧ Below w.heap.size w w' := by
  have hfin : (((m / 2 ^ c : Nat) : Int) % 2 == 1) = m.testBit c := by
    rw [Nat.testBit_eq_decide_div_mod_eq]
    rw [Bool.eq_iff_iff, beq_iff_eq, decide_eq_true_iff]; exact ⟨fun h => by exact_mod_cast h, fun h => by exact_mod_cast h⟩
  have hub : m / 2 ^ c < 18446744073709551616 := Nat.lt_of_le_of_lt (Nat.div_le_self _ _) hm
  go_enter Tryd.func40, Tryd.ntmps40
  go_wp2
  go_loopw [0, 5] (fun s0 s5 wr => ∃ i : Nat, s0 = .int .u64 (m / 2 ^ i : Nat) ∧ s5 = .int .i64 i ∧ i ≤ c ∧ wr = w) (fun _ s5 _ => c - (intOf s5).toNat)
  case atStart => exact ⟨0, by simp, rfl, by omega, rfl⟩
  case round =>
    obtain ⟨i, rfl, rfl, hi, rfl⟩ := hrel
    have hui : m / 2 ^ i < 18446744073709551616 := Nat.lt_of_le_of_lt (Nat.div_le_self _ _) hm
    by_cases hlt : i < c
    · have b1 : (i : Int) < c := by omega
      have e2 : IntKind.i64.wrap ((i : Int) + 1) = (i : Int) + 1 := IntWalk.i64_in _ (by omega)
      have e3 : m / 2 ^ (i + 1) = m / 2 ^ i / 2 := by rw [Nat.pow_succ, Nat.div_div_eq_div_mul]
      obtain ⟨x, hx⟩ : ∃ x, m / 2 ^ i = x := ⟨_, rfl⟩
      rw [hx] at e3 hui ⊢
      have HH := Lib.hid e3
      clear hx e3
      go_wp2
      go_roundw
      case rel => exact ⟨i + 1, by rw [HH.out]; rfl, by go_num, by omega, by first | rfl | trivial⟩
      case measure => simp [intOf]; omega
    · obtain rfl : i = c := by omega
      obtain ⟨x, hx⟩ : ∃ x, m / 2 ^ i = x := ⟨_, rfl⟩
      rw [hx] at hfin hub ⊢
      have HH := Lib.hid hfin
      clear hx hfin
      go_wp2
      go_ret
      exact ⟨by simp; exact HH.out, by repeat (first | (with_reducible exact Below.refl _ _) | ((with_reducible refine below_grow ?_ ?_); rotate_left; focus (first | omega | (simp [go_sem]; done) | (simp [go_sem]; omega))) | ((with_reducible refine Below.alloc ?_ ?_ _); rotate_left; focus (first | omega | (simp [go_sem]; done) | (simp [go_sem]; omega))) | ((with_reducible refine Below.setCell ?_ ?_ _); rotate_left; focus (first | omega | (simp [go_sem]; done) | (simp [go_sem]; omega))) | (with_reducible refine Below.drew ?_) | (with_reducible refine below_drewN _ ?_))⟩
theorem whole_calls (m : Nat) (w : World) : Calls Tryd.prog 39 #[.int .u64 m] w fun e w' => e = .returned (.bool (decide (m < 4503599627370496))) ∧ w = w' := by
  go_enter Tryd.func39, Tryd.ntmps39
  go_wp2
  go_ret
  exact ⟨by simp; omega, rfl⟩
theorem bit_calls (c : Nat) (hc : c < 52) (w : World) : Calls Tryd.prog 54 #[.int .u8 c] w fun e w' => e = .returned (.int .u64 (2 ^ c : Nat)) ∧ w = w' := by
  go_enter Tryd.func54, Tryd.ntmps54
  go_wp2
  go_loopw [3, 4] (fun s3 s4 wr => ∃ i : Nat, s3 = .int .u64 (2 ^ i : Nat) ∧ s4 = .int .u8 i ∧ i ≤ c ∧ wr = w) (fun _ s4 _ => c - (intOf s4).toNat)
  case atStart => exact ⟨0, by simp, rfl, by omega, rfl⟩
  case round =>
    obtain ⟨i, rfl, rfl, hi, rfl⟩ := hrel
    have hui : 2 ^ i ≤ 2 ^ 52 := Nat.pow_le_pow_right (by decide) (by omega)
    by_cases hlt : i < c
    · have b1 : (i : Int) < c := by omega
      have e3 : 2 ^ (i + 1) = 2 ^ i + 2 ^ i := by rw [Nat.pow_succ]; omega
      obtain ⟨x, hx⟩ : ∃ x, 2 ^ i = x := ⟨_, rfl⟩
      rw [hx] at e3 hui ⊢
      have HH := Lib.hid e3
      clear hx e3
      go_wp2
      go_roundw
      case rel => exact ⟨i + 1, by rw [HH.out]; rfl, by go_num, by omega, by first | rfl | trivial⟩
      case measure => simp [intOf]; omega
    · obtain rfl : i = c := by omega
      go_wp2
      refine bodyPost_ret (by simp [results, Tryd.results54, go_sem]) rfl ⟨rfl, ?_⟩
      rfl
end Go.Proofs.YtcfkcfbgnciccaaDoor
