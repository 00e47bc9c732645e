/- greatest, Top, Read, Mask. -/
import Derived.Test.YtcfkcfbgnciccaaDoorCD
import Derived.Test.YtcfkcfbgnciccaaDoorShelf
namespace Go.Proofs.YtcfkcfbgnciccaaDoor
open Go.RowKit

theorem greatest_calls (m : Nat) (h0 : m ≠ 0) (h : m < 4503599627370496) (w : World) : Calls Tryd.prog 51 #[.int .u64 m] w fun e w' => e = .returned (.int .u8 (grt m)) ∧ w = w' := by
  have hg := grt_lt (k := 52) h0 h
  have L := Tryd.bits_Len64 (m : Int)
  rw [Int.toNat_natCast, bitLen_grt h0 (by omega)] at L
  have L := Lib.hid L
  have e1 : IntKind.i64.wrap (((grt m + 1 : Nat) : Int) - 1) = (grt m : Int) := by rw [IntWalk.i64_in _ (by omega)]; omega
  have e2 : IntKind.u8.wrap (grt m : Int) = (grt m : Int) := u8_wrap (by omega) (by omega)
  obtain ⟨g, hg2⟩ : ∃ g, grt m = g := ⟨_, rfl⟩
  rw [hg2] at L e1 e2 ⊢
  obtain ⟨g1, hg3⟩ : ∃ g1, g + 1 = g1 := ⟨_, rfl⟩
  rw [hg3] at L e1
  clear hg hg2 hg3
  go_enter Tryd.func51, Tryd.ntmps51
  go_wp2_with (go_at_call 63; refine (L.out _ (by omega) (by omega)).mono ?_; rintro e w1 ⟨rfl, rfl⟩)
  go_ret
  exact ⟨rfl, rfl⟩
theorem top_none (m s : Nat) (hs : s < 256) (h : (m < 4503599627370496 ∧ s < 4) → sui m s = 0) (w : World) : Calls Tryd.prog 27 #[.int .u64 m, .int .u8 s] w fun e w' => e = .returned (.tuple #[.int .u8 0, .bool false]) ∧ w = w' := by
  have S : ∀ w, Calls Tryd.prog 50 #[.int .u64 m, .int .u8 s] w fun e w' => e = .returned (.int .u64 0) ∧ w = w' := by
    by_cases hk : m < 4503599627370496 ∧ s < 4
    · have := suited_yes m s hk.1 hk.2
      rw [h hk] at this
      exact this
    · exact suited_no m s hk hs
  have S := Lib.hid S
  clear h
  go_enter Tryd.func27, Tryd.ntmps27
  go_wp2_with (go_at_call 50; refine (S.out _).mono ?_; rintro e w1 ⟨rfl, rfl⟩)
  refine bodyPost_ret (by simp [results, Tryd.results27, go_sem]) rfl ⟨rfl, rfl⟩
theorem top_some (m s : Nat) (hm : m < 4503599627370496) (hs : s < 4) (h : sui m s ≠ 0) (w : World) : Calls Tryd.prog 27 #[.int .u64 m, .int .u8 s] w fun e w' => e = .returned (.tuple #[.int .u8 (grt (sui m s)), .bool true]) ∧ w = w' := by
  have S := Lib.hid (suited_yes m s hm hs)
  have T := Lib.hid (greatest_calls (sui m s) h (sui_lt hm s))
  obtain ⟨x, hx⟩ : ∃ x, sui m s = x := ⟨_, rfl⟩
  rw [hx] at S T h ⊢
  have h' : ¬ (x : Int) = 0 := by omega
  clear hx
  go_enter Tryd.func27, Tryd.ntmps27
  go_wp2_with (first | (go_at_call 50; refine (S.out _).mono ?_; rintro e w1 ⟨rfl, rfl⟩) | (go_at_call 51; refine (T.out _).mono ?_; rintro e w1 ⟨rfl, rfl⟩))
  refine bodyPost_ret (by simp [results, Tryd.results27, go_sem]) rfl ⟨rfl, rfl⟩
end Go.Proofs.YtcfkcfbgnciccaaDoor
