/- The examples of the chapter: awake. -/
import Derived.Test.YtcfkcfbgnciccaaDoorCM
namespace Go.Proofs.YtcfkcfbgnciccaaDoor
open Go.RowKit

theorem below_refl_of {w w' : World} (h : w = w') : Below w.heap.size w w' := h ▸ Below.refl _ _
def m0 : Nat := 2^51 + 2^50 + 2^47 + 2^46 + 2^41 + 2^36 + 2^32 + 2^27 + 2^8 + 2^7 + 2^3 + 2^1 + 2^0
theorem m0_lt : m0 < 4503599627370496 := by decide +kernel
theorem ofK (w : World) : Calls Tryd.prog 21 #[.int .u8 3, .int .u8 12] w fun e w' => e = .returned (.tuple #[.int .u8 51, .int .i64 0]) ∧ w = w' := of_yes 3 12 (by decide) (by decide) w
theorem textK (w : World) : Calls Tryd.prog 24 #[.int .u8 51] w fun e w' => e = .returned (.tuple #[.string ⟨#[83, 65]⟩, .int .i64 0]) ∧ Below w.heap.size w w' := text_yes 51 (by decide) w
theorem readK1 (w : World) : Calls Tryd.prog 25 #[.string ⟨#[68, 84]⟩] w fun e w' => e = .returned (.tuple #[.int .u8 21, .int .i64 0]) ∧ Below w.heap.size w w' := by
  have h := read_two 68 84 w
  rw [show rdc 68 84 = 21 from by decide +kernel, show rde 68 84 = 0 from by decide +kernel] at h
  exact h
theorem readK2 (w : World) : Calls Tryd.prog 25 #[.string ⟨#[100, 84]⟩] w fun e w' => e = .returned (.tuple #[.int .u8 0, .int .i64 40]) ∧ Below w.heap.size w w' := by
  have h := read_two 100 84 w
  rw [show rdc 100 84 = 0 from by decide +kernel, show rde 100 84 = 40 from by decide +kernel] at h
  exact h
theorem readK3 (w : World) : Calls Tryd.prog 25 #[.string ⟨#[84, 68]⟩] w fun e w' => e = .returned (.tuple #[.int .u8 0, .int .i64 40]) ∧ Below w.heap.size w w' := by
  have h := read_two 84 68 w
  rw [show rdc 84 68 = 0 from by decide +kernel, show rde 84 68 = 40 from by decide +kernel] at h
  exact h
theorem readK4 (w : World) : Calls Tryd.prog 25 #[.string ⟨#[68, 49, 48]⟩] w fun e w' => e = .returned (.tuple #[.int .u8 0, .int .i64 40]) ∧ Below w.heap.size w w' :=
  (read_len _ (by decide) w).mono fun e w' h => ⟨h.1, below_refl_of h.2⟩
theorem parseK1 (w : World) (he : Env w) : Calls Tryd.prog 17 #[.string ⟨#[65, 75, 84, 57, 52, 46, 81, 56, 51, 46, 46, 84, 57, 53, 51, 50]⟩] w fun e w' => e = .returned (.tuple #[.int .u64 m0, .int .i64 0]) ∧ Below w.heap.size w w' := by
  have h := parse_calls ⟨#[65, 75, 84, 57, 52, 46, 81, 56, 51, 46, 46, 84, 57, 53, 51, 50]⟩ (by decide) w he
  rw [show prs (ByteArray.mk #[65, 75, 84, 57, 52, 46, 81, 56, 51, 46, 46, 84, 57, 53, 51, 50]).data.toList = some m0 from by decide +kernel] at h
  exact h
theorem parseK2 (w : World) (he : Env w) : Calls Tryd.prog 17 #[.string ⟨#[75, 65, 46, 46, 46]⟩] w fun e w' => e = .returned (.tuple #[.int .u64 0, .int .i64 40]) ∧ Below w.heap.size w w' := by
  have h := parse_calls ⟨#[75, 65, 46, 46, 46]⟩ (by decide) w he
  rw [show prs (ByteArray.mk #[75, 65, 46, 46, 46]).data.toList = none from by decide +kernel] at h
  exact h
theorem writeK1 (w : World) : Calls Tryd.prog 16 #[.int .u64 m0] w fun e w' => e = .returned (.tuple #[.string ⟨#[65, 75, 84, 57, 52, 46, 81, 56, 51, 46, 46, 84, 57, 53, 51, 50]⟩, .int .i64 0]) ∧ Below w.heap.size w w' := by
  have h := write_yes m0 m0_lt w
  rw [show wrt m0 = [65, 75, 84, 57, 52, 46, 81, 56, 51, 46, 46, 84, 57, 53, 51, 50] from by decide +kernel] at h
  exact h
theorem writeK2 (w : World) : Calls Tryd.prog 16 #[.int .u64 0] w fun e w' => e = .returned (.tuple #[.string ⟨#[46, 46, 46]⟩, .int .i64 0]) ∧ Below w.heap.size w w' := by
  have h := write_yes 0 (by decide) w
  rw [show wrt 0 = [46, 46, 46] from by decide +kernel] at h
  exact h
theorem topK1 (w : World) : Calls Tryd.prog 27 #[.int .u64 m0, .int .u8 2] w fun e w' => e = .returned (.tuple #[.int .u8 36, .bool true]) ∧ w = w' := by
  have h := top_some m0 2 m0_lt (by decide) (by decide +kernel) w
  rw [show grt (sui m0 2) = 36 from by decide +kernel] at h
  exact h
theorem lowK1 (w : World) (he : Env w) : Calls Tryd.prog 28 #[.int .u64 m0, .int .u8 0] w fun e w' => e = .returned (.tuple #[.int .u8 0, .bool true]) ∧ w = w' := by
  have h := low_some m0 0 m0_lt (by decide) (by decide +kernel) w he
  rw [show lst (sui m0 0) = 0 from by decide +kernel] at h
  exact h
theorem topK2 (w : World) : Calls Tryd.prog 27 #[.int .u64 m0, .int .u8 1] w fun e w' => e = .returned (.tuple #[.int .u8 0, .bool false]) ∧ w = w' :=
  top_none m0 1 (by decide) (fun _ => by decide +kernel) w
set_option maxRecDepth 100000 in
set_option maxHeartbeats 8000000 in
theorem awake_calls (w : World) (he : Env w) :
    Calls Tryd.prog 12 #[] w fun x w' => x = .returned (.bool true) ∧ Below w.heap.size w w' := by
  have hM : ∀ m : Nat, m0 = m → m0 = m := fun _ h => h
  obtain ⟨M, hMM⟩ : ∃ M, m0 = M := ⟨_, rfl⟩
  have P1 := Lib.hid parseK1
  have W1 := Lib.hid writeK1
  have T1 := Lib.hid topK1
  have L1 := Lib.hid lowK1
  have T2 := Lib.hid topK2
  rw [hMM] at P1 W1 T1 L1 T2
  clear hM hMM
  go_enter Tryd.func12, Tryd.ntmps12
  go_upto_region 3 with (first | (go_at_call 21; refine (ofK _).mono ?_; rintro e w1 ⟨rfl, rfl⟩) | (go_at_call 24; refine (textK _).mono ?_; rintro e w1 ⟨rfl, hbel⟩; obtain ⟨o1, j1, rfl⟩ := grow_of_below hbel; clear hbel))
  go_upto_region 6 with (first | (go_at_call 25; refine (readK1 _).mono ?_; rintro e w1 ⟨rfl, hbel⟩; obtain ⟨o2, j2, rfl⟩ := grow_of_below hbel; clear hbel))
  go_wp2
  refine wp_loop_rounds 4 ?_
  rw [rounds_succ]
  go_wp2_with (first | (go_at_call_of 25 (Value.string ⟨#[100, 84]⟩); refine (readK2 _).mono ?_; rintro e w1 ⟨rfl, hbel⟩; obtain ⟨o3, j3, rfl⟩ := grow_of_below hbel; clear hbel) | (go_at_call_of 25 (Value.string ⟨#[68, 49, 48]⟩); refine (readK4 _).mono ?_; rintro e w1 ⟨rfl, hbel⟩; obtain ⟨o4, j4, rfl⟩ := grow_of_below hbel; clear hbel) | (go_at_call_of 25 (Value.string ⟨#[84, 68]⟩); refine (readK3 _).mono ?_; rintro e w1 ⟨rfl, hbel⟩; obtain ⟨o5, j5, rfl⟩ := grow_of_below hbel; clear hbel))
  rw [rounds_succ]
  go_wp2_with (first | (go_at_call_of 25 (Value.string ⟨#[100, 84]⟩); refine (readK2 _).mono ?_; rintro e w1 ⟨rfl, hbel⟩; obtain ⟨o3, j3, rfl⟩ := grow_of_below hbel; clear hbel) | (go_at_call_of 25 (Value.string ⟨#[68, 49, 48]⟩); refine (readK4 _).mono ?_; rintro e w1 ⟨rfl, hbel⟩; obtain ⟨o4, j4, rfl⟩ := grow_of_below hbel; clear hbel) | (go_at_call_of 25 (Value.string ⟨#[84, 68]⟩); refine (readK3 _).mono ?_; rintro e w1 ⟨rfl, hbel⟩; obtain ⟨o5, j5, rfl⟩ := grow_of_below hbel; clear hbel))
  rw [rounds_succ]
  go_wp2_with (first | (go_at_call_of 25 (Value.string ⟨#[100, 84]⟩); refine (readK2 _).mono ?_; rintro e w1 ⟨rfl, hbel⟩; obtain ⟨o3, j3, rfl⟩ := grow_of_below hbel; clear hbel) | (go_at_call_of 25 (Value.string ⟨#[68, 49, 48]⟩); refine (readK4 _).mono ?_; rintro e w1 ⟨rfl, hbel⟩; obtain ⟨o4, j4, rfl⟩ := grow_of_below hbel; clear hbel) | (go_at_call_of 25 (Value.string ⟨#[84, 68]⟩); refine (readK3 _).mono ?_; rintro e w1 ⟨rfl, hbel⟩; obtain ⟨o5, j5, rfl⟩ := grow_of_below hbel; clear hbel))
  rw [rounds_succ]
  go_upto_region 13 with fail
  go_upto_region 14 with (first | (go_at_call 17; refine (P1.out _ (he.below (by repeat (first | (with_reducible exact Below.refl _ _) | ((with_reducible refine below_grow ?_ ?_); rotate_left; focus (first | omega | (simp [go_sem]; done) | (simp [go_sem]; omega))) | ((with_reducible refine Below.alloc ?_ ?_ _); rotate_left; focus (first | omega | (simp [go_sem]; done) | (simp [go_sem]; omega))) | ((with_reducible refine Below.setCell ?_ ?_ _); rotate_left; focus (first | omega | (simp [go_sem]; done) | (simp [go_sem]; omega))) | (with_reducible refine Below.drew ?_) | (with_reducible refine below_drewN _ ?_))))).mono ?_; rintro e w1 ⟨rfl, hbel⟩; obtain ⟨o6, j6, rfl⟩ := grow_of_below hbel; clear hbel))
  go_upto_region 15 with (first | (go_at_call 16; refine (W1.out _).mono ?_; rintro e w1 ⟨rfl, hbel⟩; obtain ⟨o7, j7, rfl⟩ := grow_of_below hbel; clear hbel))
  go_upto_region 16 with (first | (go_at_call 16; refine (writeK2 _).mono ?_; rintro e w1 ⟨rfl, hbel⟩; obtain ⟨o8, j8, rfl⟩ := grow_of_below hbel; clear hbel))
  go_upto_region 17 with (first | (go_at_call 17; refine (parseK2 _ (he.below (by repeat (first | (with_reducible exact Below.refl _ _) | ((with_reducible refine below_grow ?_ ?_); rotate_left; focus (first | omega | (simp [go_sem]; done) | (simp [go_sem]; omega))) | ((with_reducible refine Below.alloc ?_ ?_ _); rotate_left; focus (first | omega | (simp [go_sem]; done) | (simp [go_sem]; omega))) | ((with_reducible refine Below.setCell ?_ ?_ _); rotate_left; focus (first | omega | (simp [go_sem]; done) | (simp [go_sem]; omega))) | (with_reducible refine Below.drew ?_) | (with_reducible refine below_drewN _ ?_))))).mono ?_; rintro e w1 ⟨rfl, hbel⟩; obtain ⟨o9, j9, rfl⟩ := grow_of_below hbel; clear hbel))
  go_upto_region 18 with (first | (go_at_call 27; refine (T1.out _).mono ?_; rintro e w1 ⟨rfl, rfl⟩))
  go_upto_region 19 with (first | (go_at_call 28; refine (L1.out _ (he.below (by repeat (first | (with_reducible exact Below.refl _ _) | ((with_reducible refine below_grow ?_ ?_); rotate_left; focus (first | omega | (simp [go_sem]; done) | (simp [go_sem]; omega))) | ((with_reducible refine Below.alloc ?_ ?_ _); rotate_left; focus (first | omega | (simp [go_sem]; done) | (simp [go_sem]; omega))) | ((with_reducible refine Below.setCell ?_ ?_ _); rotate_left; focus (first | omega | (simp [go_sem]; done) | (simp [go_sem]; omega))) | (with_reducible refine Below.drew ?_) | (with_reducible refine below_drewN _ ?_))))).mono ?_; rintro e w1 ⟨rfl, rfl⟩))
  go_upto_region 20 with (first | (go_at_call 27; refine (T2.out _).mono ?_; rintro e w1 ⟨rfl, rfl⟩))
  go_wp2
  go_ret
  exact ⟨rfl, by repeat (first | (with_reducible exact Below.refl _ _) | ((with_reducible refine below_grow ?_ ?_); rotate_left; focus (first | omega | (simp [go_sem]; done) | (simp [go_sem]; omega))) | ((with_reducible refine Below.alloc ?_ ?_ _); rotate_left; focus (first | omega | (simp [go_sem]; done) | (simp [go_sem]; omega))) | ((with_reducible refine Below.setCell ?_ ?_ _); rotate_left; focus (first | omega | (simp [go_sem]; done) | (simp [go_sem]; omega))) | (with_reducible refine Below.drew ?_) | (with_reducible refine below_drewN _ ?_))⟩
end Go.Proofs.YtcfkcfbgnciccaaDoor
