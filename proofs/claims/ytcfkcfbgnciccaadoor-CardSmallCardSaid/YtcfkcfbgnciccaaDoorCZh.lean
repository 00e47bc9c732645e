/- Top and Low in one form. -/
import Derived.Test.YtcfkcfbgnciccaaDoorCZg
namespace Go.Proofs.YtcfkcfbgnciccaaDoor
open Go.RowKit

def has (m s : Nat) : Bool := decide (m < 4503599627370496 ∧ s < 4 ∧ sui m s ≠ 0)
def topN (m s : Nat) : Nat := if has m s = true then grt (sui m s) else 0
def lowN (m s : Nat) : Nat := if has m s = true then lst (sui m s) else 0
theorem ref_top_none (m s : Nat) (h : ¬ (m < 4503599627370496 ∧ s < 4)) (w : World) : Calls Tryd.prog 37 #[.int .u64 m, .int .u8 s] w fun e w' => e = .returned (.tuple #[.int .u8 0, .bool false]) ∧ Below w.heap.size w w' := by
  have WH := Lib.hid (whole_calls m)
  by_cases hs : s < 4
  · have b0 : ¬ (3 : Int) < (s : Int) := by omega
    rw [decide_eq_false (show ¬ m < 4503599627370496 by omega)] at WH
    clear h hs
    go_enter Tryd.func37, Tryd.ntmps37
    go_wp2_with (first | (go_at_call 39; refine (WH.out _).mono ?_; rintro e w1 ⟨rfl, rfl⟩))
    refine bodyPost_ret (by simp [results, Tryd.results37, go_sem]) rfl ⟨rfl, ?_⟩
    repeat (first | (with_reducible exact Below.refl _ _) | ((with_reducible refine below_grow ?_ ?_); rotate_left; focus (first | omega | (simp [go_sem]; done) | (simp [go_sem]; omega))) | ((with_reducible refine Below.alloc ?_ ?_ _); rotate_left; focus (first | omega | (simp [go_sem]; done) | (simp [go_sem]; omega))) | ((with_reducible refine Below.setCell ?_ ?_ _); rotate_left; focus (first | omega | (simp [go_sem]; done) | (simp [go_sem]; omega))) | (with_reducible refine Below.drew ?_) | (with_reducible refine below_drewN _ ?_))
  · have b0 : (3 : Int) < (s : Int) := by omega
    clear h hs
    go_enter Tryd.func37, Tryd.ntmps37
    go_wp2
    refine bodyPost_ret (by simp [results, Tryd.results37, go_sem]) rfl ⟨rfl, ?_⟩
    repeat (first | (with_reducible exact Below.refl _ _) | ((with_reducible refine below_grow ?_ ?_); rotate_left; focus (first | omega | (simp [go_sem]; done) | (simp [go_sem]; omega))) | ((with_reducible refine Below.alloc ?_ ?_ _); rotate_left; focus (first | omega | (simp [go_sem]; done) | (simp [go_sem]; omega))) | ((with_reducible refine Below.setCell ?_ ?_ _); rotate_left; focus (first | omega | (simp [go_sem]; done) | (simp [go_sem]; omega))) | (with_reducible refine Below.drew ?_) | (with_reducible refine below_drewN _ ?_))
theorem ref_top_all (m s : Nat) (w : World) : Calls Tryd.prog 37 #[.int .u64 m, .int .u8 s] w fun e w' => e = .returned (.tuple #[.int .u8 (topN m s), .bool (has m s)]) ∧ Below w.heap.size w w' := by
  unfold topN
  by_cases h : m < 4503599627370496 ∧ s < 4
  · by_cases h0 : sui m s = 0
    · rw [show has m s = false from decide_eq_false (fun h => h.2.2 h0), if_neg (by simp)]
      exact ref_top_zero m s h.1 h.2 h0 w
    · rw [show has m s = true from decide_eq_true ⟨h.1, h.2, h0⟩, if_pos rfl]
      exact ref_top_some m s h.1 h.2 h0 w
  · rw [show has m s = false from decide_eq_false (fun k => h ⟨k.1, k.2.1⟩), if_neg (by simp)]
    exact ref_top_none m s h w
theorem top_all (m s : Nat) (hs : s < 256) (w : World) : Calls Tryd.prog 27 #[.int .u64 m, .int .u8 s] w fun e w' => e = .returned (.tuple #[.int .u8 (topN m s), .bool (has m s)]) ∧ w = w' := by
  unfold topN
  by_cases h : m < 4503599627370496 ∧ s < 4 ∧ sui m s ≠ 0
  · rw [show has m s = true from decide_eq_true h, if_pos rfl]
    exact top_some m s h.1 h.2.1 h.2.2 w
  · rw [show has m s = false from decide_eq_false h, if_neg (by simp)]
    exact top_none m s hs (fun k => Classical.not_not.1 fun e => h ⟨k.1, k.2, e⟩) w
theorem ref_low_none (m s : Nat) (h : ¬ (m < 4503599627370496 ∧ s < 4)) (w : World) : Calls Tryd.prog 38 #[.int .u64 m, .int .u8 s] w fun e w' => e = .returned (.tuple #[.int .u8 0, .bool false]) ∧ Below w.heap.size w w' := by
  have WH := Lib.hid (whole_calls m)
  by_cases hs : s < 4
  · have b0 : ¬ (3 : Int) < (s : Int) := by omega
    rw [decide_eq_false (show ¬ m < 4503599627370496 by omega)] at WH
    clear h hs
    go_enter Tryd.func38, Tryd.ntmps38
    go_wp2_with (first | (go_at_call 39; refine (WH.out _).mono ?_; rintro e w1 ⟨rfl, rfl⟩))
    refine bodyPost_ret (by simp [results, Tryd.results38, go_sem]) rfl ⟨rfl, ?_⟩
    repeat (first | (with_reducible exact Below.refl _ _) | ((with_reducible refine below_grow ?_ ?_); rotate_left; focus (first | omega | (simp [go_sem]; done) | (simp [go_sem]; omega))) | ((with_reducible refine Below.alloc ?_ ?_ _); rotate_left; focus (first | omega | (simp [go_sem]; done) | (simp [go_sem]; omega))) | ((with_reducible refine Below.setCell ?_ ?_ _); rotate_left; focus (first | omega | (simp [go_sem]; done) | (simp [go_sem]; omega))) | (with_reducible refine Below.drew ?_) | (with_reducible refine below_drewN _ ?_))
  · have b0 : (3 : Int) < (s : Int) := by omega
    clear h hs
    go_enter Tryd.func38, Tryd.ntmps38
    go_wp2
    refine bodyPost_ret (by simp [results, Tryd.results38, go_sem]) rfl ⟨rfl, ?_⟩
    repeat (first | (with_reducible exact Below.refl _ _) | ((with_reducible refine below_grow ?_ ?_); rotate_left; focus (first | omega | (simp [go_sem]; done) | (simp [go_sem]; omega))) | ((with_reducible refine Below.alloc ?_ ?_ _); rotate_left; focus (first | omega | (simp [go_sem]; done) | (simp [go_sem]; omega))) | ((with_reducible refine Below.setCell ?_ ?_ _); rotate_left; focus (first | omega | (simp [go_sem]; done) | (simp [go_sem]; omega))) | (with_reducible refine Below.drew ?_) | (with_reducible refine below_drewN _ ?_))
theorem ref_low_all (m s : Nat) (w : World) : Calls Tryd.prog 38 #[.int .u64 m, .int .u8 s] w fun e w' => e = .returned (.tuple #[.int .u8 (lowN m s), .bool (has m s)]) ∧ Below w.heap.size w w' := by
  unfold lowN
  by_cases h : m < 4503599627370496 ∧ s < 4
  · by_cases h0 : sui m s = 0
    · rw [show has m s = false from decide_eq_false (fun h => h.2.2 h0), if_neg (by simp)]
      exact ref_low_zero m s h.1 h.2 h0 w
    · rw [show has m s = true from decide_eq_true ⟨h.1, h.2, h0⟩, if_pos rfl]
      exact ref_low_some m s h.1 h.2 h0 w
  · rw [show has m s = false from decide_eq_false (fun k => h ⟨k.1, k.2.1⟩), if_neg (by simp)]
    exact ref_low_none m s h w
theorem low_all (m s : Nat) (hs : s < 256) (w : World) (he : Env w) : Calls Tryd.prog 28 #[.int .u64 m, .int .u8 s] w fun e w' => e = .returned (.tuple #[.int .u8 (lowN m s), .bool (has m s)]) ∧ w = w' := by
  unfold lowN
  by_cases h : m < 4503599627370496 ∧ s < 4 ∧ sui m s ≠ 0
  · rw [show has m s = true from decide_eq_true h, if_pos rfl]
    exact low_some m s h.1 h.2.1 h.2.2 w he
  · rw [show has m s = false from decide_eq_false h, if_neg (by simp)]
    exact low_none m s hs (fun k => Classical.not_not.1 fun e => h ⟨k.1, k.2, e⟩) w
end Go.Proofs.YtcfkcfbgnciccaaDoor
