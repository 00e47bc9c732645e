/- remainder, step, Of, Right, Next. -/
import Derived.Test.YtcgecgagecobeaaSA
import Derived.Test.YtcgecgagecobeaaProg
import Derived.Deep.RegionHeld3
import Derived.StillTailTactics
import Derived.Deep.RegionWith
namespace Go.Proofs.Ytcgecgagecobeaa
open Go.RowKit

theorem tmod_V (n : Int) : -2147483646 < n.tmod 2147483646 ∧ n.tmod 2147483646 < 2147483646 ∧ n.tmod 2147483646 % 2147483646 = n % 2147483646 := by
  by_cases h : 0 ≤ n
  · rw [Int.tmod_eq_emod_of_nonneg h]
    omega
  · obtain ⟨m, rfl⟩ : ∃ m : Int, n = -m := ⟨-n, by omega⟩
    rw [Int.neg_tmod, Int.tmod_eq_emod_of_nonneg (by omega)]
    omega
theorem rem_V (n : Int) : IntKind.i64.wrap (n.tmod 2147483646 + 2147483646) = n.tmod 2147483646 + 2147483646 ∧ (n.tmod 2147483646 + 2147483646).tmod 2147483646 = (stp n : Int) := by
  obtain ⟨h1, h2, h3⟩ := tmod_V n
  refine ⟨IntWalk.i64_in _ (by omega), ?_⟩
  rw [Int.tmod_eq_emod_of_nonneg (by omega)]
  unfold stp
  omega
theorem remainder_calls (n : Int) (w : World) : Calls Try.prog 37 #[.int .i64 n] w fun e w' => e = .returned (.int .i64 (stp n)) ∧ w = w' := by
  obtain ⟨e0, e1⟩ := rem_V n
  go_enter Try.func37, Try.ntmps37
  go_wp2
  go_ret
  exact ⟨rfl, rfl⟩
theorem step_num (s : Nat) (h : St s) : IntKind.i64.wrap ((s : Int) * 48271) = (s : Int) * 48271 ∧ ((s : Int) * 48271).tmod 2147483647 = (nxt s : Int) ∧ IntKind.i64.wrap ((nxt s : Int) - 1) = ((nxt s - 1 : Nat) : Int) := by
  have h2 := nxt_St h
  unfold St at h h2
  refine ⟨IntWalk.i64_in _ (by omega), ?_, ?_⟩
  · rw [Int.tmod_eq_emod_of_nonneg (by omega)]
    unfold nxt
    omega
  · rw [IntWalk.i64_in _ (by omega)]
    omega
theorem step_calls (s : Nat) (h : St s) (w : World) : Calls Try.prog 39 #[.int .i64 s] w fun e w' => e = .returned (.tuple #[.int .i64 (nxt s), .int .i64 ((nxt s - 1 : Nat) : Int)]) ∧ Below w.heap.size w w' := by
  obtain ⟨e0, e1, e2⟩ := step_num s h
  go_enter Try.func39, Try.ntmps39
  go_wp2
  refine bodyPost_ret (by simp [results, Try.results39, go_sem]) rfl ⟨rfl, ?_⟩
  repeat (first | (with_reducible exact Below.refl _ _) | ((with_reducible refine below_grow ?_ ?_); rotate_left; focus (first | omega | (simp [go_sem]; done) | (simp [go_sem]; omega))) | ((with_reducible refine Below.alloc ?_ ?_ _); rotate_left; focus (first | omega | (simp [go_sem]; done) | (simp [go_sem]; omega))) | ((with_reducible refine Below.setCell ?_ ?_ _); rotate_left; focus (first | omega | (simp [go_sem]; done) | (simp [go_sem]; omega))) | (with_reducible refine Below.drew ?_) | (with_reducible refine below_drewN _ ?_))
theorem of_calls3 (n : Int) (w : World) : Calls Try.prog 13 #[.int .i64 n] w fun e w' => e = .returned (.int .i64 ((stp n + 1 : Nat) : Int)) ∧ Below w.heap.size w w' := by
  have hl := stp_lt n
  have e0 : IntKind.i64.wrap (1 + (stp n : Int)) = ((stp n + 1 : Nat) : Int) := by rw [IntWalk.i64_in _ (by omega)]; omega
  go_enter Try.func13, Try.ntmps13
  go_wp2_with (go_at_call 37; refine (remainder_calls _ _).mono ?_; rintro e w1 ⟨rfl, rfl⟩)
  refine bodyPost_ret (by simp [results, Try.results13, go_sem]) rfl ⟨rfl, ?_⟩
  repeat (first | (with_reducible exact Below.refl _ _) | ((with_reducible refine below_grow ?_ ?_); rotate_left; focus (first | omega | (simp [go_sem]; done) | (simp [go_sem]; omega))) | ((with_reducible refine Below.alloc ?_ ?_ _); rotate_left; focus (first | omega | (simp [go_sem]; done) | (simp [go_sem]; omega))) | ((with_reducible refine Below.setCell ?_ ?_ _); rotate_left; focus (first | omega | (simp [go_sem]; done) | (simp [go_sem]; omega))) | (with_reducible refine Below.drew ?_) | (with_reducible refine below_drewN _ ?_))
theorem right_calls (s : Int) (w : World) : Calls Try.prog 16 #[.int .i64 s] w fun e w' => e = .returned (.bool (decide (1 ≤ s ∧ s ≤ 2147483646))) ∧ w = w' := by
  by_cases h1 : 1 ≤ s <;> by_cases h2 : s ≤ 2147483646
  all_goals
    rw [show decide (1 ≤ s ∧ s ≤ 2147483646) = _ from by first | exact decide_eq_true ⟨h1, h2⟩ | exact decide_eq_false (by omega)]
    go_enter Try.func16, Try.ntmps16
    go_wp2
    go_ret
    exact ⟨rfl, rfl⟩
theorem right_yes (s : Nat) (h : St s) (w : World) : Calls Try.prog 16 #[.int .i64 s] w fun e w' => e = .returned (.bool true) ∧ w = w' := by
  have := right_calls s w
  unfold St at h
  rwa [decide_eq_true (by omega)] at this
theorem right_no (s : Int) (h : ¬ (1 ≤ s ∧ s ≤ 2147483646)) (w : World) : Calls Try.prog 16 #[.int .i64 s] w fun e w' => e = .returned (.bool false) ∧ w = w' := by
  have := right_calls s w
  rwa [decide_eq_false h] at this
theorem next_yes (s : Nat) (h : St s) (w : World) : Calls Try.prog 15 #[.int .i64 s] w fun e w' => e = .returned (.tuple #[.int .i64 (nxt s), .int .i64 ((nxt s - 1 : Nat) : Int), .int .i64 0]) ∧ Below w.heap.size w w' := by
  go_enter Try.func15, Try.ntmps15
  go_wp2_with (first | (go_at_call 16; refine (right_yes _ h _).mono ?_; rintro e w1 ⟨rfl, rfl⟩) | (go_at_call 39; refine (step_calls _ h _).mono ?_; rintro e w2 ⟨rfl, hbel⟩; obtain ⟨o2, j2, rfl⟩ := grow_of_below hbel; clear hbel))
  refine bodyPost_ret (by simp [results, Try.results15, go_sem]) rfl ⟨rfl, ?_⟩
  repeat (first | (with_reducible exact Below.refl _ _) | ((with_reducible refine below_grow ?_ ?_); rotate_left; focus (first | omega | (simp [go_sem]; done) | (simp [go_sem]; omega))) | ((with_reducible refine Below.alloc ?_ ?_ _); rotate_left; focus (first | omega | (simp [go_sem]; done) | (simp [go_sem]; omega))) | ((with_reducible refine Below.setCell ?_ ?_ _); rotate_left; focus (first | omega | (simp [go_sem]; done) | (simp [go_sem]; omega))) | (with_reducible refine Below.drew ?_) | (with_reducible refine below_drewN _ ?_))
theorem next_no (s : Int) (h : ¬ (1 ≤ s ∧ s ≤ 2147483646)) (w : World) : Calls Try.prog 15 #[.int .i64 s] w fun e w' => e = .returned (.tuple #[.int .i64 0, .int .i64 0, .int .i64 2]) ∧ Below w.heap.size w w' := by
  go_enter Try.func15, Try.ntmps15
  go_wp2_with (first | (go_at_call 16; refine (right_no _ h _).mono ?_; rintro e w1 ⟨rfl, rfl⟩))
  refine bodyPost_ret (by simp [results, Try.results15, go_sem]) rfl ⟨rfl, ?_⟩
  repeat (first | (with_reducible exact Below.refl _ _) | ((with_reducible refine below_grow ?_ ?_); rotate_left; focus (first | omega | (simp [go_sem]; done) | (simp [go_sem]; omega))) | ((with_reducible refine Below.alloc ?_ ?_ _); rotate_left; focus (first | omega | (simp [go_sem]; done) | (simp [go_sem]; omega))) | ((with_reducible refine Below.setCell ?_ ?_ _); rotate_left; focus (first | omega | (simp [go_sem]; done) | (simp [go_sem]; omega))) | (with_reducible refine Below.drew ?_) | (with_reducible refine below_drewN _ ?_))
end Go.Proofs.Ytcgecgagecobeaa
