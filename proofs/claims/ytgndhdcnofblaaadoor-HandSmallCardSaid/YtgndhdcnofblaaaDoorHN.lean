/- Balanced. -/
import Derived.Test.YtgndhdcnofblaaaDoorHM
namespace Go.Proofs.YtgndhdcnofblaaaDoor
open Go.RowKit

def b1 : List UInt8 := [52, 45, 51, 45, 51, 45, 51]
def b2 : List UInt8 := [52, 45, 52, 45, 51, 45, 50]
def b3 : List UInt8 := [53, 45, 51, 45, 51, 45, 50]
def bal (m : Nat) : Bool := decide (m < 4503599627370496 ∧ cnt m = 13) && (pat m == b1 || pat m == b2 || pat m == b3)
theorem balanced_calls (m : Nat) (hm : m < 18446744073709551616) (w : World) : Calls Tryd.prog 24 #[.int .u64 m] w fun e w' => e = .returned (.bool (bal m)) ∧ Below w.heap.size w w' := by
  have R := hand_right_calls m
  have P := Lib.hid (pattern_calls m hm)
  unfold bal
  by_cases hr : m < 4503599627370496 ∧ cnt m = 13
  · rw [decide_eq_true hr, Bool.true_and]
    rw [decide_eq_true hr] at R
    have R := Lib.hid R
    obtain ⟨p, hp⟩ : ∃ p, pat m = p := ⟨_, rfl⟩
    rw [hp] at P ⊢
    clear hr hp hm
    go_enter Tryd.func24, Tryd.ntmps24
    go_upto_region 4 with (first | (go_at_call 25; refine (R.out _).mono ?_; rintro e w1 ⟨rfl, rfl⟩) | (go_at_call 23; refine (P.out _).mono ?_; rintro e w1 ⟨rfl, hbel⟩; obtain ⟨o1, j1, rfl⟩ := grow_of_below hbel; clear hbel))
    go_wp2
    all_goals
      go_ret
      refine ⟨?_, ?_⟩
      · unfold b1 b2 b3
        simp_all
      · repeat (first | (with_reducible exact Below.refl _ _) | ((with_reducible refine below_grow ?_ ?_); rotate_left; focus (first | omega | (simp [go_sem]; done) | (simp [go_sem]; omega))) | ((with_reducible refine Below.alloc ?_ ?_ _); rotate_left; focus (first | omega | (simp [go_sem]; done) | (simp [go_sem]; omega))) | ((with_reducible refine Below.setCell ?_ ?_ _); rotate_left; focus (first | omega | (simp [go_sem]; done) | (simp [go_sem]; omega))) | (with_reducible refine Below.drew ?_) | (with_reducible refine below_drewN _ ?_))
  · rw [decide_eq_false hr, Bool.false_and]
    rw [decide_eq_false hr] at R
    have R := Lib.hid R
    go_enter Tryd.func24, Tryd.ntmps24
    go_wp2_with (go_at_call 25; refine (R.out _).mono ?_; rintro e w1 ⟨rfl, rfl⟩)
    go_ret
    exact ⟨rfl, by repeat (first | (with_reducible exact Below.refl _ _) | ((with_reducible refine below_grow ?_ ?_); rotate_left; focus (first | omega | (simp [go_sem]; done) | (simp [go_sem]; omega))) | ((with_reducible refine Below.alloc ?_ ?_ _); rotate_left; focus (first | omega | (simp [go_sem]; done) | (simp [go_sem]; omega))) | ((with_reducible refine Below.setCell ?_ ?_ _); rotate_left; focus (first | omega | (simp [go_sem]; done) | (simp [go_sem]; omega))) | (with_reducible refine Below.drew ?_) | (with_reducible refine below_drewN _ ?_))⟩
end Go.Proofs.YtgndhdcnofblaaaDoor
