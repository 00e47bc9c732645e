/- Shape. -/
import Derived.Test.YtgndhdcnofblaaaDoorHH
namespace Go.Proofs.YtgndhdcnofblaaaDoor
open Go.RowKit

def shp (m : Nat) : Value := .agg #[.int .i64 (len (hol m 0)), .int .i64 (len (hol m 1)), .int .i64 (len (hol m 2)), .int .i64 (len (hol m 3))]
set_option maxRecDepth 100000 in
set_option maxHeartbeats 2000000 in
theorem shape_calls (m : Nat) (hm : m < 18446744073709551616) (w : World) : Calls Tryd.prog 26 #[.int .u64 m] w fun e w' => e = .returned (shp m) ∧ Below w.heap.size w w' := by
  have h0 := holding_yes m 0 hm (by decide)
  have h1 := holding_yes m 1 hm (by decide)
  have h2 := holding_yes m 2 hm (by decide)
  have h3 := holding_yes m 3 hm (by decide)
  have c0 := length_calls (hol m 0) (hol_lt _ _)
  have c1 := length_calls (hol m 1) (hol_lt _ _)
  have c2 := length_calls (hol m 2) (hol_lt _ _)
  have c3 := length_calls (hol m 3) (hol_lt _ _)
  unfold shp
  obtain ⟨g0, hg0⟩ : ∃ x, len (hol m 0) = x := ⟨_, rfl⟩
  obtain ⟨g1, hg1⟩ : ∃ x, len (hol m 1) = x := ⟨_, rfl⟩
  obtain ⟨g2, hg2⟩ : ∃ x, len (hol m 2) = x := ⟨_, rfl⟩
  obtain ⟨g3, hg3⟩ : ∃ x, len (hol m 3) = x := ⟨_, rfl⟩
  rw [hg0, hg1, hg2, hg3]
  rw [hg0] at c0
  rw [hg1] at c1
  rw [hg2] at c2
  rw [hg3] at c3
  clear hg0 hg1 hg2 hg3
  obtain ⟨q0, hq0⟩ : ∃ x, hol m 0 = x := ⟨_, rfl⟩
  obtain ⟨q1, hq1⟩ : ∃ x, hol m 1 = x := ⟨_, rfl⟩
  obtain ⟨q2, hq2⟩ : ∃ x, hol m 2 = x := ⟨_, rfl⟩
  obtain ⟨q3, hq3⟩ : ∃ x, hol m 3 = x := ⟨_, rfl⟩
  rw [hq0] at h0 c0
  rw [hq1] at h1 c1
  rw [hq2] at h2 c2
  rw [hq3] at h3 c3
  clear hq0 hq1 hq2 hq3
  have H0 := Lib.hid h0
  have H1 := Lib.hid h1
  have H2 := Lib.hid h2
  have H3 := Lib.hid h3
  have C0 := Lib.hid c0
  have C1 := Lib.hid c1
  have C2 := Lib.hid c2
  have C3 := Lib.hid c3
  clear h0 h1 h2 h3 c0 c1 c2 c3
  go_enter Tryd.func26, Tryd.ntmps26
  go_wp2
  refine wp_loop_rounds 5 ?_
  rw [rounds_succ]
  go_wp2_with (first | (go_at_call 12; refine (H0.out _).mono ?_; rintro e w1 ⟨rfl, rfl⟩; clear H0) | (go_at_call 46; refine (C0.out _).mono ?_; rintro e w1 ⟨rfl, hbel⟩; obtain ⟨o0, j0, rfl⟩ := grow_of_below hbel; clear hbel C0))
  rw [rounds_succ]
  go_wp2_with (first | (go_at_call 12; refine (H1.out _).mono ?_; rintro e w1 ⟨rfl, rfl⟩; clear H1) | (go_at_call 46; refine (C1.out _).mono ?_; rintro e w1 ⟨rfl, hbel⟩; obtain ⟨o1, j1, rfl⟩ := grow_of_below hbel; clear hbel C1))
  rw [rounds_succ]
  go_wp2_with (first | (go_at_call 12; refine (H2.out _).mono ?_; rintro e w1 ⟨rfl, rfl⟩; clear H2) | (go_at_call 46; refine (C2.out _).mono ?_; rintro e w1 ⟨rfl, hbel⟩; obtain ⟨o2, j2, rfl⟩ := grow_of_below hbel; clear hbel C2))
  rw [rounds_succ]
  go_wp2_with (first | (go_at_call 12; refine (H3.out _).mono ?_; rintro e w1 ⟨rfl, rfl⟩; clear H3) | (go_at_call 46; refine (C3.out _).mono ?_; rintro e w1 ⟨rfl, hbel⟩; obtain ⟨o3, j3, rfl⟩ := grow_of_below hbel; clear hbel C3))
  rw [rounds_succ]
  go_wp2
  refine bodyPost_ret (by simp [results, Tryd.results26, go_sem]) rfl ⟨rfl, ?_⟩
  repeat (first | (with_reducible exact Below.refl _ _) | ((with_reducible refine below_grow ?_ ?_); rotate_left; focus (first | omega | (simp [go_sem]; done) | (simp [go_sem]; omega))) | ((with_reducible refine Below.alloc ?_ ?_ _); rotate_left; focus (first | omega | (simp [go_sem]; done) | (simp [go_sem]; omega))) | ((with_reducible refine Below.setCell ?_ ?_ _); rotate_left; focus (first | omega | (simp [go_sem]; done) | (simp [go_sem]; omega))) | (with_reducible refine Below.drew ?_) | (with_reducible refine below_drewN _ ?_))
end Go.Proofs.YtgndhdcnofblaaaDoor
