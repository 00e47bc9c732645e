/- total, the closures, Points, Controls, Losers, Quick, Shape. -/
import Derived.Test.YtgndhdcnofblaaaDoorHC
import Derived.Shelf.Abstract
namespace Go.Proofs.YtgndhdcnofblaaaDoor
open Go.RowKit

/-- The sum over the four suits of what a function value counts. -/
theorem total_calls (m : Nat) (hm : m < 18446744073709551616) (gf : Nat) (lb : Array Value) (g : Nat → Nat) (hg : ∀ h, g h ≤ 1000) (w : World)
    (eg : ∀ args w, (callFunc gf args).run Tryd.prog w = .ok (.enter gf args) w)
    (hC : ∀ h W, h < 8192 → Below w.heap.size w W → Calls Tryd.prog gf (#[.int .u16 (h : Nat)] ++ lb) W fun e W' => e = .returned (.int .i64 (g h : Nat)) ∧ Below W.heap.size W W') :
    Calls Tryd.prog 39 #[.int .u64 m, .func (.func gf) #[] lb] w fun e w' => e = .returned (.int .i64 (tot g m)) ∧ Below w.heap.size w w' := by
  have h0 := holding_yes m 0 hm (by decide)
  have h1 := holding_yes m 1 hm (by decide)
  have h2 := holding_yes m 2 hm (by decide)
  have h3 := holding_yes m 3 hm (by decide)
  have c0 := fun W => hC (hol m 0) W (hol_lt _ _)
  have c1 := fun W => hC (hol m 1) W (hol_lt _ _)
  have c2 := fun W => hC (hol m 2) W (hol_lt _ _)
  have c3 := fun W => hC (hol m 3) W (hol_lt _ _)
  have l0 := hg (hol m 0)
  have l1 := hg (hol m 1)
  have l2 := hg (hol m 2)
  have l3 := hg (hol m 3)
  unfold tot
  obtain ⟨g0, hg0⟩ : ∃ x, g (hol m 0) = x := ⟨_, rfl⟩
  obtain ⟨g1, hg1⟩ : ∃ x, g (hol m 1) = x := ⟨_, rfl⟩
  obtain ⟨g2, hg2⟩ : ∃ x, g (hol m 2) = x := ⟨_, rfl⟩
  obtain ⟨g3, hg3⟩ : ∃ x, g (hol m 3) = x := ⟨_, rfl⟩
  rw [hg0, hg1, hg2, hg3]
  rw [hg0] at c0 l0
  rw [hg1] at c1 l1
  rw [hg2] at c2 l2
  rw [hg3] at c3 l3
  clear hg0 hg1 hg2 hg3 hC hg
  obtain ⟨q0, hq0⟩ : ∃ x, hol m 0 = x := ⟨_, rfl⟩
  obtain ⟨q1, hq1⟩ : ∃ x, hol m 1 = x := ⟨_, rfl⟩
  obtain ⟨q2, hq2⟩ : ∃ x, hol m 2 = x := ⟨_, rfl⟩
  obtain ⟨q3, hq3⟩ : ∃ x, hol m 3 = x := ⟨_, rfl⟩
  rw [hq0] at h0 c0
  rw [hq1] at h1 c1
  rw [hq2] at h2 c2
  rw [hq3] at h3 c3
  clear hq0 hq1 hq2 hq3
  have H0 := Lib.hid h0
  have H1 := Lib.hid h1
  have H2 := Lib.hid h2
  have H3 := Lib.hid h3
  have C0 := Lib.hid c0
  have C1 := Lib.hid c1
  have C2 := Lib.hid c2
  have C3 := Lib.hid c3
  have e0 : IntKind.i64.wrap (g0 : Int) = g0 := IntWalk.i64_in _ (by omega)
  have e1 : IntKind.i64.wrap ((g0 : Int) + g1) = ((g0 + g1 : Nat) : Int) := by rw [IntWalk.i64_in _ (by omega)]; omega
  have e2 : IntKind.i64.wrap (((g0 + g1 : Nat) : Int) + g2) = ((g0 + g1 + g2 : Nat) : Int) := by rw [IntWalk.i64_in _ (by omega)]; omega
  have e3 : IntKind.i64.wrap (((g0 + g1 + g2 : Nat) : Int) + g3) = ((g0 + g1 + g2 + g3 : Nat) : Int) := by rw [IntWalk.i64_in _ (by omega)]; omega
  obtain ⟨s1, hs1⟩ : ∃ x, g0 + g1 = x := ⟨_, rfl⟩
  rw [hs1] at e1 e2 e3 ⊢
  obtain ⟨s2, hs2⟩ : ∃ x, s1 + g2 = x := ⟨_, rfl⟩
  rw [hs2] at e2 e3 ⊢
  obtain ⟨s3, hs3⟩ : ∃ x, s2 + g3 = x := ⟨_, rfl⟩
  rw [hs3] at e3 ⊢
  clear h0 h1 h2 h3 c0 c1 c2 c3 hs1 hs2 hs3 l0 l1 l2 l3
  go_enter Tryd.func39, Tryd.ntmps39
  go_wp2
  refine wp_loop_rounds 5 ?_
  rw [rounds_succ]
  go_wp2_with (first | (go_at_call 12; refine (H0.out _).mono ?_; rintro e w1 ⟨rfl, rfl⟩; clear H0) | (go_at_fn gf; refine (C0.out _ (by repeat (first | (with_reducible exact Below.refl _ _) | ((with_reducible refine below_grow ?_ ?_); rotate_left; focus (first | omega | (simp [go_sem]; done) | (simp [go_sem]; omega))) | ((with_reducible refine Below.alloc ?_ ?_ _); rotate_left; focus (first | omega | (simp [go_sem]; done) | (simp [go_sem]; omega))) | ((with_reducible refine Below.setCell ?_ ?_ _); rotate_left; focus (first | omega | (simp [go_sem]; done) | (simp [go_sem]; omega))) | (with_reducible refine Below.drew ?_) | (with_reducible refine below_drewN _ ?_)))).mono ?_; rintro e w1 ⟨rfl, hbel⟩; obtain ⟨o0, j0, rfl⟩ := grow_of_below hbel; clear hbel C0))
  rw [rounds_succ]
  go_wp2_with (first | (go_at_call 12; refine (H1.out _).mono ?_; rintro e w1 ⟨rfl, rfl⟩; clear H1) | (go_at_fn gf; refine (C1.out _ (by repeat (first | (with_reducible exact Below.refl _ _) | ((with_reducible refine below_grow ?_ ?_); rotate_left; focus (first | omega | (simp [go_sem]; done) | (simp [go_sem]; omega))) | ((with_reducible refine Below.alloc ?_ ?_ _); rotate_left; focus (first | omega | (simp [go_sem]; done) | (simp [go_sem]; omega))) | ((with_reducible refine Below.setCell ?_ ?_ _); rotate_left; focus (first | omega | (simp [go_sem]; done) | (simp [go_sem]; omega))) | (with_reducible refine Below.drew ?_) | (with_reducible refine below_drewN _ ?_)))).mono ?_; rintro e w1 ⟨rfl, hbel⟩; obtain ⟨o1, j1, rfl⟩ := grow_of_below hbel; clear hbel C1))
  rw [rounds_succ]
  go_wp2_with (first | (go_at_call 12; refine (H2.out _).mono ?_; rintro e w1 ⟨rfl, rfl⟩; clear H2) | (go_at_fn gf; refine (C2.out _ (by repeat (first | (with_reducible exact Below.refl _ _) | ((with_reducible refine below_grow ?_ ?_); rotate_left; focus (first | omega | (simp [go_sem]; done) | (simp [go_sem]; omega))) | ((with_reducible refine Below.alloc ?_ ?_ _); rotate_left; focus (first | omega | (simp [go_sem]; done) | (simp [go_sem]; omega))) | ((with_reducible refine Below.setCell ?_ ?_ _); rotate_left; focus (first | omega | (simp [go_sem]; done) | (simp [go_sem]; omega))) | (with_reducible refine Below.drew ?_) | (with_reducible refine below_drewN _ ?_)))).mono ?_; rintro e w1 ⟨rfl, hbel⟩; obtain ⟨o2, j2, rfl⟩ := grow_of_below hbel; clear hbel C2))
  rw [rounds_succ]
  go_wp2_with (first | (go_at_call 12; refine (H3.out _).mono ?_; rintro e w1 ⟨rfl, rfl⟩; clear H3) | (go_at_fn gf; refine (C3.out _ (by repeat (first | (with_reducible exact Below.refl _ _) | ((with_reducible refine below_grow ?_ ?_); rotate_left; focus (first | omega | (simp [go_sem]; done) | (simp [go_sem]; omega))) | ((with_reducible refine Below.alloc ?_ ?_ _); rotate_left; focus (first | omega | (simp [go_sem]; done) | (simp [go_sem]; omega))) | ((with_reducible refine Below.setCell ?_ ?_ _); rotate_left; focus (first | omega | (simp [go_sem]; done) | (simp [go_sem]; omega))) | (with_reducible refine Below.drew ?_) | (with_reducible refine below_drewN _ ?_)))).mono ?_; rintro e w1 ⟨rfl, hbel⟩; obtain ⟨o3, j3, rfl⟩ := grow_of_below hbel; clear hbel C3))
  rw [rounds_succ]
  go_wp2
  go_ret
  exact ⟨rfl, by repeat (first | (with_reducible exact Below.refl _ _) | ((with_reducible refine below_grow ?_ ?_); rotate_left; focus (first | omega | (simp [go_sem]; done) | (simp [go_sem]; omega))) | ((with_reducible refine Below.alloc ?_ ?_ _); rotate_left; focus (first | omega | (simp [go_sem]; done) | (simp [go_sem]; omega))) | ((with_reducible refine Below.setCell ?_ ?_ _); rotate_left; focus (first | omega | (simp [go_sem]; done) | (simp [go_sem]; omega))) | (with_reducible refine Below.drew ?_) | (with_reducible refine below_drewN _ ?_))⟩
end Go.Proofs.YtgndhdcnofblaaaDoor
