/- CallOrder: a bid is higher than another one exactly if its level is higher, or the denomination at the same level; and it is the bid of its parts. -/
import Derived.Test.YtblmdnmnodogiaaDoorKH
namespace Go.Proofs.YtblmdnmnodogiaaDoor
open Go.RowKit

theorem order_math {c d : Nat} (hc : isb c = true) (hd : isb d = true) :
    (d < c ↔ prL d < prL c ∨ prL c = prL d ∧ prD d < prD c) ∧ bdOk (prL c) (prD c) = true ∧ bdV (prL c) (prD c) = c ∧ 1 ≤ prL c ∧ prL c ≤ 7 ∧ prD c ≤ 4 := by
  have h1 := isb_iff.1 hc
  have h2 := isb_iff.1 hd
  have e1 : prL c = (c - 3) / 5 + 1 := by unfold prL; rw [if_pos hc]
  have e2 : prL d = (d - 3) / 5 + 1 := by unfold prL; rw [if_pos hd]
  have e3 : prD c = (c - 3) % 5 := by unfold prD; rw [if_pos hc]
  have e4 : prD d = (d - 3) % 5 := by unfold prD; rw [if_pos hd]
  have hok : bdOk (prL c) (prD c) = true := by
    unfold bdOk
    rw [e1, e3]
    simp
    omega
  refine ⟨by rw [e1, e2, e3, e4]; omega, hok, ?_, by omega, by omega, by omega⟩
  unfold bdV
  rw [if_pos hok, e1, e3]
  omega
set_option maxRecDepth 100000 in
set_option maxHeartbeats 8000000 in
theorem order_two (c d a b x y : Nat) (q1 : (3 : Int) ≤ c) (q2 : (c : Int) ≤ 37) (k4 : (1 : Int) ≤ a) (k5 : (a : Int) ≤ 7) (k6 : (x : Int) ≤ 4) (m : d < c ↔ b < a ∨ a = b ∧ y < x) (w : World)
    (AW : Hid (Calls Tryd.prog 11 #[] w fun e w' => e = .returned (.bool true) ∧ Below w.heap.size w w'))
    (P1 : Hid (∀ w : World, Calls Tryd.prog 19 #[.int .u8 c] w fun e w' => e = .returned (.tuple #[.int .u8 (a : Nat), .int .u8 (x : Nat), .bool true]) ∧ w = w'))
    (P2 : Hid (∀ w : World, Calls Tryd.prog 19 #[.int .u8 d] w fun e w' => e = .returned (.tuple #[.int .u8 (b : Nat), .int .u8 (y : Nat), .bool true]) ∧ w = w'))
    (B : Hid (∀ w : World, Calls Tryd.prog 20 #[.int .u8 a, .int .u8 x] w fun e w' => e = .returned (.tuple #[.int .u8 (c : Nat), .int .i64 0]) ∧ w = w')) :
    Calls Tryd.prog 7 #[.int .u8 c, .int .u8 d] w fun e w' => e = .returned (.bool true) ∧ Below w.heap.size w w' := by
  go_enter Tryd.func7, Tryd.ntmps7
  go_upto_region 3 with (go_at_call 11; refine AW.out.mono ?_; rintro e w9 ⟨rfl, hbel⟩; obtain ⟨o1, j1, rfl⟩ := grow_of_below hbel; clear hbel)
  go_upto_region 4 with (go_at_call 19; refine (P1.out _).mono ?_; rintro e w9 ⟨rfl, rfl⟩)
  go_upto_region 5 with (go_at_call 19; refine (P2.out _).mono ?_; rintro e w9 ⟨rfl, rfl⟩)
  by_cases h : d < c
  · have h' : (d : Int) < c := by omega
    by_cases hab : b < a
    · have hab' : (b : Int) < a := by omega
      clear m h hab
      go_wp2_with (go_at_call 20; refine (B.out _).mono ?_; rintro e w9 ⟨rfl, rfl⟩)
      refine bodyPost_ret (by simp [results, Tryd.results7, go_sem]) rfl ⟨rfl, ?_⟩
      repeat (first | (with_reducible exact Below.refl _ _) | ((with_reducible refine below_grow ?_ ?_); rotate_left; focus (first | omega | (simp [go_sem]; done) | (simp [go_sem]; omega))) | ((with_reducible refine Below.alloc ?_ ?_ _); rotate_left; focus (first | omega | (simp [go_sem]; done) | (simp [go_sem]; omega))) | ((with_reducible refine Below.setCell ?_ ?_ _); rotate_left; focus (first | omega | (simp [go_sem]; done) | (simp [go_sem]; omega))) | (with_reducible refine Below.drew ?_) | (with_reducible refine below_drewN _ ?_))
    · have hab' : ¬ (b : Int) < a := by omega
      obtain ⟨rfl, hyx⟩ := (m.1 h).resolve_left hab
      have hyx' : (y : Int) < x := by omega
      clear m h hab hyx
      go_wp2_with (go_at_call 20; refine (B.out _).mono ?_; rintro e w9 ⟨rfl, rfl⟩)
      refine bodyPost_ret (by simp [results, Tryd.results7, go_sem]) rfl ⟨rfl, ?_⟩
      repeat (first | (with_reducible exact Below.refl _ _) | ((with_reducible refine below_grow ?_ ?_); rotate_left; focus (first | omega | (simp [go_sem]; done) | (simp [go_sem]; omega))) | ((with_reducible refine Below.alloc ?_ ?_ _); rotate_left; focus (first | omega | (simp [go_sem]; done) | (simp [go_sem]; omega))) | ((with_reducible refine Below.setCell ?_ ?_ _); rotate_left; focus (first | omega | (simp [go_sem]; done) | (simp [go_sem]; omega))) | (with_reducible refine Below.drew ?_) | (with_reducible refine below_drewN _ ?_))
  · have h' : ¬ (d : Int) < c := by omega
    have hab : ¬ b < a := fun e => h (m.2 (.inl e))
    have hab' : ¬ (b : Int) < a := by omega
    by_cases he : a = b
    · have hyx' : ¬ (y : Int) < x := fun e => h (m.2 (.inr ⟨he, by omega⟩))
      subst he
      clear m h hab
      go_wp2_with (go_at_call 20; refine (B.out _).mono ?_; rintro e w9 ⟨rfl, rfl⟩)
      refine bodyPost_ret (by simp [results, Tryd.results7, go_sem]) rfl ⟨rfl, ?_⟩
      repeat (first | (with_reducible exact Below.refl _ _) | ((with_reducible refine below_grow ?_ ?_); rotate_left; focus (first | omega | (simp [go_sem]; done) | (simp [go_sem]; omega))) | ((with_reducible refine Below.alloc ?_ ?_ _); rotate_left; focus (first | omega | (simp [go_sem]; done) | (simp [go_sem]; omega))) | ((with_reducible refine Below.setCell ?_ ?_ _); rotate_left; focus (first | omega | (simp [go_sem]; done) | (simp [go_sem]; omega))) | (with_reducible refine Below.drew ?_) | (with_reducible refine below_drewN _ ?_))
    · have he' : ¬ (a : Int) = b := by omega
      clear m h hab he
      go_wp2_with (go_at_call 20; refine (B.out _).mono ?_; rintro e w9 ⟨rfl, rfl⟩)
      refine bodyPost_ret (by simp [results, Tryd.results7, go_sem]) rfl ⟨rfl, ?_⟩
      repeat (first | (with_reducible exact Below.refl _ _) | ((with_reducible refine below_grow ?_ ?_); rotate_left; focus (first | omega | (simp [go_sem]; done) | (simp [go_sem]; omega))) | ((with_reducible refine Below.alloc ?_ ?_ _); rotate_left; focus (first | omega | (simp [go_sem]; done) | (simp [go_sem]; omega))) | ((with_reducible refine Below.setCell ?_ ?_ _); rotate_left; focus (first | omega | (simp [go_sem]; done) | (simp [go_sem]; omega))) | (with_reducible refine Below.drew ?_) | (with_reducible refine below_drewN _ ?_))
set_option maxRecDepth 100000 in
set_option maxHeartbeats 8000000 in
theorem order_one (c d : Nat) (_is : Bool) (b y : Nat) (q1 : (3 : Int) ≤ c) (q2 : (c : Int) ≤ 37) (a x : Nat) (w : World)
    (AW : Hid (Calls Tryd.prog 11 #[] w fun e w' => e = .returned (.bool true) ∧ Below w.heap.size w w'))
    (P1 : Hid (∀ w : World, Calls Tryd.prog 19 #[.int .u8 c] w fun e w' => e = .returned (.tuple #[.int .u8 (a : Nat), .int .u8 (x : Nat), .bool true]) ∧ w = w'))
    (P2 : Hid (∀ w : World, Calls Tryd.prog 19 #[.int .u8 d] w fun e w' => e = .returned (.tuple #[.int .u8 (b : Nat), .int .u8 (y : Nat), .bool false]) ∧ w = w')) :
    Calls Tryd.prog 7 #[.int .u8 c, .int .u8 d] w fun e w' => e = .returned (.bool true) ∧ Below w.heap.size w w' := by
  go_enter Tryd.func7, Tryd.ntmps7
  go_upto_region 3 with (go_at_call 11; refine AW.out.mono ?_; rintro e w9 ⟨rfl, hbel⟩; obtain ⟨o1, j1, rfl⟩ := grow_of_below hbel; clear hbel)
  go_upto_region 4 with (go_at_call 19; refine (P1.out _).mono ?_; rintro e w9 ⟨rfl, rfl⟩)
  go_upto_region 5 with (go_at_call 19; refine (P2.out _).mono ?_; rintro e w9 ⟨rfl, rfl⟩)
  go_wp2
  refine bodyPost_ret (by simp [results, Tryd.results7, go_sem]) rfl ⟨rfl, ?_⟩
  repeat (first | (with_reducible exact Below.refl _ _) | ((with_reducible refine below_grow ?_ ?_); rotate_left; focus (first | omega | (simp [go_sem]; done) | (simp [go_sem]; omega))) | ((with_reducible refine Below.alloc ?_ ?_ _); rotate_left; focus (first | omega | (simp [go_sem]; done) | (simp [go_sem]; omega))) | ((with_reducible refine Below.setCell ?_ ?_ _); rotate_left; focus (first | omega | (simp [go_sem]; done) | (simp [go_sem]; omega))) | (with_reducible refine Below.drew ?_) | (with_reducible refine below_drewN _ ?_))
set_option maxRecDepth 100000 in
set_option maxHeartbeats 8000000 in
theorem order_none (c d : Nat) (is : Bool) (b y : Nat) (q : ¬ ((3 : Int) ≤ c ∧ (c : Int) ≤ 37)) (w : World)
    (AW : Hid (Calls Tryd.prog 11 #[] w fun e w' => e = .returned (.bool true) ∧ Below w.heap.size w w'))
    (P1 : Hid (∀ w : World, Calls Tryd.prog 19 #[.int .u8 c] w fun e w' => e = .returned (.tuple #[.int .u8 0, .int .u8 0, .bool false]) ∧ w = w'))
    (P2 : Hid (∀ w : World, Calls Tryd.prog 19 #[.int .u8 d] w fun e w' => e = .returned (.tuple #[.int .u8 (b : Nat), .int .u8 (y : Nat), .bool is]) ∧ w = w')) :
    Calls Tryd.prog 7 #[.int .u8 c, .int .u8 d] w fun e w' => e = .returned (.bool true) ∧ Below w.heap.size w w' := by
  go_enter Tryd.func7, Tryd.ntmps7
  go_upto_region 3 with (go_at_call 11; refine AW.out.mono ?_; rintro e w9 ⟨rfl, hbel⟩; obtain ⟨o1, j1, rfl⟩ := grow_of_below hbel; clear hbel)
  go_upto_region 4 with (go_at_call 19; refine (P1.out _).mono ?_; rintro e w9 ⟨rfl, rfl⟩)
  go_upto_region 5 with (go_at_call 19; refine (P2.out _).mono ?_; rintro e w9 ⟨rfl, rfl⟩)
  by_cases q1 : (3 : Int) ≤ c
  · have q2 : ¬ (c : Int) ≤ 37 := fun h => q ⟨q1, h⟩
    clear q
    go_wp2
    refine bodyPost_ret (by simp [results, Tryd.results7, go_sem]) rfl ⟨rfl, ?_⟩
    repeat (first | (with_reducible exact Below.refl _ _) | ((with_reducible refine below_grow ?_ ?_); rotate_left; focus (first | omega | (simp [go_sem]; done) | (simp [go_sem]; omega))) | ((with_reducible refine Below.alloc ?_ ?_ _); rotate_left; focus (first | omega | (simp [go_sem]; done) | (simp [go_sem]; omega))) | ((with_reducible refine Below.setCell ?_ ?_ _); rotate_left; focus (first | omega | (simp [go_sem]; done) | (simp [go_sem]; omega))) | (with_reducible refine Below.drew ?_) | (with_reducible refine below_drewN _ ?_))
  · clear q
    go_wp2
    refine bodyPost_ret (by simp [results, Tryd.results7, go_sem]) rfl ⟨rfl, ?_⟩
    repeat (first | (with_reducible exact Below.refl _ _) | ((with_reducible refine below_grow ?_ ?_); rotate_left; focus (first | omega | (simp [go_sem]; done) | (simp [go_sem]; omega))) | ((with_reducible refine Below.alloc ?_ ?_ _); rotate_left; focus (first | omega | (simp [go_sem]; done) | (simp [go_sem]; omega))) | ((with_reducible refine Below.setCell ?_ ?_ _); rotate_left; focus (first | omega | (simp [go_sem]; done) | (simp [go_sem]; omega))) | (with_reducible refine Below.drew ?_) | (with_reducible refine below_drewN _ ?_))
theorem callOrder_walk (c d : Int) (hc : 0 ≤ c ∧ c ≤ 255) (hd : 0 ≤ d ∧ d ≤ 255) (w : World) (he : Env w) : Calls Tryd.prog 7 #[.int .u8 c, .int .u8 d] w fun e w' => e = .returned (.bool true) ∧ Below w.heap.size w w' := by
  obtain ⟨c, rfl⟩ : ∃ n : Nat, c = n := ⟨c.toNat, by omega⟩
  obtain ⟨d, rfl⟩ : ∃ n : Nat, d = n := ⟨d.toNat, by omega⟩
  have AW := Lib.hid (awake_calls w he)
  have P1 := Lib.hid (parts_calls c)
  have P2 := Lib.hid (parts_calls d)
  by_cases h1 : isb c = true
  · have h1' := isb_iff.1 h1
    rw [h1] at P1
    by_cases h2 : isb d = true
    · obtain ⟨m1, m2, m3, m4, m5, m6⟩ := order_math h1 h2
      have B := Lib.hid (bid_calls (prL c) (prD c) (by omega) (by omega))
      have hb : bdE (prL c) (prD c) = 0 := by unfold bdE; rw [if_pos m2]
      rw [m3, hb] at B
      rw [h2] at P2
      exact order_two c d _ _ _ _ (by omega) (by omega) (by omega) (by omega) (by omega) m1 w AW P1 P2 B
    · rw [Bool.not_eq_true] at h2
      rw [h2] at P2
      exact order_one c d false _ _ (by omega) (by omega) _ _ w AW P1 P2
  · have h1' : ¬ (3 ≤ c ∧ c ≤ 37) := fun h => h1 (isb_iff.2 h)
    have e1 : prL c = 0 := by unfold prL; rw [if_neg h1]
    have e2 : prD c = 0 := by unfold prD; rw [if_neg h1]
    rw [Bool.not_eq_true] at h1
    rw [h1, e1, e2] at P1
    exact order_none c d (isb d) _ _ (by omega) w AW P1 P2
end Go.Proofs.YtblmdnmnodogiaaDoor
