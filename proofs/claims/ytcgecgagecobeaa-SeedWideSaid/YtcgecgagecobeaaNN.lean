/- Walks of nat: Contains, Mul of two. -/
import Derived.Test.YtcgecgagecobeaaNI
namespace Go.Proofs.Ytcgecgagecobeaa
open Go.RowKit

theorem pt_one : pt 1 0 = 1 ∧ pt 1 1 = 0 ∧ pt 1 2 = 0 ∧ pt 1 3 = 0 := by decide
theorem oneN : isN 1 := by decide
def mulR (a b : Nat) : Nat := if isN (a * b) then a * b else 0
def mulE (a b : Nat) : Int := if isN (a * b) then 0 else 3
theorem mulR_isN (a b : Nat) : isN (mulR a b) := by unfold mulR; split <;> first | assumption | exact zeroN
theorem mulL_isN (a b : Nat) : isN (mulL a b) := by unfold mulL isN; exact Nat.mod_lt _ (by decide)
theorem mulH_isN {a b : Nat} (ha : isN a) (hb : isN b) : isN (mulH a b) := by
  unfold mulH
  unfold isN at *
  have h : a * b < 340282366920938463463374607431768211456 * 340282366920938463463374607431768211456 := Nat.mul_lt_mul'' ha hb
  exact Nat.div_lt_of_lt_mul h
theorem mul_yes {a b : Nat} (h : isN (a * b)) : mulL a b = a * b ∧ mulH a b = 0 ∧ mulR a b = a * b ∧ mulE a b = 0 := by
  refine ⟨Nat.mod_eq_of_lt h, Nat.div_eq_of_lt h, if_pos h, if_pos h⟩
theorem mul_no {a b : Nat} (h : ¬ isN (a * b)) : mulH a b ≠ 0 ∧ mulR a b = 0 ∧ mulE a b = 3 := by
  refine ⟨?_, if_neg h, if_neg h⟩
  unfold mulH
  unfold isN at h
  intro g
  rw [Nat.div_eq_zero_iff] at g
  omega
set_option maxRecDepth 10000 in
theorem times_one (b : Nat) (hb : isN b) (w : World) :
    Calls Try.prog 51 #[.agg #[.int .u32 1, .int .u32 0, .int .u32 0, .int .u32 0], .agg #[.int .u32 (pt b 0), .int .u32 (pt b 1), .int .u32 (pt b 2), .int .u32 (pt b 3)]] w fun e w' => e = .returned (.tuple #[.agg #[.int .u32 (pt b 0), .int .u32 (pt b 1), .int .u32 (pt b 2), .int .u32 (pt b 3)], .agg #[.int .u32 0, .int .u32 0, .int .u32 0, .int .u32 0]]) ∧ Below w.heap.size w w' := by
  have h := times_calls 1 b oneN hb w
  obtain ⟨q0, q1, q2, q3⟩ := pt_one
  have e1 : mulL 1 b = b := by unfold mulL; rw [Nat.one_mul]; exact Nat.mod_eq_of_lt hb
  have e2 : mulH 1 b = 0 := by unfold mulH; rw [Nat.one_mul]; exact Nat.div_eq_of_lt hb
  simp only [q0, q1, q2, q3, e1, e2, pt_zero] at h
  exact h
theorem eqNz' (a : Nat) (ha : isN a) (w : World) : (Op.equalIn 10000 25 (.agg #[.int .u32 0, .int .u32 0, .int .u32 0, .int .u32 0]) (.agg #[.int .u32 (pt a 0), .int .u32 (pt a 1), .int .u32 (pt a 2), .int .u32 (pt a 3)])).run Try.prog w = .ok (decide (a = 0)) w := by
  have := eqNv 0 a zeroN ha w
  simp only [pt_zero] at this
  rw [this]
  by_cases h : a = 0
  · subst h; rfl
  · rw [decide_eq_false h, decide_eq_false (fun g => h g.symm)]
theorem eqZZ (w : World) : (Op.equalIn 10000 25 (.agg #[.int .u32 0, .int .u32 0, .int .u32 0, .int .u32 0]) (.agg #[.int .u32 0, .int .u32 0, .int .u32 0, .int .u32 0])).run Try.prog w = .ok true w := by
  rw [eqN]; simp
def idxN (a b : Nat) : Int := if a = 0 then 0 else if b = 0 then 1 else -1
set_option maxRecDepth 100000 in
set_option maxHeartbeats 4000000 in
theorem index_calls (a b p : Nat) (ha : isN a) (hb : isN b) (w : World) [iP : NeZero (inW p w)] (p0 : w.cell? ⟨p, 0, none⟩ = some (.int .u32 (pt a 0))) (p1 : w.cell? ⟨p, 1, none⟩ = some (.int .u32 (pt a 1))) (p2 : w.cell? ⟨p, 2, none⟩ = some (.int .u32 (pt a 2))) (p3 : w.cell? ⟨p, 3, none⟩ = some (.int .u32 (pt a 3))) (p4 : w.cell? ⟨p, 4, none⟩ = some (.int .u32 (pt b 0))) (p5 : w.cell? ⟨p, 5, none⟩ = some (.int .u32 (pt b 1))) (p6 : w.cell? ⟨p, 6, none⟩ = some (.int .u32 (pt b 2))) (p7 : w.cell? ⟨p, 7, none⟩ = some (.int .u32 (pt b 3))) :
    Calls Try.prog 68 #[.slice (some ⟨p, 0, none⟩) 2 2, .agg #[.int .u32 0, .int .u32 0, .int .u32 0, .int .u32 0]] w fun e w' => e = .returned (.int .i64 (idxN a b)) ∧ Below w.heap.size w w' := by
  by_cases h0 : a = 0
  · have e : idxN a b = 0 := if_pos h0
    rw [e]
    have hd : decide (a = 0) = true := by simp [h0]
    have hE := fun w => eqNz' a ha w
    rw [hd] at hE
    clear h0 e
    go_enter Try.func68, Try.ntmps68
    go_wp2
    refine wp_loop_rounds 3 ?_
    rw [rounds_succ]
    go_wp2
    go_region_held3 (fun w' => w'.cell? ⟨w.heap.size, 0, none⟩ = some (.int .u32 0) ∧ w'.cell? ⟨w.heap.size, 1, none⟩ = some (.int .u32 0) ∧ w'.cell? ⟨w.heap.size, 2, none⟩ = some (.int .u32 0) ∧ w'.cell? ⟨w.heap.size, 3, none⟩ = some (.int .u32 0) ∧ w'.cell? ⟨p, 0, none⟩ = some (.int .u32 (pt a 0)) ∧ w'.cell? ⟨p, 1, none⟩ = some (.int .u32 (pt a 1)) ∧ w'.cell? ⟨p, 2, none⟩ = some (.int .u32 (pt a 2)) ∧ w'.cell? ⟨p, 3, none⟩ = some (.int .u32 (pt a 3))) (simp [*, go_sem]) (fail)
    go_wp2
    go_ret
    exact ⟨rfl, by repeat (first | (with_reducible exact Below.refl _ _) | ((with_reducible refine below_grow ?_ ?_); rotate_left; focus (first | omega | (simp [go_sem]; done) | (simp [go_sem]; omega))) | ((with_reducible refine Below.alloc ?_ ?_ _); rotate_left; focus (first | omega | (simp [go_sem]; done) | (simp [go_sem]; omega))) | ((with_reducible refine Below.setCell ?_ ?_ _); rotate_left; focus (first | omega | (simp [go_sem]; done) | (simp [go_sem]; omega))) | (with_reducible refine Below.drew ?_) | (with_reducible refine below_drewN _ ?_))⟩
  · have hd : decide (a = 0) = false := by simp [h0]
    have hE := fun w => eqNz' a ha w
    rw [hd] at hE
    by_cases h1 : b = 0
    · have e : idxN a b = 1 := by unfold idxN; rw [if_neg h0, if_pos h1]
      rw [e]
      have hd1 : decide (b = 0) = true := by simp [h1]
      have hE1 := fun w => eqNz' b hb w
      rw [hd1] at hE1
      clear h0 h1 e
      go_enter Try.func68, Try.ntmps68
      go_wp2
      refine wp_loop_rounds 3 ?_
      rw [rounds_succ]
      go_wp2
      go_region_held3 (fun w' => w'.cell? ⟨w.heap.size, 0, none⟩ = some (.int .u32 0) ∧ w'.cell? ⟨w.heap.size, 1, none⟩ = some (.int .u32 0) ∧ w'.cell? ⟨w.heap.size, 2, none⟩ = some (.int .u32 0) ∧ w'.cell? ⟨w.heap.size, 3, none⟩ = some (.int .u32 0) ∧ w'.cell? ⟨p, 0, none⟩ = some (.int .u32 (pt a 0)) ∧ w'.cell? ⟨p, 1, none⟩ = some (.int .u32 (pt a 1)) ∧ w'.cell? ⟨p, 2, none⟩ = some (.int .u32 (pt a 2)) ∧ w'.cell? ⟨p, 3, none⟩ = some (.int .u32 (pt a 3))) (simp [*, go_sem]) (fail)
      go_wp2
      rw [rounds_succ]
      go_wp2
      go_region_held3 (fun w' => w'.cell? ⟨w.heap.size, 0, none⟩ = some (.int .u32 0) ∧ w'.cell? ⟨w.heap.size, 1, none⟩ = some (.int .u32 0) ∧ w'.cell? ⟨w.heap.size, 2, none⟩ = some (.int .u32 0) ∧ w'.cell? ⟨w.heap.size, 3, none⟩ = some (.int .u32 0) ∧ w'.cell? ⟨p, 4, none⟩ = some (.int .u32 (pt b 0)) ∧ w'.cell? ⟨p, 5, none⟩ = some (.int .u32 (pt b 1)) ∧ w'.cell? ⟨p, 6, none⟩ = some (.int .u32 (pt b 2)) ∧ w'.cell? ⟨p, 7, none⟩ = some (.int .u32 (pt b 3))) (simp [*, go_sem]) (fail)
      go_wp2
      go_ret
      exact ⟨rfl, by repeat (first | (with_reducible exact Below.refl _ _) | ((with_reducible refine below_grow ?_ ?_); rotate_left; focus (first | omega | (simp [go_sem]; done) | (simp [go_sem]; omega))) | ((with_reducible refine Below.alloc ?_ ?_ _); rotate_left; focus (first | omega | (simp [go_sem]; done) | (simp [go_sem]; omega))) | ((with_reducible refine Below.setCell ?_ ?_ _); rotate_left; focus (first | omega | (simp [go_sem]; done) | (simp [go_sem]; omega))) | (with_reducible refine Below.drew ?_) | (with_reducible refine below_drewN _ ?_))⟩
    · have e : idxN a b = -1 := by unfold idxN; rw [if_neg h0, if_neg h1]
      rw [e]
      have hd1 : decide (b = 0) = false := by simp [h1]
      have hE1 := fun w => eqNz' b hb w
      rw [hd1] at hE1
      clear h0 h1 e
      go_enter Try.func68, Try.ntmps68
      go_wp2
      refine wp_loop_rounds 3 ?_
      rw [rounds_succ]
      go_wp2
      go_region_held3 (fun w' => w'.cell? ⟨w.heap.size, 0, none⟩ = some (.int .u32 0) ∧ w'.cell? ⟨w.heap.size, 1, none⟩ = some (.int .u32 0) ∧ w'.cell? ⟨w.heap.size, 2, none⟩ = some (.int .u32 0) ∧ w'.cell? ⟨w.heap.size, 3, none⟩ = some (.int .u32 0) ∧ w'.cell? ⟨p, 0, none⟩ = some (.int .u32 (pt a 0)) ∧ w'.cell? ⟨p, 1, none⟩ = some (.int .u32 (pt a 1)) ∧ w'.cell? ⟨p, 2, none⟩ = some (.int .u32 (pt a 2)) ∧ w'.cell? ⟨p, 3, none⟩ = some (.int .u32 (pt a 3))) (simp [*, go_sem]) (fail)
      go_wp2
      rw [rounds_succ]
      go_wp2
      go_region_held3 (fun w' => w'.cell? ⟨w.heap.size, 0, none⟩ = some (.int .u32 0) ∧ w'.cell? ⟨w.heap.size, 1, none⟩ = some (.int .u32 0) ∧ w'.cell? ⟨w.heap.size, 2, none⟩ = some (.int .u32 0) ∧ w'.cell? ⟨w.heap.size, 3, none⟩ = some (.int .u32 0) ∧ w'.cell? ⟨p, 4, none⟩ = some (.int .u32 (pt b 0)) ∧ w'.cell? ⟨p, 5, none⟩ = some (.int .u32 (pt b 1)) ∧ w'.cell? ⟨p, 6, none⟩ = some (.int .u32 (pt b 2)) ∧ w'.cell? ⟨p, 7, none⟩ = some (.int .u32 (pt b 3))) (simp [*, go_sem]) (fail)
      go_wp2
      rw [rounds_succ]
      go_wp2
      go_ret
      exact ⟨rfl, by repeat (first | (with_reducible exact Below.refl _ _) | ((with_reducible refine below_grow ?_ ?_); rotate_left; focus (first | omega | (simp [go_sem]; done) | (simp [go_sem]; omega))) | ((with_reducible refine Below.alloc ?_ ?_ _); rotate_left; focus (first | omega | (simp [go_sem]; done) | (simp [go_sem]; omega))) | ((with_reducible refine Below.setCell ?_ ?_ _); rotate_left; focus (first | omega | (simp [go_sem]; done) | (simp [go_sem]; omega))) | (with_reducible refine Below.drew ?_) | (with_reducible refine below_drewN _ ?_))⟩
set_option maxRecDepth 100000 in
set_option maxHeartbeats 4000000 in
theorem contains_calls (a b p : Nat) (ha : isN a) (hb : isN b) (w : World) [iP : NeZero (inW p w)] (p0 : w.cell? ⟨p, 0, none⟩ = some (.int .u32 (pt a 0))) (p1 : w.cell? ⟨p, 1, none⟩ = some (.int .u32 (pt a 1))) (p2 : w.cell? ⟨p, 2, none⟩ = some (.int .u32 (pt a 2))) (p3 : w.cell? ⟨p, 3, none⟩ = some (.int .u32 (pt a 3))) (p4 : w.cell? ⟨p, 4, none⟩ = some (.int .u32 (pt b 0))) (p5 : w.cell? ⟨p, 5, none⟩ = some (.int .u32 (pt b 1))) (p6 : w.cell? ⟨p, 6, none⟩ = some (.int .u32 (pt b 2))) (p7 : w.cell? ⟨p, 7, none⟩ = some (.int .u32 (pt b 3))) (B : Bool) (hB : decide (a = 0 ∨ b = 0) = B) :
    Calls Try.prog 50 #[.slice (some ⟨p, 0, none⟩) 2 2, .agg #[.int .u32 0, .int .u32 0, .int .u32 0, .int .u32 0]] w fun e w' => e = .returned (.bool B) ∧ Below w.heap.size w w' := by
  have e : decide (0 ≤ idxN a b) = B := by
    rw [← hB, decide_eq_decide]
    unfold idxN
    split
    · simp_all
    · split <;> simp_all
  have hi : -1 ≤ idxN a b ∧ idxN a b ≤ 1 := by unfold idxN; split; · omega
                                               · split <;> omega
  obtain ⟨I, hI⟩ : ∃ I, idxN a b = I := ⟨_, rfl⟩
  have hc := fun w' [NeZero (inW p w')] h0 h1 h2 h3 h4 h5 h6 h7 => index_calls a b p ha hb w' h0 h1 h2 h3 h4 h5 h6 h7
  rw [hI] at e hi hc
  clear hI hB
  have hc := Lib.hid hc
  go_enter Try.func50, Try.ntmps50
  go_wp2_with (first | (go_at_call 68; refine (hc.out _ (by simp [*, go_sem]) (by simp [*, go_sem]) (by simp [*, go_sem]) (by simp [*, go_sem]) (by simp [*, go_sem]) (by simp [*, go_sem]) (by simp [*, go_sem]) (by simp [*, go_sem])).mono ?_; rintro e w1 ⟨rfl, hbel⟩; obtain ⟨o1, j1, rfl⟩ := grow_of_below hbel; clear hbel))
  go_ret
  exact ⟨rfl, by repeat (first | (with_reducible exact Below.refl _ _) | ((with_reducible refine below_grow ?_ ?_); rotate_left; focus (first | omega | (simp [go_sem]; done) | (simp [go_sem]; omega))) | ((with_reducible refine Below.alloc ?_ ?_ _); rotate_left; focus (first | omega | (simp [go_sem]; done) | (simp [go_sem]; omega))) | ((with_reducible refine Below.setCell ?_ ?_ _); rotate_left; focus (first | omega | (simp [go_sem]; done) | (simp [go_sem]; omega))) | (with_reducible refine Below.drew ?_) | (with_reducible refine below_drewN _ ?_))⟩

set_option maxRecDepth 100000 in
set_option maxHeartbeats 4000000 in
theorem mul_calls (a b p : Nat) (ha : isN a) (hb : isN b) (w : World) [iP : NeZero (inW p w)] (p0 : w.cell? ⟨p, 0, none⟩ = some (.int .u32 (pt a 0))) (p1 : w.cell? ⟨p, 1, none⟩ = some (.int .u32 (pt a 1))) (p2 : w.cell? ⟨p, 2, none⟩ = some (.int .u32 (pt a 2))) (p3 : w.cell? ⟨p, 3, none⟩ = some (.int .u32 (pt a 3))) (p4 : w.cell? ⟨p, 4, none⟩ = some (.int .u32 (pt b 0))) (p5 : w.cell? ⟨p, 5, none⟩ = some (.int .u32 (pt b 1))) (p6 : w.cell? ⟨p, 6, none⟩ = some (.int .u32 (pt b 2))) (p7 : w.cell? ⟨p, 7, none⟩ = some (.int .u32 (pt b 3))) :
    Calls Try.prog 22 #[.slice (some ⟨p, 0, none⟩) 2 2] w fun e w' => e = .returned (.tuple #[.agg #[.int .u32 (pt (mulR a b) 0), .int .u32 (pt (mulR a b) 1), .int .u32 (pt (mulR a b) 2), .int .u32 (pt (mulR a b) 3)], .int .i64 (mulE a b)]) ∧ Below w.heap.size w w' := by
  have hZZ := eqZZ
  by_cases hz : a = 0 ∨ b = 0
  · have e0 : a * b = 0 := by
      rcases hz with h | h
      · rw [h, Nat.zero_mul]
      · rw [h, Nat.mul_zero]
    have e1 : mulR a b = 0 := by unfold mulR; rw [e0]; rfl
    have e2 : mulE a b = 0 := by unfold mulE; rw [e0, if_pos zeroN]
    rw [e1, e2]
    have hc := Lib.hid (fun w' [NeZero (inW p w')] h0 h1 h2 h3 h4 h5 h6 h7 => contains_calls a b p ha hb w' h0 h1 h2 h3 h4 h5 h6 h7 true (by simp [hz]))
    clear hz e0 e1 e2
    go_enter Try.func22, Try.ntmps22
    go_wp2_with (first | (go_at_call 50; refine (hc.out _ (by simp [*, go_sem]) (by simp [*, go_sem]) (by simp [*, go_sem]) (by simp [*, go_sem]) (by simp [*, go_sem]) (by simp [*, go_sem]) (by simp [*, go_sem]) (by simp [*, go_sem])).mono ?_; rintro e w1 ⟨rfl, hbel⟩; obtain ⟨o1, j1, rfl⟩ := grow_of_below hbel; clear hbel))
    refine bodyPost_ret (by simp [results, Try.results22, go_sem, pt_zero]) rfl ⟨rfl, ?_⟩
    repeat (first | (with_reducible exact Below.refl _ _) | ((with_reducible refine below_grow ?_ ?_); rotate_left; focus (first | omega | (simp [go_sem]; done) | (simp [go_sem]; omega))) | ((with_reducible refine Below.alloc ?_ ?_ _); rotate_left; focus (first | omega | (simp [go_sem]; done) | (simp [go_sem]; omega))) | ((with_reducible refine Below.setCell ?_ ?_ _); rotate_left; focus (first | omega | (simp [go_sem]; done) | (simp [go_sem]; omega))) | (with_reducible refine Below.drew ?_) | (with_reducible refine below_drewN _ ?_))
  · have hc := Lib.hid (fun w' [NeZero (inW p w')] h0 h1 h2 h3 h4 h5 h6 h7 => contains_calls a b p ha hb w' h0 h1 h2 h3 h4 h5 h6 h7 false (by simp [hz]))
    clear hz
    by_cases hy : isN (a * b)
    · obtain ⟨e1, e2, e3, e4⟩ := mul_yes hy
      rw [e3, e4]
      clear e3 e4 hy
      go_enter Try.func22, Try.ntmps22
      go_wp2_with (first | (go_at_call 50; refine (hc.out _ (by simp [*, go_sem]) (by simp [*, go_sem]) (by simp [*, go_sem]) (by simp [*, go_sem]) (by simp [*, go_sem]) (by simp [*, go_sem]) (by simp [*, go_sem]) (by simp [*, go_sem])).mono ?_; rintro e w1 ⟨rfl, hbel⟩; obtain ⟨o1, j1, rfl⟩ := grow_of_below hbel; clear hbel))
      refine wp_loop_rounds 3 ?_
      rw [rounds_succ]
      go_wp2_with (first | (go_at_call 51; refine (times_one a ha _).mono ?_; rintro e w1 ⟨rfl, hbel⟩; obtain ⟨o2, j2, rfl⟩ := grow_of_below hbel; clear hbel))
      rw [rounds_succ]
      go_wp2_with (first | (go_at_call 51; refine (times_calls a b ha hb _).mono ?_; rintro e w1 ⟨rfl, hbel⟩; rw [e1, e2]; simp only [pt_zero]; obtain ⟨o3, j3, rfl⟩ := grow_of_below hbel; clear hbel))
      rw [rounds_succ]
      go_wp2
      refine bodyPost_ret (by simp [results, Try.results22, go_sem]) rfl ⟨rfl, ?_⟩
      repeat (first | (with_reducible exact Below.refl _ _) | ((with_reducible refine below_grow ?_ ?_); rotate_left; focus (first | omega | (simp [go_sem]; done) | (simp [go_sem]; omega))) | ((with_reducible refine Below.alloc ?_ ?_ _); rotate_left; focus (first | omega | (simp [go_sem]; done) | (simp [go_sem]; omega))) | ((with_reducible refine Below.setCell ?_ ?_ _); rotate_left; focus (first | omega | (simp [go_sem]; done) | (simp [go_sem]; omega))) | (with_reducible refine Below.drew ?_) | (with_reducible refine below_drewN _ ?_))
    · obtain ⟨e1, e3, e4⟩ := mul_no hy
      rw [e3, e4]
      have hd : decide (mulH a b = 0) = false := by simp [e1]
      have hH := mulH_isN ha hb
      clear e1 e3 e4 hy
      go_enter Try.func22, Try.ntmps22
      go_wp2_with (first | (go_at_call 50; refine (hc.out _ (by simp [*, go_sem]) (by simp [*, go_sem]) (by simp [*, go_sem]) (by simp [*, go_sem]) (by simp [*, go_sem]) (by simp [*, go_sem]) (by simp [*, go_sem]) (by simp [*, go_sem])).mono ?_; rintro e w1 ⟨rfl, hbel⟩; obtain ⟨o1, j1, rfl⟩ := grow_of_below hbel; clear hbel))
      refine wp_loop_rounds 3 ?_
      rw [rounds_succ]
      go_wp2_with (first | (go_at_call 51; refine (times_one a ha _).mono ?_; rintro e w1 ⟨rfl, hbel⟩; obtain ⟨o2, j2, rfl⟩ := grow_of_below hbel; clear hbel))
      rw [rounds_succ]
      go_wp2_with (first | (go_at_call 51; refine (times_calls a b ha hb _).mono ?_; rintro e w1 ⟨rfl, hbel⟩; obtain ⟨o3, j3, rfl⟩ := grow_of_below hbel; clear hbel))
      refine bodyPost_ret (by simp [results, Try.results22, go_sem, pt_zero]) rfl ⟨rfl, ?_⟩
      repeat (first | (with_reducible exact Below.refl _ _) | ((with_reducible refine below_grow ?_ ?_); rotate_left; focus (first | omega | (simp [go_sem]; done) | (simp [go_sem]; omega))) | ((with_reducible refine Below.alloc ?_ ?_ _); rotate_left; focus (first | omega | (simp [go_sem]; done) | (simp [go_sem]; omega))) | ((with_reducible refine Below.setCell ?_ ?_ _); rotate_left; focus (first | omega | (simp [go_sem]; done) | (simp [go_sem]; omega))) | (with_reducible refine Below.drew ?_) | (with_reducible refine below_drewN _ ?_))
end Go.Proofs.Ytcgecgagecobeaa
