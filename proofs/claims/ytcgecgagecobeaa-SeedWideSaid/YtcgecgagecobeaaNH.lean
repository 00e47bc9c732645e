/- Walks of nat: Add, Sub, Div, Gcd, Cmp, Of, Int. -/
import Derived.Test.YtcgecgagecobeaaNG
import Derived.Laws.StructEq
namespace Go.Proofs.Ytcgecgagecobeaa
open Go.RowKit

instance (a : Nat) : Decidable (isN a) := by unfold isN; infer_instance
def addR (a b : Nat) : Nat := if isN (a + b) then a + b else 0
def addE (a b : Nat) : Int := if isN (a + b) then 0 else 3
def subR (a b : Nat) : Nat := if a < b then 0 else a - b
def subE (a b : Nat) : Int := if a < b then 21 else 0
theorem zeroN : isN 0 := by decide
theorem addR_isN (a b : Nat) : isN (addR a b) := by unfold addR; split <;> first | assumption | exact zeroN
theorem subR_isN (a b : Nat) (ha : isN a) : isN (subR a b) := by unfold subR isN at *; split <;> omega
theorem add_yes {a b : Nat} (h : isN (a + b)) : addN a b = a + b ∧ carN a b = 0 ∧ addR a b = a + b ∧ addE a b = 0 := by
  refine ⟨?_, ?_, if_pos h, if_pos h⟩
  · unfold addN; unfold isN at h; omega
  · unfold carN; unfold isN at h; omega
theorem add_no {a b : Nat} (ha : isN a) (hb : isN b) (h : ¬ isN (a + b)) : carN a b = 1 ∧ addR a b = 0 ∧ addE a b = 3 := by
  refine ⟨?_, if_neg h, if_neg h⟩
  unfold carN isN at *; omega
theorem sub_no {a b : Nat} (h : a < b) : borN a b = 1 ∧ subR a b = 0 ∧ subE a b = 21 := ⟨if_pos h, if_pos h, if_pos h⟩
theorem sub_yes {a b : Nat} (ha : isN a) (h : ¬ a < b) : borN a b = 0 ∧ subN a b = a - b ∧ subR a b = a - b ∧ subE a b = 0 := ⟨if_neg h, subN_of a b ha h, if_neg h, if_neg h⟩
set_option maxHeartbeats 2000000 in
theorem add_calls (a b : Nat) (ha : isN a) (hb : isN b) (w : World) :
    Calls Try.prog 66 #[.agg #[.int .u32 (pt a 0), .int .u32 (pt a 1), .int .u32 (pt a 2), .int .u32 (pt a 3)], .agg #[.int .u32 (pt b 0), .int .u32 (pt b 1), .int .u32 (pt b 2), .int .u32 (pt b 3)]] w fun e w' => e = .returned (.tuple #[.agg #[.int .u32 (pt (addR a b) 0), .int .u32 (pt (addR a b) 1), .int .u32 (pt (addR a b) 2), .int .u32 (pt (addR a b) 3)], .int .i64 (addE a b)]) ∧ Below w.heap.size w w' := by
  by_cases h : isN (a + b)
  · obtain ⟨e1, e2, e3, e4⟩ := add_yes h
    go_enter Try.func66, Try.ntmps66
    go_wp2_with (first | (go_at_call 96; refine (plus_calls a b ha hb _).mono ?_; rintro e w0 ⟨rfl, hbel⟩; obtain ⟨o1, j1, rfl⟩ := grow_of_below hbel; clear hbel))
    refine bodyPost_ret (by simp [results, Try.results66, go_sem, *]) rfl ⟨rfl, ?_⟩
    repeat (first | (with_reducible exact Below.refl _ _) | ((with_reducible refine below_grow ?_ ?_); rotate_left; focus (first | omega | (simp [go_sem]; done) | (simp [go_sem]; omega))) | ((with_reducible refine Below.alloc ?_ ?_ _); rotate_left; focus (first | omega | (simp [go_sem]; done) | (simp [go_sem]; omega))) | ((with_reducible refine Below.setCell ?_ ?_ _); rotate_left; focus (first | omega | (simp [go_sem]; done) | (simp [go_sem]; omega))) | (with_reducible refine Below.drew ?_) | (with_reducible refine below_drewN _ ?_))
  · obtain ⟨e1, e2, e3⟩ := add_no ha hb h
    go_enter Try.func66, Try.ntmps66
    go_wp2_with (first | (go_at_call 96; refine (plus_calls a b ha hb _).mono ?_; rintro e w0 ⟨rfl, hbel⟩; obtain ⟨o1, j1, rfl⟩ := grow_of_below hbel; clear hbel))
    refine bodyPost_ret (by simp [results, Try.results66, go_sem, *, pt_zero]) rfl ⟨rfl, ?_⟩
    repeat (first | (with_reducible exact Below.refl _ _) | ((with_reducible refine below_grow ?_ ?_); rotate_left; focus (first | omega | (simp [go_sem]; done) | (simp [go_sem]; omega))) | ((with_reducible refine Below.alloc ?_ ?_ _); rotate_left; focus (first | omega | (simp [go_sem]; done) | (simp [go_sem]; omega))) | ((with_reducible refine Below.setCell ?_ ?_ _); rotate_left; focus (first | omega | (simp [go_sem]; done) | (simp [go_sem]; omega))) | (with_reducible refine Below.drew ?_) | (with_reducible refine below_drewN _ ?_))
set_option maxHeartbeats 2000000 in
theorem sub_calls (a b : Nat) (ha : isN a) (hb : isN b) (w : World) :
    Calls Try.prog 43 #[.agg #[.int .u32 (pt a 0), .int .u32 (pt a 1), .int .u32 (pt a 2), .int .u32 (pt a 3)], .agg #[.int .u32 (pt b 0), .int .u32 (pt b 1), .int .u32 (pt b 2), .int .u32 (pt b 3)]] w fun e w' => e = .returned (.tuple #[.agg #[.int .u32 (pt (subR a b) 0), .int .u32 (pt (subR a b) 1), .int .u32 (pt (subR a b) 2), .int .u32 (pt (subR a b) 3)], .int .i64 (subE a b)]) ∧ Below w.heap.size w w' := by
  by_cases h : a < b
  · obtain ⟨e1, e2, e3⟩ := sub_no h
    go_enter Try.func43, Try.ntmps43
    go_wp2_with (first | (go_at_call 65; refine (minus_calls a b ha hb _).mono ?_; rintro e w0 ⟨rfl, hbel⟩; obtain ⟨o1, j1, rfl⟩ := grow_of_below hbel; clear hbel))
    refine bodyPost_ret (by simp [results, Try.results43, go_sem, *, pt_zero]) rfl ⟨rfl, ?_⟩
    repeat (first | (with_reducible exact Below.refl _ _) | ((with_reducible refine below_grow ?_ ?_); rotate_left; focus (first | omega | (simp [go_sem]; done) | (simp [go_sem]; omega))) | ((with_reducible refine Below.alloc ?_ ?_ _); rotate_left; focus (first | omega | (simp [go_sem]; done) | (simp [go_sem]; omega))) | ((with_reducible refine Below.setCell ?_ ?_ _); rotate_left; focus (first | omega | (simp [go_sem]; done) | (simp [go_sem]; omega))) | (with_reducible refine Below.drew ?_) | (with_reducible refine below_drewN _ ?_))
  · obtain ⟨e1, e2, e3, e4⟩ := sub_yes ha h
    go_enter Try.func43, Try.ntmps43
    go_wp2_with (first | (go_at_call 65; refine (minus_calls a b ha hb _).mono ?_; rintro e w0 ⟨rfl, hbel⟩; obtain ⟨o1, j1, rfl⟩ := grow_of_below hbel; clear hbel))
    refine bodyPost_ret (by simp [results, Try.results43, go_sem, *]) rfl ⟨rfl, ?_⟩
    repeat (first | (with_reducible exact Below.refl _ _) | ((with_reducible refine below_grow ?_ ?_); rotate_left; focus (first | omega | (simp [go_sem]; done) | (simp [go_sem]; omega))) | ((with_reducible refine Below.alloc ?_ ?_ _); rotate_left; focus (first | omega | (simp [go_sem]; done) | (simp [go_sem]; omega))) | ((with_reducible refine Below.setCell ?_ ?_ _); rotate_left; focus (first | omega | (simp [go_sem]; done) | (simp [go_sem]; omega))) | (with_reducible refine Below.drew ?_) | (with_reducible refine below_drewN _ ?_))

theorem nv_ne {b : Nat} (hb : isN b) (h : b ≠ 0) : ¬ (pt b 0 = 0 ∧ pt b 1 = 0 ∧ pt b 2 = 0 ∧ pt b 3 = 0) := by
  intro g
  have := pt_sum b hb
  rw [g.1, g.2.1, g.2.2.1, g.2.2.2] at this
  omega
theorem nv_inj {a b : Nat} (ha : isN a) (hb : isN b) (h0 : pt a 0 = pt b 0) (h1 : pt a 1 = pt b 1) (h2 : pt a 2 = pt b 2) (h3 : pt a 3 = pt b 3) : a = b := by
  have ka := pt_sum a ha
  have kb := pt_sum b hb
  rw [h0, h1, h2, h3] at ka
  omega

theorem eqN (a0 a1 a2 a3 b0 b1 b2 b3 : Int) (w : World) : (Op.equalIn 10000 25 (.agg #[.int .u32 a0, .int .u32 a1, .int .u32 a2, .int .u32 a3]) (.agg #[.int .u32 b0, .int .u32 b1, .int .u32 b2, .int .u32 b3])).run Try.prog w = .ok (decide (a0 = b0 ∧ a1 = b1 ∧ a2 = b2 ∧ a3 = b3)) w := by
  have u3 := Try.underlying23
  have a3' := Try.isAgg23
  have z3 := Try.sizeOf23
  rw [show (10000 : Nat) = 9999 + 1 from rfl, Op.equalIn]
  simp only [Sem.run_bind, run_underlying Try.underlying25, Result.andThen_ok]
  simp only [Std.Legacy.Range.forIn_eq_forIn_range', Std.Legacy.Range.size, Nat.sub_zero, Nat.add_sub_cancel, Nat.div_one, List.range'_succ, List.range'_zero, List.forIn_cons, List.forIn_nil]
  go_simp
  by_cases h1 : a0 = b0 <;> by_cases h2 : a1 = b1 <;> by_cases h3 : a2 = b2 <;> by_cases h4 : a3 = b3 <;> simp [h1, h2, h3, h4]
@[go_sem] theorem eqNv (a b : Nat) (ha : isN a) (hb : isN b) (w : World) : (Op.equalIn 10000 25 (.agg #[.int .u32 (pt a 0), .int .u32 (pt a 1), .int .u32 (pt a 2), .int .u32 (pt a 3)]) (.agg #[.int .u32 (pt b 0), .int .u32 (pt b 1), .int .u32 (pt b 2), .int .u32 (pt b 3)])).run Try.prog w = .ok (decide (a = b)) w := by
  rw [eqN]
  congr 1
  rw [decide_eq_decide]
  exact ⟨fun ⟨h0, h1, h2, h3⟩ => nv_inj ha hb h0 h1 h2 h3, fun h => by subst h; exact ⟨rfl, rfl, rfl, rfl⟩⟩
@[go_sem] theorem eqNz (a : Nat) (ha : isN a) (w : World) : (Op.equalIn 10000 25 (.agg #[.int .u32 (pt a 0), .int .u32 (pt a 1), .int .u32 (pt a 2), .int .u32 (pt a 3)]) (.agg #[.int .u32 0, .int .u32 0, .int .u32 0, .int .u32 0])).run Try.prog w = .ok (decide (a = 0)) w := by
  have := eqNv a 0 ha zeroN w
  simp only [pt_zero] at this
  exact this
set_option maxRecDepth 100000 in
set_option maxHeartbeats 2000000 in
theorem div_calls (a b : Nat) (ha : isN a) (hb : isN b) (hb0 : b ≠ 0) (w : World) :
    Calls Try.prog 23 #[.agg #[.int .u32 (pt a 0), .int .u32 (pt a 1), .int .u32 (pt a 2), .int .u32 (pt a 3)], .agg #[.int .u32 (pt b 0), .int .u32 (pt b 1), .int .u32 (pt b 2), .int .u32 (pt b 3)]] w fun e w' => e = .returned (.tuple #[.agg #[.int .u32 (pt (a / b) 0), .int .u32 (pt (a / b) 1), .int .u32 (pt (a / b) 2), .int .u32 (pt (a / b) 3)], .agg #[.int .u32 (pt (a % b) 0), .int .u32 (pt (a % b) 1), .int .u32 (pt (a % b) 2), .int .u32 (pt (a % b) 3)], .int .i64 0]) ∧ Below w.heap.size w w' := by
  have hne : decide (b = 0) = false := by simp [hb0]
  go_enter Try.func23, Try.ntmps23
  go_wp2_with (first | (go_at_call 52; refine (divided_calls a b ha hb hb0 _).mono ?_; rintro e w0 ⟨rfl, hbel⟩; obtain ⟨o1, j1, rfl⟩ := grow_of_below hbel; clear hbel))
  go_region_held3 (fun w' => w'.cell? ⟨w.heap.size + 1 + 1 + 1 + 1 + sz o1, 0, none⟩ = some (.int .u32 (pt (a / b) 0)) ∧ w'.cell? ⟨w.heap.size + 1 + 1 + 1 + 1 + sz o1, 1, none⟩ = some (.int .u32 (pt (a / b) 1)) ∧ w'.cell? ⟨w.heap.size + 1 + 1 + 1 + 1 + sz o1, 2, none⟩ = some (.int .u32 (pt (a / b) 2)) ∧ w'.cell? ⟨w.heap.size + 1 + 1 + 1 + 1 + sz o1, 3, none⟩ = some (.int .u32 (pt (a / b) 3)) ∧ w'.cell? ⟨w.heap.size + 1 + 1 + 1 + 1 + sz o1 + 1, 0, none⟩ = some (.int .u32 (pt (a % b) 0)) ∧ w'.cell? ⟨w.heap.size + 1 + 1 + 1 + 1 + sz o1 + 1, 1, none⟩ = some (.int .u32 (pt (a % b) 1)) ∧ w'.cell? ⟨w.heap.size + 1 + 1 + 1 + 1 + sz o1 + 1, 2, none⟩ = some (.int .u32 (pt (a % b) 2)) ∧ w'.cell? ⟨w.heap.size + 1 + 1 + 1 + 1 + sz o1 + 1, 3, none⟩ = some (.int .u32 (pt (a % b) 3))) (simp [*, go_sem]) (fail)
  go_wp2
  refine bodyPost_ret (by simp [results, Try.results23, go_sem]) rfl ⟨rfl, ?_⟩
  repeat (first | (with_reducible exact Below.refl _ _) | ((with_reducible refine below_grow ?_ ?_); rotate_left; focus (first | omega | (simp [go_sem]; done) | (simp [go_sem]; omega))) | ((with_reducible refine Below.alloc ?_ ?_ _); rotate_left; focus (first | omega | (simp [go_sem]; done) | (simp [go_sem]; omega))) | ((with_reducible refine Below.setCell ?_ ?_ _); rotate_left; focus (first | omega | (simp [go_sem]; done) | (simp [go_sem]; omega))) | (with_reducible refine Below.drew ?_) | (with_reducible refine below_drewN _ ?_))
set_option maxRecDepth 100000 in
set_option maxHeartbeats 2000000 in
theorem div_zero (a : Nat) (w : World) :
    Calls Try.prog 23 #[.agg #[.int .u32 (pt a 0), .int .u32 (pt a 1), .int .u32 (pt a 2), .int .u32 (pt a 3)], .agg #[.int .u32 (pt 0 0), .int .u32 (pt 0 1), .int .u32 (pt 0 2), .int .u32 (pt 0 3)]] w fun e w' => e = .returned (.tuple #[.agg #[.int .u32 (pt 0 0), .int .u32 (pt 0 1), .int .u32 (pt 0 2), .int .u32 (pt 0 3)], .agg #[.int .u32 (pt 0 0), .int .u32 (pt 0 1), .int .u32 (pt 0 2), .int .u32 (pt 0 3)], .int .i64 2]) ∧ Below w.heap.size w w' := by
  have hz := eqN 0 0 0 0 0 0 0 0
  simp only [pt_zero]
  go_enter Try.func23, Try.ntmps23
  go_wp2
  refine bodyPost_ret (by simp [results, Try.results23, go_sem]) rfl ⟨rfl, ?_⟩
  repeat (first | (with_reducible exact Below.refl _ _) | ((with_reducible refine below_grow ?_ ?_); rotate_left; focus (first | omega | (simp [go_sem]; done) | (simp [go_sem]; omega))) | ((with_reducible refine Below.alloc ?_ ?_ _); rotate_left; focus (first | omega | (simp [go_sem]; done) | (simp [go_sem]; omega))) | ((with_reducible refine Below.setCell ?_ ?_ _); rotate_left; focus (first | omega | (simp [go_sem]; done) | (simp [go_sem]; omega))) | (with_reducible refine Below.drew ?_) | (with_reducible refine below_drewN _ ?_))
end Go.Proofs.Ytcgecgagecobeaa
