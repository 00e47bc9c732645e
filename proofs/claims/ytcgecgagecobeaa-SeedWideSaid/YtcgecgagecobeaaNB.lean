/- Walks of nat's parts: plus, minus. -/
import Derived.Test.YtcgecgagecobeaaNL
import Derived.Test.YtcgecgagecobeaaNm
import Derived.Deep.RegionHeld3
import Derived.StillTailTactics
import Derived.Deep.RegionWith
namespace Go.Proofs.Ytcgecgagecobeaa
open Go.RowKit

def isN (a : Nat) : Prop := a < 340282366920938463463374607431768211456
def addN (a b : Nat) : Nat := (a + b) % 340282366920938463463374607431768211456
def carN (a b : Nat) : Int := ((a + b) / 340282366920938463463374607431768211456 : Nat)
def subN (a b : Nat) : Nat := (340282366920938463463374607431768211456 + a - b) % 340282366920938463463374607431768211456
def borN (a b : Nat) : Int := if a < b then 1 else 0
theorem add32_ex (x y c : Int) (hx : 0 ≤ x ∧ x ≤ 4294967295) (hy : 0 ≤ y ∧ y ≤ 4294967295) (hc : 0 ≤ c ∧ c ≤ 1) (w : World) :
    Calls Try.prog 125 #[.int .u32 x, .int .u32 y, .int .u32 c] w fun e w' => ∃ s d : Int, (0 ≤ s ∧ s ≤ 4294967295) ∧ (0 ≤ d ∧ d ≤ 1) ∧ Hid (s + 4294967296 * d = x + y + c) ∧ e = .returned (.tuple #[.int .u32 s, .int .u32 d]) ∧ w = w' :=
  (add32_calls x y c hx hy hc w).mono fun e w' ⟨he, hw⟩ => ⟨_, _, by omega, by omega, Lib.hid (by omega), he, hw⟩
theorem sub32_ex (x y c : Int) (hx : 0 ≤ x ∧ x ≤ 4294967295) (hy : 0 ≤ y ∧ y ≤ 4294967295) (hc : 0 ≤ c ∧ c ≤ 1) (w : World) :
    Calls Try.prog 95 #[.int .u32 x, .int .u32 y, .int .u32 c] w fun e w' => ∃ s d : Int, (0 ≤ s ∧ s ≤ 4294967295) ∧ (0 ≤ d ∧ d ≤ 1) ∧ Hid (s - 4294967296 * d = x - y - c) ∧ e = .returned (.tuple #[.int .u32 s, .int .u32 d]) ∧ w = w' :=
  (sub32_calls x y c hx hy hc w).mono fun e w' ⟨he, hw⟩ => ⟨_, _, by omega, bor_le _ _, Lib.hid (by unfold bor; split <;> omega), he, hw⟩

set_option maxHeartbeats 2000000 in
theorem plus_calls (a b : Nat) (ha : isN a) (hb : isN b) (w : World) :
    Calls Try.prog 96 #[.agg #[.int .u32 (pt a 0), .int .u32 (pt a 1), .int .u32 (pt a 2), .int .u32 (pt a 3)], .agg #[.int .u32 (pt b 0), .int .u32 (pt b 1), .int .u32 (pt b 2), .int .u32 (pt b 3)]] w fun e w' => e = .returned (.tuple #[.agg #[.int .u32 (pt (addN a b) 0), .int .u32 (pt (addN a b) 1), .int .u32 (pt (addN a b) 2), .int .u32 (pt (addN a b) 3)], .int .u32 (carN a b)]) ∧ Below w.heap.size w w' := by
  have a0 := pt_bd a 0
  have a1 := pt_bd a 1
  have a2 := pt_bd a 2
  have a3 := pt_bd a 3
  have b0 := pt_bd b 0
  have b1 := pt_bd b 1
  have b2 := pt_bd b 2
  have b3 := pt_bd b 3
  go_enter Try.func96, Try.ntmps96
  go_wp2
  refine wp_loop_rounds 5 ?_
  rw [rounds_succ]
  go_wp2
  go_region_held3 (fun w' => w'.cell? ⟨w.heap.size, 0, none⟩ = some (.int .u32 (pt a 0)) ∧ w'.cell? ⟨w.heap.size + 1, 0, none⟩ = some (.int .u32 (pt b 0))) (simp [*, go_sem]) (first | (go_at_call 125; refine (add32_ex _ _ _ (by omega) (by omega) (by omega) _).mono ?_; rintro e w0 ⟨s0, c1, hs0, hc1, E0, rfl, rfl⟩))
  go_wp2
  rw [rounds_succ]
  go_wp2
  go_region_held3 (fun w' => w'.cell? ⟨w.heap.size, 1, none⟩ = some (.int .u32 (pt a 1)) ∧ w'.cell? ⟨w.heap.size + 1, 1, none⟩ = some (.int .u32 (pt b 1))) (simp [*, go_sem]) (first | (go_at_call 125; refine (add32_ex _ _ _ (by omega) (by omega) (by omega) _).mono ?_; rintro e w0 ⟨s1, c2, hs1, hc2, E1, rfl, rfl⟩))
  go_wp2
  rw [rounds_succ]
  go_wp2
  go_region_held3 (fun w' => w'.cell? ⟨w.heap.size, 2, none⟩ = some (.int .u32 (pt a 2)) ∧ w'.cell? ⟨w.heap.size + 1, 2, none⟩ = some (.int .u32 (pt b 2))) (simp [*, go_sem]) (first | (go_at_call 125; refine (add32_ex _ _ _ (by omega) (by omega) (by omega) _).mono ?_; rintro e w0 ⟨s2, c3, hs2, hc3, E2, rfl, rfl⟩))
  go_wp2
  rw [rounds_succ]
  go_wp2
  go_region_held3 (fun w' => w'.cell? ⟨w.heap.size, 3, none⟩ = some (.int .u32 (pt a 3)) ∧ w'.cell? ⟨w.heap.size + 1, 3, none⟩ = some (.int .u32 (pt b 3))) (simp [*, go_sem]) (first | (go_at_call 125; refine (add32_ex _ _ _ (by omega) (by omega) (by omega) _).mono ?_; rintro e w0 ⟨s3, c4, hs3, hc4, E3, rfl, rfl⟩))
  go_wp2
  rw [rounds_succ]
  go_wp2
  have F : s0 = pt (addN a b) 0 ∧ s1 = pt (addN a b) 1 ∧ s2 = pt (addN a b) 2 ∧ s3 = pt (addN a b) 3 ∧ c4 = carN a b := plus_fin a b ha hb s0 s1 s2 s3 c1 c2 c3 c4 hs0 hs1 hs2 hs3 (by have := E0.out; omega) (by have := E1.out; omega) (by have := E2.out; omega) (by have := E3.out; omega)
  obtain ⟨F0, F1, F2, F3, F4⟩ := F
  clear E0 E1 E2 E3 hs0 hs1 hs2 hs3 hc1 hc2 hc3 hc4
  subst F0 F1 F2 F3 F4
  refine bodyPost_ret (by simp [results, Try.results96, go_sem]) rfl ⟨rfl, ?_⟩
  repeat (first | (with_reducible exact Below.refl _ _) | ((with_reducible refine below_grow ?_ ?_); rotate_left; focus (first | omega | (simp [go_sem]; done) | (simp [go_sem]; omega))) | ((with_reducible refine Below.alloc ?_ ?_ _); rotate_left; focus (first | omega | (simp [go_sem]; done) | (simp [go_sem]; omega))) | ((with_reducible refine Below.setCell ?_ ?_ _); rotate_left; focus (first | omega | (simp [go_sem]; done) | (simp [go_sem]; omega))) | (with_reducible refine Below.drew ?_) | (with_reducible refine below_drewN _ ?_))

set_option maxHeartbeats 2000000 in
theorem minus_calls (a b : Nat) (ha : isN a) (hb : isN b) (w : World) :
    Calls Try.prog 65 #[.agg #[.int .u32 (pt a 0), .int .u32 (pt a 1), .int .u32 (pt a 2), .int .u32 (pt a 3)], .agg #[.int .u32 (pt b 0), .int .u32 (pt b 1), .int .u32 (pt b 2), .int .u32 (pt b 3)]] w fun e w' => e = .returned (.tuple #[.agg #[.int .u32 (pt (subN a b) 0), .int .u32 (pt (subN a b) 1), .int .u32 (pt (subN a b) 2), .int .u32 (pt (subN a b) 3)], .int .u32 (borN a b)]) ∧ Below w.heap.size w w' := by
  have a0 := pt_bd a 0
  have a1 := pt_bd a 1
  have a2 := pt_bd a 2
  have a3 := pt_bd a 3
  have b0 := pt_bd b 0
  have b1 := pt_bd b 1
  have b2 := pt_bd b 2
  have b3 := pt_bd b 3
  go_enter Try.func65, Try.ntmps65
  go_wp2
  refine wp_loop_rounds 5 ?_
  rw [rounds_succ]
  go_wp2
  go_region_held3 (fun w' => w'.cell? ⟨w.heap.size, 0, none⟩ = some (.int .u32 (pt a 0)) ∧ w'.cell? ⟨w.heap.size + 1, 0, none⟩ = some (.int .u32 (pt b 0))) (simp [*, go_sem]) (first | (go_at_call 95; refine (sub32_ex _ _ _ (by omega) (by omega) (by omega) _).mono ?_; rintro e w0 ⟨s0, c1, hs0, hc1, E0, rfl, rfl⟩))
  go_wp2
  rw [rounds_succ]
  go_wp2
  go_region_held3 (fun w' => w'.cell? ⟨w.heap.size, 1, none⟩ = some (.int .u32 (pt a 1)) ∧ w'.cell? ⟨w.heap.size + 1, 1, none⟩ = some (.int .u32 (pt b 1))) (simp [*, go_sem]) (first | (go_at_call 95; refine (sub32_ex _ _ _ (by omega) (by omega) (by omega) _).mono ?_; rintro e w0 ⟨s1, c2, hs1, hc2, E1, rfl, rfl⟩))
  go_wp2
  rw [rounds_succ]
  go_wp2
  go_region_held3 (fun w' => w'.cell? ⟨w.heap.size, 2, none⟩ = some (.int .u32 (pt a 2)) ∧ w'.cell? ⟨w.heap.size + 1, 2, none⟩ = some (.int .u32 (pt b 2))) (simp [*, go_sem]) (first | (go_at_call 95; refine (sub32_ex _ _ _ (by omega) (by omega) (by omega) _).mono ?_; rintro e w0 ⟨s2, c3, hs2, hc3, E2, rfl, rfl⟩))
  go_wp2
  rw [rounds_succ]
  go_wp2
  go_region_held3 (fun w' => w'.cell? ⟨w.heap.size, 3, none⟩ = some (.int .u32 (pt a 3)) ∧ w'.cell? ⟨w.heap.size + 1, 3, none⟩ = some (.int .u32 (pt b 3))) (simp [*, go_sem]) (first | (go_at_call 95; refine (sub32_ex _ _ _ (by omega) (by omega) (by omega) _).mono ?_; rintro e w0 ⟨s3, c4, hs3, hc4, E3, rfl, rfl⟩))
  go_wp2
  rw [rounds_succ]
  go_wp2
  have F : s0 = pt (subN a b) 0 ∧ s1 = pt (subN a b) 1 ∧ s2 = pt (subN a b) 2 ∧ s3 = pt (subN a b) 3 ∧ c4 = borN a b := minus_fin a b ha hb s0 s1 s2 s3 c1 c2 c3 c4 hs0 hs1 hs2 hs3 (by have := E0.out; omega) (by have := E1.out; omega) (by have := E2.out; omega) (by have := E3.out; omega)
  obtain ⟨F0, F1, F2, F3, F4⟩ := F
  clear E0 E1 E2 E3 hs0 hs1 hs2 hs3 hc1 hc2 hc3 hc4
  subst F0 F1 F2 F3 F4
  refine bodyPost_ret (by simp [results, Try.results65, go_sem]) rfl ⟨rfl, ?_⟩
  repeat (first | (with_reducible exact Below.refl _ _) | ((with_reducible refine below_grow ?_ ?_); rotate_left; focus (first | omega | (simp [go_sem]; done) | (simp [go_sem]; omega))) | ((with_reducible refine Below.alloc ?_ ?_ _); rotate_left; focus (first | omega | (simp [go_sem]; done) | (simp [go_sem]; omega))) | ((with_reducible refine Below.setCell ?_ ?_ _); rotate_left; focus (first | omega | (simp [go_sem]; done) | (simp [go_sem]; omega))) | (with_reducible refine Below.drew ?_) | (with_reducible refine below_drewN _ ?_))

end Go.Proofs.Ytcgecgagecobeaa
