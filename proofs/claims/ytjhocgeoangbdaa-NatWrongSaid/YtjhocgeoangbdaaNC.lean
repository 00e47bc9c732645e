/- Walks of nat's parts: tenfold, tenth, length. -/
import Derived.Test.YtjhocgeoangbdaaNB
namespace Go.Proofs.Ytjhocgeoangbdaa
open Go.RowKit

def tenN (a : Nat) (d : Int) : Nat := (a * 10 + d.toNat) % 340282366920938463463374607431768211456
def tenC (a : Nat) (d : Int) : Int := ((a * 10 + d.toNat) / 340282366920938463463374607431768211456 : Nat)
theorem tenfold_eq (a : Nat) (d : Int) (hd : 0 ≤ d ∧ d ≤ 9) (ha : isN a) :
    (pt a 0 * 10 + d) % 4294967296 = pt (tenN a d) 0 ∧ (pt a 1 * 10 + (pt a 0 * 10 + d) / 4294967296) % 4294967296 = pt (tenN a d) 1 ∧ (pt a 2 * 10 + (pt a 1 * 10 + (pt a 0 * 10 + d) / 4294967296) / 4294967296) % 4294967296 = pt (tenN a d) 2 ∧ (pt a 3 * 10 + (pt a 2 * 10 + (pt a 1 * 10 + (pt a 0 * 10 + d) / 4294967296) / 4294967296) / 4294967296) % 4294967296 = pt (tenN a d) 3 ∧ (pt a 3 * 10 + (pt a 2 * 10 + (pt a 1 * 10 + (pt a 0 * 10 + d) / 4294967296) / 4294967296) / 4294967296) / 4294967296 = tenC a d := by
  have a0 := pt_bd a 0
  have a1 := pt_bd a 1
  have a2 := pt_bd a 2
  have a3 := pt_bd a 3
  obtain ⟨k, rfl⟩ := Int.eq_ofNat_of_zero_le hd.1
  exact tenfold_fin a k ha _ _ _ _ ((pt a 0 * 10 + k) / 4294967296) ((pt a 1 * 10 + (pt a 0 * 10 + k) / 4294967296) / 4294967296) ((pt a 2 * 10 + (pt a 1 * 10 + (pt a 0 * 10 + k) / 4294967296) / 4294967296) / 4294967296) _ (by omega) (by omega) (by omega) (by omega) (by omega) (by omega) (by omega) (by omega)
set_option maxHeartbeats 2000000 in
theorem tenfold_calls (a : Nat) (d : Int) (hd : 0 ≤ d ∧ d ≤ 9) (ha : isN a) (w : World) :
    Calls Try.prog 50 #[.agg #[.int .u32 (pt a 0), .int .u32 (pt a 1), .int .u32 (pt a 2), .int .u32 (pt a 3)], .int .u32 d] w fun e w' => e = .returned (.tuple #[.agg #[.int .u32 (pt (tenN a d) 0), .int .u32 (pt (tenN a d) 1), .int .u32 (pt (tenN a d) 2), .int .u32 (pt (tenN a d) 3)], .int .u32 (tenC a d)]) ∧ Below w.heap.size w w' := by
  have a0 := pt_bd a 0
  have a1 := pt_bd a 1
  have a2 := pt_bd a 2
  have a3 := pt_bd a 3
  have F := Lib.hid (tenfold_eq a d hd ha)
  go_enter Try.func50, Try.ntmps50
  go_wp2
  refine wp_loop_rounds 5 ?_
  rw [rounds_succ]
  go_wp2
  rw [rounds_succ]
  go_wp2
  rw [rounds_succ]
  go_wp2
  rw [rounds_succ]
  go_wp2
  rw [rounds_succ]
  go_wp2
  obtain ⟨F0, F1, F2, F3, F4⟩ := F.out
  refine bodyPost_ret (by simp [results, Try.results50, go_sem, F0, F1, F2, F3, F4]) rfl ⟨rfl, ?_⟩
  repeat (first | (with_reducible exact Below.refl _ _) | ((with_reducible refine below_grow ?_ ?_); rotate_left; focus (first | omega | (simp [go_sem]; done) | (simp [go_sem]; omega))) | ((with_reducible refine Below.alloc ?_ ?_ _); rotate_left; focus (first | omega | (simp [go_sem]; done) | (simp [go_sem]; omega))) | ((with_reducible refine Below.setCell ?_ ?_ _); rotate_left; focus (first | omega | (simp [go_sem]; done) | (simp [go_sem]; omega))) | (with_reducible refine Below.drew ?_) | (with_reducible refine below_drewN _ ?_))

theorem div32_ex (x y : Int) (hx : 0 ≤ x ∧ x ≤ 9) (hy : 0 ≤ y ∧ y ≤ 4294967295) (w : World) :
    Calls Try.prog 68 #[.int .u32 x, .int .u32 y, .int .u32 10] w fun e w' => ∃ s d : Int, (0 ≤ s ∧ s ≤ 4294967295) ∧ (0 ≤ d ∧ d ≤ 9) ∧ Hid (s * 10 + d = y + 4294967296 * x) ∧ e = .returned (.tuple #[.int .u32 s, .int .u32 d]) ∧ ∃ n, w.drewN n = w' :=
  (div32_calls x y hx hy w).mono fun e w' ⟨he, hw⟩ => ⟨_, _, by omega, by omega, Lib.hid (by omega), he, hw⟩
set_option maxHeartbeats 2000000 in
theorem tenth_calls (a : Nat) (ha : isN a) (w : World) :
    Calls Try.prog 47 #[.agg #[.int .u32 (pt a 0), .int .u32 (pt a 1), .int .u32 (pt a 2), .int .u32 (pt a 3)]] w fun e w' => e = .returned (.tuple #[.agg #[.int .u32 (pt (a / 10) 0), .int .u32 (pt (a / 10) 1), .int .u32 (pt (a / 10) 2), .int .u32 (pt (a / 10) 3)], .int .u32 ((a % 10 : Nat) : Int)]) ∧ Below w.heap.size w w' := by
  have a0 := pt_bd a 0
  have a1 := pt_bd a 1
  have a2 := pt_bd a 2
  have a3 := pt_bd a 3
  go_enter Try.func47, Try.ntmps47
  go_wp2
  refine wp_loop_rounds 5 ?_
  rw [rounds_succ]
  go_wp2_with (first | (go_at_call 68; refine (div32_ex _ _ (by omega) (by omega) _).mono ?_; rintro e w0 ⟨s3, c4, hs3, hc4, E3, rfl, n3, rfl⟩))
  rw [rounds_succ]
  go_wp2_with (first | (go_at_call 68; refine (div32_ex _ _ (by omega) (by omega) _).mono ?_; rintro e w0 ⟨s2, c3, hs2, hc3, E2, rfl, n2, rfl⟩))
  rw [rounds_succ]
  go_wp2_with (first | (go_at_call 68; refine (div32_ex _ _ (by omega) (by omega) _).mono ?_; rintro e w0 ⟨s1, c2, hs1, hc2, E1, rfl, n1, rfl⟩))
  rw [rounds_succ]
  go_wp2_with (first | (go_at_call 68; refine (div32_ex _ _ (by omega) (by omega) _).mono ?_; rintro e w0 ⟨s0, c1, hs0, hc1, E0, rfl, n0, rfl⟩))
  rw [rounds_succ]
  go_wp2
  have F := tenth_fin a ha s0 s1 s2 s3 c1 c2 c3 c4 hs0 hs1 hs2 hs3 hc1 (by have := E3.out; omega) (by have := E2.out; omega) (by have := E1.out; omega) (by have := E0.out; omega)
  obtain ⟨F0, F1, F2, F3, F4⟩ := F
  clear E0 E1 E2 E3 hs0 hs1 hs2 hs3 hc1 hc2 hc3 hc4
  subst F0 F1 F2 F3 F4
  refine bodyPost_ret (by simp [results, Try.results47, go_sem]) rfl ⟨rfl, ?_⟩
  repeat (first | (with_reducible exact Below.refl _ _) | ((with_reducible refine below_grow ?_ ?_); rotate_left; focus (first | omega | (simp [go_sem]; done) | (simp [go_sem]; omega))) | ((with_reducible refine Below.alloc ?_ ?_ _); rotate_left; focus (first | omega | (simp [go_sem]; done) | (simp [go_sem]; omega))) | ((with_reducible refine Below.setCell ?_ ?_ _); rotate_left; focus (first | omega | (simp [go_sem]; done) | (simp [go_sem]; omega))) | (with_reducible refine Below.drew ?_) | (with_reducible refine below_drewN _ ?_))



end Go.Proofs.Ytjhocgeoangbdaa
