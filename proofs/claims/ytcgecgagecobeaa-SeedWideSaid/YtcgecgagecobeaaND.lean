/- Walks of nat's parts: length. -/
import Derived.Test.YtcgecgagecobeaaNB
namespace Go.Proofs.Ytcgecgagecobeaa
open Go.RowKit

theorem top_pt (a i : Nat) (h : a < 4294967296 ^ (i + 1)) : ((a / 2 ^ (32 * i) : Nat) : Int) = pt a i := by
  unfold pt
  have e : 2 ^ (32 * i) = 4294967296 ^ i := by rw [Nat.pow_mul]
  rw [e, Nat.mod_eq_of_lt]
  rw [Nat.div_lt_iff_lt_mul (Nat.pow_pos (by decide)), Nat.mul_comm, ← Nat.pow_succ]; exact h
theorem len_top (a i : Nat) (h : a < 4294967296 ^ (i + 1)) (hp : 1 ≤ pt a i) (s : Int) (hs : lenP (pt a i) s) (hi : i ≤ 3) : ∃ L : Nat, 32 * (i : Int) + s = L ∧ isLen a L ∧ L ≤ 128 := by
  obtain ⟨n, L, h1, rfl, h3, h4⟩ := hs
  have e := top_pt a i h
  rw [h1] at e hp
  have e' : a / 2 ^ (32 * i) = n := by exact_mod_cast e
  refine ⟨32 * i + L, by omega, isLen_shift a (32 * i) L (by rw [e']; exact h3) (by rw [e']; omega), by omega⟩
theorem lows (a : Nat) (ha : isN a) : a < 4294967296 ^ (3 + 1) ∧ (pt a 3 = 0 → a < 4294967296 ^ (2 + 1)) ∧ (pt a 3 = 0 → pt a 2 = 0 → a < 4294967296 ^ (1 + 1)) ∧ (pt a 3 = 0 → pt a 2 = 0 → pt a 1 = 0 → a < 4294967296 ^ (0 + 1)) ∧ (pt a 3 = 0 → pt a 2 = 0 → pt a 1 = 0 → pt a 0 = 0 → a = 0) := by
  have a0 := pt_bd a 0
  have a1 := pt_bd a 1
  have a2 := pt_bd a 2
  have a3 := pt_bd a 3
  have s := pt_sum a ha
  have ha' : a < 340282366920938463463374607431768211456 := ha
  refine ⟨ha', fun _ => ?_, fun _ _ => ?_, fun _ _ _ => ?_, fun _ _ _ _ => ?_⟩
  · rw [show (4294967296 : Nat) ^ (2 + 1) = 79228162514264337593543950336 from by decide]; omega
  · rw [show (4294967296 : Nat) ^ (1 + 1) = 18446744073709551616 from by decide]; omega
  · rw [show (4294967296 : Nat) ^ (0 + 1) = 4294967296 from by decide]; omega
  · omega
/-- How many bits. -/
def LenPostN (a : Nat) (w : World) (e : Ending) (w' : World) : Prop := ∃ L : Nat, e = .returned (.int .i64 L) ∧ isLen a L ∧ L ≤ 128 ∧ Below w.heap.size w w'
set_option maxHeartbeats 2000000 in
theorem length_calls (a : Nat) (ha : isN a) (w : World) :
    Calls Try.prog 69 #[.agg #[.int .u32 (pt a 0), .int .u32 (pt a 1), .int .u32 (pt a 2), .int .u32 (pt a 3)]] w (LenPostN a w) := by
  have a0 := pt_bd a 0
  have a1 := pt_bd a 1
  have a2 := pt_bd a 2
  have a3 := pt_bd a 3
  obtain ⟨l3, l2, l1, l0, lz⟩ := lows a ha
  have G3 := fun hp s hs => len_top a 3 l3 hp s hs (by decide)
  by_cases z3 : pt a 3 = 0
  rotate_left
  · have G := Lib.hid (G3 (by omega))
    clear l3 l2 l1 l0 lz G3
    have p3 : 1 ≤ pt a 3 := by omega
    clear z3
    go_enter Try.func69, Try.ntmps69
    go_wp2
    refine wp_loop_rounds 5 ?_
    rw [rounds_succ]
    go_wp2_with (first | (go_at_call 97; refine (len32_calls _ a3 _).mono ?_; rintro e w0 ⟨s, rfl, hs, rfl⟩; obtain ⟨L, hL, hl, hm⟩ := G.out s hs))
    go_ret
    exact ⟨L, ret_int (by omega), hl, hm, by repeat (first | (with_reducible exact Below.refl _ _) | ((with_reducible refine below_grow ?_ ?_); rotate_left; focus (first | omega | (simp [go_sem]; done) | (simp [go_sem]; omega))) | ((with_reducible refine Below.alloc ?_ ?_ _); rotate_left; focus (first | omega | (simp [go_sem]; done) | (simp [go_sem]; omega))) | ((with_reducible refine Below.setCell ?_ ?_ _); rotate_left; focus (first | omega | (simp [go_sem]; done) | (simp [go_sem]; omega))) | (with_reducible refine Below.drew ?_) | (with_reducible refine below_drewN _ ?_))⟩
  have G2 := fun hp s hs => len_top a 2 (l2 z3) hp s hs (by decide)
  by_cases z2 : pt a 2 = 0
  rotate_left
  · have G := Lib.hid (G2 (by omega))
    clear l3 l2 l1 l0 lz G3 G2
    have p2 : 1 ≤ pt a 2 := by omega
    clear z2
    go_enter Try.func69, Try.ntmps69
    go_wp2
    refine wp_loop_rounds 5 ?_
    rw [rounds_succ]
    go_wp2
    rw [rounds_succ]
    go_wp2_with (first | (go_at_call 97; refine (len32_calls _ a2 _).mono ?_; rintro e w0 ⟨s, rfl, hs, rfl⟩; obtain ⟨L, hL, hl, hm⟩ := G.out s hs))
    go_ret
    exact ⟨L, ret_int (by omega), hl, hm, by repeat (first | (with_reducible exact Below.refl _ _) | ((with_reducible refine below_grow ?_ ?_); rotate_left; focus (first | omega | (simp [go_sem]; done) | (simp [go_sem]; omega))) | ((with_reducible refine Below.alloc ?_ ?_ _); rotate_left; focus (first | omega | (simp [go_sem]; done) | (simp [go_sem]; omega))) | ((with_reducible refine Below.setCell ?_ ?_ _); rotate_left; focus (first | omega | (simp [go_sem]; done) | (simp [go_sem]; omega))) | (with_reducible refine Below.drew ?_) | (with_reducible refine below_drewN _ ?_))⟩
  have G1 := fun hp s hs => len_top a 1 (l1 z3 z2) hp s hs (by decide)
  by_cases z1 : pt a 1 = 0
  rotate_left
  · have G := Lib.hid (G1 (by omega))
    clear l3 l2 l1 l0 lz G3 G2 G1
    have p1 : 1 ≤ pt a 1 := by omega
    clear z1
    go_enter Try.func69, Try.ntmps69
    go_wp2
    refine wp_loop_rounds 5 ?_
    rw [rounds_succ]
    go_wp2
    rw [rounds_succ]
    go_wp2
    rw [rounds_succ]
    go_wp2_with (first | (go_at_call 97; refine (len32_calls _ a1 _).mono ?_; rintro e w0 ⟨s, rfl, hs, rfl⟩; obtain ⟨L, hL, hl, hm⟩ := G.out s hs))
    go_ret
    exact ⟨L, ret_int (by omega), hl, hm, by repeat (first | (with_reducible exact Below.refl _ _) | ((with_reducible refine below_grow ?_ ?_); rotate_left; focus (first | omega | (simp [go_sem]; done) | (simp [go_sem]; omega))) | ((with_reducible refine Below.alloc ?_ ?_ _); rotate_left; focus (first | omega | (simp [go_sem]; done) | (simp [go_sem]; omega))) | ((with_reducible refine Below.setCell ?_ ?_ _); rotate_left; focus (first | omega | (simp [go_sem]; done) | (simp [go_sem]; omega))) | (with_reducible refine Below.drew ?_) | (with_reducible refine below_drewN _ ?_))⟩
  have G0 := fun hp s hs => len_top a 0 (l0 z3 z2 z1) hp s hs (by decide)
  by_cases z0 : pt a 0 = 0
  rotate_left
  · have G := Lib.hid (G0 (by omega))
    clear l3 l2 l1 l0 lz G3 G2 G1 G0
    have p0 : 1 ≤ pt a 0 := by omega
    clear z0
    go_enter Try.func69, Try.ntmps69
    go_wp2
    refine wp_loop_rounds 5 ?_
    rw [rounds_succ]
    go_wp2
    rw [rounds_succ]
    go_wp2
    rw [rounds_succ]
    go_wp2
    rw [rounds_succ]
    go_wp2_with (first | (go_at_call 97; refine (len32_calls _ a0 _).mono ?_; rintro e w0 ⟨s, rfl, hs, rfl⟩; obtain ⟨L, hL, hl, hm⟩ := G.out s hs))
    go_ret
    exact ⟨L, ret_int (by omega), hl, hm, by repeat (first | (with_reducible exact Below.refl _ _) | ((with_reducible refine below_grow ?_ ?_); rotate_left; focus (first | omega | (simp [go_sem]; done) | (simp [go_sem]; omega))) | ((with_reducible refine Below.alloc ?_ ?_ _); rotate_left; focus (first | omega | (simp [go_sem]; done) | (simp [go_sem]; omega))) | ((with_reducible refine Below.setCell ?_ ?_ _); rotate_left; focus (first | omega | (simp [go_sem]; done) | (simp [go_sem]; omega))) | (with_reducible refine Below.drew ?_) | (with_reducible refine below_drewN _ ?_))⟩
  · clear l3 l2 l1 l0 G3 G2 G1 G0
    have hz := Lib.hid (lz z3 z2 z1 z0)
    clear lz
    go_enter Try.func69, Try.ntmps69
    go_wp2
    refine wp_loop_rounds 5 ?_
    rw [rounds_succ]
    go_wp2
    rw [rounds_succ]
    go_wp2
    rw [rounds_succ]
    go_wp2
    rw [rounds_succ]
    go_wp2
    rw [rounds_succ]
    go_wp2
    go_ret
    exact ⟨0, rfl, by rw [hz.out]; decide, by decide, by repeat (first | (with_reducible exact Below.refl _ _) | ((with_reducible refine below_grow ?_ ?_); rotate_left; focus (first | omega | (simp [go_sem]; done) | (simp [go_sem]; omega))) | ((with_reducible refine Below.alloc ?_ ?_ _); rotate_left; focus (first | omega | (simp [go_sem]; done) | (simp [go_sem]; omega))) | ((with_reducible refine Below.setCell ?_ ?_ _); rotate_left; focus (first | omega | (simp [go_sem]; done) | (simp [go_sem]; omega))) | (with_reducible refine Below.drew ?_) | (with_reducible refine below_drewN _ ?_))⟩
end Go.Proofs.Ytcgecgagecobeaa
