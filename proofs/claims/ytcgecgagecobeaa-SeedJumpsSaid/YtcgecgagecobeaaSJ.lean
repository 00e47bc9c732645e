/- SeedJumps: the walk. -/
import Derived.Test.YtcgecgagecobeaaSH
namespace Go.Proofs.Ytcgecgagecobeaa
open Go.RowKit Go.Shelf

theorem quarter (a : Int) (h : -9223372036854775808 ≤ a ∧ a ≤ 9223372036854775807) : -2305843009213693952 ≤ a.tdiv 4 ∧ a.tdiv 4 ≤ 2305843009213693951 := by
  by_cases h0 : 0 ≤ a
  · rw [Int.tdiv_eq_ediv_of_nonneg h0]
    omega
  · obtain ⟨m, rfl⟩ : ∃ m : Int, a = -m := ⟨-a, by omega⟩
    rw [Int.neg_tdiv, Int.tdiv_eq_ediv_of_nonneg (by omega)]
    omega
theorem jump_hyp (s r : Nat) (hs : St s) (n : Int) (hr : jmp s (stp n) = r) (w : World) :
    Calls Try.prog 14 #[.int .i64 s, .int .i64 n] w fun e w' => e = .returned (.tuple #[.int .i64 r, .int .i64 0]) ∧ Below w.heap.size w w' := by
  have h := jump_yes s hs n w
  rw [hr] at h
  exact h
theorem next_hyp (s r m : Nat) (hs : St s) (hr : nxt s = r) (hm : r - 1 = m) (w : World) :
    Calls Try.prog 15 #[.int .i64 s] w fun e w' => e = .returned (.tuple #[.int .i64 r, .int .i64 m, .int .i64 0]) ∧ Below w.heap.size w w' := by
  have h := next_yes s hs w
  rw [hr, hm] at h
  exact h
theorem of_hyp (n : Int) (s : Nat) (hs : stp n + 1 = s) (w : World) : Calls Try.prog 13 #[.int .i64 n] w fun e w' => e = .returned (.int .i64 s) ∧ Below w.heap.size w w' := by
  have h := of_calls3 n w
  rw [hs] at h
  exact h
theorem stp_St (n : Int) : St (stp n + 1) := by
  have := stp_lt n
  unfold St
  omega
set_option maxRecDepth 100000 in
set_option maxHeartbeats 8000000 in
theorem jumps_walk (n a0 b0 : Int) (_ : -9223372036854775808 ≤ n ∧ n ≤ 9223372036854775807) (ha0 : -9223372036854775808 ≤ a0 ∧ a0 ≤ 9223372036854775807) (hb0 : -9223372036854775808 ≤ b0 ∧ b0 ≤ 9223372036854775807) (w : World) :
    Calls Try.prog 5 #[.int .i64 n, .int .i64 a0, .int .i64 b0] w fun e w' => e = .returned (.bool true) ∧ Below w.heap.size w w' := by
  obtain ⟨s, hs⟩ : ∃ s, stp n + 1 = s := ⟨_, rfl⟩
  have hS : St s := by rw [← hs]; exact stp_St n
  obtain ⟨a, ha⟩ : ∃ a, a0.tdiv 4 = a := ⟨_, rfl⟩
  obtain ⟨b, hb⟩ : ∃ b, b0.tdiv 4 = b := ⟨_, rfl⟩
  have qa := quarter a0 ha0
  have qb := quarter b0 hb0
  rw [ha] at qa
  rw [hb] at qb
  obtain ⟨x, hx⟩ : ∃ x, jmp s (stp a) = x := ⟨_, rfl⟩
  have hX : St x := by rw [← hx]; exact jmp_St hS _
  obtain ⟨y, hy⟩ : ∃ y, jmp x (stp b) = y := ⟨_, rfl⟩
  obtain ⟨N, hN⟩ : ∃ N, nxt s = N := ⟨_, rfl⟩
  have hNS : St N := by rw [← hN]; exact nxt_St hS
  obtain ⟨m, hm⟩ : ∃ m, N - 1 = m := ⟨_, rfl⟩
  have H0 := Lib.hid (of_hyp n s hs)
  have H1 := Lib.hid (jump_hyp s x hS a hx)
  have H2 := Lib.hid (jump_hyp x y hX b hy)
  have H3 := Lib.hid (jump_hyp s y hS (a + b) (by rw [← hy, ← hx, jmp_add]))
  have H4 := Lib.hid (jump_hyp x s hX (-a) (by rw [← hx, jmp_add, show a + -a = 0 from by omega, stp_zero, jmp_zero hS]))
  have H5 := Lib.hid (jump_hyp s s hS 2147483646 (by rw [stp_cycle, jmp_zero hS]))
  have H6 := Lib.hid (jump_hyp s N hS 1 (by rw [stp_one, jmp_one, hN]))
  have H7 := Lib.hid (next_hyp s N m hS hN hm)
  have H8 := Lib.hid (jump_hyp N s hNS (-1) (by rw [← hN, ← jmp_one, ← stp_one, jmp_add, show (1 : Int) + -1 = 0 from by decide, stp_zero, jmp_zero hS]))
  have R1 := Lib.hid (right_yes x hX)
  have R2 := Lib.hid (right_yes N hNS)
  have e1 : IntKind.i64.wrap (a + b) = a + b := IntWalk.i64_in _ (by omega)
  have e2 : IntKind.i64.wrap (-a) = -a := IntWalk.i64_in _ (by omega)
  have hmb : m < 2147483646 ∧ m + 1 = N := by unfold St at hNS; omega
  obtain ⟨hm1, hm2⟩ := hmb
  have e3 : IntKind.i64.wrap ((m : Int) + 1) = (N : Int) := by rw [IntWalk.i64_in _ (by omega)]; omega
  have e4 : (m : Int) < 2147483646 := by omega
  clear hs hx hy hN hm hm2
  go_enter Try.func5, Try.ntmps5
  go_upto_region 3 with (first | (go_at_call 11; refine (awake_calls _).mono ?_; rintro e w1 ⟨rfl, hbel⟩; obtain ⟨o1, j1, rfl⟩ := grow_of_below hbel; clear hbel))
  go_upto_region 5 with (first | (go_at_call 13; refine (H0.out _).mono ?_; rintro e w2 ⟨rfl, hbel⟩; obtain ⟨o2, j2, rfl⟩ := grow_of_below hbel; clear hbel))
  go_upto_region 6 with (first | (go_at_call 14; refine (H1.out _).mono ?_; rintro e w3 ⟨rfl, hbel⟩; obtain ⟨o3, j3, rfl⟩ := grow_of_below hbel; clear hbel))
  clear H1
  go_upto_region 7 with (first | (go_at_call 14; refine (H2.out _).mono ?_; rintro e w4 ⟨rfl, hbel⟩; obtain ⟨o4, j4, rfl⟩ := grow_of_below hbel; clear hbel))
  clear H2
  go_upto_region 8 with (first | (go_at_call 14; refine (H3.out _).mono ?_; rintro e w5 ⟨rfl, hbel⟩; obtain ⟨o5, j5, rfl⟩ := grow_of_below hbel; clear hbel))
  clear H3
  go_upto_region 9 with (first | (go_at_call 14; refine (H4.out _).mono ?_; rintro e w6 ⟨rfl, hbel⟩; obtain ⟨o6, j6, rfl⟩ := grow_of_below hbel; clear hbel))
  clear H4
  go_upto_region 10 with (first | (go_at_call 14; refine (H5.out _).mono ?_; rintro e w7 ⟨rfl, hbel⟩; obtain ⟨o7, j7, rfl⟩ := grow_of_below hbel; clear hbel))
  clear H5
  go_upto_region 11 with (first | (go_at_call 14; refine (H6.out _).mono ?_; rintro e w8 ⟨rfl, hbel⟩; obtain ⟨o8, j8, rfl⟩ := grow_of_below hbel; clear hbel))
  clear H6
  go_upto_region 12 with (first | (go_at_call 15; refine (H7.out _).mono ?_; rintro e w9 ⟨rfl, hbel⟩; obtain ⟨o9, j9, rfl⟩ := grow_of_below hbel; clear hbel))
  clear H7
  go_upto_region 13 with (first | (go_at_call 14; refine (H8.out _).mono ?_; rintro e w10 ⟨rfl, hbel⟩; obtain ⟨o10, j10, rfl⟩ := grow_of_below hbel; clear hbel))
  clear H8
  go_upto_region 15 with fail
  go_wp2_with (first | (go_at_call_of 16 (x : Int); refine (R1.out _).mono ?_; rintro e w11 ⟨rfl, rfl⟩) | (go_at_call_of 16 (N : Int); refine (R2.out _).mono ?_; rintro e w12 ⟨rfl, rfl⟩))
  go_ret
  exact ⟨rfl, by repeat (first | (with_reducible exact Below.refl _ _) | ((with_reducible refine below_grow ?_ ?_); rotate_left; focus (first | omega | (simp [go_sem]; done) | (simp [go_sem]; omega))) | ((with_reducible refine Below.alloc ?_ ?_ _); rotate_left; focus (first | omega | (simp [go_sem]; done) | (simp [go_sem]; omega))) | ((with_reducible refine Below.setCell ?_ ?_ _); rotate_left; focus (first | omega | (simp [go_sem]; done) | (simp [go_sem]; omega))) | (with_reducible refine Below.drew ?_) | (with_reducible refine below_drewN _ ?_))⟩
end Go.Proofs.Ytcgecgagecobeaa
