/- Index's refusals; a deal turned by one does not complete it. -/
import Derived.Test.YtgcfkhpondemlaaXS
namespace Go.Proofs.Ytgcfkhpondemlaa.Ca
open Go.RowKit
open Go.Proofs.DB (ct bt Pd Rd lack wo Dj)

set_option maxRecDepth 100000 in
set_option maxHeartbeats 4000000 in
theorem index_nol (p d : Nat → Nat) (h64 : ∀ i, i < 4 → p i < 18446744073709551616) (hp : ¬ Pd p) (w : World) : Calls Try.prog 11 #[.agg #[.int .u64 (p 0 : Nat), .int .u64 (p 1 : Nat), .int .u64 (p 2 : Nat), .int .u64 (p 3 : Nat)], .agg #[.int .u64 (d 0 : Nat), .int .u64 (d 1 : Nat), .int .u64 (d 2 : Nat), .int .u64 (d 3 : Nat)]] w fun e w' => e = .returned (.tuple #[.agg #[.int .u32 0, .int .u32 0, .int .u32 0, .int .u32 0], .int .i64 60]) ∧ Below w.heap.size w w' := by
  have P := Lib.hid (left_no p h64 hp)
  clear hp h64
  go_enter Try.func11, Try.ntmps11
  go_wp2_with (go_at_call 17; refine (P.out _).mono ?_; rintro e w9 ⟨rfl, hbel⟩; obtain ⟨o1, j1, rfl⟩ := grow_of_below hbel; clear hbel)
  refine bodyPost_ret (by simp [results, Try.results11, go_sem]) rfl ⟨rfl, ?_⟩
  repeat (first | (with_reducible exact Below.refl _ _) | ((with_reducible refine below_grow ?_ ?_); rotate_left; focus (first | omega | (simp [go_sem]; done) | (simp [go_sem]; omega))) | ((with_reducible refine Below.alloc ?_ ?_ _); rotate_left; focus (first | omega | (simp [go_sem]; done) | (simp [go_sem]; omega))) | ((with_reducible refine Below.setCell ?_ ?_ _); rotate_left; focus (first | omega | (simp [go_sem]; done) | (simp [go_sem]; omega))) | (with_reducible refine Below.drew ?_) | (with_reducible refine below_drewN _ ?_))
set_option maxRecDepth 100000 in
set_option maxHeartbeats 4000000 in
theorem index_nor (p d : Nat → Nat) (hp : Pd p) (h64 : ∀ i, i < 4 → d i < 18446744073709551616) (hd : ¬ Pd d) (w : World) : Calls Try.prog 11 #[.agg #[.int .u64 (p 0 : Nat), .int .u64 (p 1 : Nat), .int .u64 (p 2 : Nat), .int .u64 (p 3 : Nat)], .agg #[.int .u64 (d 0 : Nat), .int .u64 (d 1 : Nat), .int .u64 (d 2 : Nat), .int .u64 (d 3 : Nat)]] w fun e w' => e = .returned (.tuple #[.agg #[.int .u32 0, .int .u32 0, .int .u32 0, .int .u32 0], .int .i64 60]) ∧ Below w.heap.size w w' := by
  have P := Lib.hid (left_yes p hp)
  have R := Lib.hid (dright_no d h64 hd)
  obtain ⟨x, hx⟩ : ∃ x, DB.left p = x := ⟨_, rfl⟩
  rw [hx] at P
  clear hp h64 hd hx
  go_enter Try.func11, Try.ntmps11
  go_wp2_with (first | (go_at_call 17; refine (P.out _).mono ?_; rintro e w9 ⟨rfl, hbel⟩; obtain ⟨o1, j1, rfl⟩ := grow_of_below hbel; clear hbel) | (go_at_call 15; refine (R.out _).mono ?_; rintro e w9 ⟨rfl, hbel⟩; obtain ⟨o2, j2, rfl⟩ := grow_of_below hbel; clear hbel))
  refine bodyPost_ret (by simp [results, Try.results11, go_sem]) rfl ⟨rfl, ?_⟩
  repeat (first | (with_reducible exact Below.refl _ _) | ((with_reducible refine below_grow ?_ ?_); rotate_left; focus (first | omega | (simp [go_sem]; done) | (simp [go_sem]; omega))) | ((with_reducible refine Below.alloc ?_ ?_ _); rotate_left; focus (first | omega | (simp [go_sem]; done) | (simp [go_sem]; omega))) | ((with_reducible refine Below.setCell ?_ ?_ _); rotate_left; focus (first | omega | (simp [go_sem]; done) | (simp [go_sem]; omega))) | (with_reducible refine Below.drew ?_) | (with_reducible refine below_drewN _ ?_))
set_option maxRecDepth 100000 in
set_option maxHeartbeats 4000000 in
/-- The first hand is not in the other deal. -/
theorem completes_first (d p : Nat → Nat) (x : Int) (hx : bits .andNot .u64 (p 0 : Int) (d 0 : Int) = x) (h0 : ¬ x = 0) (w : World) : Calls Try.prog 29 #[.agg #[.int .u64 (d 0 : Nat), .int .u64 (d 1 : Nat), .int .u64 (d 2 : Nat), .int .u64 (d 3 : Nat)], .agg #[.int .u64 (p 0 : Nat), .int .u64 (p 1 : Nat), .int .u64 (p 2 : Nat), .int .u64 (p 3 : Nat)]] w fun e w' => e = .returned (.bool false) ∧ Below w.heap.size w w' := by
  have ix := fun W => index_deal p 0 (by decide) W
  obtain ⟨p0, hp0⟩ : ∃ x, p 0 = x := ⟨_, rfl⟩
  obtain ⟨d0, hd0⟩ : ∃ x, d 0 = x := ⟨_, rfl⟩
  rw [hp0, hd0] at hx
  go_enter Try.func29, Try.ntmps29
  go_upto_region 2 with fail
  generalize hV : World.alloc (World.alloc w _) _ = V
  have b0 : blk V w.heap.size (#[.int .u64 (d 0 : Nat), .int .u64 (d 1 : Nat), .int .u64 (d 2 : Nat), .int .u64 (d 3 : Nat)]) 28 := by rw [← hV, hd0]; exact blk_alloc (blk_new _ _ _) _
  have bb : Below w.heap.size w V := by rw [← hV]; repeat (first | (with_reducible exact Below.refl _ _) | ((with_reducible refine below_grow ?_ ?_); rotate_left; focus (first | omega | (simp [go_sem]; done) | (simp [go_sem]; omega))) | ((with_reducible refine Below.alloc ?_ ?_ _); rotate_left; focus (first | omega | (simp [go_sem]; done) | (simp [go_sem]; omega))) | ((with_reducible refine Below.setCell ?_ ?_ _); rotate_left; focus (first | omega | (simp [go_sem]; done) | (simp [go_sem]; omega))) | (with_reducible refine Below.drew ?_) | (with_reducible refine below_drewN _ ?_))
  have kd := dcell b0 0 (by decide)
  rw [hd0] at kd
  clear hV
  go_loopw [5, 6, 8] (fun s5 s6 s8 wr => s8 = .int .i64 0 ∧ wr = V) (fun _ _ _ _ => 0)
  case atStart => exact ⟨rfl, rfl⟩
  case round =>
    obtain ⟨rfl, rfl⟩ := hrel
    have ix0 := ix wr
    rw [hp0] at ix0
    have e00 : ((0 : Nat) : Int) = 0 := rfl
    rw [e00] at ix0
    go_wp2
    refine bodyPost_ret (by simp [results, Try.results29, go_sem]) rfl ⟨rfl, bb⟩
set_option maxRecDepth 100000 in
set_option maxHeartbeats 4000000 in
theorem index_none (p d : Nat → Nat) (hp : Pd p) (hd : Rd d) (x : Int) (hx : bits .andNot .u64 (p 0 : Int) (d 0 : Int) = x) (h0 : ¬ x = 0) (w : World) : Calls Try.prog 11 #[.agg #[.int .u64 (p 0 : Nat), .int .u64 (p 1 : Nat), .int .u64 (p 2 : Nat), .int .u64 (p 3 : Nat)], .agg #[.int .u64 (d 0 : Nat), .int .u64 (d 1 : Nat), .int .u64 (d 2 : Nat), .int .u64 (d 3 : Nat)]] w fun e w' => e = .returned (.tuple #[.agg #[.int .u32 0, .int .u32 0, .int .u32 0, .int .u32 0], .int .i64 6]) ∧ Below w.heap.size w w' := by
  have P := Lib.hid (left_yes p hp)
  have R := Lib.hid (right_true hd)
  have C := Lib.hid (completes_first d p x hx h0)
  obtain ⟨x, hx⟩ : ∃ x, DB.left p = x := ⟨_, rfl⟩
  rw [hx] at P
  clear hp hd hx h0
  go_enter Try.func11, Try.ntmps11
  go_wp2_with (first | (go_at_call 17; refine (P.out _).mono ?_; rintro e w9 ⟨rfl, hbel⟩; obtain ⟨o1, j1, rfl⟩ := grow_of_below hbel; clear hbel) | (go_at_call 15; refine (R.out _).mono ?_; rintro e w9 ⟨rfl, hbel⟩; obtain ⟨o2, j2, rfl⟩ := grow_of_below hbel; clear hbel) | (go_at_call 29; refine (C.out _).mono ?_; rintro e w9 ⟨rfl, hbel⟩; obtain ⟨o3, j3, rfl⟩ := grow_of_below hbel; clear hbel))
  refine bodyPost_ret (by simp [results, Try.results11, go_sem]) rfl ⟨rfl, ?_⟩
  repeat (first | (with_reducible exact Below.refl _ _) | ((with_reducible refine below_grow ?_ ?_); rotate_left; focus (first | omega | (simp [go_sem]; done) | (simp [go_sem]; omega))) | ((with_reducible refine Below.alloc ?_ ?_ _); rotate_left; focus (first | omega | (simp [go_sem]; done) | (simp [go_sem]; omega))) | ((with_reducible refine Below.setCell ?_ ?_ _); rotate_left; focus (first | omega | (simp [go_sem]; done) | (simp [go_sem]; omega))) | (with_reducible refine Below.drew ?_) | (with_reducible refine below_drewN _ ?_))
end Go.Proofs.Ytgcfkhpondemlaa.Ca
