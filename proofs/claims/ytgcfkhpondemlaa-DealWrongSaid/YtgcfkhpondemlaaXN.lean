/- Made, Torn. -/
import Derived.Test.YtgcfkhpondemlaaXJ
namespace Go.Proofs.Ytgcfkhpondemlaa.Ca
open Go.RowKit
open Go.Proofs.DB (ct bt Pd Rd wo dl)
open Go.Proofs.Ytgcfkhpondemlaa.Ha (SlB od)

theorem slb_below {w W : World} {v : Value} {xs : List Nat} (h : SlB w v xs) (hb : Below w.heap.size w W) : SlB W v xs := by
  obtain ⟨p, c, h1, h2, h3⟩ := h
  refine ⟨p, c, h1, h2, fun hx => ?_⟩
  obtain ⟨b, off, rfl, hlt, hc⟩ := h3 hx
  have := hb.size
  exact ⟨b, off, rfl, by omega, fun j x hj => (hb.cell (p := ⟨b, off + j, none⟩) hlt).trans (hc j x hj)⟩
/-- The deal made of a list; without some cards. -/
def mD (xs : List Nat) : Nat → Nat := fun q => dl (od xs) q 52
def tD (xs : List Nat) (out : Nat) : Nat → Nat := fun q => wo (mD xs q) out
theorem mD_rd (xs : List Nat) : Rd (mD xs) := DB.dl_rd (Ha.od_ord xs)
theorem tD_pd (xs : List Nat) (out : Nat) : Pd (tD xs out) := DB.torn_pd (mD_rd xs).toPd out
theorem tD_in (xs : List Nat) (out : Nat) : DB.In (tD xs out) (mD xs) := DB.torn_in (mD_rd xs).toPd out
theorem made_calls (v : Value) (xs : List Nat) (hx8 : ∀ x ∈ xs, x < 256) (w : World) (hS : SlB w v xs) :
    Calls Try.prog 8 #[v] w fun e w' => e = .returned (.agg #[.int .u64 ((mD xs) 0 : Nat), .int .u64 ((mD xs) 1 : Nat), .int .u64 ((mD xs) 2 : Nat), .int .u64 ((mD xs) 3 : Nat)]) ∧ Below w.heap.size w w' := by
  have D := Lib.hid (fun W hW => Ha.dealt_calls v xs hx8 W (slb_below hS hW))
  have e0 : ∀ q, mD xs q = dl (od xs) q 52 := fun q => rfl
  rw [e0, e0, e0, e0]
  obtain ⟨d0, h0⟩ : ∃ d, dl (od xs) 0 52 = d := ⟨_, rfl⟩
  obtain ⟨d1, h1⟩ : ∃ d, dl (od xs) 1 52 = d := ⟨_, rfl⟩
  obtain ⟨d2, h2⟩ : ∃ d, dl (od xs) 2 52 = d := ⟨_, rfl⟩
  obtain ⟨d3, h3⟩ : ∃ d, dl (od xs) 3 52 = d := ⟨_, rfl⟩
  rw [h0, h1, h2, h3] at D ⊢
  clear e0 h0 h1 h2 h3 hS hx8
  go_enter Try.func8, Try.ntmps8
  go_wp2_with (go_at_call 27; refine (D.out _ (by repeat (first | (with_reducible exact Below.refl _ _) | ((with_reducible refine below_grow ?_ ?_); rotate_left; focus (first | omega | (simp [go_sem]; done) | (simp [go_sem]; omega))) | ((with_reducible refine Below.alloc ?_ ?_ _); rotate_left; focus (first | omega | (simp [go_sem]; done) | (simp [go_sem]; omega))) | ((with_reducible refine Below.setCell ?_ ?_ _); rotate_left; focus (first | omega | (simp [go_sem]; done) | (simp [go_sem]; omega))) | (with_reducible refine Below.drew ?_) | (with_reducible refine below_drewN _ ?_)))).mono ?_; rintro e w9 ⟨rfl, hbel⟩; obtain ⟨o1, j1, rfl⟩ := grow_of_below hbel; clear hbel)
  refine bodyPost_ret (by simp [results, Try.results8, go_sem]) rfl ⟨rfl, ?_⟩
  repeat (first | (with_reducible exact Below.refl _ _) | ((with_reducible refine below_grow ?_ ?_); rotate_left; focus (first | omega | (simp [go_sem]; done) | (simp [go_sem]; omega))) | ((with_reducible refine Below.alloc ?_ ?_ _); rotate_left; focus (first | omega | (simp [go_sem]; done) | (simp [go_sem]; omega))) | ((with_reducible refine Below.setCell ?_ ?_ _); rotate_left; focus (first | omega | (simp [go_sem]; done) | (simp [go_sem]; omega))) | (with_reducible refine Below.drew ?_) | (with_reducible refine below_drewN _ ?_))
set_option maxRecDepth 100000 in
set_option maxHeartbeats 4000000 in
theorem torn_calls (v : Value) (xs : List Nat) (out : Nat) (ho : out < 18446744073709551616) (hx8 : ∀ x ∈ xs, x < 256) (w : World) (hS : SlB w v xs) :
    Calls Try.prog 9 #[v, .int .u64 out] w fun e w' => e = .returned (.agg #[.int .u64 ((tD xs out) 0 : Nat), .int .u64 ((tD xs out) 1 : Nat), .int .u64 ((tD xs out) 2 : Nat), .int .u64 ((tD xs out) 3 : Nat)]) ∧ Below w.heap.size w w' := by
  have D := Lib.hid (fun W hW => made_calls v xs hx8 W (slb_below hS hW))
  have lt := fun i hi => Nat.lt_trans ((mD_rd xs).lt i hi) (show 2 ^ 52 < 18446744073709551616 by decide)
  have A : ∀ i, i < 4 → bits .andNot .u64 (mD xs i : Int) (out : Int) = (tD xs out i : Int) := fun i hi => by
    rw [u64_andNot_nat _ _ (lt i hi) ho, DB.and_not_wo (lt i hi) ho]; rfl
  have a0 := A 0 (by decide)
  have a1 := A 1 (by decide)
  have a2 := A 2 (by decide)
  have a3 := A 3 (by decide)
  obtain ⟨d, hd⟩ : ∃ d, mD xs = d := ⟨_, rfl⟩
  obtain ⟨t, ht⟩ : ∃ d, tD xs out = d := ⟨_, rfl⟩
  rw [hd] at a0 a1 a2 a3 D
  rw [ht] at a0 a1 a2 a3 ⊢
  clear A lt hd ht hS hx8
  go_enter Try.func9, Try.ntmps9
  go_upto_region 2 with (go_at_call 8; refine (D.out _ (by repeat (first | (with_reducible exact Below.refl _ _) | ((with_reducible refine below_grow ?_ ?_); rotate_left; focus (first | omega | (simp [go_sem]; done) | (simp [go_sem]; omega))) | ((with_reducible refine Below.alloc ?_ ?_ _); rotate_left; focus (first | omega | (simp [go_sem]; done) | (simp [go_sem]; omega))) | ((with_reducible refine Below.setCell ?_ ?_ _); rotate_left; focus (first | omega | (simp [go_sem]; done) | (simp [go_sem]; omega))) | (with_reducible refine Below.drew ?_) | (with_reducible refine below_drewN _ ?_)))).mono ?_; rintro e w9 ⟨rfl, hbel⟩; obtain ⟨o1, j1, rfl⟩ := grow_of_below hbel; clear hbel)
  generalize hW : World.alloc (grow _ o1 j1) _ = W
  generalize hq : w.heap.size + 1 + sz o1 = q at *
  have b1 : blk W q (#[.int .u64 (d 0 : Nat), .int .u64 (d 1 : Nat), .int .u64 (d 2 : Nat), .int .u64 (d 3 : Nat)]) 28 := by rw [← hW]; exact blk_at _ _ _ (by rw [← hq]; simp [go_sem])
  have b0 : blk W w.heap.size #[.int .u64 0, .int .u64 0, .int .u64 0, .int .u64 0] 28 := by rw [← hW]; exact blk_alloc (blk_grow (blk_new _ _ _) _ _) _
  have bb : Below w.heap.size w W := by rw [← hW]; repeat (first | (with_reducible exact Below.refl _ _) | ((with_reducible refine below_grow ?_ ?_); rotate_left; focus (first | omega | (simp [go_sem]; done) | (simp [go_sem]; omega))) | ((with_reducible refine Below.alloc ?_ ?_ _); rotate_left; focus (first | omega | (simp [go_sem]; done) | (simp [go_sem]; omega))) | ((with_reducible refine Below.setCell ?_ ?_ _); rotate_left; focus (first | omega | (simp [go_sem]; done) | (simp [go_sem]; omega))) | (with_reducible refine Below.drew ?_) | (with_reducible refine below_drewN _ ?_))
  have hwq : w.heap.size < q := by omega
  clear hW hq D
  have hbs := bb.size
  have k0 : W.cell? ⟨q, 0, none⟩ = some (.int .u64 (d 0 : Nat)) := blk_cell b1 0
  have k1 : W.cell? ⟨q, 1, none⟩ = some (.int .u64 (d 1 : Nat)) := blk_cell b1 1
  have k2 : W.cell? ⟨q, 2, none⟩ = some (.int .u64 (d 2 : Nat)) := blk_cell b1 2
  have k3 : W.cell? ⟨q, 3, none⟩ = some (.int .u64 (d 3 : Nat)) := blk_cell b1 3
  have r0 : W.cell? ⟨w.heap.size, 0, none⟩ = some (.int .u64 0) := blk_cell b0 0
  have r1 : W.cell? ⟨w.heap.size, 1, none⟩ = some (.int .u64 0) := blk_cell b0 1
  have r2 : W.cell? ⟨w.heap.size, 2, none⟩ = some (.int .u64 0) := blk_cell b0 2
  have r3 : W.cell? ⟨w.heap.size, 3, none⟩ = some (.int .u64 0) := blk_cell b0 3
  have f1 : ∀ j, W.frozen? ⟨q, j, none⟩ = false := fun j => blk_free b1 j
  have f0 : ∀ j, W.frozen? ⟨w.heap.size, j, none⟩ = false := fun j => blk_free b0 j
  have n1 : ¬ q = w.heap.size := by omega
  have n2 : ¬ w.heap.size = q := by omega
  have w2 : IntKind.i64.wrap 1 = 1 := rfl
  have w3 : IntKind.i64.wrap 2 = 2 := rfl
  have w4 : IntKind.i64.wrap 3 = 3 := rfl
  have w5 : IntKind.i64.wrap 4 = 4 := rfl
  clear b0 b1
  go_wp2
  go_rounds 5
  refine bodyPost_ret (by simp [results, Try.results9, go_sem, r0, r1, r2, r3]) rfl ⟨rfl, ?_⟩
  repeat (first | (with_reducible exact bb) | ((with_reducible refine below_grow ?_ ?_); rotate_left; focus (first | omega | (simp [go_sem]; done) | (simp [go_sem]; omega))) | ((with_reducible refine Below.alloc ?_ ?_ _); rotate_left; focus (first | omega | (simp [go_sem]; done) | (simp [go_sem]; omega))) | ((with_reducible refine Below.setCell ?_ ?_ _); rotate_left; focus (first | omega | (simp [go_sem]; done) | (simp [go_sem]; omega))) | (with_reducible refine Below.drew ?_) | (with_reducible refine below_drewN _ ?_))
end Go.Proofs.Ytgcfkhpondemlaa.Ca
