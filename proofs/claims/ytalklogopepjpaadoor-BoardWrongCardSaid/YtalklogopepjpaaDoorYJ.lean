/- Turn. -/
import Derived.Test.YtalklogopepjpaaDoorXB
import Derived.Test.YtalklogopepjpaaDoorMG
import Derived.Handy
namespace Go.Proofs.YtalklogopepjpaaDoor.Ca
open Go.RowKit

/-- The deal turned by k: what the seat i has. -/
def tn (p : Nat → Nat) (k : Int) (i : Nat) : Nat := p (((i : Int) - k) % 4).toNat
theorem dcell {W : World} {b : Nat} {p : Nat → Nat} {t : TypeId} (h : blk W b (#[.int .u64 (p 0 : Nat), .int .u64 (p 1 : Nat), .int .u64 (p 2 : Nat), .int .u64 (p 3 : Nat)]) t) (m : Nat) (hm : m < 4) : W.cell? ⟨b, m, none⟩ = some (.int .u64 (p m : Nat)) := by
  match m, hm with
  | 0, _ => exact blk_cell h 0
  | 1, _ => exact blk_cell h 1
  | 2, _ => exact blk_cell h 2
  | 3, _ => exact blk_cell h 3
theorem turn_num (i k : Int) (_hi : 0 ≤ i ∧ i < 4) (_h0 : -9223372036854775808 ≤ k) (_h1 : k ≤ 9223372036854775807) : bits .and .i64 (IntKind.i64.wrap (i - k)) 3 = ((((i - k) % 4).toNat : Nat) : Int) ∧ ((i - k) % 4).toNat < 4 := by
  have h := Ha.and_mask_i64 (IntKind.i64.wrap (i - k)) 3 2 rfl (by decide)
  refine ⟨h.trans ?_, by omega⟩
  rw [IntKind.wrap_i64]
  have : ((2 ^ 2 : Nat) : Int) = 4 := rfl
  rw [this]
  omega
set_option maxRecDepth 100000 in
set_option maxHeartbeats 4000000 in
theorem turn_calls (p : Nat → Nat) (k : Int) (h0 : -9223372036854775808 ≤ k) (h1 : k ≤ 9223372036854775807) (w : World) :
    Calls Tryd.prog 18 #[.agg #[.int .u64 (p 0 : Nat), .int .u64 (p 1 : Nat), .int .u64 (p 2 : Nat), .int .u64 (p 3 : Nat)], .int .i64 k] w fun e w' => e = .returned (.agg #[.int .u64 (tn p k 0 : Nat), .int .u64 (tn p k 1 : Nat), .int .u64 (tn p k 2 : Nat), .int .u64 (tn p k 3 : Nat)]) ∧ Below w.heap.size w w' := by
  obtain ⟨a0, l0⟩ := turn_num 0 k (by decide) h0 h1
  obtain ⟨a1, l1⟩ := turn_num 1 k (by decide) h0 h1
  obtain ⟨a2, l2⟩ := turn_num 2 k (by decide) h0 h1
  obtain ⟨a3, l3⟩ := turn_num 3 k (by decide) h0 h1
  have t0 : tn p k 0 = p ((0 - k) % 4).toNat := rfl
  have t1 : tn p k 1 = p ((1 - k) % 4).toNat := rfl
  have t2 : tn p k 2 = p ((2 - k) % 4).toNat := rfl
  have t3 : tn p k 3 = p ((3 - k) % 4).toNat := rfl
  rw [t0, t1, t2, t3]
  obtain ⟨m0, e0⟩ : ∃ m, ((0 - k) % 4).toNat = m := ⟨_, rfl⟩
  obtain ⟨m1, e1⟩ : ∃ m, ((1 - k) % 4).toNat = m := ⟨_, rfl⟩
  obtain ⟨m2, e2⟩ : ∃ m, ((2 - k) % 4).toNat = m := ⟨_, rfl⟩
  obtain ⟨m3, e3⟩ : ∃ m, ((3 - k) % 4).toNat = m := ⟨_, rfl⟩
  rw [e0] at a0 l0 ⊢
  rw [e1] at a1 l1 ⊢
  rw [e2] at a2 l2 ⊢
  rw [e3] at a3 l3 ⊢
  rw [Int.zero_sub] at a0
  have a0' : bits .and .i64 (wrap64 (-k)) 3 = (m0 : Nat) := by rw [← IntWalk.i64_left]; exact a0
  have a1' : bits .and .i64 (wrap64 (1 - k)) 3 = (m1 : Nat) := by rw [← IntWalk.i64_left]; exact a1
  have a2' : bits .and .i64 (wrap64 (2 - k)) 3 = (m2 : Nat) := by rw [← IntWalk.i64_left]; exact a2
  have a3' : bits .and .i64 (wrap64 (3 - k)) 3 = (m3 : Nat) := by rw [← IntWalk.i64_left]; exact a3
  clear a0 a1 a2 a3
  have q0 : (m0 : Int) < 4 := by omega
  have q1 : (m1 : Int) < 4 := by omega
  have q2 : (m2 : Int) < 4 := by omega
  have q3 : (m3 : Int) < 4 := by omega
  clear t0 t1 t2 t3 e0 e1 e2 e3 h0 h1
  go_enter Tryd.func18, Tryd.ntmps18
  go_upto_region 2 with fail
  generalize hW : World.alloc _ _ = W
  have b0 : blk W w.heap.size (#[.int .u64 (p 0 : Nat), .int .u64 (p 1 : Nat), .int .u64 (p 2 : Nat), .int .u64 (p 3 : Nat)]) 39 := by rw [← hW]; exact blk_alloc (blk_alloc (blk_new _ _ _) _) _
  have b1 : blk W (w.heap.size + 1) #[.int .u64 0, .int .u64 0, .int .u64 0, .int .u64 0] 39 := by rw [← hW]; exact blk_alloc (blk_at _ _ _ (by simp)) _
  have b2 : blk W (w.heap.size + 2) #[.int .u64 0, .int .u64 0, .int .u64 0, .int .u64 0] 39 := by rw [← hW]; exact blk_at _ _ _ (by simp)
  have bb : Below w.heap.size w W := by rw [← hW]; repeat (first | (with_reducible exact Below.refl _ _) | ((with_reducible refine below_grow ?_ ?_); rotate_left; focus (first | omega | (simp [go_sem]; done) | (simp [go_sem]; omega))) | ((with_reducible refine Below.alloc ?_ ?_ _); rotate_left; focus (first | omega | (simp [go_sem]; done) | (simp [go_sem]; omega))) | ((with_reducible refine Below.setCell ?_ ?_ _); rotate_left; focus (first | omega | (simp [go_sem]; done) | (simp [go_sem]; omega))) | (with_reducible refine Below.drew ?_) | (with_reducible refine below_drewN _ ?_))
  have hbs := bb.size
  clear hW
  have c0 := dcell b0 m0 l0
  have c1 := dcell b0 m1 l1
  have c2 := dcell b0 m2 l2
  have c3 := dcell b0 m3 l3
  have d0 : W.cell? ⟨w.heap.size + 1 + 1, 0, none⟩ = some (.int .u64 0) := blk_cell b2 0
  have d1 : W.cell? ⟨w.heap.size + 1 + 1, 1, none⟩ = some (.int .u64 0) := blk_cell b2 1
  have d2 : W.cell? ⟨w.heap.size + 1 + 1, 2, none⟩ = some (.int .u64 0) := blk_cell b2 2
  have d3 : W.cell? ⟨w.heap.size + 1 + 1, 3, none⟩ = some (.int .u64 0) := blk_cell b2 3
  have g0 : W.cell? ⟨w.heap.size + 1, 0, none⟩ = some (.int .u64 0) := blk_cell b1 0
  have g1 : W.cell? ⟨w.heap.size + 1, 1, none⟩ = some (.int .u64 0) := blk_cell b1 1
  have g2 : W.cell? ⟨w.heap.size + 1, 2, none⟩ = some (.int .u64 0) := blk_cell b1 2
  have g3 : W.cell? ⟨w.heap.size + 1, 3, none⟩ = some (.int .u64 0) := blk_cell b1 3
  have f2 : ∀ j, W.frozen? ⟨w.heap.size + 1 + 1, j, none⟩ = false := fun j => blk_free b2 j
  have f1 : ∀ j, W.frozen? ⟨w.heap.size + 1, j, none⟩ = false := fun j => blk_free b1 j
  have w2 : IntKind.i64.wrap 1 = 1 := rfl
  have w3 : IntKind.i64.wrap 2 = 2 := rfl
  have w4 : IntKind.i64.wrap 3 = 3 := rfl
  have w5 : IntKind.i64.wrap 4 = 4 := rfl
  have n0 : ¬ w.heap.size + 1 + 1 = w.heap.size := by omega
  clear b0 b1 b2
  go_wp2
  go_rounds 5
  refine bodyPost_ret (by simp [results, Tryd.results18, go_sem, g0, g1, g2, g3]) rfl ⟨rfl, ?_⟩
  repeat (first | (with_reducible exact bb) | ((with_reducible refine below_grow ?_ ?_); rotate_left; focus (first | omega | (simp [go_sem]; done) | (simp [go_sem]; omega))) | ((with_reducible refine Below.alloc ?_ ?_ _); rotate_left; focus (first | omega | (simp [go_sem]; done) | (simp [go_sem]; omega))) | ((with_reducible refine Below.setCell ?_ ?_ _); rotate_left; focus (first | omega | (simp [go_sem]; done) | (simp [go_sem]; omega))) | (with_reducible refine Below.drew ?_) | (with_reducible refine below_drewN _ ?_))
end Go.Proofs.YtalklogopepjpaaDoor.Ca
