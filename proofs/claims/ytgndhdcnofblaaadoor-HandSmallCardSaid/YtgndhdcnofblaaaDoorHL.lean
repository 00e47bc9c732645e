/- Suits. -/
import Derived.Test.YtgndhdcnofblaaaDoorHK
import Derived.Deep.Cut
import Derived.Deep.DeepCutAuto
namespace Go.Proofs.YtgndhdcnofblaaaDoor
open Go.RowKit

/-- The lengths of the suits. -/
def lens (m : Nat) (i : Fin 4) : Nat := len (hol m i.val)
/-- The order of suits. -/
def srt (m : Nat) : Array (Fin 4) := Go.Sort.insertionSort (ltOf (cfS (lens m))) #[3, 2, 1, 0] 0 4
def sui4 (a b c d : Fin 4) : Value := .agg #[encS a, encS b, encS c, encS d]
set_option maxRecDepth 100000 in
set_option maxHeartbeats 2000000 in
theorem suits_calls (m : Nat) (hm : m < 18446744073709551616) (w : World) : Calls Tryd.prog 28 #[.int .u64 m] w fun e w' => (∃ a b c d, srt m = #[a, b, c, d] ∧ e = .returned (sui4 a b c d)) ∧ Below w.heap.size w w' := by
  have S := Lib.hid (shape_calls m hm)
  have T := Lib.hid (sortStable_calls (lens m))
  unfold shp at S
  obtain ⟨n0, hn0⟩ : ∃ n, len (hol m 0) = n := ⟨_, rfl⟩
  obtain ⟨n1, hn1⟩ : ∃ n, len (hol m 1) = n := ⟨_, rfl⟩
  obtain ⟨n2, hn2⟩ : ∃ n, len (hol m 2) = n := ⟨_, rfl⟩
  obtain ⟨n3, hn3⟩ : ∃ n, len (hol m 3) = n := ⟨_, rfl⟩
  have E0 : lens m 0 = n0 := hn0
  have E1 : lens m 1 = n1 := hn1
  have E2 : lens m 2 = n2 := hn2
  have E3 : lens m 3 = n3 := hn3
  rw [hn0, hn1, hn2, hn3] at S
  clear hn0 hn1 hn2 hn3
  unfold srt
  generalize lens m = l at *
  have HC : ∀ (W : World) (b : Nat), W.cell? ⟨b, 0, none⟩ = some (.int .i64 n0) → W.cell? ⟨b, 1, none⟩ = some (.int .i64 n1) → W.cell? ⟨b, 2, none⟩ = some (.int .i64 n2) → W.cell? ⟨b, 3, none⟩ = some (.int .i64 n3) → ∀ i : Fin 4, W.cell? ⟨b, i.val, none⟩ = some (.int .i64 (l i : Nat)) := fun W b h0 h1 h2 h3 i =>
    match i with
    | 0 => by rw [E0]; exact h0
    | 1 => by rw [E1]; exact h1
    | 2 => by rw [E2]; exact h2
    | 3 => by rw [E3]; exact h3
  have HC := Lib.hid HC
  clear E0 E1 E2 E3
  go_enter Tryd.func28, Tryd.ntmps28
  go_upto_region 3 with (go_at_call 26; refine (S.out _).mono ?_; rintro e w1 ⟨rfl, hbel⟩; obtain ⟨o1, j1, rfl⟩ := grow_of_below hbel; clear hbel)
  generalize hW : (((grow (w.alloc (Obj.cells #[Value.int IntKind.u8 0, Value.int IntKind.u8 0, Value.int IntKind.u8 0, Value.int IntKind.u8 0] 42)) o1 j1).alloc _).alloc _) = W
  have sz1 : W.heap.size = w.heap.size + 1 + sz o1 + 2 := by rw [← hW]; simp [go_sem]
  have bel : Below w.heap.size w W := by rw [← hW]; repeat (first | (with_reducible exact Below.refl _ _) | ((with_reducible refine below_grow ?_ ?_); rotate_left; focus (first | omega | (simp [go_sem]; done) | (simp [go_sem]; omega))) | ((with_reducible refine Below.alloc ?_ ?_ _); rotate_left; focus (first | omega | (simp [go_sem]; done) | (simp [go_sem]; omega))) | ((with_reducible refine Below.setCell ?_ ?_ _); rotate_left; focus (first | omega | (simp [go_sem]; done) | (simp [go_sem]; omega))) | (with_reducible refine Below.drew ?_) | (with_reducible refine below_drewN _ ?_))
  have g0 : W.cell? ⟨w.heap.size + 1 + sz o1, 0, none⟩ = some (.int .i64 n0) := by rw [← hW]; simp [go_sem]
  have g1 : W.cell? ⟨w.heap.size + 1 + sz o1, 1, none⟩ = some (.int .i64 n1) := by rw [← hW]; simp [go_sem]
  have g2 : W.cell? ⟨w.heap.size + 1 + sz o1, 2, none⟩ = some (.int .i64 n2) := by rw [← hW]; simp [go_sem]
  have g3 : W.cell? ⟨w.heap.size + 1 + sz o1, 3, none⟩ = some (.int .i64 n3) := by rw [← hW]; simp [go_sem]
  have k0 : W.cell? ⟨w.heap.size + 1 + sz o1 + 1, 0, none⟩ = some (.int .u8 3) := by rw [← hW]; simp [go_sem]
  have k1 : W.cell? ⟨w.heap.size + 1 + sz o1 + 1, 1, none⟩ = some (.int .u8 2) := by rw [← hW]; simp [go_sem]
  have k2 : W.cell? ⟨w.heap.size + 1 + sz o1 + 1, 2, none⟩ = some (.int .u8 1) := by rw [← hW]; simp [go_sem]
  have k3 : W.cell? ⟨w.heap.size + 1 + sz o1 + 1, 3, none⟩ = some (.int .u8 0) := by rw [← hW]; simp [go_sem]
  have kf : ∀ i, W.frozen? ⟨w.heap.size + 1 + sz o1 + 1, i, none⟩ = false := fun i => by rw [← hW]; simp [go_sem]
  have r0 : W.cell? ⟨w.heap.size, 0, none⟩ = some (.int .u8 0) := by rw [← hW]; simp [go_sem]
  have r1 : W.cell? ⟨w.heap.size, 1, none⟩ = some (.int .u8 0) := by rw [← hW]; simp [go_sem]
  have r2 : W.cell? ⟨w.heap.size, 2, none⟩ = some (.int .u8 0) := by rw [← hW]; simp [go_sem]
  have r3 : W.cell? ⟨w.heap.size, 3, none⟩ = some (.int .u8 0) := by rw [← hW]; simp [go_sem]
  have rf : ∀ i, W.frozen? ⟨w.heap.size, i, none⟩ = false := fun i => by rw [← hW]; simp [go_sem]
  clear hW
  generalize hb : w.heap.size + 1 + sz o1 = b at *
  have T2 := Lib.hid (T.out (b + 1) b W (HC.out W b g0 g1 g2 g3) (by omega) (by omega) k0 k1 k2 k3 kf)
  have SZ := Lib.hid hb
  clear T HC hb g0 g1 g2 g3
  go_upto_region 4 with (go_at_call 47; refine T2.out.mono ?_; rintro e w1 ⟨rfl, SS⟩)
  obtain ⟨q1, q2, q3, q4, va, vb, vc, vd, q5, q6, q7, q8, q9, -, -, -⟩ := SS
  have hne : w.heap.size ≠ b + 1 := by have := SZ.out; omega
  have t0 := (q3 _ 0 hne).trans r0
  have t1 := (q3 _ 1 hne).trans r1
  have t2 := (q3 _ 2 hne).trans r2
  have t3 := (q3 _ 3 hne).trans r3
  have tf := fun i => (q4 ⟨w.heap.size, i, none⟩).trans (rf i)
  have bel2 : Below w.heap.size w w1 := bel.trans (q1.mono (by have := SZ.out; omega))
  have hsz : w.heap.size ≤ w1.heap.size := bel2.size
  unfold encS at q6 q7 q8 q9
  clear k0 k1 k2 k3 r0 r1 r2 r3 q1 q2 q3 q4 rf bel T2 S SZ kf
  obtain ⟨a', ha⟩ : ∃ x, va.val = x := ⟨_, rfl⟩
  obtain ⟨b', hb⟩ : ∃ x, vb.val = x := ⟨_, rfl⟩
  obtain ⟨c', hc⟩ : ∃ x, vc.val = x := ⟨_, rfl⟩
  obtain ⟨d', hd⟩ : ∃ x, vd.val = x := ⟨_, rfl⟩
  rw [ha] at q6
  rw [hb] at q7
  rw [hc] at q8
  rw [hd] at q9
  go_wp2
  refine bodyPost_ret (v := .agg #[.int .u8 (a' : Nat), .int .u8 (b' : Nat), .int .u8 (c' : Nat), .int .u8 (d' : Nat)]) (by simp [results, Tryd.results28, go_sem, t0, t1, t2, t3]) rfl ⟨⟨va, vb, vc, vd, q5, by unfold sui4 encS; rw [ha, hb, hc, hd]⟩, ?_⟩
  repeat (first | (with_reducible exact bel2) | ((with_reducible refine below_grow ?_ ?_); rotate_left; focus (first | omega | (simp [go_sem]; done) | (simp [go_sem]; omega))) | ((with_reducible refine Below.alloc ?_ ?_ _); rotate_left; focus (first | omega | (simp [go_sem]; done) | (simp [go_sem]; omega))) | ((with_reducible refine Below.setCell ?_ ?_ _); rotate_left; focus (first | omega | (simp [go_sem]; done) | (simp [go_sem]; omega))) | (with_reducible refine Below.drew ?_) | (with_reducible refine below_drewN _ ?_))
end Go.Proofs.YtgndhdcnofblaaaDoor
