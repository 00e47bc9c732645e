/- waysFrom: the walk. -/
import Derived.Test.YtgcfkhpondemlaaXF0
namespace Go.Proofs.Ytgcfkhpondemlaa.Ca
open Go.RowKit
open Go.Proofs.DB (ct bt Pd lack W2 W3 W4)

set_option maxRecDepth 100000 in
set_option maxHeartbeats 8000000 in
theorem waysFrom_calls (p : Nat → Nat) (hp : Pd p) (w : World) :
    Calls Try.prog 28 #[.agg #[.int .u64 (p 0 : Nat), .int .u64 (p 1 : Nat), .int .u64 (p 2 : Nat), .int .u64 (p 3 : Nat)]] w fun e w' => e = .returned (.agg (wc (Wv p))) ∧ Below w.heap.size w w' := by
  have LK := fun i hi => lacking_calls (p i) (hp.lt i hi) (hp.few i hi)
  have hLK := Lib.hid LK
  clear LK hp
  go_enter Try.func28, Try.ntmps28
  go_upto_region 1 with fail
  refine wp_region_lit ?_
  refine wpList_plain rfl fun K1 hK1 => ?_
  go_simp
  refine hK1 _ _ ?_
  clear hK1 K1
  refine wpList_plain rfl fun K1 hK1 => ?_
  go_simp
  refine hK1 _ _ ?_
  clear hK1 K1
  refine wpList_plain rfl fun K1 hK1 => ?_
  go_simp
  refine hK1 _ _ ?_
  clear hK1 K1
  refine wpList_store_new rfl 63 _ _ rfl (w.heap.size + 1 + 1) (wc (fs0 1)) _ rfl (by simp) rfl 63 Try.infoWays rfl (wc_one _) ?_
  refine wpList_nil ?_
  generalize hW : World.alloc _ _ = W
  have b0 : blk W w.heap.size (#[.int .u64 (p 0 : Nat), .int .u64 (p 1 : Nat), .int .u64 (p 2 : Nat), .int .u64 (p 3 : Nat)]) 28 := by rw [← hW]; exact blk_alloc (blk_alloc (blk_new _ _ _) _) _
  have b1 : blk W (w.heap.size + 1) (wc fun _ => 0) 63 := by rw [← hW]; exact blk_alloc (blk_at _ _ _ (by simp)) _
  have b2 : blk W (w.heap.size + 2) (wc (fs p 4)) 63 := by rw [← hW]; exact blk_at _ _ _ (by simp)
  have bb : Below w.heap.size w W := by rw [← hW]; repeat (first | (with_reducible exact Below.refl _ _) | ((with_reducible refine below_grow ?_ ?_); rotate_left; focus (first | omega | (simp [go_sem]; done) | (simp [go_sem]; omega))) | ((with_reducible refine Below.alloc ?_ ?_ _); rotate_left; focus (first | omega | (simp [go_sem]; done) | (simp [go_sem]; omega))) | ((with_reducible refine Below.setCell ?_ ?_ _); rotate_left; focus (first | omega | (simp [go_sem]; done) | (simp [go_sem]; omega))) | (with_reducible refine Below.drew ?_) | (with_reducible refine below_drewN _ ?_))
  clear hW
  go_upto_region 4 with fail
  go_loopw [4, 5] (fun s4 s5 wr => ∃ s : Nat, s ≤ 4 ∧ s5 = .int .i64 ((s : Int) - 1) ∧ s4 = .int .i64 (cum p s : Nat) ∧ blk wr w.heap.size (#[.int .u64 (p 0 : Nat), .int .u64 (p 1 : Nat), .int .u64 (p 2 : Nat), .int .u64 (p 3 : Nat)]) 28 ∧ blk wr (w.heap.size + 1) (wc fun _ => 0) 63 ∧ blk wr (w.heap.size + 2) (wc (fs p s)) 63 ∧ Below w.heap.size w wr) (fun _ s5 _ => (intOf s5 + 1).toNat)
  case atStart => exact ⟨4, by decide, rfl, rfl, b0, b1, b2, bb⟩
  case round =>
    clear b0 b1 b2 bb
    obtain ⟨s, hs, rfl, rfl, b0, b1, b2, bb⟩ := hrel
    have ht := hs
    match s, hs, ht with
    | 0, _, ht =>
      clear hs ht
      rw [show ((0 : Nat) : Int) - 1 = -1 from rfl]
      go_upto_region 10 with fail
      refine wp_region_lit ?_
      have b1' : wr.heap[w.heap.size + 1]? = some (.cells (wc fun _ => 0) 63 (0, 0)) := b1
      have b2' : wr.heap[w.heap.size + 1 + 1]? = some (.cells (wc (fs p 0)) 63 (0, 0)) := b2
      refine wpList_load_row rfl _ _ rfl (w.heap.size + 1 + 1) rfl 63 (wc (fs p 0)) (0, 0) _ b2' Try.underlying63 rfl Try.infoWays ?_
      refine wpList_store_row rfl _ _ _ rfl (w.heap.size + 1) (wc (fs p 0)) rfl rfl 63 _ b1' Try.infoWays rfl (wc_one _) ?_
      refine wpList_nil ?_
      have c1 := blk_setRow b1 (wc (Wv p))
      have cb : Below w.heap.size w (wr.setRow (w.heap.size + 1) (wc (Wv p))) := below_setRow bb (by omega) _
      rw [show wc (fs p 0) = wc (Wv p) from rfl]
      generalize wr.setRow (w.heap.size + 1) (wc (Wv p)) = V at *
      clear b0 b1 b2 b1' b2' bb
      go_wp2
      refine bodyPost_ret (v := .agg (wc (Wv p))) (results_row (a := 2) (b := w.heap.size + 1) Try.results28 rfl c1 rfl Try.underlying63 Try.infoWays) rfl ⟨rfl, cb⟩
    | 1, _, ht =>
      have k0 : wr.cell? ⟨w.heap.size, 0, none⟩ = some (.int .u64 (p 0 : Nat)) := blk_cell b0 0
      have f2 : ∀ j, wr.frozen? ⟨w.heap.size + 1 + 1, j, none⟩ = false := fun j => blk_free b2 j
      have k4 : wr.cell? ⟨w.heap.size + 1 + 1, 4, none⟩ = some (.int .u32 (pt (Wv p 1) 0)) := blk_cell b2 4
      have k5 : wr.cell? ⟨w.heap.size + 1 + 1, 5, none⟩ = some (.int .u32 (pt (Wv p 1) 1)) := blk_cell b2 5
      have k6 : wr.cell? ⟨w.heap.size + 1 + 1, 6, none⟩ = some (.int .u32 (pt (Wv p 1) 2)) := blk_cell b2 6
      have k7 : wr.cell? ⟨w.heap.size + 1 + 1, 7, none⟩ = some (.int .u32 (pt (Wv p 1) 3)) := blk_cell b2 7
      have k0 : wr.cell? ⟨w.heap.size + 1 + 1, 0, none⟩ = some (.int .u32 (pt 0 0)) := blk_cell b2 0
      have k1 : wr.cell? ⟨w.heap.size + 1 + 1, 1, none⟩ = some (.int .u32 (pt 0 1)) := blk_cell b2 1
      have k2 : wr.cell? ⟨w.heap.size + 1 + 1, 2, none⟩ = some (.int .u32 (pt 0 2)) := blk_cell b2 2
      have k3 : wr.cell? ⟨w.heap.size + 1 + 1, 3, none⟩ = some (.int .u32 (pt 0 3)) := blk_cell b2 3
      haveI i0 : NeZero (inW w.heap.size wr) := inW_mk (blk_lt b0)
      haveI i2 : NeZero (inW (w.heap.size + 1 + 1) wr) := inW_mk (blk_lt b2)
      have e3 : IntKind.i64.wrap 1 = 1 := rfl
      have LK := Lib.hid (hLK.out 0 (by decide))
      have hll := lack_le p 0
      have hcl := cum_le p 0
      have hcl2 := cum_le p 1
      have hcum : cum p 1 + lack p 0 = cum p 0 := by unfold cum; simp only; omega
      have C1 := Lib.hid (choose_nat (cum p 0) (lack p 0) (by omega) (by omega))
      have M1 := Lib.hid (mul_at (bin (cum p 0) (lack p 0)) (Wv p 1) (Wv p 0) (bin_le _ _ (by omega)) (Wv_isN p 1) (Wv_mul p 0 (by decide)) (Wv_isN p 0))
      have e1 : IntKind.i64.wrap ((cum p 1 : Int) + (lack p 0 : Int)) = (cum p 0 : Int) := by rw [IntWalk.i64_in _ (by omega)]; omega
      rw [show ((13 - ct (p 0) 52 : Nat)) = lack p 0 from rfl] at LK
      obtain ⟨lk, hlk⟩ : ∃ x, lack p 0 = x := ⟨_, rfl⟩
      obtain ⟨cu, hcu⟩ : ∃ x, cum p 1 = x := ⟨_, rfl⟩
      obtain ⟨cv, hcv⟩ : ∃ x, cum p 0 = x := ⟨_, rfl⟩
      obtain ⟨ma, hma⟩ : ∃ x, Wv p 1 = x := ⟨_, rfl⟩
      obtain ⟨mb, hmb⟩ : ∃ x, Wv p 0 = x := ⟨_, rfl⟩
      rw [hlk] at LK C1 M1 e1
      rw [hcv] at C1 M1 e1
      obtain ⟨q, hq⟩ : ∃ x, bin cv lk = x := ⟨_, rfl⟩
      rw [hq] at C1 M1
      rw [hcu] at e1 ⊢
      rw [hma] at M1 k4 k5 k6 k7
      rw [hmb] at M1
      have B0 := Lib.hid b0; have B1 := Lib.hid b1; have B2 := Lib.hid b2; have BB := Lib.hid bb
      have HC := Lib.hid hcv; have HM := Lib.hid hmb
      rw [show ((1 : Nat) : Int) - 1 = 0 from rfl]
      clear b0 b1 b2 bb hlk hcu hcv hma hmb hq hcum hcl hcl2 hll ht
      go_upto_region 9 with (first | (go_at_call 34; refine (LK.out _).mono ?_; rintro e w9 ⟨rfl, rfl⟩) | (go_at_call 53; refine (C1.out _).mono ?_; rintro e w9 ⟨rfl, hbel⟩; obtain ⟨o1, j1, rfl⟩ := grow_of_below hbel; clear hbel))
      go_region_with (go_at_call 30; refine (M1.out _ _ ?_).mono ?_; (refine blk_drew (blk_at _ _ _ ?_)); (simp [go_sem]); rintro e w9 ⟨rfl, hbel⟩; obtain ⟨o2, j2, rfl⟩ := grow_of_below hbel; clear hbel)
      all_goals go_wp2
      all_goals go_roundw
      all_goals first
        | (simp [intOf]; done)
        | (
            have B0 := B0.out; have B1 := B1.out; have B2 := B2.out; have hbs := BB.out.size
            have c2 := blk_set (blk_set (blk_set (blk_set B2 0 (.int .u32 (pt mb 0))) 1 (.int .u32 (pt mb 1))) 2 (.int .u32 (pt mb 2))) 3 (.int .u32 (pt mb 3))
            have e2 : ((((wc (fs p 1)).setIfInBounds 0 (.int .u32 (pt mb 0))).setIfInBounds 1 (.int .u32 (pt mb 1))).setIfInBounds 2 (.int .u32 (pt mb 2))).setIfInBounds 3 (.int .u32 (pt mb 3)) = wc (fs p 0) := by rw [← HM.out]; rfl
            rw [e2] at c2
            refine ⟨0, by decide, rfl, by rw [HC.out], ?_, ?_, ?_, ?_⟩
            · exact blk_grow (blk_alloc (blk_alloc (blk_grow (blk_other (blk_other (blk_other (blk_other B0 (by omega) _) (by omega) _) (by omega) _) (by omega) _) _ _) _) _) _ _
            · exact blk_grow (blk_alloc (blk_alloc (blk_grow (blk_other (blk_other (blk_other (blk_other B1 (by omega) _) (by omega) _) (by omega) _) (by omega) _) _ _) _) _) _ _
            · exact blk_grow (blk_alloc (blk_alloc (blk_grow c2 _ _) _) _) _ _
            · repeat (first | (with_reducible exact BB.out) | ((with_reducible refine below_grow ?_ ?_); rotate_left; focus (first | omega | (simp [go_sem]; done) | (simp [go_sem]; omega))) | ((with_reducible refine Below.alloc ?_ ?_ _); rotate_left; focus (first | omega | (simp [go_sem]; done) | (simp [go_sem]; omega))) | ((with_reducible refine Below.setCell ?_ ?_ _); rotate_left; focus (first | omega | (simp [go_sem]; done) | (simp [go_sem]; omega))) | (with_reducible refine Below.drew ?_) | (with_reducible refine below_drewN _ ?_)))
    | 2, _, ht =>
      have k0 : wr.cell? ⟨w.heap.size, 1, none⟩ = some (.int .u64 (p 1 : Nat)) := blk_cell b0 1
      have f2 : ∀ j, wr.frozen? ⟨w.heap.size + 1 + 1, j, none⟩ = false := fun j => blk_free b2 j
      have k8 : wr.cell? ⟨w.heap.size + 1 + 1, 8, none⟩ = some (.int .u32 (pt (Wv p 2) 0)) := blk_cell b2 8
      have k9 : wr.cell? ⟨w.heap.size + 1 + 1, 9, none⟩ = some (.int .u32 (pt (Wv p 2) 1)) := blk_cell b2 9
      have k10 : wr.cell? ⟨w.heap.size + 1 + 1, 10, none⟩ = some (.int .u32 (pt (Wv p 2) 2)) := blk_cell b2 10
      have k11 : wr.cell? ⟨w.heap.size + 1 + 1, 11, none⟩ = some (.int .u32 (pt (Wv p 2) 3)) := blk_cell b2 11
      have k4 : wr.cell? ⟨w.heap.size + 1 + 1, 4, none⟩ = some (.int .u32 (pt 0 0)) := blk_cell b2 4
      have k5 : wr.cell? ⟨w.heap.size + 1 + 1, 5, none⟩ = some (.int .u32 (pt 0 1)) := blk_cell b2 5
      have k6 : wr.cell? ⟨w.heap.size + 1 + 1, 6, none⟩ = some (.int .u32 (pt 0 2)) := blk_cell b2 6
      have k7 : wr.cell? ⟨w.heap.size + 1 + 1, 7, none⟩ = some (.int .u32 (pt 0 3)) := blk_cell b2 7
      haveI i0 : NeZero (inW w.heap.size wr) := inW_mk (blk_lt b0)
      haveI i2 : NeZero (inW (w.heap.size + 1 + 1) wr) := inW_mk (blk_lt b2)
      have e3 : IntKind.i64.wrap 1 = 1 := rfl
      have LK := Lib.hid (hLK.out 1 (by decide))
      have hll := lack_le p 1
      have hcl := cum_le p 1
      have hcl2 := cum_le p 2
      have hcum : cum p 2 + lack p 1 = cum p 1 := by unfold cum; simp only; omega
      have C1 := Lib.hid (choose_nat (cum p 1) (lack p 1) (by omega) (by omega))
      have M1 := Lib.hid (mul_at (bin (cum p 1) (lack p 1)) (Wv p 2) (Wv p 1) (bin_le _ _ (by omega)) (Wv_isN p 2) (Wv_mul p 1 (by decide)) (Wv_isN p 1))
      have e1 : IntKind.i64.wrap ((cum p 2 : Int) + (lack p 1 : Int)) = (cum p 1 : Int) := by rw [IntWalk.i64_in _ (by omega)]; omega
      rw [show ((13 - ct (p 1) 52 : Nat)) = lack p 1 from rfl] at LK
      obtain ⟨lk, hlk⟩ : ∃ x, lack p 1 = x := ⟨_, rfl⟩
      obtain ⟨cu, hcu⟩ : ∃ x, cum p 2 = x := ⟨_, rfl⟩
      obtain ⟨cv, hcv⟩ : ∃ x, cum p 1 = x := ⟨_, rfl⟩
      obtain ⟨ma, hma⟩ : ∃ x, Wv p 2 = x := ⟨_, rfl⟩
      obtain ⟨mb, hmb⟩ : ∃ x, Wv p 1 = x := ⟨_, rfl⟩
      rw [hlk] at LK C1 M1 e1
      rw [hcv] at C1 M1 e1
      obtain ⟨q, hq⟩ : ∃ x, bin cv lk = x := ⟨_, rfl⟩
      rw [hq] at C1 M1
      rw [hcu] at e1 ⊢
      rw [hma] at M1 k8 k9 k10 k11
      rw [hmb] at M1
      have B0 := Lib.hid b0; have B1 := Lib.hid b1; have B2 := Lib.hid b2; have BB := Lib.hid bb
      have HC := Lib.hid hcv; have HM := Lib.hid hmb
      rw [show ((2 : Nat) : Int) - 1 = 1 from rfl]
      clear b0 b1 b2 bb hlk hcu hcv hma hmb hq hcum hcl hcl2 hll ht
      go_upto_region 9 with (first | (go_at_call 34; refine (LK.out _).mono ?_; rintro e w9 ⟨rfl, rfl⟩) | (go_at_call 53; refine (C1.out _).mono ?_; rintro e w9 ⟨rfl, hbel⟩; obtain ⟨o1, j1, rfl⟩ := grow_of_below hbel; clear hbel))
      go_region_with (go_at_call 30; refine (M1.out _ _ ?_).mono ?_; (refine blk_drew (blk_at _ _ _ ?_)); (simp [go_sem]); rintro e w9 ⟨rfl, hbel⟩; obtain ⟨o2, j2, rfl⟩ := grow_of_below hbel; clear hbel)
      all_goals go_wp2
      all_goals go_roundw
      all_goals first
        | (simp [intOf]; done)
        | (
            have B0 := B0.out; have B1 := B1.out; have B2 := B2.out; have hbs := BB.out.size
            have c2 := blk_set (blk_set (blk_set (blk_set B2 4 (.int .u32 (pt mb 0))) 5 (.int .u32 (pt mb 1))) 6 (.int .u32 (pt mb 2))) 7 (.int .u32 (pt mb 3))
            have e2 : ((((wc (fs p 2)).setIfInBounds 4 (.int .u32 (pt mb 0))).setIfInBounds 5 (.int .u32 (pt mb 1))).setIfInBounds 6 (.int .u32 (pt mb 2))).setIfInBounds 7 (.int .u32 (pt mb 3)) = wc (fs p 1) := by rw [← HM.out]; rfl
            rw [e2] at c2
            refine ⟨1, by decide, rfl, by rw [HC.out], ?_, ?_, ?_, ?_⟩
            · exact blk_grow (blk_alloc (blk_alloc (blk_grow (blk_other (blk_other (blk_other (blk_other B0 (by omega) _) (by omega) _) (by omega) _) (by omega) _) _ _) _) _) _ _
            · exact blk_grow (blk_alloc (blk_alloc (blk_grow (blk_other (blk_other (blk_other (blk_other B1 (by omega) _) (by omega) _) (by omega) _) (by omega) _) _ _) _) _) _ _
            · exact blk_grow (blk_alloc (blk_alloc (blk_grow c2 _ _) _) _) _ _
            · repeat (first | (with_reducible exact BB.out) | ((with_reducible refine below_grow ?_ ?_); rotate_left; focus (first | omega | (simp [go_sem]; done) | (simp [go_sem]; omega))) | ((with_reducible refine Below.alloc ?_ ?_ _); rotate_left; focus (first | omega | (simp [go_sem]; done) | (simp [go_sem]; omega))) | ((with_reducible refine Below.setCell ?_ ?_ _); rotate_left; focus (first | omega | (simp [go_sem]; done) | (simp [go_sem]; omega))) | (with_reducible refine Below.drew ?_) | (with_reducible refine below_drewN _ ?_)))
    | 3, _, ht =>
      have k0 : wr.cell? ⟨w.heap.size, 2, none⟩ = some (.int .u64 (p 2 : Nat)) := blk_cell b0 2
      have f2 : ∀ j, wr.frozen? ⟨w.heap.size + 1 + 1, j, none⟩ = false := fun j => blk_free b2 j
      have k12 : wr.cell? ⟨w.heap.size + 1 + 1, 12, none⟩ = some (.int .u32 (pt (Wv p 3) 0)) := blk_cell b2 12
      have k13 : wr.cell? ⟨w.heap.size + 1 + 1, 13, none⟩ = some (.int .u32 (pt (Wv p 3) 1)) := blk_cell b2 13
      have k14 : wr.cell? ⟨w.heap.size + 1 + 1, 14, none⟩ = some (.int .u32 (pt (Wv p 3) 2)) := blk_cell b2 14
      have k15 : wr.cell? ⟨w.heap.size + 1 + 1, 15, none⟩ = some (.int .u32 (pt (Wv p 3) 3)) := blk_cell b2 15
      have k8 : wr.cell? ⟨w.heap.size + 1 + 1, 8, none⟩ = some (.int .u32 (pt 0 0)) := blk_cell b2 8
      have k9 : wr.cell? ⟨w.heap.size + 1 + 1, 9, none⟩ = some (.int .u32 (pt 0 1)) := blk_cell b2 9
      have k10 : wr.cell? ⟨w.heap.size + 1 + 1, 10, none⟩ = some (.int .u32 (pt 0 2)) := blk_cell b2 10
      have k11 : wr.cell? ⟨w.heap.size + 1 + 1, 11, none⟩ = some (.int .u32 (pt 0 3)) := blk_cell b2 11
      haveI i0 : NeZero (inW w.heap.size wr) := inW_mk (blk_lt b0)
      haveI i2 : NeZero (inW (w.heap.size + 1 + 1) wr) := inW_mk (blk_lt b2)
      have e3 : IntKind.i64.wrap 1 = 1 := rfl
      have LK := Lib.hid (hLK.out 2 (by decide))
      have hll := lack_le p 2
      have hcl := cum_le p 2
      have hcl2 := cum_le p 3
      have hcum : cum p 3 + lack p 2 = cum p 2 := by unfold cum; simp only; omega
      have C1 := Lib.hid (choose_nat (cum p 2) (lack p 2) (by omega) (by omega))
      have M1 := Lib.hid (mul_at (bin (cum p 2) (lack p 2)) (Wv p 3) (Wv p 2) (bin_le _ _ (by omega)) (Wv_isN p 3) (Wv_mul p 2 (by decide)) (Wv_isN p 2))
      have e1 : IntKind.i64.wrap ((cum p 3 : Int) + (lack p 2 : Int)) = (cum p 2 : Int) := by rw [IntWalk.i64_in _ (by omega)]; omega
      rw [show ((13 - ct (p 2) 52 : Nat)) = lack p 2 from rfl] at LK
      obtain ⟨lk, hlk⟩ : ∃ x, lack p 2 = x := ⟨_, rfl⟩
      obtain ⟨cu, hcu⟩ : ∃ x, cum p 3 = x := ⟨_, rfl⟩
      obtain ⟨cv, hcv⟩ : ∃ x, cum p 2 = x := ⟨_, rfl⟩
      obtain ⟨ma, hma⟩ : ∃ x, Wv p 3 = x := ⟨_, rfl⟩
      obtain ⟨mb, hmb⟩ : ∃ x, Wv p 2 = x := ⟨_, rfl⟩
      rw [hlk] at LK C1 M1 e1
      rw [hcv] at C1 M1 e1
      obtain ⟨q, hq⟩ : ∃ x, bin cv lk = x := ⟨_, rfl⟩
      rw [hq] at C1 M1
      rw [hcu] at e1 ⊢
      rw [hma] at M1 k12 k13 k14 k15
      rw [hmb] at M1
      have B0 := Lib.hid b0; have B1 := Lib.hid b1; have B2 := Lib.hid b2; have BB := Lib.hid bb
      have HC := Lib.hid hcv; have HM := Lib.hid hmb
      rw [show ((3 : Nat) : Int) - 1 = 2 from rfl]
      clear b0 b1 b2 bb hlk hcu hcv hma hmb hq hcum hcl hcl2 hll ht
      go_upto_region 9 with (first | (go_at_call 34; refine (LK.out _).mono ?_; rintro e w9 ⟨rfl, rfl⟩) | (go_at_call 53; refine (C1.out _).mono ?_; rintro e w9 ⟨rfl, hbel⟩; obtain ⟨o1, j1, rfl⟩ := grow_of_below hbel; clear hbel))
      go_region_with (go_at_call 30; refine (M1.out _ _ ?_).mono ?_; (refine blk_drew (blk_at _ _ _ ?_)); (simp [go_sem]); rintro e w9 ⟨rfl, hbel⟩; obtain ⟨o2, j2, rfl⟩ := grow_of_below hbel; clear hbel)
      all_goals go_wp2
      all_goals go_roundw
      all_goals first
        | (simp [intOf]; done)
        | (
            have B0 := B0.out; have B1 := B1.out; have B2 := B2.out; have hbs := BB.out.size
            have c2 := blk_set (blk_set (blk_set (blk_set B2 8 (.int .u32 (pt mb 0))) 9 (.int .u32 (pt mb 1))) 10 (.int .u32 (pt mb 2))) 11 (.int .u32 (pt mb 3))
            have e2 : ((((wc (fs p 3)).setIfInBounds 8 (.int .u32 (pt mb 0))).setIfInBounds 9 (.int .u32 (pt mb 1))).setIfInBounds 10 (.int .u32 (pt mb 2))).setIfInBounds 11 (.int .u32 (pt mb 3)) = wc (fs p 2) := by rw [← HM.out]; rfl
            rw [e2] at c2
            refine ⟨2, by decide, rfl, by rw [HC.out], ?_, ?_, ?_, ?_⟩
            · exact blk_grow (blk_alloc (blk_alloc (blk_grow (blk_other (blk_other (blk_other (blk_other B0 (by omega) _) (by omega) _) (by omega) _) (by omega) _) _ _) _) _) _ _
            · exact blk_grow (blk_alloc (blk_alloc (blk_grow (blk_other (blk_other (blk_other (blk_other B1 (by omega) _) (by omega) _) (by omega) _) (by omega) _) _ _) _) _) _ _
            · exact blk_grow (blk_alloc (blk_alloc (blk_grow c2 _ _) _) _) _ _
            · repeat (first | (with_reducible exact BB.out) | ((with_reducible refine below_grow ?_ ?_); rotate_left; focus (first | omega | (simp [go_sem]; done) | (simp [go_sem]; omega))) | ((with_reducible refine Below.alloc ?_ ?_ _); rotate_left; focus (first | omega | (simp [go_sem]; done) | (simp [go_sem]; omega))) | ((with_reducible refine Below.setCell ?_ ?_ _); rotate_left; focus (first | omega | (simp [go_sem]; done) | (simp [go_sem]; omega))) | (with_reducible refine Below.drew ?_) | (with_reducible refine below_drewN _ ?_)))
    | 4, _, ht =>
      have k0 : wr.cell? ⟨w.heap.size, 3, none⟩ = some (.int .u64 (p 3 : Nat)) := blk_cell b0 3
      have f2 : ∀ j, wr.frozen? ⟨w.heap.size + 1 + 1, j, none⟩ = false := fun j => blk_free b2 j
      have k16 : wr.cell? ⟨w.heap.size + 1 + 1, 16, none⟩ = some (.int .u32 (pt (Wv p 4) 0)) := blk_cell b2 16
      have k17 : wr.cell? ⟨w.heap.size + 1 + 1, 17, none⟩ = some (.int .u32 (pt (Wv p 4) 1)) := blk_cell b2 17
      have k18 : wr.cell? ⟨w.heap.size + 1 + 1, 18, none⟩ = some (.int .u32 (pt (Wv p 4) 2)) := blk_cell b2 18
      have k19 : wr.cell? ⟨w.heap.size + 1 + 1, 19, none⟩ = some (.int .u32 (pt (Wv p 4) 3)) := blk_cell b2 19
      have k12 : wr.cell? ⟨w.heap.size + 1 + 1, 12, none⟩ = some (.int .u32 (pt 0 0)) := blk_cell b2 12
      have k13 : wr.cell? ⟨w.heap.size + 1 + 1, 13, none⟩ = some (.int .u32 (pt 0 1)) := blk_cell b2 13
      have k14 : wr.cell? ⟨w.heap.size + 1 + 1, 14, none⟩ = some (.int .u32 (pt 0 2)) := blk_cell b2 14
      have k15 : wr.cell? ⟨w.heap.size + 1 + 1, 15, none⟩ = some (.int .u32 (pt 0 3)) := blk_cell b2 15
      haveI i0 : NeZero (inW w.heap.size wr) := inW_mk (blk_lt b0)
      haveI i2 : NeZero (inW (w.heap.size + 1 + 1) wr) := inW_mk (blk_lt b2)
      have e3 : IntKind.i64.wrap 1 = 1 := rfl
      have LK := Lib.hid (hLK.out 3 (by decide))
      have hll := lack_le p 3
      have hcl := cum_le p 3
      have hcl2 := cum_le p 4
      have hcum : cum p 4 + lack p 3 = cum p 3 := by unfold cum; simp only; omega
      have C1 := Lib.hid (choose_nat (cum p 3) (lack p 3) (by omega) (by omega))
      have M1 := Lib.hid (mul_at (bin (cum p 3) (lack p 3)) (Wv p 4) (Wv p 3) (bin_le _ _ (by omega)) (Wv_isN p 4) (Wv_mul p 3 (by decide)) (Wv_isN p 3))
      have e1 : IntKind.i64.wrap ((cum p 4 : Int) + (lack p 3 : Int)) = (cum p 3 : Int) := by rw [IntWalk.i64_in _ (by omega)]; omega
      rw [show ((13 - ct (p 3) 52 : Nat)) = lack p 3 from rfl] at LK
      obtain ⟨lk, hlk⟩ : ∃ x, lack p 3 = x := ⟨_, rfl⟩
      obtain ⟨cu, hcu⟩ : ∃ x, cum p 4 = x := ⟨_, rfl⟩
      obtain ⟨cv, hcv⟩ : ∃ x, cum p 3 = x := ⟨_, rfl⟩
      obtain ⟨ma, hma⟩ : ∃ x, Wv p 4 = x := ⟨_, rfl⟩
      obtain ⟨mb, hmb⟩ : ∃ x, Wv p 3 = x := ⟨_, rfl⟩
      rw [hlk] at LK C1 M1 e1
      rw [hcv] at C1 M1 e1
      obtain ⟨q, hq⟩ : ∃ x, bin cv lk = x := ⟨_, rfl⟩
      rw [hq] at C1 M1
      rw [hcu] at e1 ⊢
      rw [hma] at M1 k16 k17 k18 k19
      rw [hmb] at M1
      have B0 := Lib.hid b0; have B1 := Lib.hid b1; have B2 := Lib.hid b2; have BB := Lib.hid bb
      have HC := Lib.hid hcv; have HM := Lib.hid hmb
      rw [show ((4 : Nat) : Int) - 1 = 3 from rfl]
      clear b0 b1 b2 bb hlk hcu hcv hma hmb hq hcum hcl hcl2 hll ht
      go_upto_region 9 with (first | (go_at_call 34; refine (LK.out _).mono ?_; rintro e w9 ⟨rfl, rfl⟩) | (go_at_call 53; refine (C1.out _).mono ?_; rintro e w9 ⟨rfl, hbel⟩; obtain ⟨o1, j1, rfl⟩ := grow_of_below hbel; clear hbel))
      go_region_with (go_at_call 30; refine (M1.out _ _ ?_).mono ?_; (refine blk_drew (blk_at _ _ _ ?_)); (simp [go_sem]); rintro e w9 ⟨rfl, hbel⟩; obtain ⟨o2, j2, rfl⟩ := grow_of_below hbel; clear hbel)
      all_goals go_wp2
      all_goals go_roundw
      all_goals first
        | (simp [intOf]; done)
        | (
            have B0 := B0.out; have B1 := B1.out; have B2 := B2.out; have hbs := BB.out.size
            have c2 := blk_set (blk_set (blk_set (blk_set B2 12 (.int .u32 (pt mb 0))) 13 (.int .u32 (pt mb 1))) 14 (.int .u32 (pt mb 2))) 15 (.int .u32 (pt mb 3))
            have e2 : ((((wc (fs p 4)).setIfInBounds 12 (.int .u32 (pt mb 0))).setIfInBounds 13 (.int .u32 (pt mb 1))).setIfInBounds 14 (.int .u32 (pt mb 2))).setIfInBounds 15 (.int .u32 (pt mb 3)) = wc (fs p 3) := by rw [← HM.out]; rfl
            rw [e2] at c2
            refine ⟨3, by decide, rfl, by rw [HC.out], ?_, ?_, ?_, ?_⟩
            · exact blk_grow (blk_alloc (blk_alloc (blk_grow (blk_other (blk_other (blk_other (blk_other B0 (by omega) _) (by omega) _) (by omega) _) (by omega) _) _ _) _) _) _ _
            · exact blk_grow (blk_alloc (blk_alloc (blk_grow (blk_other (blk_other (blk_other (blk_other B1 (by omega) _) (by omega) _) (by omega) _) (by omega) _) _ _) _) _) _ _
            · exact blk_grow (blk_alloc (blk_alloc (blk_grow c2 _ _) _) _) _ _
            · repeat (first | (with_reducible exact BB.out) | ((with_reducible refine below_grow ?_ ?_); rotate_left; focus (first | omega | (simp [go_sem]; done) | (simp [go_sem]; omega))) | ((with_reducible refine Below.alloc ?_ ?_ _); rotate_left; focus (first | omega | (simp [go_sem]; done) | (simp [go_sem]; omega))) | ((with_reducible refine Below.setCell ?_ ?_ _); rotate_left; focus (first | omega | (simp [go_sem]; done) | (simp [go_sem]; omega))) | (with_reducible refine Below.drew ?_) | (with_reducible refine below_drewN _ ?_)))
end Go.Proofs.Ytgcfkhpondemlaa.Ca
