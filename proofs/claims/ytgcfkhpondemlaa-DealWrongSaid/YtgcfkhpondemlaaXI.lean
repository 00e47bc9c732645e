/- Complete. -/
import Derived.Test.YtgcfkhpondemlaaXG
import Derived.Test.YtgcfkhpondemlaaXH
import Derived.Test.YtgcfkhpondemlaaXIm
namespace Go.Proofs.Ytgcfkhpondemlaa.Ca
open Go.RowKit
open Go.Proofs.DB (ct bt Pd lack W2 W3 W4 un Sb left)

theorem complete_no (p : Nat → Nat) (n : Nat) (h64 : ∀ i, i < 4 → p i < 18446744073709551616) (hp : ¬ Pd p) (w : World) : Calls Try.prog 12 #[.agg #[.int .u64 (p 0 : Nat), .int .u64 (p 1 : Nat), .int .u64 (p 2 : Nat), .int .u64 (p 3 : Nat)], .agg #[.int .u32 (pt n 0), .int .u32 (pt n 1), .int .u32 (pt n 2), .int .u32 (pt n 3)]] w fun e w' => e = .returned (.tuple #[.agg #[.int .u64 0, .int .u64 0, .int .u64 0, .int .u64 0], .int .i64 60]) ∧ Below w.heap.size w w' := by
  have P := Lib.hid (left_no p h64 hp)
  clear hp h64
  go_enter Try.func12, Try.ntmps12
  go_wp2_with (go_at_call 17; refine (P.out _).mono ?_; rintro e w9 ⟨rfl, hbel⟩; obtain ⟨o1, j1, rfl⟩ := grow_of_below hbel; clear hbel)
  refine bodyPost_ret (by simp [results, Try.results12, go_sem]) rfl ⟨rfl, ?_⟩
  repeat (first | (with_reducible exact Below.refl _ _) | ((with_reducible refine below_grow ?_ ?_); rotate_left; focus (first | omega | (simp [go_sem]; done) | (simp [go_sem]; omega))) | ((with_reducible refine Below.alloc ?_ ?_ _); rotate_left; focus (first | omega | (simp [go_sem]; done) | (simp [go_sem]; omega))) | ((with_reducible refine Below.setCell ?_ ?_ _); rotate_left; focus (first | omega | (simp [go_sem]; done) | (simp [go_sem]; omega))) | (with_reducible refine Below.drew ?_) | (with_reducible refine below_drewN _ ?_))
set_option maxRecDepth 100000 in
set_option maxHeartbeats 8000000 in
theorem complete_all (p : Nat → Nat) (n : Nat) (hp : Pd p) (hn : isN n) (dz : Nat → Nat) (he : n < DB.ways bin p → ∀ i, i < 4 → dz i = DB.complete bin p n i) (w : World) : Calls Try.prog 12 #[.agg #[.int .u64 (p 0 : Nat), .int .u64 (p 1 : Nat), .int .u64 (p 2 : Nat), .int .u64 (p 3 : Nat)], .agg #[.int .u32 (pt n 0), .int .u32 (pt n 1), .int .u32 (pt n 2), .int .u32 (pt n 3)]] w fun e w' =>
    (n < DB.ways bin p → e = .returned (.tuple #[.agg #[.int .u64 (dz 0 : Nat), .int .u64 (dz 1 : Nat), .int .u64 (dz 2 : Nat), .int .u64 (dz 3 : Nat)], .int .i64 0])) ∧ (¬ n < DB.ways bin p → e = .returned (.tuple #[.agg #[.int .u64 0, .int .u64 0, .int .u64 0, .int .u64 0], .int .i64 6])) ∧ Below w.heap.size w w' := by
  have P := Lib.hid (left_yes p hp)
  have F := Lib.hid (waysFrom_calls p hp)
  have HP := Lib.hid hp
  have HN := Lib.hid hn
  have HE := Lib.hid he
  obtain ⟨c, hc⟩ : ∃ c : Int, cmpN n (Wv p 0) = c := ⟨_, rfl⟩
  have C := Lib.hid (Se.cmp_hyp n (Wv p 0) c hn (Wv_isN p 0) hc)
  have HC := Lib.hid hc
  obtain ⟨L, hL⟩ : ∃ L, left p = L := ⟨_, rfl⟩
  rw [hL] at P
  have HLL := Lib.hid hL
  clear he hp hn hc hL
  go_enter Try.func12, Try.ntmps12
  go_upto_region 4 with (go_at_call 17; refine (P.out _).mono ?_; rintro e w9 ⟨rfl, hbel⟩; obtain ⟨o1, j1, rfl⟩ := grow_of_below hbel; clear hbel)
  refine wp_region_lit ?_
  refine wpList_plain rfl fun K1 hK1 => ?_
  go_simp
  refine hK1 _ _ ?_
  clear hK1 K1
  refine wpList_plain rfl fun K1 hK1 => ?_
  go_simp
  (go_at_call 28; refine (F.out _).mono ?_; rintro e w9 ⟨rfl, hbel⟩; obtain ⟨o2, j2, rfl⟩ := grow_of_below hbel; clear hbel)
  refine hK1 _ _ ?_
  clear hK1 K1
  refine wpList_plain rfl fun K1 hK1 => ?_
  go_simp
  refine hK1 _ _ ?_
  clear hK1 K1
  refine wpList_store_new rfl 63 _ _ rfl _ (wc (Wv p)) _ rfl (by simp [go_sem]) rfl 63 Try.infoWays rfl (wc_one _) ?_
  refine wpList_nil ?_
  generalize hW : World.alloc (grow (World.alloc (grow _ o1 j1) _) o2 j2) _ = W
  generalize hpl : w.heap.size + 1 + 1 + 1 + sz o1 = pl at *
  have b0 : blk W w.heap.size (#[.int .u64 (p 0 : Nat), .int .u64 (p 1 : Nat), .int .u64 (p 2 : Nat), .int .u64 (p 3 : Nat)]) 28 := by rw [← hW]; exact blk_alloc (blk_grow (blk_alloc (blk_grow (blk_alloc (blk_alloc (blk_new _ _ _) _) _) _ _) _) _ _) _
  have b1 : blk W (w.heap.size + 1) (#[.int .u32 (pt n 0), .int .u32 (pt n 1), .int .u32 (pt n 2), .int .u32 (pt n 3)]) 26 := by rw [← hW]; exact blk_alloc (blk_grow (blk_alloc (blk_grow (blk_alloc (blk_at _ _ _ (by simp)) _) _ _) _) _ _) _
  have b2 : blk W (w.heap.size + 2) #[.int .u64 0, .int .u64 0, .int .u64 0, .int .u64 0] 28 := by rw [← hW]; exact blk_alloc (blk_grow (blk_alloc (blk_grow (blk_at _ _ _ (by simp)) _ _) _) _ _) _
  have b3 : blk W pl #[.int .u64 L] 23 := by rw [← hW]; exact blk_alloc (blk_grow (blk_at _ _ _ (by rw [← hpl]; simp [go_sem])) _ _) _
  have b4 : blk W (pl + 1 + sz o2) (wc (Wv p)) 63 := by rw [← hW]; exact blk_at _ _ _ (by rw [← hpl]; simp [go_sem])
  have bb : Below w.heap.size w W := by rw [← hW]; repeat (first | (with_reducible exact Below.refl _ _) | ((with_reducible refine below_grow ?_ ?_); rotate_left; focus (first | omega | (simp [go_sem]; done) | (simp [go_sem]; omega))) | ((with_reducible refine Below.alloc ?_ ?_ _); rotate_left; focus (first | omega | (simp [go_sem]; done) | (simp [go_sem]; omega))) | ((with_reducible refine Below.setCell ?_ ?_ _); rotate_left; focus (first | omega | (simp [go_sem]; done) | (simp [go_sem]; omega))) | (with_reducible refine Below.drew ?_) | (with_reducible refine below_drewN _ ?_))
  clear hW
  have l1 : w.heap.size + 2 < pl := by omega
  have l2 : pl < pl + 1 + sz o2 := by omega
  generalize pl + 1 + sz o2 = pw at *
  clear hpl P F
  have hbs := bb.size
  have lw := blk_lt b4
  have k10 : W.cell? ⟨w.heap.size + 1, 0, none⟩ = some (.int .u32 (pt n 0)) := blk_cell b1 0
  have k11 : W.cell? ⟨w.heap.size + 1, 1, none⟩ = some (.int .u32 (pt n 1)) := blk_cell b1 1
  have k12 : W.cell? ⟨w.heap.size + 1, 2, none⟩ = some (.int .u32 (pt n 2)) := blk_cell b1 2
  have k13 : W.cell? ⟨w.heap.size + 1, 3, none⟩ = some (.int .u32 (pt n 3)) := blk_cell b1 3
  have k40 : W.cell? ⟨pw, 0, none⟩ = some (.int .u32 (pt (Wv p 0) 0)) := blk_cell b4 0
  have k41 : W.cell? ⟨pw, 1, none⟩ = some (.int .u32 (pt (Wv p 0) 1)) := blk_cell b4 1
  have k42 : W.cell? ⟨pw, 2, none⟩ = some (.int .u32 (pt (Wv p 0) 2)) := blk_cell b4 2
  have k43 : W.cell? ⟨pw, 3, none⟩ = some (.int .u32 (pt (Wv p 0) 3)) := blk_cell b4 3
  have k00 : W.cell? ⟨w.heap.size, 0, none⟩ = some (.int .u64 (p 0 : Nat)) := blk_cell b0 0
  have k01 : W.cell? ⟨w.heap.size, 1, none⟩ = some (.int .u64 (p 1 : Nat)) := blk_cell b0 1
  have k02 : W.cell? ⟨w.heap.size, 2, none⟩ = some (.int .u64 (p 2 : Nat)) := blk_cell b0 2
  have k03 : W.cell? ⟨w.heap.size, 3, none⟩ = some (.int .u64 (p 3 : Nat)) := blk_cell b0 3
  have r0 : W.cell? ⟨w.heap.size + 1 + 1, 0, none⟩ = some (.int .u64 0) := blk_cell b2 0
  have r1 : W.cell? ⟨w.heap.size + 1 + 1, 1, none⟩ = some (.int .u64 0) := blk_cell b2 1
  have r2 : W.cell? ⟨w.heap.size + 1 + 1, 2, none⟩ = some (.int .u64 0) := blk_cell b2 2
  have r3 : W.cell? ⟨w.heap.size + 1 + 1, 3, none⟩ = some (.int .u64 0) := blk_cell b2 3
  have f2 : ∀ j, W.frozen? ⟨w.heap.size + 1 + 1, j, none⟩ = false := fun j => blk_free b2 j
  haveI i1 : NeZero (inW (w.heap.size + 1) W) := inW_mk (blk_lt b1)
  haveI i2 : NeZero (inW (w.heap.size + 1 + 1) W) := inW_mk (blk_lt b2)
  haveI i0 : NeZero (inW w.heap.size W) := inW_mk (blk_lt b0)
  haveI i4 : NeZero (inW pw W) := inW_mk (blk_lt b4)
  obtain ⟨m, hm⟩ : ∃ m, Wv p 0 = m := ⟨_, rfl⟩
  rw [hm] at k40 k41 k42 k43 C HC
  have HM := Lib.hid (hm : DB.ways bin p = m)
  clear hm
  by_cases hlt : n < m
  · have hc1 : c = -1 := by rw [← HC.out]; exact if_pos hlt
    subst hc1
    have B0 := Lib.hid b0; have B1 := Lib.hid b1; have B2 := Lib.hid b2; have B3 := Lib.hid b3; have B4 := Lib.hid b4; have BB := Lib.hid bb
    have HLT := Lib.hid hlt
    clear b0 b1 b2 b3 b4 bb hlt
    go_upto_region 9 with (go_at_call 13; refine (C.out _).mono ?_; rintro e w9 ⟨rfl, hbel⟩; obtain ⟨o3, j3, rfl⟩ := grow_of_below hbel; clear hbel)
    generalize hV : World.alloc (grow W o3 j3) _ = V
    generalize hpd : W.heap.size + sz o3 = pd at *
    have c0 : blk V w.heap.size (#[.int .u64 (p 0 : Nat), .int .u64 (p 1 : Nat), .int .u64 (p 2 : Nat), .int .u64 (p 3 : Nat)]) 28 := by rw [← hV]; exact blk_alloc (blk_grow B0.out _ _) _
    have c1 : blk V (w.heap.size + 1) (#[.int .u32 (pt n 0), .int .u32 (pt n 1), .int .u32 (pt n 2), .int .u32 (pt n 3)]) 26 := by rw [← hV]; exact blk_alloc (blk_grow B1.out _ _) _
    have c2 : blk V (w.heap.size + 2) #[.int .u64 0, .int .u64 0, .int .u64 0, .int .u64 0] 28 := by rw [← hV]; exact blk_alloc (blk_grow B2.out _ _) _
    have c3 : blk V pl #[.int .u64 L] 23 := by rw [← hV]; exact blk_alloc (blk_grow B3.out _ _) _
    have c4 : blk V pw (Ca.wc (Wv p)) 63 := by rw [← hV]; exact blk_alloc (blk_grow B4.out _ _) _
    have c5 : blk V pd (#[.int .u64 (p 0 : Nat), .int .u64 (p 1 : Nat), .int .u64 (p 2 : Nat), .int .u64 (p 3 : Nat)]) 28 := by rw [← hV]; exact blk_at _ _ _ (by rw [← hpd]; simp [go_sem])
    have cb : Below w.heap.size w V := by rw [← hV]; repeat (first | (with_reducible exact BB.out) | ((with_reducible refine below_grow ?_ ?_); rotate_left; focus (first | omega | (simp [go_sem]; done) | (simp [go_sem]; omega))) | ((with_reducible refine Below.alloc ?_ ?_ _); rotate_left; focus (first | omega | (simp [go_sem]; done) | (simp [go_sem]; omega))) | ((with_reducible refine Below.setCell ?_ ?_ _); rotate_left; focus (first | omega | (simp [go_sem]; done) | (simp [go_sem]; omega))) | (with_reducible refine Below.drew ?_) | (with_reducible refine below_drewN _ ?_))
    clear hV
    have l3 : pw < pd := by omega
    clear hpd B0 B1 B2 B3 B4 BB C k00 k01 k02 k03 k10 k11 k12 k13 k40 k41 k42 k43 r0 r1 r2 r3 f2 i0 i1 i2 i4 hbs lw
    have hn := HLT.out
    rw [← HM.out] at hn
    obtain ⟨xa, xb⟩ := xS_all HP.out hn
    have XA := Lib.hid xa
    have XB := Lib.hid xb
    have D0 : dS p n 0 = p := funext fun j => if_neg (Nat.not_lt_zero _)
    clear xa xb hn
    go_upto_region 10 with fail
    go_loopw [31, 11] (fun s31 s11 wr => ∃ s : Nat, s ≤ 4 ∧ s31 = .int .i64 s ∧ blk wr w.heap.size (#[.int .u64 (p 0 : Nat), .int .u64 (p 1 : Nat), .int .u64 (p 2 : Nat), .int .u64 (p 3 : Nat)]) 28 ∧ blk wr (w.heap.size + 1) (#[.int .u32 (pt (iS p n s) 0), .int .u32 (pt (iS p n s) 1), .int .u32 (pt (iS p n s) 2), .int .u32 (pt (iS p n s) 3)]) 26 ∧ blk wr (w.heap.size + 2) #[.int .u64 0, .int .u64 0, .int .u64 0, .int .u64 0] 28 ∧ blk wr pl #[.int .u64 (LS p n s : Nat)] 23 ∧ blk wr pw (Ca.wc (Wv p)) 63 ∧ blk wr pd (#[.int .u64 (dS p n s 0 : Nat), .int .u64 (dS p n s 1 : Nat), .int .u64 (dS p n s 2 : Nat), .int .u64 (dS p n s 3 : Nat)]) 28 ∧ Below w.heap.size w wr) (fun s31 _ _ => 4 - (intOf s31).toNat)
    case atStart => exact ⟨0, by decide, rfl, c0, c1, c2, by rw [show LS p n 0 = L from HLL.out]; exact c3, c4, by rw [D0]; exact c5, cb⟩
    case round =>
      clear c0 c1 c2 c3 c4 c5 cb
      obtain ⟨s, hs, rfl, b0, b1, b2, b3, b4, b5, bb⟩ := hrel
      by_cases hlt : s < 4
      · have hlt2 : (s : Int) < 4 := by omega
        have e1 : IntKind.i64.wrap ((s : Int) + 1) = (s : Int) + 1 := IntWalk.i64_in _ (by omega)
        have hds : dS p n s s < 4503599627370496 := by
          have : dS p n s s = p s := if_neg (Nat.lt_irrefl _)
          rw [this]; exact HP.out.lt s hlt
        have hiN : isN (iS p n s) := by have := iS_le p n s; have := HN.out; unfold isN at *; omega
        have FC := Lib.hid (fill_calls p HP.out s hlt (iS p n s) (LS p n s) (dS p n s) (LS_lt p n s) hiN (XA.out s hlt) hds (dS p n (s + 1)) (dS_succ p n s) (w.heap.size + 1) pw pl w.heap.size pd w.heap.size)
        have B0 := Lib.hid b0; have B1 := Lib.hid b1; have B2 := Lib.hid b2; have B3 := Lib.hid b3; have B4 := Lib.hid b4; have B5 := Lib.hid b5; have BB := Lib.hid bb
        have HL := Lib.hid hlt
        clear b0 b1 b2 b3 b4 b5 bb hds hiN hlt hs
        go_wp2_with (go_at_call 32; refine (FC.out _ (by omega) (by omega) (by omega) (by omega) (by omega) (by omega) (by omega) (by omega) (by omega) (by omega) (by omega) (by omega) B1.out B4.out B3.out B0.out B5.out).mono ?_; rintro e w9 ⟨⟨v, rfl⟩, d1, d4, d3, d0, d5, db, ds, dk⟩)
        go_roundw
        case rel => exact ⟨s + 1, HL.out, by go_num, d0, d1, dk _ _ _ B2.out (by omega) (by omega) (by omega), d3, d4, d5, BB.out.trans db⟩
        case measure => simp [intOf]; have := HL.out; omega
      · obtain rfl : s = 4 := by omega
        have hlt' := HLT.out
        rw [← HM.out] at hlt'
        have E := fun j hj => (XB.out j hj).trans (HE.out hlt' j hj).symm
        rw [E 0 (by decide), E 1 (by decide), E 2 (by decide), E 3 (by decide)] at b5
        have q0 : wr.cell? ⟨pd, 0, none⟩ = some (.int .u64 (dz 0 : Nat)) := blk_cell b5 0
        have q1 : wr.cell? ⟨pd, 1, none⟩ = some (.int .u64 (dz 1 : Nat)) := blk_cell b5 1
        have q2 : wr.cell? ⟨pd, 2, none⟩ = some (.int .u64 (dz 2 : Nat)) := blk_cell b5 2
        have q3 : wr.cell? ⟨pd, 3, none⟩ = some (.int .u64 (dz 3 : Nat)) := blk_cell b5 3
        have r0 : wr.cell? ⟨w.heap.size + 1 + 1, 0, none⟩ = some (.int .u64 0) := blk_cell b2 0
        have r1 : wr.cell? ⟨w.heap.size + 1 + 1, 1, none⟩ = some (.int .u64 0) := blk_cell b2 1
        have r2 : wr.cell? ⟨w.heap.size + 1 + 1, 2, none⟩ = some (.int .u64 0) := blk_cell b2 2
        have r3 : wr.cell? ⟨w.heap.size + 1 + 1, 3, none⟩ = some (.int .u64 0) := blk_cell b2 3
        have f2 : ∀ j, wr.frozen? ⟨w.heap.size + 1 + 1, j, none⟩ = false := fun j => blk_free b2 j
        have hbs := bb.size
        clear b0 b1 b2 b3 b4 b5 hlt hs E
        go_wp2
        refine bodyPost_ret (by simp [results, Try.results12, go_sem, r0, r1, r2, r3]) rfl ⟨fun _ => rfl, fun h => absurd hlt' h, ?_⟩
        repeat (first | (with_reducible exact bb) | ((with_reducible refine below_grow ?_ ?_); rotate_left; focus (first | omega | (simp [go_sem]; done) | (simp [go_sem]; omega))) | ((with_reducible refine Below.alloc ?_ ?_ _); rotate_left; focus (first | omega | (simp [go_sem]; done) | (simp [go_sem]; omega))) | ((with_reducible refine Below.setCell ?_ ?_ _); rotate_left; focus (first | omega | (simp [go_sem]; done) | (simp [go_sem]; omega))) | (with_reducible refine Below.drew ?_) | (with_reducible refine below_drewN _ ?_))
  · have hc1 : 0 ≤ c := by rw [← HC.out]; unfold cmpN; rw [if_neg hlt]; split <;> decide
    have HLT := Lib.hid hlt
    clear b0 b1 b2 b3 b4 hlt
    go_wp2_with (go_at_call 13; refine (C.out _).mono ?_; rintro e w9 ⟨rfl, hbel⟩; obtain ⟨o3, j3, rfl⟩ := grow_of_below hbel; clear hbel)
    refine bodyPost_ret (by simp [results, Try.results12, go_sem, r0, r1, r2, r3]) rfl ⟨fun h => absurd (HM.out ▸ h) HLT.out, fun _ => rfl, ?_⟩
    repeat (first | (with_reducible exact bb) | ((with_reducible refine below_grow ?_ ?_); rotate_left; focus (first | omega | (simp [go_sem]; done) | (simp [go_sem]; omega))) | ((with_reducible refine Below.alloc ?_ ?_ _); rotate_left; focus (first | omega | (simp [go_sem]; done) | (simp [go_sem]; omega))) | ((with_reducible refine Below.setCell ?_ ?_ _); rotate_left; focus (first | omega | (simp [go_sem]; done) | (simp [go_sem]; omega))) | (with_reducible refine Below.drew ?_) | (with_reducible refine below_drewN _ ?_))
end Go.Proofs.Ytgcfkhpondemlaa.Ca
