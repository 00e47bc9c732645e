/- Index of a completion: the walk. -/
import Derived.Test.YtgcfkhpondemlaaXQ
namespace Go.Proofs.Ytgcfkhpondemlaa.Ca
open Go.RowKit
open Go.Proofs.DB (ct bt Pd Rd lack rk Sb left wo)

set_option maxRecDepth 100000 in
set_option maxHeartbeats 8000000 in
theorem index_yes (p d : Nat → Nat) (hp : Pd p) (hd : Rd d) (h : DB.In p d) (w : World) : Calls Try.prog 11 #[.agg #[.int .u64 (p 0 : Nat), .int .u64 (p 1 : Nat), .int .u64 (p 2 : Nat), .int .u64 (p 3 : Nat)], .agg #[.int .u64 (d 0 : Nat), .int .u64 (d 1 : Nat), .int .u64 (d 2 : Nat), .int .u64 (d 3 : Nat)]] w fun e w' => e = .returned (.tuple #[.agg #[.int .u32 (pt ((DB.index bin p d)) 0), .int .u32 (pt ((DB.index bin p d)) 1), .int .u32 (pt ((DB.index bin p d)) 2), .int .u32 (pt ((DB.index bin p d)) 3)], .int .i64 0]) ∧ Below w.heap.size w w' := by
  have P := Lib.hid (left_yes p hp)
  have R : ∀ w, Calls Try.prog 15 #[.agg #[.int .u64 (d 0 : Nat), .int .u64 (d 1 : Nat), .int .u64 (d 2 : Nat), .int .u64 (d 3 : Nat)]] w fun e w' => e = .returned (.bool true) ∧ Below w.heap.size w w' := fun w => by
    have := dright_yes d hd.toPd w
    rwa [decide_eq_true hd] at this
  have R := Lib.hid R
  have CO := Lib.hid (completes_yes d p hp hd h)
  have F := Lib.hid (waysFrom_calls p hp)
  have J4 := jI_all hp hd h
  have hlt := DB.index_lt pas_bin hp hd h
  have hw := ways_le p
  have JB : ∀ s, s ≤ 4 → isN (jI p d s) := fun s hs => by have := jI_le4 p d s hs; unfold isN; omega
  have PB : ∀ s, s < 4 → isN (rI p d s * Wv p (s + 1)) := fun s hs => by have := jI_prod p d s; have := jI_le4 p d (s + 1) (by omega); unfold isN; omega
  have HJ := Lib.hid JB
  have HP := Lib.hid PB
  have HD := Lib.hid (fun i hi => Nat.lt_trans (hd.lt i hi) (show 2 ^ 52 < 18446744073709551616 by decide))
  have IX := Lib.hid (index_deal d)
  rw [← J4]
  have L0 : LI p d 0 = left p := rfl
  rw [← L0] at P
  clear J4 hlt hw JB PB hp hd h L0
  go_enter Try.func11, Try.ntmps11
  go_upto_region 6 with (first | (go_at_call 17; refine (P.out _).mono ?_; rintro e w9 ⟨rfl, hbel⟩; obtain ⟨o1, j1, rfl⟩ := grow_of_below hbel; clear hbel) | (go_at_call 15; refine (R.out _).mono ?_; rintro e w9 ⟨rfl, hbel⟩; obtain ⟨o2, j2, rfl⟩ := grow_of_below hbel; clear hbel) | (go_at_call 29; refine (CO.out _).mono ?_; rintro e w9 ⟨rfl, hbel⟩; obtain ⟨o3, j3, rfl⟩ := grow_of_below hbel; clear hbel))
  refine wp_region_lit ?_
  refine wpList_plain rfl fun K1 hK1 => ?_
  go_simp
  refine hK1 _ _ ?_
  clear hK1 K1
  refine wpList_plain rfl fun K1 hK1 => ?_
  go_simp
  (go_at_call 28; refine (F.out _).mono ?_; rintro e w9 ⟨rfl, hbel⟩; obtain ⟨o4, j4, rfl⟩ := grow_of_below hbel; clear hbel)
  refine hK1 _ _ ?_
  clear hK1 K1
  refine wpList_plain rfl fun K1 hK1 => ?_
  go_simp
  refine hK1 _ _ ?_
  clear hK1 K1
  refine wpList_store_new rfl 63 _ _ rfl _ (wc (Wv p)) _ rfl (by simp [go_sem]) rfl 63 Try.infoWays rfl (wc_one _) ?_
  refine wpList_nil ?_
  generalize hW : World.alloc (grow _ (o1 ++ (o2 ++ (o3 ++ o4))) j4) _ = W
  have b1 : blk W (w.heap.size + 1) (#[.int .u64 (d 0 : Nat), .int .u64 (d 1 : Nat), .int .u64 (d 2 : Nat), .int .u64 (d 3 : Nat)]) 28 := by rw [← hW]; exact blk_alloc (blk_grow (blk_alloc (blk_at _ _ _ (by simp)) _) _ _) _
  have b2 : blk W (w.heap.size + 2) #[.int .u32 0, .int .u32 0, .int .u32 0, .int .u32 0] 26 := by rw [← hW]; exact blk_alloc (blk_grow (blk_at _ _ _ (by simp)) _ _) _
  have b4 : blk W (w.heap.size + 1 + 1 + 1 + sz (o1 ++ (o2 ++ (o3 ++ o4)))) (wc (Wv p)) 63 := by rw [← hW]; exact blk_at _ _ _ (by simp [go_sem])
  have bb : Below w.heap.size w W := by rw [← hW]; repeat (first | (with_reducible exact Below.refl _ _) | ((with_reducible refine below_grow ?_ ?_); rotate_left; focus (first | omega | (simp [go_sem]; done) | (simp [go_sem]; omega))) | ((with_reducible refine Below.alloc ?_ ?_ _); rotate_left; focus (first | omega | (simp [go_sem]; done) | (simp [go_sem]; omega))) | ((with_reducible refine Below.setCell ?_ ?_ _); rotate_left; focus (first | omega | (simp [go_sem]; done) | (simp [go_sem]; omega))) | (with_reducible refine Below.drew ?_) | (with_reducible refine below_drewN _ ?_))
  clear hW
  generalize hpw : w.heap.size + 1 + 1 + 1 + sz (o1 ++ (o2 ++ (o3 ++ o4))) = pw at *
  have l1 : w.heap.size + 2 < pw := by omega
  clear hpw P R CO F
  have hbs := bb.size
  have lw := blk_lt b4
  have kd0 : W.cell? ⟨w.heap.size + 1, 0, none⟩ = some (.int .u64 (d 0 : Nat)) := blk_cell b1 0
  have kd1 : W.cell? ⟨w.heap.size + 1, 1, none⟩ = some (.int .u64 (d 1 : Nat)) := blk_cell b1 1
  have kd2 : W.cell? ⟨w.heap.size + 1, 2, none⟩ = some (.int .u64 (d 2 : Nat)) := blk_cell b1 2
  have kd3 : W.cell? ⟨w.heap.size + 1, 3, none⟩ = some (.int .u64 (d 3 : Nat)) := blk_cell b1 3
  haveI i1 : NeZero (inW (w.heap.size + 1) W) := inW_mk (blk_lt b1)
  have B2 := Lib.hid b2; have B4 := Lib.hid b4; have BB := Lib.hid bb
  clear b1 b2 b4 bb
  go_upto_region 9 with fail
  generalize hV : World.alloc W _ = V
  generalize hpi : W.heap.size = pi at *
  have c2 : blk V (w.heap.size + 2) #[.int .u32 0, .int .u32 0, .int .u32 0, .int .u32 0] 26 := by rw [← hV]; exact blk_alloc B2.out _
  have c4 : blk V pw (Ca.wc (Wv p)) 63 := by rw [← hV]; exact blk_alloc B4.out _
  have ci : blk V pi #[.int .u32 0, .int .u32 0, .int .u32 0, .int .u32 0] 26 := by rw [← hV]; exact blk_at _ _ _ hpi.symm
  have cb : Below w.heap.size w V := by rw [← hV]; repeat (first | (with_reducible exact BB.out) | ((with_reducible refine below_grow ?_ ?_); rotate_left; focus (first | omega | (simp [go_sem]; done) | (simp [go_sem]; omega))) | ((with_reducible refine Below.alloc ?_ ?_ _); rotate_left; focus (first | omega | (simp [go_sem]; done) | (simp [go_sem]; omega))) | ((with_reducible refine Below.setCell ?_ ?_ _); rotate_left; focus (first | omega | (simp [go_sem]; done) | (simp [go_sem]; omega))) | (with_reducible refine Below.drew ?_) | (with_reducible refine below_drewN _ ?_))
  have lpw : pw < pi := lw
  have HPI := Lib.hid (show w.heap.size + 2 < pw ∧ pw < pi from ⟨l1, lpw⟩)
  clear hV hpi B2 B4 BB kd0 kd1 kd2 kd3 i1
  go_loopw [6, 10, 11, 13, 35] (fun s6 _ _ _ s35 wr => ∃ s : Nat, s ≤ 4 ∧ s35 = .int .i64 s ∧ s6 = .int .u64 (LI p d s : Nat) ∧ blk wr (w.heap.size + 2) #[.int .u32 0, .int .u32 0, .int .u32 0, .int .u32 0] 26 ∧ blk wr pw (Ca.wc (Wv p)) 63 ∧ blk wr pi (#[.int .u32 (pt (jI p d s) 0), .int .u32 (pt (jI p d s) 1), .int .u32 (pt (jI p d s) 2), .int .u32 (pt (jI p d s) 3)]) 26 ∧ Below w.heap.size w wr) (fun _ _ _ _ s35 _ => 4 - (intOf s35).toNat)
  case atStart => exact ⟨0, by decide, rfl, rfl, c2, c4, by show blk V pi (#[.int .u32 (pt 0 0), .int .u32 (pt 0 1), .int .u32 (pt 0 2), .int .u32 (pt 0 3)]) _; simp only [pt_zero]; exact ci, cb⟩
  case round =>
    clear c2 c4 ci cb
    obtain ⟨s, hs, rfl, rfl, c2, c4, ci, cb⟩ := hrel
    by_cases hlt : s < 4
    · have ix := fun V => IX.out s hlt V
      have hlt2 : (s : Int) < 4 := by omega
      have hs5 : ((s + 1 : Nat) : Int) < 5 := by omega
      have e1 : IntKind.i64.wrap ((s : Int) + 1) = ((s + 1 : Nat) : Int) := by rw [IntWalk.i64_in _ (by omega)]; omega
      have LL := LI_lt p d s
      have ld := HD.out s hlt
      have a1 := u64_and_nat (d s) (LI p d s) ld (by omega)
      have a2 := u64_andNot_nat (LI p d s) (d s) (by omega) ld
      rw [DB.and_not_wo (by omega) ld, show wo (LI p d s) (d s) = LI p d (s + 1) from rfl] at a2
      have sb := and_sb (d s) (LI p d s)
      have xl : d s &&& LI p d s < 4503599627370496 := Nat.lt_of_le_of_lt Nat.and_le_right LL
      have SB := Lib.hid (setsBefore_calls (LI p d s) (d s &&& LI p d s) LL xl sb)
      rw [show rk bin (LI p d s) (d s &&& LI p d s) 52 = rI p d s from rfl] at SB
      have rN : isN (rI p d s) := (rk_isN _ _ sb).2
      have MU := Lib.hid (mul_at (rI p d s) (Wv p (s + 1)) _ rN (Wv_isN p (s + 1)) rfl (HP.out s hlt))
      have AD := Lib.hid (Se.add_hyp (jI p d s) (rI p d s * Wv p (s + 1)) (jI p d (s + 1)) (HJ.out s (by omega)) (HP.out s hlt) rfl (HJ.out (s + 1) (by omega)))
      have kw : ∀ l, l < 4 → wr.cell? ⟨pw, (s + 1) * 4 + l, none⟩ = some (.int .u32 (pt (Wv p (s + 1)) l)) := fun l hl => by
        rw [blk_cell c4]
        exact wc_at (Wv p) (s + 1) l (by omega) hl
      have kw0 := kw 0 (by decide); have kw1 := kw 1 (by decide); have kw2 := kw 2 (by decide); have kw3 := kw 3 (by decide)
      rw [Nat.add_zero] at kw0
      have ki0 : wr.cell? ⟨pi, 0, none⟩ = some (.int .u32 (pt (jI p d s) 0)) := blk_cell ci 0
      have ki1 : wr.cell? ⟨pi, 1, none⟩ = some (.int .u32 (pt (jI p d s) 1)) := blk_cell ci 1
      have ki2 : wr.cell? ⟨pi, 2, none⟩ = some (.int .u32 (pt (jI p d s) 2)) := blk_cell ci 2
      have ki3 : wr.cell? ⟨pi, 3, none⟩ = some (.int .u32 (pt (jI p d s) 3)) := blk_cell ci 3
      have fi : ∀ j, wr.frozen? ⟨pi, j, none⟩ = false := fun j => blk_free ci j
      haveI iw : NeZero (inW pw wr) := inW_mk (blk_lt c4)
      haveI ii : NeZero (inW pi wr) := inW_mk (blk_lt ci)
      have lpi := blk_lt ci
      have HL := Lib.hid hlt
      obtain ⟨prod, hpr⟩ : ∃ q, rI p d s * Wv p (s + 1) = q := ⟨_, rfl⟩
      obtain ⟨mw, hmw⟩ : ∃ q, Wv p (s + 1) = q := ⟨_, rfl⟩
      obtain ⟨ri, hri⟩ : ∃ q, rI p d s = q := ⟨_, rfl⟩
      obtain ⟨x, hx⟩ : ∃ q, d s &&& LI p d s = q := ⟨_, rfl⟩
      obtain ⟨L, hL⟩ : ∃ q, LI p d s = q := ⟨_, rfl⟩
      obtain ⟨L', hL'⟩ : ∃ q, LI p d (s + 1) = q := ⟨_, rfl⟩
      obtain ⟨j0, hj0⟩ : ∃ q, jI p d s = q := ⟨_, rfl⟩
      obtain ⟨j1, hj1⟩ : ∃ q, jI p d (s + 1) = q := ⟨_, rfl⟩
      obtain ⟨ds, hds⟩ : ∃ q, d s = q := ⟨_, rfl⟩
      obtain ⟨t, ht⟩ : ∃ q, s + 1 = q := ⟨_, rfl⟩
      rw [hpr] at MU AD
      rw [hx] at a1 SB
      rw [hri, hmw] at MU
      rw [hri] at SB
      rw [hL] at SB a1 a2 ⊢
      rw [hL'] at a2
      rw [hj0, hj1] at AD
      rw [hj0] at ki0 ki1 ki2 ki3 ci
      rw [hmw] at kw0 kw1 kw2 kw3
      rw [hds] at a1 a2 ix
      have HL' := Lib.hid hL'; have HJ1 := Lib.hid hj1
      have HT := Lib.hid ht
      rw [ht] at e1 hs5 kw0 kw1 kw2 kw3
      have C2 := Lib.hid c2; have C4 := Lib.hid c4; have CI := Lib.hid ci; have CB := Lib.hid cb
      clear hpr hmw hri hx hL hL' hj0 hj1 hds ht c2 c4 ci cb kw sb xl rN LL ld hlt hs
      go_upto_region 11 with fail
      go_cut [12] (fun s12 wx => ∃ q, s12 = .pointer (some ⟨q, 0, none⟩) ∧ q ≠ pi ∧ blk wx q (#[.int .u32 (pt prod 0), .int .u32 (pt prod 1), .int .u32 (pt prod 2), .int .u32 (pt prod 3)]) 26 ∧ blk wx (w.heap.size + 2) #[.int .u32 0, .int .u32 0, .int .u32 0, .int .u32 0] 26 ∧ blk wx pw (Ca.wc (Wv p)) 63 ∧ blk wx pi (#[.int .u32 (pt j0 0), .int .u32 (pt j0 1), .int .u32 (pt j0 2), .int .u32 (pt j0 3)]) 26 ∧ Below w.heap.size w wx)
      case first =>
        go_region_held3 (fun w' => w'.cell? ⟨pw, t * 4, none⟩ = some (.int .u32 (pt mw 0)) ∧ w'.cell? ⟨pw, t * 4 + 1, none⟩ = some (.int .u32 (pt mw 1)) ∧ w'.cell? ⟨pw, t * 4 + 2, none⟩ = some (.int .u32 (pt mw 2)) ∧ w'.cell? ⟨pw, t * 4 + 3, none⟩ = some (.int .u32 (pt mw 3))) (simp [*, go_sem])
          (first | (go_at_call 31; refine (SB.out _).mono ?_; rintro e w9 ⟨rfl, hbel⟩; obtain ⟨o5, j5, rfl⟩ := grow_of_below hbel; clear hbel) | (go_at_call 30; refine (MU.out _ _ ?_).mono ?_; (first | (with_reducible refine blk_drew (blk_at _ _ _ ?_)) | (with_reducible refine blk_at _ _ _ ?_) | (with_reducible refine blk_alloc (blk_at _ _ _ ?_) _) | (with_reducible refine blk_drew (blk_alloc (blk_at _ _ _ ?_) _)) | (with_reducible refine blk_alloc (blk_drew (blk_at _ _ _ ?_)) _)); (simp [go_sem]); rintro e w9 ⟨rfl, hbel⟩; obtain ⟨o6, j6, rfl⟩ := grow_of_below hbel; clear hbel))
        all_goals go_wp2
        all_goals go_meet
        all_goals
          have hbs := CB.out.size
          refine ⟨_, rfl, by omega, ?_, ?_, ?_, ?_, ?_⟩
          · (repeat (first | (with_reducible exact blk_at _ _ _ (by simp [go_sem])) | (with_reducible refine blk_grow ?_ _ _) | (with_reducible refine blk_alloc ?_ _)))
          · (repeat (first | (with_reducible exact C2.out) | (with_reducible refine blk_grow ?_ _ _) | (with_reducible refine blk_alloc ?_ _)))
          · (repeat (first | (with_reducible exact C4.out) | (with_reducible refine blk_grow ?_ _ _) | (with_reducible refine blk_alloc ?_ _)))
          · (repeat (first | (with_reducible exact CI.out) | (with_reducible refine blk_grow ?_ _ _) | (with_reducible refine blk_alloc ?_ _)))
          · repeat (first | (with_reducible exact CB.out) | ((with_reducible refine below_grow ?_ ?_); rotate_left; focus (first | omega | (simp [go_sem]; done) | (simp [go_sem]; omega))) | ((with_reducible refine Below.alloc ?_ ?_ _); rotate_left; focus (first | omega | (simp [go_sem]; done) | (simp [go_sem]; omega))) | ((with_reducible refine Below.setCell ?_ ?_ _); rotate_left; focus (first | omega | (simp [go_sem]; done) | (simp [go_sem]; omega))) | (with_reducible refine Below.drew ?_) | (with_reducible refine below_drewN _ ?_))
      case rest =>
        rename World => wx
        obtain ⟨q, rfl, hq, cq, c2, c4, ci, cb⟩ := hcut
        clear kw0 kw1 kw2 kw3 ki0 ki1 ki2 ki3 fi iw ii lpi SB MU C2 C4 CI CB e1 hs5 a1
        have ki0 : wx.cell? ⟨pi, 0, none⟩ = some (.int .u32 (pt j0 0)) := blk_cell ci 0
        have ki1 : wx.cell? ⟨pi, 1, none⟩ = some (.int .u32 (pt j0 1)) := blk_cell ci 1
        have ki2 : wx.cell? ⟨pi, 2, none⟩ = some (.int .u32 (pt j0 2)) := blk_cell ci 2
        have ki3 : wx.cell? ⟨pi, 3, none⟩ = some (.int .u32 (pt j0 3)) := blk_cell ci 3
        have kq0 : wx.cell? ⟨q, 0, none⟩ = some (.int .u32 (pt prod 0)) := blk_cell cq 0
        have kq1 : wx.cell? ⟨q, 1, none⟩ = some (.int .u32 (pt prod 1)) := blk_cell cq 1
        have kq2 : wx.cell? ⟨q, 2, none⟩ = some (.int .u32 (pt prod 2)) := blk_cell cq 2
        have kq3 : wx.cell? ⟨q, 3, none⟩ = some (.int .u32 (pt prod 3)) := blk_cell cq 3
        have fi : ∀ j, wx.frozen? ⟨pi, j, none⟩ = false := fun j => blk_free ci j
        haveI ii : NeZero (inW pi wx) := inW_mk (blk_lt ci)
        haveI iq : NeZero (inW q wx) := inW_mk (blk_lt cq)
        have e0 : IntKind.i64.wrap ((s : Int) + 1) = (s : Int) + 1 := IntWalk.i64_in _ (by omega)
        have C2 := Lib.hid c2; have C4 := Lib.hid c4; have CI := Lib.hid ci; have CB := Lib.hid cb
        clear c2 c4 ci cb cq hq
        go_wp2_with (go_at_call 20; refine (AD.out _).mono ?_; rintro e w9 ⟨rfl, hbel⟩; obtain ⟨o7, j7, rfl⟩ := grow_of_below hbel; clear hbel)
        go_roundw
        case rel =>
          have l2 := HPI.out
          have hbs := CB.out.size
          have o4 : ∀ {b : Nat} {cs : Array Value} {t : TypeId}, blk wx b cs t → pi ≠ b → blk ((((wx.setCell ⟨pi, 0, none⟩ (.int .u32 (pt j1 0))).setCell ⟨pi, 1, none⟩ (.int .u32 (pt j1 1))).setCell ⟨pi, 2, none⟩ (.int .u32 (pt j1 2))).setCell ⟨pi, 3, none⟩ (.int .u32 (pt j1 3))) b cs t := fun h hn => blk_other (blk_other (blk_other (blk_other h hn _) hn _) hn _) hn _
          refine ⟨s + 1, HL.out, by go_num, by rw [HL'.out], blk_grow (o4 C2.out (by omega)) _ _, blk_grow (o4 C4.out (by omega)) _ _, ?_, ?_⟩
          · rw [HJ1.out]; exact blk_grow (blk_set (blk_set (blk_set (blk_set CI.out 0 _) 1 _) 2 _) 3 _) _ _
          · repeat (first | (with_reducible exact CB.out) | ((with_reducible refine below_grow ?_ ?_); rotate_left; focus (first | omega | (simp [go_sem]; done) | (simp [go_sem]; omega))) | ((with_reducible refine Below.alloc ?_ ?_ _); rotate_left; focus (first | omega | (simp [go_sem]; done) | (simp [go_sem]; omega))) | ((with_reducible refine Below.setCell ?_ ?_ _); rotate_left; focus (first | omega | (simp [go_sem]; done) | (simp [go_sem]; omega))) | (with_reducible refine Below.drew ?_) | (with_reducible refine below_drewN _ ?_))
        case measure => simp [intOf]; have := HL.out; omega
    · obtain rfl : s = 4 := by omega
      obtain ⟨jj, hj⟩ : ∃ j, jI p d 4 = j := ⟨_, rfl⟩
      have HJJ := Lib.hid hj
      rw [hj] at ci
      have ki0 : wr.cell? ⟨pi, 0, none⟩ = some (.int .u32 (pt jj 0)) := blk_cell ci 0
      have ki1 : wr.cell? ⟨pi, 1, none⟩ = some (.int .u32 (pt jj 1)) := blk_cell ci 1
      have ki2 : wr.cell? ⟨pi, 2, none⟩ = some (.int .u32 (pt jj 2)) := blk_cell ci 2
      have ki3 : wr.cell? ⟨pi, 3, none⟩ = some (.int .u32 (pt jj 3)) := blk_cell ci 3
      have r0 : wr.cell? ⟨w.heap.size + 1 + 1, 0, none⟩ = some (.int .u32 0) := blk_cell c2 0
      have r1 : wr.cell? ⟨w.heap.size + 1 + 1, 1, none⟩ = some (.int .u32 0) := blk_cell c2 1
      have r2 : wr.cell? ⟨w.heap.size + 1 + 1, 2, none⟩ = some (.int .u32 0) := blk_cell c2 2
      have r3 : wr.cell? ⟨w.heap.size + 1 + 1, 3, none⟩ = some (.int .u32 0) := blk_cell c2 3
      have f2 : ∀ j, wr.frozen? ⟨w.heap.size + 1 + 1, j, none⟩ = false := fun j => blk_free c2 j
      clear c2 c4 ci hlt hs hj
      go_wp2
      refine bodyPost_ret (v := .tuple #[.agg #[.int .u32 (pt jj 0), .int .u32 (pt jj 1), .int .u32 (pt jj 2), .int .u32 (pt jj 3)], .int .i64 0]) (by simp [results, Try.results11, go_sem, r0, r1, r2, r3]) rfl ⟨by rw [HJJ.out], ?_⟩
      repeat (first | (with_reducible exact cb) | ((with_reducible refine below_grow ?_ ?_); rotate_left; focus (first | omega | (simp [go_sem]; done) | (simp [go_sem]; omega))) | ((with_reducible refine Below.alloc ?_ ?_ _); rotate_left; focus (first | omega | (simp [go_sem]; done) | (simp [go_sem]; omega))) | ((with_reducible refine Below.setCell ?_ ?_ _); rotate_left; focus (first | omega | (simp [go_sem]; done) | (simp [go_sem]; omega))) | (with_reducible refine Below.drew ?_) | (with_reducible refine below_drewN _ ?_))
end Go.Proofs.Ytgcfkhpondemlaa.Ca
