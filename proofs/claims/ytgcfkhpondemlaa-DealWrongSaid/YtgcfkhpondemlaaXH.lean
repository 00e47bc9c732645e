/- Complete: one hand is filled. -/
import Derived.Test.YtgcfkhpondemlaaXF0
import Derived.Test.YtgcfkhpondemlaaXB
import Derived.Test.YtgcfkhpondemlaaXJ
namespace Go.Proofs.Ytgcfkhpondemlaa.Ca
open Go.RowKit
open Go.Proofs.DB (ct bt Pd lack W2 W3 W4 un Sb)

theorem wc_at (f : Nat → Nat) (j l : Nat) (hj : j < 5) (hl : l < 4) : (wc f)[j * 4 + l]? = some (.int .u32 (pt (f j) l)) := by
  match j, hj, l, hl with
  | 0, _, 0, _ => rfl
  | 0, _, 1, _ => rfl
  | 0, _, 2, _ => rfl
  | 0, _, 3, _ => rfl
  | 1, _, 0, _ => rfl
  | 1, _, 1, _ => rfl
  | 1, _, 2, _ => rfl
  | 1, _, 3, _ => rfl
  | 2, _, 0, _ => rfl
  | 2, _, 1, _ => rfl
  | 2, _, 2, _ => rfl
  | 2, _, 3, _ => rfl
  | 3, _, 0, _ => rfl
  | 3, _, 1, _ => rfl
  | 3, _, 2, _ => rfl
  | 3, _, 3, _ => rfl
  | 4, _, 0, _ => rfl
  | 4, _, 1, _ => rfl
  | 4, _, 2, _ => rfl
  | 4, _, 3, _ => rfl
theorem dc_set (d e : Nat → Nat) (q n : Nat) (hq : q < 4) (h : ∀ j, e j = if j = q then n else d j) : ((#[.int .u64 (d 0 : Nat), .int .u64 (d 1 : Nat), .int .u64 (d 2 : Nat), .int .u64 (d 3 : Nat)]) : Array Value).setIfInBounds q (.int .u64 (n : Nat)) = ((#[.int .u64 (e 0 : Nat), .int .u64 (e 1 : Nat), .int .u64 (e 2 : Nat), .int .u64 (e 3 : Nat)]) : Array Value) := by
  match q, hq with
  | 0, _ => simp [h]
  | 1, _ => simp [h]
  | 2, _ => simp [h]
  | 3, _ => simp [h]
set_option maxRecDepth 100000 in
set_option maxHeartbeats 8000000 in
theorem fill_calls (p : Nat → Nat) (hp : Pd p) (s : Nat) (hs : s < 4) (i L : Nat) (dd : Nat → Nat) (hL : L < 4503599627370496) (hi : isN i) (hx : i / Wv p (s + 1) < bin (ct L 52) (lack p s)) (hd : dd s < 4503599627370496)
    (ee : Nat → Nat) (hee : ∀ j, ee j = if j = s then dd j ||| un bin L 52 (lack p s) (i / Wv p (s + 1)) else dd j) (bn bw bl bp bd B : Nat) (W : World) (n1 : bn ≠ bw) (n2 : bn ≠ bl) (n3 : bn ≠ bp) (n4 : bn ≠ bd) (n5 : bl ≠ bw) (n6 : bl ≠ bp) (n7 : bl ≠ bd) (n8 : bd ≠ bw) (n9 : bd ≠ bp) (hBn : B ≤ bn) (hBl : B ≤ bl) (hBd : B ≤ bd)
    (b1 : blk W bn (#[.int .u32 (pt i 0), .int .u32 (pt i 1), .int .u32 (pt i 2), .int .u32 (pt i 3)]) 26) (b2 : blk W bw (wc (Wv p)) 63) (b3 : blk W bl #[.int .u64 L] 23) (b4 : blk W bp (#[.int .u64 (p 0 : Nat), .int .u64 (p 1 : Nat), .int .u64 (p 2 : Nat), .int .u64 (p 3 : Nat)]) 28) (b5 : blk W bd (#[.int .u64 (dd 0 : Nat), .int .u64 (dd 1 : Nat), .int .u64 (dd 2 : Nat), .int .u64 (dd 3 : Nat)]) 28) :
    Calls Try.prog 32 #[.int .i64 s, .pointer (some ⟨bn, 0, none⟩), .pointer (some ⟨bw, 0, none⟩), .pointer (some ⟨bl, 0, none⟩), .pointer (some ⟨bp, 0, none⟩), .pointer (some ⟨bd, 0, none⟩)] W fun e W' => (∃ v, e = .returned v) ∧
      blk W' bn (#[.int .u32 (pt (i % Wv p (s + 1)) 0), .int .u32 (pt (i % Wv p (s + 1)) 1), .int .u32 (pt (i % Wv p (s + 1)) 2), .int .u32 (pt (i % Wv p (s + 1)) 3)]) 26 ∧ blk W' bw (wc (Wv p)) 63 ∧ blk W' bl #[.int .u64 (L - un bin L 52 (lack p s) (i / Wv p (s + 1)) : Nat)] 23 ∧ blk W' bp (#[.int .u64 (p 0 : Nat), .int .u64 (p 1 : Nat), .int .u64 (p 2 : Nat), .int .u64 (p 3 : Nat)]) 28 ∧
      blk W' bd (#[.int .u64 (ee 0 : Nat), .int .u64 (ee 1 : Nat), .int .u64 (ee 2 : Nat), .int .u64 (ee 3 : Nat)]) 28 ∧ Below B W W' ∧ W.heap.size ≤ W'.heap.size ∧ (∀ b cs t, blk W b cs t → bn ≠ b → bl ≠ b → bd ≠ b → blk W' b cs t) := by
  have hW1 := Wv_isN p (s + 1)
  have hW0 := Wv_pos p (s + 1)
  have DV := Lib.hid (Se.div_hyp i (Wv p (s + 1)) _ _ hi hW1 hW0 rfl rfl)
  have LK := Lib.hid (lacking_calls (p s) (hp.lt s hs) (hp.few s hs))
  rw [show (13 - ct (p s) 52 : Nat) = lack p s from rfl] at LK
  have hx52 := bin_52 (L := L) (k := lack p s) (Nat.le_refl 52)
  have SA := Lib.hid (setAt_calls L (lack p s) (i / Wv p (s + 1)) hL (Nat.le_trans (lack_le p s) (by decide)) hx)
  obtain ⟨us, _, _⟩ := DB.un_spec pas_bin L 52 (lack p s) (i / Wv p (s + 1)) hx
  have ul := DB.un_lt bin L 52 (lack p s) (i / Wv p (s + 1))
  obtain ⟨x, hxx⟩ : ∃ x, un bin L 52 (lack p s) (i / Wv p (s + 1)) = x := ⟨_, rfl⟩
  rw [hxx] at SA us ul ⊢
  simp only [hxx] at hee
  have ub : ∀ j, bt x j ≤ bt L j := fun j => by
    by_cases hj : j < 52
    · exact us j hj
    · rw [DB.bt_high ul (by omega)]; omega
  have o1 := u64_or_nat (dd s) x (by omega) (by omega)
  have a1 := u64_andNot_nat L x (by omega) (by omega)
  rw [DB.and_not_wo (by omega) (by omega), DB.wo_sub ub] at a1
  obtain ⟨q, hq⟩ : ∃ q, i / Wv p (s + 1) = q := ⟨_, rfl⟩
  obtain ⟨r, hr⟩ : ∃ q, i % Wv p (s + 1) = q := ⟨_, rfl⟩
  obtain ⟨L', hL'⟩ : ∃ q, L - x = q := ⟨_, rfl⟩
  obtain ⟨lk, hlk⟩ : ∃ q, lack p s = q := ⟨_, rfl⟩
  rw [hq, hr] at DV
  rw [hq, hlk] at SA
  rw [hlk] at LK
  rw [hL'] at a1 ⊢
  rw [hr]
  clear hq hr hL' hlk hxx us ub ul hx hx52 hW1 hW0 hp hi hL
  have B1 := Lib.hid b1; have B2 := Lib.hid b2; have B3 := Lib.hid b3; have B4 := Lib.hid b4; have B5 := Lib.hid b5
  have k10 : W.cell? ⟨bn, 0, none⟩ = some (.int .u32 (pt i 0)) := blk_cell b1 0
  have k11 : W.cell? ⟨bn, 1, none⟩ = some (.int .u32 (pt i 1)) := blk_cell b1 1
  have k12 : W.cell? ⟨bn, 2, none⟩ = some (.int .u32 (pt i 2)) := blk_cell b1 2
  have k13 : W.cell? ⟨bn, 3, none⟩ = some (.int .u32 (pt i 3)) := blk_cell b1 3
  have k3 : W.cell? ⟨bl, 0, none⟩ = some (.int .u64 L) := blk_cell b3 0
  have f1 : ∀ j, W.frozen? ⟨bn, j, none⟩ = false := fun j => blk_free b1 j
  have f3 : W.frozen? ⟨bl, 0, none⟩ = false := blk_free b3 0
  have f5 : ∀ j, W.frozen? ⟨bd, j, none⟩ = false := fun j => blk_free b5 j
  haveI i1 : NeZero (inW bn W) := inW_mk (blk_lt b1)
  haveI i2 : NeZero (inW bw W) := inW_mk (blk_lt b2)
  haveI i3 : NeZero (inW bl W) := inW_mk (blk_lt b3)
  haveI i4 : NeZero (inW bp W) := inW_mk (blk_lt b4)
  haveI i5 : NeZero (inW bd W) := inW_mk (blk_lt b5)
  have l1 := blk_lt b1; have l3 := blk_lt b3; have l5 := blk_lt b5
  have m1 := n1.symm; have m2 := n2.symm; have m3 := n3.symm; have m4 := n4.symm; have m5 := n5.symm; have m6 := n6.symm; have m7 := n7.symm; have m8 := n8.symm; have m9 := n9.symm
  have hs5 : ((s + 1 : Nat) : Int) < 5 := by omega
  have hs4 : (s : Int) < 4 := by omega
  have kw : ∀ l, l < 4 → W.cell? ⟨bw, (s + 1) * 4 + l, none⟩ = some (.int .u32 (pt (Wv p (s + 1)) l)) := fun l hl => by
    rw [blk_cell b2]
    exact wc_at (Wv p) (s + 1) l (by omega) hl
  have kw0 := kw 0 (by decide); have kw1 := kw 1 (by decide); have kw2 := kw 2 (by decide); have kw3 := kw 3 (by decide)
  rw [Nat.add_zero] at kw0
  have kp := dcell b4 s hs
  have kd := dcell b5 s hs
  have e1 : IntKind.i64.wrap ((s : Int) + 1) = ((s + 1 : Nat) : Int) := by rw [IntWalk.i64_in _ (by omega)]; omega
  have HDV := Lib.hid hs
  obtain ⟨mw, hmw⟩ : ∃ q, Wv p (s + 1) = q := ⟨_, rfl⟩
  rw [hmw] at DV kw0 kw1 kw2 kw3
  obtain ⟨t, ht⟩ : ∃ q, s + 1 = q := ⟨_, rfl⟩
  rw [ht] at e1 hs5 kw0 kw1 kw2 kw3
  obtain ⟨ps, hps⟩ : ∃ q, p s = q := ⟨_, rfl⟩
  rw [hps] at LK kp
  obtain ⟨ds, hds⟩ : ∃ q, dd s = q := ⟨_, rfl⟩
  rw [hds] at o1 kd
  obtain ⟨d', hd'⟩ : ∃ q, ds ||| x = q := ⟨_, rfl⟩
  have HDS := Lib.hid hds
  have HPS := Lib.hid hps
  have HD := Lib.hid (fun j => show ee j = if j = s then d' else dd j by rw [hee]; split <;> rename_i e; (· rw [e, hds, hd']); (· rfl))
  rw [hd'] at o1
  clear hee hmw hps hds hd' ht b1 b2 b3 b4 b5 hd kw
  go_enter Try.func32, Try.ntmps32
  go_upto_region 1 with fail
  go_cut [7] (fun s7 wx => ∃ po, s7 = .pointer (some ⟨po, 0, none⟩) ∧ W.heap.size ≤ po ∧ blk wx po (#[.int .u32 (pt q 0), .int .u32 (pt q 1), .int .u32 (pt q 2), .int .u32 (pt q 3)]) 26 ∧ blk wx bn (#[.int .u32 (pt r 0), .int .u32 (pt r 1), .int .u32 (pt r 2), .int .u32 (pt r 3)]) 26 ∧ blk wx bw (Ca.wc (Wv p)) 63 ∧ blk wx bl #[.int .u64 L] 23 ∧ blk wx bp (#[.int .u64 (p 0 : Nat), .int .u64 (p 1 : Nat), .int .u64 (p 2 : Nat), .int .u64 (p 3 : Nat)]) 28 ∧ blk wx bd (#[.int .u64 (dd 0 : Nat), .int .u64 (dd 1 : Nat), .int .u64 (dd 2 : Nat), .int .u64 (dd 3 : Nat)]) 28 ∧ Below B W wx ∧ W.heap.size ≤ wx.heap.size ∧ (∀ b cs t, blk W b cs t → bn ≠ b → bl ≠ b → bd ≠ b → blk wx b cs t))
  case first =>
    go_region_with (go_at_call 14; refine (DV.out _).mono ?_; rintro e w9 ⟨rfl, hbel⟩; obtain ⟨o1, j1, rfl⟩ := grow_of_below hbel; clear hbel)
    all_goals go_wp2
    all_goals go_meet
    all_goals
      have B1 := B1.out; have B2 := B2.out; have B3 := B3.out; have B4 := B4.out; have B5 := B5.out
      have c1 := blk_set (blk_set (blk_set (blk_set B1 0 (.int .u32 (pt r 0))) 1 (.int .u32 (pt r 1))) 2 (.int .u32 (pt r 2))) 3 (.int .u32 (pt r 3))
      have o4 : ∀ {b : Nat} {cs : Array Value} {t : TypeId}, blk W b cs t → bn ≠ b → blk ((((W.setCell ⟨bn, 0, none⟩ (.int .u32 (pt r 0))).setCell ⟨bn, 1, none⟩ (.int .u32 (pt r 1))).setCell ⟨bn, 2, none⟩ (.int .u32 (pt r 2))).setCell ⟨bn, 3, none⟩ (.int .u32 (pt r 3))) b cs t := fun h hn => blk_other (blk_other (blk_other (blk_other h hn _) hn _) hn _) hn _
      refine ⟨_, rfl, Nat.le_refl _, ?_, ?_, ?_, ?_, ?_, ?_, ?_, ?_, fun b cs t h g1 _ _ => blk_grow (blk_alloc (o4 h g1) _) _ _⟩
      · exact blk_grow (blk_at _ _ _ (by simp)) _ _
      · exact blk_grow (blk_alloc c1 _) _ _
      · exact blk_grow (blk_alloc (o4 B2 n1) _) _ _
      · exact blk_grow (blk_alloc (o4 B3 n2) _) _ _
      · exact blk_grow (blk_alloc (o4 B4 n3) _) _ _
      · exact blk_grow (blk_alloc (o4 B5 n4) _) _ _
      · repeat (first | (with_reducible exact Below.refl _ _) | ((with_reducible refine below_grow ?_ ?_); rotate_left; focus (first | omega | (simp [go_sem]; done) | (simp [go_sem]; omega))) | ((with_reducible refine Below.alloc ?_ ?_ _); rotate_left; focus (first | omega | (simp [go_sem]; done) | (simp [go_sem]; omega))) | ((with_reducible refine Below.setCell ?_ ?_ _); rotate_left; focus (first | omega | (simp [go_sem]; done) | (simp [go_sem]; omega))) | (with_reducible refine Below.drew ?_) | (with_reducible refine below_drewN _ ?_))
      · simp [go_sem]; omega
  case rest =>
    rename World => wx
    obtain ⟨po, rfl, hpo, c0, c1, c2, c3, c4, c5, cb, cs, ck⟩ := hcut
    have CK := Lib.hid ck
    clear ck
    clear k10 k11 k12 k13 k3 f1 f3 f5 i1 i2 i3 i4 i5 kw0 kw1 kw2 kw3 kp kd DV B1 B2 B3 B4 B5 e1
    have kp := dcell c4 s HDV.out
    rw [HPS.out] at kp
    have k0 : wx.cell? ⟨po, 0, none⟩ = some (.int .u32 (pt q 0)) := blk_cell c0 0
    have k1 : wx.cell? ⟨po, 1, none⟩ = some (.int .u32 (pt q 1)) := blk_cell c0 1
    have k2 : wx.cell? ⟨po, 2, none⟩ = some (.int .u32 (pt q 2)) := blk_cell c0 2
    have k3 : wx.cell? ⟨po, 3, none⟩ = some (.int .u32 (pt q 3)) := blk_cell c0 3
    have kl : wx.cell? ⟨bl, 0, none⟩ = some (.int .u64 L) := blk_cell c3 0
    haveI i0 : NeZero (inW po wx) := inW_mk (blk_lt c0)
    haveI i3 : NeZero (inW bl wx) := inW_mk (blk_lt c3)
    haveI i4 : NeZero (inW bp wx) := inW_mk (blk_lt c4)
    have C1 := Lib.hid c1; have C2 := Lib.hid c2; have C3 := Lib.hid c3; have C4 := Lib.hid c4; have C5 := Lib.hid c5; have CB := Lib.hid cb
    clear c0 c1 c2 c3 c4 c5 cb
    go_upto_region 2 with fail
    go_cut [8] (fun s8 wy => s8 = .int .u64 (x : Nat) ∧ blk wy bn (#[.int .u32 (pt r 0), .int .u32 (pt r 1), .int .u32 (pt r 2), .int .u32 (pt r 3)]) 26 ∧ blk wy bw (Ca.wc (Wv p)) 63 ∧ blk wy bl #[.int .u64 L] 23 ∧ blk wy bp (#[.int .u64 (p 0 : Nat), .int .u64 (p 1 : Nat), .int .u64 (p 2 : Nat), .int .u64 (p 3 : Nat)]) 28 ∧ blk wy bd (#[.int .u64 (dd 0 : Nat), .int .u64 (dd 1 : Nat), .int .u64 (dd 2 : Nat), .int .u64 (dd 3 : Nat)]) 28 ∧ Below B W wy ∧ W.heap.size ≤ wy.heap.size ∧ (∀ b cs t, blk W b cs t → bn ≠ b → bl ≠ b → bd ≠ b → blk wy b cs t))
    case first =>
      go_region_with (first | (go_at_call 34; refine (LK.out _).mono ?_; rintro e w9 ⟨rfl, rfl⟩) | (go_at_call 33; refine (SA.out _).mono ?_; rintro e w9 ⟨rfl, hbel⟩; obtain ⟨o2, j2, rfl⟩ := grow_of_below hbel; clear hbel))
      all_goals go_wp2
      all_goals go_meet
      all_goals
        have hBx : B ≤ wx.heap.size := by have := CB.out.size; omega
        refine ⟨rfl, blk_grow C1.out _ _, blk_grow C2.out _ _, blk_grow C3.out _ _, blk_grow C4.out _ _, blk_grow C5.out _ _, ?_, ?_, fun b cs t h g1 g2 g3 => blk_grow (CK.out b cs t h g1 g2 g3) _ _⟩
        · repeat (first | (with_reducible exact CB.out) | ((with_reducible refine below_grow ?_ ?_); rotate_left; focus (first | omega | (simp [go_sem]; done) | (simp [go_sem]; omega))) | ((with_reducible refine Below.alloc ?_ ?_ _); rotate_left; focus (first | omega | (simp [go_sem]; done) | (simp [go_sem]; omega))) | ((with_reducible refine Below.setCell ?_ ?_ _); rotate_left; focus (first | omega | (simp [go_sem]; done) | (simp [go_sem]; omega))) | (with_reducible refine Below.drew ?_) | (with_reducible refine below_drewN _ ?_))
        · simp [go_sem]; omega
    case rest =>
      rename World => wy
      obtain ⟨rfl, c1, c2, c3, c4, c5, cb, cs', ck⟩ := hcut
      have CK2 := Lib.hid ck
      clear ck CK
      clear k0 k1 k2 k3 kl kp i0 i3 i4 LK SA C1 C2 C3 C4 C5 CB cs
      have kd := dcell c5 s HDV.out
      rw [HDS.out] at kd
      have kl : wy.cell? ⟨bl, 0, none⟩ = some (.int .u64 L) := blk_cell c3 0
      have f3 : wy.frozen? ⟨bl, 0, none⟩ = false := blk_free c3 0
      have f5 : ∀ j, wy.frozen? ⟨bd, j, none⟩ = false := fun j => blk_free c5 j
      have D1 := Lib.hid c1; have D2 := Lib.hid c2; have D3 := Lib.hid c3; have D4 := Lib.hid c4; have D5 := Lib.hid c5; have DB' := Lib.hid cb
      have hhs := HDV.out
      clear c1 c2 c3 c4 c5 cb
      go_wp2
      go_end0
      refine ⟨⟨_, rfl⟩, ?_, ?_, ?_, ?_, ?_, ?_, ?_, fun b cs t h g1 g2 g3 => blk_other (blk_other (CK2.out b cs t h g1 g2 g3) g3 _) g2 _⟩
      · exact blk_other (blk_other D1.out m4.symm.symm _) m2 _
      · exact blk_other (blk_other D2.out n8 _) n5 _
      · exact blk_set (blk_other D3.out m7 _) 0 _
      · exact blk_other (blk_other D4.out n9 _) n6 _
      · have h := blk_set D5.out s (.int .u64 (d' : Nat))
        rw [dc_set dd ee s d' hhs HD.out] at h
        exact blk_other h n7 _
      · repeat (first | (with_reducible exact DB'.out) | ((with_reducible refine below_grow ?_ ?_); rotate_left; focus (first | omega | (simp [go_sem]; done) | (simp [go_sem]; omega))) | ((with_reducible refine Below.alloc ?_ ?_ _); rotate_left; focus (first | omega | (simp [go_sem]; done) | (simp [go_sem]; omega))) | ((with_reducible refine Below.setCell ?_ ?_ _); rotate_left; focus (first | omega | (simp [go_sem]; done) | (simp [go_sem]; omega))) | (with_reducible refine Below.drew ?_) | (with_reducible refine below_drewN _ ?_))
      · simpa [World.setCell] using cs'
end Go.Proofs.Ytgcfkhpondemlaa.Ca
