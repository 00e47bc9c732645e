/- AuctionEnds: THE STAGE'S THEOREM: an auction that goes on with legal calls is over, and makes a contract of its last bid. -/
import Derived.Test.YtacgikhedhiaaaaDoorLU
namespace Go.Proofs.YtacgikhedhiaaaaDoor
open Go.RowKit

theorem wp_keep {P : Program} {c : Code} {Q : Exit → Act → World → Prop} {a : Act} {w : World} (S : World → Prop) (hs : S w) (h : ∀ W, S W → Code.wp P c Q a W) : Code.wp P c Q a w := h w hs
set_option maxRecDepth 100000 in
set_option maxHeartbeats 32000000 in
theorem ends_calls (d0 : Nat) (hd8 : d0 < 256) (v : Value) (xs : List Nat) (h8 : ∀ x ∈ xs, x < 256) (w : World) (hS : SlB w v xs) (he : Env w) :
    Calls Tryd.prog 5 #[.int .u8 d0, v] w fun e w' => e = .returned (.bool true) ∧ Below w.heap.size w w' := by
  have AW := Lib.hid (awake_calls w he)
  have MD := Lib.hid (fun W (hb : Below w.heap.size w W) => made_calls d0 hd8 v xs h8 true W (slb_below hS hb))
  obtain ⟨d, hd⟩ : ∃ d, d0 % 4 = d := ⟨_, rfl⟩
  have hd4 : d < 4 := by omega
  rw [hd] at MD
  clear hS he hd
  go_enter Tryd.func5, Tryd.ntmps5
  go_upto_region 3 with (go_at_call 11; refine AW.out.mono ?_; rintro e w9 ⟨rfl, hbel⟩; obtain ⟨o1, j1, rfl⟩ := grow_of_below hbel; clear hbel)
  go_upto_region 4 with (go_at_call 13; refine (MD.out _ (by repeat (first | (with_reducible exact Below.refl _ _) | ((with_reducible refine below_grow ?_ ?_); rotate_left; focus (first | omega | (simp [go_sem]; done) | (simp [go_sem]; omega))) | ((with_reducible refine Below.alloc ?_ ?_ _); rotate_left; focus (first | omega | (simp [go_sem]; done) | (simp [go_sem]; omega))) | ((with_reducible refine Below.setCell ?_ ?_ _); rotate_left; focus (first | omega | (simp [go_sem]; done) | (simp [go_sem]; omega))) | (with_reducible refine Below.drew ?_) | (with_reducible refine below_drewN _ ?_)))).mono ?_; rintro e w1 ⟨⟨v1, l, s, rfl, hrow, hrt, hov⟩, hbel⟩)
  have cbw : Below w.heap.size w w1 := (show Below w.heap.size w (grow w o1 j1) by repeat (first | (with_reducible exact Below.refl _ _) | ((with_reducible refine below_grow ?_ ?_); rotate_left; focus (first | omega | (simp [go_sem]; done) | (simp [go_sem]; omega))) | ((with_reducible refine Below.alloc ?_ ?_ _); rotate_left; focus (first | omega | (simp [go_sem]; done) | (simp [go_sem]; omega))) | ((with_reducible refine Below.setCell ?_ ?_ _); rotate_left; focus (first | omega | (simp [go_sem]; done) | (simp [go_sem]; omega))) | (with_reducible refine Below.drew ?_) | (with_reducible refine below_drewN _ ?_))).trans (hbel.mono (by simp [go_sem]))
  have ho : s.over = true := by first | exact hov rfl | exact hov trivial
  have hs1 := cbw.size
  have hln := hrt.len
  have hS1 := (slb_own hrow).1
  have hl0 : l ≠ [] := by
    rintro rfl
    have := hrt.hr
    cases this
    cases ho
  obtain ⟨A1, cap1, rfl, hA⟩ := own_slice hrow
  obtain ⟨g, rfl⟩ := hA.resolve_left (fun e => hl0 (List.length_eq_zero_iff.1 e))
  have HCE := Lib.hid (fun (i a : Nat) (h : l[i]? = some a) => show w1.cell? ⟨g, i, none⟩ = some (.int .u8 a) by
    rw [own_at hrow i (by have := (List.getElem?_eq_some_iff.1 h).1; omega), List.getElem?_map, h]; rfl)
  have hg : g < w1.heap.size := by
    rcases hrow.2 with ⟨h, _⟩ | ⟨g', cap, cur, h, _, hb, _⟩
    · cases h
    · simp only [Value.slice.injEq, Option.some.injEq, Addr.mk.injEq, and_true] at h
      rw [h.1]; exact lt_of_block hb
  have OV := Lib.hid (fun W (hb : Below w1.heap.size w1 W) => aover_yes d _ l s hrt W (slb_below hS1 hb))
  rw [ho] at OV
  have CO := Lib.hid (fun W (hb : Below w1.heap.size w1 W) => contract_over d _ l s hrt ho W (slb_below hS1 hb))
  have LA := Lib.hid (fun W (hb : Below w1.heap.size w1 W) => last_calls _ l hrt.lt (by omega) W (slb_below hS1 hb))
  have HS1 := Lib.hid hS1
  have HRT := Lib.hid hrt
  have HO := Lib.hid ho
  have HBW := Lib.hid cbw
  obtain ⟨n, hn⟩ : ∃ n, l.length = n := ⟨_, rfl⟩
  rw [hn] at hln HS1 OV CO LA ⊢
  have HN := Lib.hid hn
  clear AW MD hbel hov hS1 hrt ho cbw hA hl0 hrow
  have g0 : IntKind.i64.wrap (d : Int) = d := IntWalk.i64_in _ (by omega)
  go_wp2
  go_loopw [7, 8, 9, 10, 11, 40] (fun _ _ _ _ _ s40 wr => ∃ i : Nat, s40 = .int .i64 i ∧ i ≤ n ∧ Below w1.heap.size w1 wr) (fun _ _ _ _ _ s40 _ => n - (intOf s40).toNat)
  case atStart => exact ⟨0, rfl, Nat.zero_le _, Below.refl _ _⟩
  case round =>
    obtain ⟨i, rfl, hin, cb⟩ := hrel
    have hsr := cb.size
    by_cases hlt : i < n
    · have hlt2 : (i : Int) < n := by omega
      have f1 : IntKind.i64.wrap ((i : Int) + 1) = (i : Int) + 1 := IntWalk.i64_in _ (by omega)
      obtain ⟨a, ha⟩ : ∃ a, l[i]? = some a := ⟨_, List.getElem?_eq_getElem (by omega)⟩
      obtain ⟨u, hu, hrun, ok⟩ := HRT.out.part i (by omega)
      rw [drop_at ha] at hrun
      obtain ⟨hra, -⟩ := run_head hrun
      obtain ⟨ha38, huo, hua⟩ := St.ref_zero hra
      have k1 : ∀ W, Below w1.heap.size w1 W → W.cell? ⟨g, i, none⟩ = some (.int .u8 a) := fun W hb => (hb.cell (p := ⟨g, i, none⟩) hg).trans (HCE.out i a ha)
      obtain ⟨p', hsl, hSi⟩ := slb_cut HS1.out i (by omega)
      have LG := Lib.hid (fun W (hb : Below w1.heap.size w1 W) => legal_open d _ (l.take i) u hu huo W (slb_below hSi hb))
      have TN := Lib.hid (fun W (hb : Below w1.heap.size w1 W) => turn_yes d _ (l.take i) u hu W (slb_below hSi hb))
      rw [huo, if_neg (by decide), ok.turn] at TN
      obtain ⟨r, hr⟩ : ∃ r, i % 4 = r := ⟨_, rfl⟩
      obtain ⟨t, ht⟩ : ∃ r, (d + i) % 4 = r := ⟨_, rfl⟩
      rw [ht] at TN
      have g1 : (i : Int).tmod 4 = r := by rw [Int.tmod_eq_emod_of_nonneg (by omega)]; omega
      have g2 : IntKind.i64.wrap (r : Int) = r := IntWalk.i64_in _ (by omega)
      have g3 : IntKind.u8.wrap (r : Int) = r := u8_wrap (by omega) (by omega)
      have g4 : IntKind.u8.wrap ((d : Int) + r) = (d : Int) + r := u8_wrap (by omega) (by omega)
      have g5 : ((d : Int) + r).tmod 4 = t := by rw [Int.tmod_eq_emod_of_nonneg (by omega)]; omega
      have g6 : IntKind.u8.wrap (t : Int) = t := u8_wrap (by omega) (by omega)
      have hmem : decide (a ∈ u.lgl) = true := decide_eq_true (St.mem_lgl.2 ⟨ha38, hua⟩)
      have hlc := u.lgl_cons
      have hle := u.lgl_le
      have hsorted := lgl_sorted u
      obtain ⟨L, hL⟩ : ∃ L, u.lgl = L := ⟨_, rfl⟩
      rw [hL] at LG hmem hlc hle hsorted
      have hL0 : L[0]? = some 0 := by rw [hlc]; rfl
      have hLl : 1 ≤ L.length := by rw [hlc]; simp
      have K1 := Lib.hid k1
      have hi64 : (i : Int) ≤ cap1 := by
        obtain ⟨p0, c0, e, h2, -⟩ := HS1.out
        simp only [Value.slice.injEq] at e
        omega
      clear hrun hra huo hua hu hSi ok hL ha38 ha hr ht hlc k1
      go_upto_region 8 with (go_at_call 14; refine (LG.out _ cb).mono ?_; rintro e w3 ⟨⟨v2, rfl, hrow2⟩, hb3⟩)
      have cb3 : Below w1.heap.size w1 w3 := cb.trans (hb3.mono hsr)
      obtain ⟨A2, cap2, rfl, hA2⟩ := own_slice hrow2
      obtain ⟨g2', rfl⟩ := hA2.resolve_left (by omega)
      have hs3 := cb3.size
      go_upto_region 9 with (go_at_call 15; refine (TN.out _ cb3).mono ?_; rintro e w4 ⟨rfl, hb4⟩)
      have cb4 : Below w1.heap.size w1 w4 := cb3.trans (hb4.mono hs3)
      have hrow4 := own_below hrow2 hb4 rfl
      have l0 : w4.cell? ⟨g2', 0, none⟩ = some (.int .u8 0) := by rw [own_at hrow4 0 (by omega), List.getElem?_map, hL0]; rfl
      have SO := Lib.hid (sorted_calls _ L _ w4 (by omega) hsorted hrow4)
      have CT := Lib.hid (fun W (hb : Below w4.heap.size w4 W) => contains_calls _ L _ a W (by omega) (own_below hrow4 hb rfl))
      rw [hmem] at CT
      have hs4 := cb4.size
      have hLl2 : ¬ (L.length : Int) = 0 := by omega
      have HB4 := Lib.hid hb4
      have hLne : ¬ L = [] := by rintro rfl; simp at hLl
      clear LG TN hb3 hrow2 hA2 hsorted hmem hL0 hrow4 hb4 cb3 hs3
      go_wp2_with (first | (go_at_call 16; refine SO.out.mono ?_; rintro e w5 ⟨rfl, hb5⟩; have k5 := K1.out w5 (cb4.trans (hb5.mono hs4))) | (go_at_call 17; refine (CT.out _ hb5).mono ?_; rintro e w6 ⟨rfl, rfl⟩))
      go_roundw
      case rel => exact ⟨i + 1, by go_num, by omega, cb4.trans (hb5.mono hs4)⟩
      case measure => simp [intOf]; omega
    · obtain rfl : n = i := by omega
      clear hlt
      rcases St.run_la hd4 l s HRT.out.hr with ⟨hb0, hla⟩ | ⟨hbid, at', hla, hat, hseat⟩
      · have hc : s.ctr d l = (0, 0, 0, 0) := by unfold St.ctr; rw [hb0]; rfl
        rw [hc] at CO
        unfold ctV at CO
        simp only at CO
        rw [hla] at LA
        unfold laV at LA
        have hi4 : n = 4 := by
          have h1 := HRT.out.ok.nob hb0
          have h2 := HO.out
          unfold St.over at h2
          rw [if_pos hb0] at h2
          have h3 := of_decide_eq_true h2
          have := HN.out
          omega
        subst hi4
        have EQ := fun w => eqCt 0 0 0 0 0 0 0 0 w
        go_upto_region 13 with (go_at_call 18; refine (OV.out _ (by repeat (first | (with_reducible exact cb) | ((with_reducible refine below_grow ?_ ?_); rotate_left; focus (first | omega | (simp [go_sem]; done) | (simp [go_sem]; omega))) | ((with_reducible refine Below.alloc ?_ ?_ _); rotate_left; focus (first | omega | (simp [go_sem]; done) | (simp [go_sem]; omega))) | ((with_reducible refine Below.setCell ?_ ?_ _); rotate_left; focus (first | omega | (simp [go_sem]; done) | (simp [go_sem]; omega))) | (with_reducible refine Below.drew ?_) | (with_reducible refine below_drewN _ ?_)))).mono ?_; rintro e w9 ⟨rfl, hbel⟩; obtain ⟨o2, j2, rfl⟩ := grow_of_below hbel; clear hbel)
        go_upto_region 14 with (go_at_call 19; refine (CO.out _ (by repeat (first | (with_reducible exact cb) | ((with_reducible refine below_grow ?_ ?_); rotate_left; focus (first | omega | (simp [go_sem]; done) | (simp [go_sem]; omega))) | ((with_reducible refine Below.alloc ?_ ?_ _); rotate_left; focus (first | omega | (simp [go_sem]; done) | (simp [go_sem]; omega))) | ((with_reducible refine Below.setCell ?_ ?_ _); rotate_left; focus (first | omega | (simp [go_sem]; done) | (simp [go_sem]; omega))) | (with_reducible refine Below.drew ?_) | (with_reducible refine below_drewN _ ?_)))).mono ?_; rintro e w9 ⟨rfl, hbel⟩; obtain ⟨o3, j3, rfl⟩ := grow_of_below hbel; clear hbel)
        go_upto_region 16 with fail
        go_upto_region 17 with (go_at_call 20; refine (LA.out _ (by repeat (first | (with_reducible exact cb) | ((with_reducible refine below_grow ?_ ?_); rotate_left; focus (first | omega | (simp [go_sem]; done) | (simp [go_sem]; omega))) | ((with_reducible refine Below.alloc ?_ ?_ _); rotate_left; focus (first | omega | (simp [go_sem]; done) | (simp [go_sem]; omega))) | ((with_reducible refine Below.setCell ?_ ?_ _); rotate_left; focus (first | omega | (simp [go_sem]; done) | (simp [go_sem]; omega))) | (with_reducible refine Below.drew ?_) | (with_reducible refine below_drewN _ ?_)))).mono ?_; rintro e w9 ⟨rfl, rfl⟩)
        go_wp2
        refine bodyPost_ret (by simp [results, Tryd.results5, go_sem]) rfl ⟨rfl, ?_⟩
        have hbw := HBW.out.trans (cb.mono hs1)
        have hs2 := hbw.size
        repeat (first | (with_reducible exact hbw) | ((with_reducible refine below_grow ?_ ?_); rotate_left; focus (first | omega | (simp [go_sem]; done) | (simp [go_sem]; omega))) | ((with_reducible refine Below.alloc ?_ ?_ _); rotate_left; focus (first | omega | (simp [go_sem]; done) | (simp [go_sem]; omega))) | ((with_reducible refine Below.setCell ?_ ?_ _); rotate_left; focus (first | omega | (simp [go_sem]; done) | (simp [go_sem]; omega))) | (with_reducible refine Below.drew ?_) | (with_reducible refine below_drewN _ ?_))
      · have hc : s.ctr d l = (prL s.bid, prD s.bid, s.risk, dcl s.seat (prD s.bid) d l) := by unfold St.ctr; rw [hbid]; rfl
        rw [hc] at CO
        have ok := HRT.out.ok
        have hDs := dcl_side s.seat (prD s.bid) l d
        have hD4 : dcl s.seat (prD s.bid) d l < 4 := dcl_lt ok.seat hd4
        have hLp := prL_pos hbid
        have hL7 := prL_lt s.bid
        have hD5 := prD_lt s.bid
        have hR2 := ok.risk
        have PB := Lib.hid (parts_calls s.bid)
        rw [hbid] at PB
        rw [hla] at LA
        unfold laV at LA
        unfold ctV at CO
        simp only at CO LA
        have hatn : at' < n := by have := (List.getElem?_eq_some_iff.1 hat).1; have := HN.out; omega
        have hlaf := laF_some (show laF l l.length = some at' from hla)
        have HNB : Hid (∀ j, at' < j → j < n → isb (l.getD j 0) = false) := Lib.hid (fun j h1 h2 => hlaf.2.2 j h1 (by have := HN.out; omega))
        obtain ⟨bi, hbi⟩ : ∃ b, (d + at') % 4 = b := ⟨_, rfl⟩
        rw [hbi] at hseat
        -- the state behind the last bid
        obtain ⟨u0, hu0, hrun0, ok0⟩ := HRT.out.part (at' + 1) (by have := HN.out; omega)
        have HU : Hid (St.run u0 (l.drop (at' + 1)) = some s ∧ u0.Ok d (at' + 1) ∧ u0.seat = bi ∧ u0.risk = 0) := Lib.hid (by
          have h1 := hu0.hr
          rw [List.take_add_one, hat] at h1
          obtain ⟨u, h2, h3, h4⟩ := St.run_snoc_inv h1
          have hok : u.Ok d at' := by
            have := St.ok_of hd4 h2
            rwa [List.length_take, Nat.min_eq_left (by have := HN.out; omega)] at this
          rw [St.take_bid hbid] at h4
          refine ⟨hrun0, ok0, ?_, by rw [h4]⟩
          rw [h4]
          show u.turn = bi
          rw [hok.turn, hbi])
        obtain ⟨x0, hx0⟩ : ∃ x, prL s.bid = x := ⟨_, rfl⟩
        obtain ⟨x1, hx1⟩ : ∃ x, prD s.bid = x := ⟨_, rfl⟩
        obtain ⟨x2, hx2⟩ : ∃ x, s.risk = x := ⟨_, rfl⟩
        rw [hx1] at hDs hD4
        rw [hseat] at hDs hD4
        rw [hx0, hx1, hx2, hseat] at CO
        rw [hx0, hx1] at PB
        obtain ⟨x3, hx3⟩ : ∃ x, dcl bi x1 d l = x := ⟨_, rfl⟩
        rw [hx3] at hDs hD4 CO
        have HX : Hid ((1 ≤ x0 ∧ x0 ≤ 7 ∧ x1 ≤ 4 ∧ x3 ≤ 3) ∧ x2 ≤ 2 ∧ s.risk = x2) := Lib.hid ⟨⟨by omega, by omega, by omega, by omega⟩, by omega, hx2⟩
        have hpar : x3 % 2 = bi % 2 := sd_iff.1 hDs
        have HX3 := Lib.hid hx3
        have HAT := Lib.hid hat
        obtain ⟨B, hB⟩ : ∃ B, s.bid = B := ⟨_, rfl⟩
        rw [hB] at PB HAT
        have hin2 : (at' : Int) < n := by omega
        have g1 : IntKind.i64.wrap ((d : Int) + at') = (d : Int) + at' := IntWalk.i64_in _ (by omega)
        have g2 : ((d : Int) + at').tmod 4 = bi := by rw [Int.tmod_eq_emod_of_nonneg (by omega)]; omega
        have hbi4 : bi < 4 := by omega
        have g3 : IntKind.i64.wrap (bi : Int) = bi := IntWalk.i64_in _ (by omega)
        have g4 : IntKind.i64.wrap (x3 : Int) = x3 := IntWalk.i64_in _ (by omega)
        obtain ⟨y, hy⟩ : ∃ y, x3 % 2 = y := ⟨_, rfl⟩
        have g5 : (x3 : Int).tmod 2 = y := by rw [Int.tmod_eq_emod_of_nonneg (by omega)]; omega
        have g6 : (bi : Int).tmod 2 = y := by rw [Int.tmod_eq_emod_of_nonneg (by omega)]; omega
        have g7 : IntKind.i64.wrap (y : Int) = y := IntWalk.i64_in _ (by omega)
        have g8 : IntKind.i64.wrap ((at' : Int) + 1) = (at' : Int) + 1 := IntWalk.i64_in _ (by omega)
        have h319 : ¬ (319 : Int) < n := by omega
        have hbiy : bi % 2 = y := by omega
        clear hc hla hat hseat ok hDs hD4 hLp hL7 hD5 hR2 hlaf hbi hu0 hrun0 ok0 hx0 hx1 hx2 hx3 hB hpar hy
        go_upto_region 13 with (go_at_call 18; refine (OV.out _ (by repeat (first | (with_reducible exact cb) | ((with_reducible refine below_grow ?_ ?_); rotate_left; focus (first | omega | (simp [go_sem]; done) | (simp [go_sem]; omega))) | ((with_reducible refine Below.alloc ?_ ?_ _); rotate_left; focus (first | omega | (simp [go_sem]; done) | (simp [go_sem]; omega))) | ((with_reducible refine Below.setCell ?_ ?_ _); rotate_left; focus (first | omega | (simp [go_sem]; done) | (simp [go_sem]; omega))) | (with_reducible refine Below.drew ?_) | (with_reducible refine below_drewN _ ?_)))).mono ?_; rintro e w9 ⟨rfl, hbel⟩; obtain ⟨o2, j2, rfl⟩ := grow_of_below hbel; clear hbel)
        go_upto_region 14 with (go_at_call 19; refine (CO.out _ (by repeat (first | (with_reducible exact cb) | ((with_reducible refine below_grow ?_ ?_); rotate_left; focus (first | omega | (simp [go_sem]; done) | (simp [go_sem]; omega))) | ((with_reducible refine Below.alloc ?_ ?_ _); rotate_left; focus (first | omega | (simp [go_sem]; done) | (simp [go_sem]; omega))) | ((with_reducible refine Below.setCell ?_ ?_ _); rotate_left; focus (first | omega | (simp [go_sem]; done) | (simp [go_sem]; omega))) | (with_reducible refine Below.drew ?_) | (with_reducible refine below_drewN _ ?_)))).mono ?_; rintro e w9 ⟨rfl, hbel⟩; obtain ⟨o3, j3, rfl⟩ := grow_of_below hbel; clear hbel)
        refine wp_keep (fun W => blk W (wr.heap.size + sz (o2 ++ o3)) #[.int .u8 x0, .int .u8 x1, .int .u8 x2, .int .u8 x3] 26 ∧ Below w1.heap.size w1 W) ⟨blk_at _ _ _ (by simp [go_sem, sz]), by repeat (first | (with_reducible exact cb) | ((with_reducible refine below_grow ?_ ?_); rotate_left; focus (first | omega | (simp [go_sem]; done) | (simp [go_sem]; omega))) | ((with_reducible refine Below.alloc ?_ ?_ _); rotate_left; focus (first | omega | (simp [go_sem]; done) | (simp [go_sem]; omega))) | ((with_reducible refine Below.setCell ?_ ?_ _); rotate_left; focus (first | omega | (simp [go_sem]; done) | (simp [go_sem]; omega))) | (with_reducible refine Below.drew ?_) | (with_reducible refine below_drewN _ ?_))⟩ ?_
        rintro wk ⟨b3, cb3⟩
        generalize wr.heap.size + sz (o2 ++ o3) = q14 at *
        have hs3 := cb3.size
        have q0 : wk.cell? ⟨q14, 0, none⟩ = some (.int .u8 x0) := blk_cell b3 0
        have q1 : wk.cell? ⟨q14, 1, none⟩ = some (.int .u8 x1) := blk_cell b3 1
        have q3 : wk.cell? ⟨q14, 3, none⟩ = some (.int .u8 x3) := blk_cell b3 3
        have kat : wk.cell? ⟨g, at', none⟩ = some (.int .u8 B) := (cb3.cell (p := ⟨g, at', none⟩) hg).trans (HCE.out at' B HAT.out)
        clear cb OV CO
        go_upto_region 16 with fail
        go_upto_region 17 with (go_at_call 20; refine (LA.out _ cb3).mono ?_; rintro e w9 ⟨rfl, rfl⟩)
        go_upto_region 19 with fail
        go_upto_region 20 with (go_at_call 21; refine (PB.out _).mono ?_; rintro e w9 ⟨rfl, rfl⟩)
        go_upto_region 23 with fail
        have hi0 : at' + 1 ≤ n ∧ l.length = n := ⟨by omega, HN.out⟩
        have HX2 := HX3
        clear q0 q1 q3 kat LA PB
        go_wp2
        go_loopw [22, 23, 24, 25, 26, 174] (fun _ _ _ _ _ s174 wr => ∃ j : Nat, s174 = .int .i64 j ∧ j ≤ n ∧ dcl bi x1 ((d + j) % 4) (l.drop j) = x3 ∧ blk wr q14 #[.int .u8 x0, .int .u8 x1, .int .u8 x2, .int .u8 x3] 26 ∧ Below w1.heap.size w1 wr) (fun _ _ _ _ _ s174 _ => n - (intOf s174).toNat)
        case atStart => exact ⟨0, rfl, Nat.zero_le _, by rw [Nat.add_zero, Nat.mod_eq_of_lt hd4]; exact HX2.out, b3, cb3⟩
        case round =>
          clear b3 cb3
          obtain ⟨j, rfl, hjn, hdc, b3, cb3⟩ := hrel
          have hs3 := cb3.size
          by_cases hlt : j < n
          · have hlt2 : (j : Int) < n := by omega
            obtain ⟨a, ha⟩ : ∃ a, l[j]? = some a := ⟨_, List.getElem?_eq_getElem (by omega)⟩
            have k1 : wr.cell? ⟨g, j, none⟩ = some (.int .u8 a) := (cb3.cell (p := ⟨g, j, none⟩) hg).trans (HCE.out j a ha)
            have f1 : IntKind.i64.wrap ((j : Int) + 1) = (j : Int) + 1 := IntWalk.i64_in _ (by omega)
            have q3 : wr.cell? ⟨q14, 3, none⟩ = some (.int .u8 x3) := blk_cell b3 3
            rw [drop_at ha, dcl] at hdc
            have hstep : ((d + j) % 4 + 1) % 4 = (d + (j + 1)) % 4 := by omega
            rw [hstep] at hdc
            have PA := Lib.hid (parts_calls a)
            have g9 : IntKind.i64.wrap ((d : Int) + j) = (d : Int) + j := IntWalk.i64_in _ (by omega)
            obtain ⟨t, ht⟩ : ∃ t, (d + j) % 4 = t := ⟨_, rfl⟩
            have g10 : ((d : Int) + j).tmod 4 = t := by rw [Int.tmod_eq_emod_of_nonneg (by omega)]; omega
            have g11 : IntKind.i64.wrap (t : Int) = t := IntWalk.i64_in _ (by omega)
            obtain ⟨z, hz⟩ : ∃ t, (d + j) % 2 = t := ⟨_, rfl⟩
            have g12 : ((d : Int) + j).tmod 2 = z := by rw [Int.tmod_eq_emod_of_nonneg (by omega)]; omega
            have g13 : IntKind.i64.wrap (z : Int) = z := IntWalk.i64_in _ (by omega)
            have hsd : sd t bi = decide (z = y) := by
              unfold sd
              rw [hbiy]
              have : t % 2 = z := by omega
              rw [this]
            rw [ht, hsd] at hdc
            obtain ⟨pl, hpl⟩ : ∃ p, prL a = p := ⟨_, rfl⟩
            obtain ⟨pd, hpd⟩ : ∃ p, prD a = p := ⟨_, rfl⟩
            rw [hpl, hpd] at PA
            rw [hpd] at hdc
            clear ha hstep hsd hpl hpd
            cases hba : isb a with
            | false =>
              rw [hba] at PA hdc
              simp only [Bool.false_and, Bool.false_eq_true, if_false] at hdc
              have HD := Lib.hid hdc
              clear hdc ht hz
              go_wp2_with (go_at_call 21; refine (PA.out _).mono ?_; rintro e w9 ⟨rfl, rfl⟩)
              go_roundw
              case rel => exact ⟨j + 1, by go_num, by omega, HD.out, b3, cb3⟩
              case measure => simp [intOf]; omega
            | true =>
              rw [hba] at PA hdc
              by_cases hpx : pd = x1
              · by_cases hzy : z = y
                · rw [decide_eq_true hpx, decide_eq_true hzy, if_pos (by decide)] at hdc
                  have hpx2 : (pd : Int) = x1 := by omega
                  have hzy2 : (z : Int) = y := by omega
                  have htx : (t : Int) = x3 := by omega
                  clear hdc ht hz
                  go_upto_region 31 with (go_at_call 21; refine (PA.out _).mono ?_; rintro e w9 ⟨rfl, rfl⟩)
                  clear PA q3 k1 g9 g10 g11 g12 g13 f1 hlt hlt2 hpx2 hzy2 htx hpx hzy hba
                  have HI0 := Lib.hid hi0
                  clear HX2
                  go_wp2
                  go_loopw [27, 28] (fun s27 s28 wr => ∃ (i : Nat) (u : St), s28 = .int .i64 i ∧ at' + 1 ≤ i ∧ i ≤ n ∧ s27 = .int .u8 u.risk ∧ St.run u (l.drop i) = some s ∧ u.Ok d i ∧ u.seat = bi ∧ blk wr q14 #[.int .u8 x0, .int .u8 x1, .int .u8 x2, .int .u8 x3] 26 ∧ Below w1.heap.size w1 wr) (fun _ s28 _ => n - (intOf s28).toNat)
                  case atStart => exact ⟨at' + 1, u0, by go_num, Nat.le_refl _, HI0.out.1, by rw [HU.out.2.2.2]; rfl, HU.out.1, HU.out.2.1, HU.out.2.2.1, b3, cb3⟩
                  case round =>
                    clear b3 cb3
                    obtain ⟨i, u, rfl, hai, hin, rfl, hrun, ok, hseat, b3, cb3⟩ := hrel
                    have hs3 := cb3.size
                    by_cases hlt : i < n
                    · have hlt2 : (i : Int) < n := by omega
                      obtain ⟨a, ha⟩ : ∃ a, l[i]? = some a := ⟨_, List.getElem?_eq_getElem (by omega)⟩
                      have k1 : wr.cell? ⟨g, i, none⟩ = some (.int .u8 a) := (cb3.cell (p := ⟨g, i, none⟩) hg).trans (HCE.out i a ha)
                      have f1 : IntKind.i64.wrap ((i : Int) + 1) = (i : Int) + 1 := IntWalk.i64_in _ (by omega)
                      rw [drop_at ha] at hrun
                      obtain ⟨hra, hrun⟩ := run_head hrun
                      have hnb : isb a = false := by
                        have := HNB.out i (by omega) (by omega)
                        rwa [List.getD_eq_getElem?_getD, ha] at this
                      have ok' := ok.next hra
                      by_cases h0 : a = 0
                      · subst h0
                        go_wp2
                        go_roundw
                        case rel => exact ⟨i + 1, u.take 0, by go_num, by omega, by omega, rfl, hrun, ok', hseat, b3, cb3⟩
                        case measure => simp [intOf]; omega
                      · have h0' : ¬ (a : Int) = 0 := by omega
                        obtain ⟨e1, e2, e3, e4⟩ := St.step_nob ok hra hnb h0
                        have hsu : (u.take a).seat = bi := by rw [(St.take_nob hnb).2]; exact hseat
                        rw [hseat, ok.turn] at e2
                        have hr2 := ok'.risk
                        rw [e3] at hr2
                        obtain ⟨R, hR⟩ : ∃ R, u.risk = R := ⟨_, rfl⟩
                        rw [hR] at e1 e2 ⊢
                        have g1 : IntKind.i64.wrap (d : Int) = d := IntWalk.i64_in _ (by omega)
                        have g2 : IntKind.i64.wrap ((d : Int) + i) = (d : Int) + i := IntWalk.i64_in _ (by omega)
                        obtain ⟨y2, hy⟩ : ∃ y2, (d + i) % 2 = y2 := ⟨_, rfl⟩
                        have p3 : ((d : Int) + i).tmod 2 = y2 := by rw [Int.tmod_eq_emod_of_nonneg (by omega)]; omega
                        have p4 : IntKind.i64.wrap (y2 : Int) = y2 := IntWalk.i64_in _ (by omega)
                        have HW := Lib.hid (show at' + 1 ≤ i + 1 ∧ i + 1 ≤ n by omega)
                        have HRN := Lib.hid hrun
                        have HOK := Lib.hid ok'
                        have HSU := Lib.hid hsu
                        have hR01 : R = 0 ∨ R = 1 := by omega
                        unfold sd at e2
                        rcases hR01 with rfl | rfl
                        · have hyz : ¬ (y2 : Int) = y := by
                            have : ¬ ((d + i) % 4 % 2 = bi % 2) := by simpa using e2
                            omega
                          obtain rfl : a = 1 := by omega
                          have k1 : wr.cell? ⟨g, i, none⟩ = some (.int .u8 1) := k1
                          have HREL : Hid (Value.int .u8 1 = .int .u8 ((u.take 1).risk : Nat)) := Lib.hid (by rw [e3]; rfl)
                          clear e1 e2 e3 e4 hr2 ok ok' hrun hsu hy ha hra hnb hR h0 h0'
                          go_wp2
                          go_roundw
                          case rel => exact ⟨i + 1, u.take 1, by go_num, HW.out.1, HW.out.2, HREL.out, HRN.out, HOK.out, HSU.out, b3, cb3⟩
                          case measure => simp [intOf]; omega
                        · have hyz : (y2 : Int) = y := by
                            have : ((d + i) % 4 % 2 = bi % 2) := by simpa using e2
                            omega
                          obtain rfl : a = 2 := by omega
                          have k1 : wr.cell? ⟨g, i, none⟩ = some (.int .u8 2) := k1
                          have HREL : Hid (Value.int .u8 2 = .int .u8 ((u.take 2).risk : Nat)) := Lib.hid (by rw [e3]; rfl)
                          clear e1 e2 e3 e4 hr2 ok ok' hrun hsu hy ha hra hnb hR h0 h0'
                          go_wp2
                          go_roundw
                          case rel => exact ⟨i + 1, u.take 2, by go_num, HW.out.1, HW.out.2, HREL.out, HRN.out, HOK.out, HSU.out, b3, cb3⟩
                          case measure => simp [intOf]; omega
                    · obtain rfl : n = i := by omega
                      rw [List.drop_of_length_le (by omega)] at hrun
                      cases hrun
                      have hx2' := HX.out.2.2
                      rw [hx2']
                      have q0 : wr.cell? ⟨q14, 0, none⟩ = some (.int .u8 x0) := blk_cell b3 0
                      have q1 : wr.cell? ⟨q14, 1, none⟩ = some (.int .u8 x1) := blk_cell b3 1
                      have q2 : wr.cell? ⟨q14, 2, none⟩ = some (.int .u8 x2) := blk_cell b3 2
                      have q3 : wr.cell? ⟨q14, 3, none⟩ = some (.int .u8 x3) := blk_cell b3 3
                      haveI := inW_mk (blk_lt b3)
                      have LE := Lib.hid (fun W => leader_calls x0 x1 x2 x3 W (by have := HX.out.1.2.2.2; omega))
                      rw [if_neg (by have := HX.out.1.1; omega), if_pos (by have := HX.out; omega)] at LE
                      unfold ctV at LE
                      simp only at LE
                      have HX4 := HX.out.1.2.2.2
                      obtain ⟨t4, ht4⟩ : ∃ t, (x3 + 1) % 4 = t := ⟨_, rfl⟩
                      have g1 : IntKind.u8.wrap ((x3 : Int) + 1) = (x3 : Int) + 1 := u8_wrap (by omega) (by omega)
                      have g2 : ((x3 : Int) + 1).tmod 4 = t4 := by rw [Int.tmod_eq_emod_of_nonneg (by omega)]; omega
                      have g3 : IntKind.u8.wrap (t4 : Int) = t4 := u8_wrap (by omega) (by omega)
                      rw [ht4] at LE
                      clear ht4 hx2'
                      go_wp2_with (go_at_call 22; refine (LE.out _).mono ?_; rintro e w9 ⟨rfl, hbel⟩; obtain ⟨o9, j9, rfl⟩ := grow_of_below hbel; clear hbel)
                      refine bodyPost_ret (by simp [results, Tryd.results5, go_sem]) rfl ⟨rfl, ?_⟩
                      have hbw := HBW.out.trans (cb3.mono hs1)
                      have hs2 := hbw.size
                      repeat (first | (with_reducible exact hbw) | ((with_reducible refine below_grow ?_ ?_); rotate_left; focus (first | omega | (simp [go_sem]; done) | (simp [go_sem]; omega))) | ((with_reducible refine Below.alloc ?_ ?_ _); rotate_left; focus (first | omega | (simp [go_sem]; done) | (simp [go_sem]; omega))) | ((with_reducible refine Below.setCell ?_ ?_ _); rotate_left; focus (first | omega | (simp [go_sem]; done) | (simp [go_sem]; omega))) | (with_reducible refine Below.drew ?_) | (with_reducible refine below_drewN _ ?_))
                · rw [decide_eq_true hpx, decide_eq_false hzy, if_neg (by decide)] at hdc
                  have hpx2 : (pd : Int) = x1 := by omega
                  have hzy2 : ¬ (z : Int) = y := by omega
                  have HD := Lib.hid hdc
                  clear hdc ht hz hzy
                  go_wp2_with (go_at_call 21; refine (PA.out _).mono ?_; rintro e w9 ⟨rfl, rfl⟩)
                  go_roundw
                  case rel => exact ⟨j + 1, by go_num, by omega, HD.out, b3, cb3⟩
                  case measure => simp [intOf]; omega
              · have hpx2 : ¬ (pd : Int) = x1 := by omega
                rw [decide_eq_false hpx] at hdc
                simp only [Bool.and_false, Bool.false_and, Bool.false_eq_true, if_false] at hdc
                have HD := Lib.hid hdc
                clear hdc ht hz
                go_wp2_with (go_at_call 21; refine (PA.out _).mono ?_; rintro e w9 ⟨rfl, rfl⟩)
                go_roundw
                case rel => exact ⟨j + 1, by go_num, by omega, HD.out, b3, cb3⟩
                case measure => simp [intOf]; omega
          · obtain rfl : n = j := by omega
            clear hdc hlt hjn
            go_upto_region 31 with fail
            have HI0 := Lib.hid hi0
            clear HX2
            go_wp2
            go_loopw [27, 28] (fun s27 s28 wr => ∃ (i : Nat) (u : St), s28 = .int .i64 i ∧ at' + 1 ≤ i ∧ i ≤ n ∧ s27 = .int .u8 u.risk ∧ St.run u (l.drop i) = some s ∧ u.Ok d i ∧ u.seat = bi ∧ blk wr q14 #[.int .u8 x0, .int .u8 x1, .int .u8 x2, .int .u8 x3] 26 ∧ Below w1.heap.size w1 wr) (fun _ s28 _ => n - (intOf s28).toNat)
            case atStart => exact ⟨at' + 1, u0, by go_num, Nat.le_refl _, HI0.out.1, by rw [HU.out.2.2.2]; rfl, HU.out.1, HU.out.2.1, HU.out.2.2.1, b3, cb3⟩
            case round =>
              clear b3 cb3
              obtain ⟨i, u, rfl, hai, hin, rfl, hrun, ok, hseat, b3, cb3⟩ := hrel
              have hs3 := cb3.size
              by_cases hlt : i < n
              · have hlt2 : (i : Int) < n := by omega
                obtain ⟨a, ha⟩ : ∃ a, l[i]? = some a := ⟨_, List.getElem?_eq_getElem (by omega)⟩
                have k1 : wr.cell? ⟨g, i, none⟩ = some (.int .u8 a) := (cb3.cell (p := ⟨g, i, none⟩) hg).trans (HCE.out i a ha)
                have f1 : IntKind.i64.wrap ((i : Int) + 1) = (i : Int) + 1 := IntWalk.i64_in _ (by omega)
                rw [drop_at ha] at hrun
                obtain ⟨hra, hrun⟩ := run_head hrun
                have hnb : isb a = false := by
                  have := HNB.out i (by omega) (by omega)
                  rwa [List.getD_eq_getElem?_getD, ha] at this
                have ok' := ok.next hra
                by_cases h0 : a = 0
                · subst h0
                  go_wp2
                  go_roundw
                  case rel => exact ⟨i + 1, u.take 0, by go_num, by omega, by omega, rfl, hrun, ok', hseat, b3, cb3⟩
                  case measure => simp [intOf]; omega
                · have h0' : ¬ (a : Int) = 0 := by omega
                  obtain ⟨e1, e2, e3, e4⟩ := St.step_nob ok hra hnb h0
                  have hsu : (u.take a).seat = bi := by rw [(St.take_nob hnb).2]; exact hseat
                  rw [hseat, ok.turn] at e2
                  have hr2 := ok'.risk
                  rw [e3] at hr2
                  obtain ⟨R, hR⟩ : ∃ R, u.risk = R := ⟨_, rfl⟩
                  rw [hR] at e1 e2 ⊢
                  have g1 : IntKind.i64.wrap (d : Int) = d := IntWalk.i64_in _ (by omega)
                  have g2 : IntKind.i64.wrap ((d : Int) + i) = (d : Int) + i := IntWalk.i64_in _ (by omega)
                  obtain ⟨y2, hy⟩ : ∃ y2, (d + i) % 2 = y2 := ⟨_, rfl⟩
                  have p3 : ((d : Int) + i).tmod 2 = y2 := by rw [Int.tmod_eq_emod_of_nonneg (by omega)]; omega
                  have p4 : IntKind.i64.wrap (y2 : Int) = y2 := IntWalk.i64_in _ (by omega)
                  have HW := Lib.hid (show at' + 1 ≤ i + 1 ∧ i + 1 ≤ n by omega)
                  have HRN := Lib.hid hrun
                  have HOK := Lib.hid ok'
                  have HSU := Lib.hid hsu
                  have hR01 : R = 0 ∨ R = 1 := by omega
                  unfold sd at e2
                  rcases hR01 with rfl | rfl
                  · have hyz : ¬ (y2 : Int) = y := by
                      have : ¬ ((d + i) % 4 % 2 = bi % 2) := by simpa using e2
                      omega
                    obtain rfl : a = 1 := by omega
                    have k1 : wr.cell? ⟨g, i, none⟩ = some (.int .u8 1) := k1
                    have HREL : Hid (Value.int .u8 1 = .int .u8 ((u.take 1).risk : Nat)) := Lib.hid (by rw [e3]; rfl)
                    clear e1 e2 e3 e4 hr2 ok ok' hrun hsu hy ha hra hnb hR h0 h0'
                    go_wp2
                    go_roundw
                    case rel => exact ⟨i + 1, u.take 1, by go_num, HW.out.1, HW.out.2, HREL.out, HRN.out, HOK.out, HSU.out, b3, cb3⟩
                    case measure => simp [intOf]; omega
                  · have hyz : (y2 : Int) = y := by
                      have : ((d + i) % 4 % 2 = bi % 2) := by simpa using e2
                      omega
                    obtain rfl : a = 2 := by omega
                    have k1 : wr.cell? ⟨g, i, none⟩ = some (.int .u8 2) := k1
                    have HREL : Hid (Value.int .u8 2 = .int .u8 ((u.take 2).risk : Nat)) := Lib.hid (by rw [e3]; rfl)
                    clear e1 e2 e3 e4 hr2 ok ok' hrun hsu hy ha hra hnb hR h0 h0'
                    go_wp2
                    go_roundw
                    case rel => exact ⟨i + 1, u.take 2, by go_num, HW.out.1, HW.out.2, HREL.out, HRN.out, HOK.out, HSU.out, b3, cb3⟩
                    case measure => simp [intOf]; omega
              · obtain rfl : n = i := by omega
                rw [List.drop_of_length_le (by omega)] at hrun
                cases hrun
                have hx2' := HX.out.2.2
                rw [hx2']
                have q0 : wr.cell? ⟨q14, 0, none⟩ = some (.int .u8 x0) := blk_cell b3 0
                have q1 : wr.cell? ⟨q14, 1, none⟩ = some (.int .u8 x1) := blk_cell b3 1
                have q2 : wr.cell? ⟨q14, 2, none⟩ = some (.int .u8 x2) := blk_cell b3 2
                have q3 : wr.cell? ⟨q14, 3, none⟩ = some (.int .u8 x3) := blk_cell b3 3
                haveI := inW_mk (blk_lt b3)
                have LE := Lib.hid (fun W => leader_calls x0 x1 x2 x3 W (by have := HX.out.1.2.2.2; omega))
                rw [if_neg (by have := HX.out.1.1; omega), if_pos (by have := HX.out; omega)] at LE
                unfold ctV at LE
                simp only at LE
                have HX4 := HX.out.1.2.2.2
                obtain ⟨t4, ht4⟩ : ∃ t, (x3 + 1) % 4 = t := ⟨_, rfl⟩
                have g1 : IntKind.u8.wrap ((x3 : Int) + 1) = (x3 : Int) + 1 := u8_wrap (by omega) (by omega)
                have g2 : ((x3 : Int) + 1).tmod 4 = t4 := by rw [Int.tmod_eq_emod_of_nonneg (by omega)]; omega
                have g3 : IntKind.u8.wrap (t4 : Int) = t4 := u8_wrap (by omega) (by omega)
                rw [ht4] at LE
                clear ht4 hx2'
                go_wp2_with (go_at_call 22; refine (LE.out _).mono ?_; rintro e w9 ⟨rfl, hbel⟩; obtain ⟨o9, j9, rfl⟩ := grow_of_below hbel; clear hbel)
                refine bodyPost_ret (by simp [results, Tryd.results5, go_sem]) rfl ⟨rfl, ?_⟩
                have hbw := HBW.out.trans (cb3.mono hs1)
                have hs2 := hbw.size
                repeat (first | (with_reducible exact hbw) | ((with_reducible refine below_grow ?_ ?_); rotate_left; focus (first | omega | (simp [go_sem]; done) | (simp [go_sem]; omega))) | ((with_reducible refine Below.alloc ?_ ?_ _); rotate_left; focus (first | omega | (simp [go_sem]; done) | (simp [go_sem]; omega))) | ((with_reducible refine Below.setCell ?_ ?_ _); rotate_left; focus (first | omega | (simp [go_sem]; done) | (simp [go_sem]; omega))) | (with_reducible refine Below.drew ?_) | (with_reducible refine below_drewN _ ?_))
theorem ends_walk (a0 : Int) (v : Value) (xs : List Nat) (b0 : 0 ≤ a0 ∧ a0 ≤ 255) (h8 : ∀ x ∈ xs, x < 256) (w : World) (hS : SlB w v xs) (he : Env w) :
    Calls Tryd.prog 5 #[.int .u8 a0, v] w fun e w' => e = .returned (.bool true) ∧ Below w.heap.size w w' := by
  obtain ⟨n, rfl⟩ := Int.eq_ofNat_of_zero_le b0.1
  exact ends_calls n (by omega) v xs h8 w hS he
end Go.Proofs.YtacgikhedhiaaaaDoor
