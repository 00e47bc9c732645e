/- Auctions: Table. -/
import Derived.Test.YtacgikhedhiaaaaDoorLJ
import Derived.Test.YtacgikhedhiaaaaDoorKG
namespace Go.Proofs.YtacgikhedhiaaaaDoor
open Go.RowKit

theorem rep_calls (d : Nat) (hd : d < 4) (w : World) (b : Nat) (hb : w.cell? ⟨b, 0, none⟩ = some (strv [45])) (hlt : b < w.heap.size) :
    Calls Tryd.prog 52 #[.slice (some ⟨b, 0, none⟩) 1 1, .int .i64 d] w fun e w' => (∃ v, e = .returned v ∧ w'.ownsRow w.heap.size 9 1 v d ((List.replicate d [45]).map strv)) ∧ Below w.heap.size w w' := by
  have : d = 0 ∨ d = 1 ∨ d = 2 ∨ d = 3 := by omega
  rcases this with rfl | rfl | rfl | rfl
  · exact rep0 w b hb hlt
  · exact rep1 w b hb hlt
  · exact rep2 w b hb hlt
  · exact rep3 w b hb hlt
theorem table_no (d : Nat) (v : Value) (xs : List Nat) (h : Wg d xs) (b : Bts d xs) (w : World) (hS : SlB w v xs) :
    Calls Tryd.prog 25 #[.int .u8 d, v] w fun e w' => e = .returned (.tuple #[.slice none 0 0, .int .i64 2]) ∧ Below w.heap.size w w' := by
  have F := Lib.hid (fun W (hb : Below w.heap.size w W) => aright_no d v xs h b W (slb_below hS hb))
  clear h hS b
  go_enter Tryd.func25, Tryd.ntmps25
  go_wp2_with (go_at_call 45; refine (F.out _ (by repeat (first | (with_reducible exact Below.refl _ _) | ((with_reducible refine below_grow ?_ ?_); rotate_left; focus (first | omega | (simp [go_sem]; done) | (simp [go_sem]; omega))) | ((with_reducible refine Below.alloc ?_ ?_ _); rotate_left; focus (first | omega | (simp [go_sem]; done) | (simp [go_sem]; omega))) | ((with_reducible refine Below.setCell ?_ ?_ _); rotate_left; focus (first | omega | (simp [go_sem]; done) | (simp [go_sem]; omega))) | (with_reducible refine Below.drew ?_) | (with_reducible refine below_drewN _ ?_)))).mono ?_; rintro e w9 ⟨rfl, hbel⟩; obtain ⟨o1, j1, rfl⟩ := grow_of_below hbel; clear hbel)
  refine bodyPost_ret (by simp [results, Tryd.results25, go_sem]) rfl ⟨rfl, ?_⟩
  repeat (first | (with_reducible exact Below.refl _ _) | ((with_reducible refine below_grow ?_ ?_); rotate_left; focus (first | omega | (simp [go_sem]; done) | (simp [go_sem]; omega))) | ((with_reducible refine Below.alloc ?_ ?_ _); rotate_left; focus (first | omega | (simp [go_sem]; done) | (simp [go_sem]; omega))) | ((with_reducible refine Below.setCell ?_ ?_ _); rotate_left; focus (first | omega | (simp [go_sem]; done) | (simp [go_sem]; omega))) | (with_reducible refine Below.drew ?_) | (with_reducible refine below_drewN _ ?_))
theorem text_nm (c : Nat) (hc : c < 38) (w : World) (he : Env w) : Calls Tryd.prog 53 #[.int .u8 c] w fun e w' => e = .returned (.tuple #[strv (nm c), .int .i64 0]) ∧ w = w' := by
  have h := text_calls c (by omega) w he
  unfold txt txE at h
  rwa [if_pos hc, if_pos hc] at h
set_option maxRecDepth 100000 in
set_option maxHeartbeats 8000000 in
theorem table_yes (d : Nat) (v : Value) (xs : List Nat) (s : St) (h : Rt d xs s) (w : World) (hS : SlB w v xs) (he : Env w) :
    Calls Tryd.prog 25 #[.int .u8 d, v] w fun e w' => (∃ v', e = .returned (.tuple #[v', .int .i64 0]) ∧ w'.ownsRow w.heap.size 9 1 v' (tbl (wrd d xs s)).length ((tbl (wrd d xs s)).map strv)) ∧ Below w.heap.size w w' := by
  obtain ⟨i0, hi, hz0, hz1, hz2⟩ := info_parts Tryd.infoStr
  have F := Lib.hid (fun W (hb : Below w.heap.size w W) => aright_yes d v xs s h W (slb_below hS hb))
  have O := Lib.hid (over_calls s)
  have RP := Lib.hid (rep_calls d h.hd)
  have HE := Lib.hid (fun W (hb : Below w.heap.size w W) => he.below hb)
  have HL := Lib.hid (St.run_lt h.hr)
  have HW := Lib.hid (word_ok (d := d) (s := s) (St.run_lt h.hr))
  have hd4 := h.hd
  have hxl := h.len
  have e0 : IntKind.i64.wrap (d : Int) = d := IntWalk.i64_in _ (by omega)
  obtain ⟨p, c, rfl, hc, hx⟩ := hS
  obtain ⟨n, hxn⟩ : ∃ n, xs.length = n := ⟨_, rfl⟩
  rw [hxn] at hc F hxl ⊢
  have HX := Lib.hid hx
  clear h hx he
  go_enter Tryd.func25, Tryd.ntmps25
  go_upto_region 1 with fail
  go_upto_region 2 with (go_at_call 45; refine (F.out _ (by repeat (first | (with_reducible exact Below.refl _ _) | ((with_reducible refine below_grow ?_ ?_); rotate_left; focus (first | omega | (simp [go_sem]; done) | (simp [go_sem]; omega))) | ((with_reducible refine Below.alloc ?_ ?_ _); rotate_left; focus (first | omega | (simp [go_sem]; done) | (simp [go_sem]; omega))) | ((with_reducible refine Below.setCell ?_ ?_ _); rotate_left; focus (first | omega | (simp [go_sem]; done) | (simp [go_sem]; omega))) | (with_reducible refine Below.drew ?_) | (with_reducible refine below_drewN _ ?_)))).mono ?_; rintro e w9 ⟨rfl, hbel⟩; obtain ⟨o1, j1, rfl⟩ := grow_of_below hbel; clear hbel)
  go_upto_region 4 with fail
  have bS : blk ((grow w o1 j1).alloc (.cells (stC s) 79)) (grow w o1 j1).heap.size (stC s) 79 := blk_new _ _ _
  have cb : Below w.heap.size w ((grow w o1 j1).alloc (.cells (stC s) 79)) := by repeat (first | (with_reducible exact Below.refl _ _) | ((with_reducible refine below_grow ?_ ?_); rotate_left; focus (first | omega | (simp [go_sem]; done) | (simp [go_sem]; omega))) | ((with_reducible refine Below.alloc ?_ ?_ _); rotate_left; focus (first | omega | (simp [go_sem]; done) | (simp [go_sem]; omega))) | ((with_reducible refine Below.setCell ?_ ?_ _); rotate_left; focus (first | omega | (simp [go_sem]; done) | (simp [go_sem]; omega))) | (with_reducible refine Below.drew ?_) | (with_reducible refine below_drewN _ ?_))
  have hq : (grow w o1 j1).heap.size = w.heap.size + sz o1 := grow_size _ _ _
  have hsW : ((grow w o1 j1).alloc (.cells (stC s) 79)).heap.size = w.heap.size + sz o1 + 1 := by simp [hq]
  rw [hq] at bS
  generalize (grow w o1 j1).alloc (.cells (stC s) 79) = W0 at *
  obtain ⟨q, hq2⟩ : ∃ q, w.heap.size + sz o1 = q := ⟨_, rfl⟩
  have hwq : w.heap.size ≤ q := by omega
  rw [hq2] at bS hsW ⊢
  clear hq hq2 F
  go_upto_region 5 with (go_at_call 52; refine (RP.out _ (q + 1) (by rw [World.cell?_alloc_at _ _ _ 0 hsW.symm]; rfl) (by simp [hsW])).mono ?_; rintro e w1 ⟨⟨v8, rfl, hrow⟩, hb1⟩)
  have hb1' : Below (q + 1) W0 w1 := by rw [← hsW]; exact ((Below.refl _ _).alloc (Nat.le_refl _) _).trans (hb1.mono (by simp))
  have hrow : w1.ownsRow (q + 1) 9 1 v8 d ((List.replicate d [45]).map strv) := by
    have : W0.heap.size + 1 = (q + 1) + 1 := by omega
    exact own_base (B := q + 1) (C := 1) (by simpa [this] using hrow)
  have bS1 : blk w1 q (stC s) 79 := blk_below bS hb1' (by omega)
  have cb1 : Below w.heap.size w w1 := cb.trans (hb1'.mono (by omega))
  clear hb1' hb1 bS cb hsW RP
  go_wp2
  go_loopw [8, 10, 11, 12, 31] (fun s8 _ _ _ s31 wr => ∃ i : Nat, s31 = .int .i64 i ∧ i ≤ n ∧ wr.ownsRow (q + 1) 9 1 s8 (d + i) ((List.replicate d [45] ++ (xs.take i).map nm).map strv) ∧ blk wr q (stC s) 79 ∧ Below w.heap.size w wr) (fun _ _ _ _ s31 _ => n - (intOf s31).toNat)
  case atStart => exact ⟨0, rfl, Nat.zero_le _, by simpa using hrow, bS1, cb1⟩
  case round =>
    obtain ⟨i, rfl, hin, hrow, bS, cb⟩ := hrel
    have hql := blk_lt bS
    by_cases hlt : i < n
    · have hlt2 : (i : Int) < n := by omega
      have hne : xs ≠ [] := by rintro rfl; simp at hxn; omega
      obtain ⟨b1, o1, rfl, hb1, hx⟩ := HX.out hne
      obtain ⟨a, ha⟩ : ∃ a, xs[i]? = some a := ⟨_, List.getElem?_eq_getElem (by omega)⟩
      have a38 := HL.out a (List.mem_of_getElem? ha)
      have k1 : wr.cell? ⟨b1, o1 + i, none⟩ = some (.int .u8 a) := (cb.cell (p := ⟨b1, o1 + i, none⟩) hb1).trans (hx i a ha)
      have f1 : IntKind.i64.wrap ((i : Int) + 1) = (i : Int) + 1 := IntWalk.i64_in _ (by omega)
      have T := Lib.hid (text_nm a a38 wr (HE.out wr cb))
      have HA := Lib.hid ha
      have HR := Lib.hid hrow
      have BS := Lib.hid bS
      have CB := Lib.hid cb
      have hbs := cb.size
      clear ha hx hne hrow bS cb a38
      go_wp2_with (first | (go_at_call 53; refine T.out.mono ?_; rintro e w9 ⟨rfl, rfl⟩) | (at_builtin; refine wpList_append_own _ rfl _ _ 51 rfl (q + 1) 9 i0 (.string ⟨#[]⟩) 1 16 Tryd.underlying51 hi hz0 hz1 hz2 rfl (by decide) _ _ _ rfl (HR.out.alloc _) ⟨_, 0, none⟩ 1 1 [strv (nm a)] rfl rfl (news1 _ _ _ _ rfl rfl) (fun u hu => by simp only [List.mem_singleton] at hu; subst hu; rfl) (by unfold maxLen; omega) (by omega) (by simp; omega) ?_; intro v' w2 hown' hgrow _))
      go_roundw
      case rel =>
        refine ⟨i + 1, by go_num, by omega, ?_, blk_grown (by repeat (first | (with_reducible exact BS.out) | (with_reducible exact set4 BS.out _ _ _ _) | (with_reducible refine blk_grow ?_ _ _) | (with_reducible refine blk_alloc ?_ _) | (with_reducible refine blk_drew ?_) | (with_reducible refine blk_other ?_ (by (first | omega | (simp [go_sem]; done) | (simp [go_sem]; omega))) _))) hgrow (not_row HR.out (by omega)), Below.grown (by repeat (first | (with_reducible exact CB.out) | ((with_reducible refine below_grow ?_ ?_); rotate_left; focus (first | omega | (simp [go_sem]; done) | (simp [go_sem]; omega))) | ((with_reducible refine Below.alloc ?_ ?_ _); rotate_left; focus (first | omega | (simp [go_sem]; done) | (simp [go_sem]; omega))) | ((with_reducible refine Below.setCell ?_ ?_ _); rotate_left; focus (first | omega | (simp [go_sem]; done) | (simp [go_sem]; omega))) | (with_reducible refine Below.drew ?_) | (with_reducible refine below_drewN _ ?_))) hgrow (by simp; omega) (fun k e => by have := own_block_ge HR.out e; omega)⟩
        have e : (List.replicate d [45] ++ (xs.take i ++ (some a).toList).map nm).map strv = (List.replicate d [45] ++ (xs.take i).map nm).map strv ++ [strv (nm a)] := by simp
        rw [List.take_add_one, HA.out, e]
        exact hown'
      case measure => simp [intOf]; omega
    · obtain rfl : i = n := by omega
      rw [List.take_of_length_le (by omega)] at hrow
      obtain ⟨m0, m1, m2, m3, m4⟩ := st_cells bS
      have HR := Lib.hid hrow
      have CB := Lib.hid cb
      have hbs := cb.size
      have hlenle : (wrd d xs s).length ≤ 323 := by
        unfold wrd
        rw [List.length_append, List.length_append, List.length_replicate, List.length_map]
        split <;> simp <;> omega
      clear hrow bS cb
      cases ho : s.over with
      | true =>
        rw [ho] at O
        have hw3 : (wrd d xs s).map strv = (List.replicate d [45] ++ xs.map nm).map strv := by simp [wrd, ho]
        have hlen3 : (wrd d xs s).length = d + xs.length := by simp [wrd, ho]
        go_upto_region 14 with (go_at_call 46; refine (O.out _).mono ?_; rintro e w9 ⟨rfl, hbel⟩; obtain ⟨o2, j2, rfl⟩ := grow_of_below hbel; clear hbel)
        have hrow3 : (grow wr o2 j2).ownsRow (q + 1) 9 1 u8 (d + xs.length) ((wrd d xs s).map strv) := by rw [hw3, hxn]; exact own_grow HR.out _ _
        have cb3 : Below w.heap.size w (grow wr o2 j2) := by repeat (first | (with_reducible exact CB.out) | ((with_reducible refine below_grow ?_ ?_); rotate_left; focus (first | omega | (simp [go_sem]; done) | (simp [go_sem]; omega))) | ((with_reducible refine Below.alloc ?_ ?_ _); rotate_left; focus (first | omega | (simp [go_sem]; done) | (simp [go_sem]; omega))) | ((with_reducible refine Below.setCell ?_ ?_ _); rotate_left; focus (first | omega | (simp [go_sem]; done) | (simp [go_sem]; omega))) | (with_reducible refine Below.drew ?_) | (with_reducible refine below_drewN _ ?_))
        generalize grow wr o2 j2 = w3 at *
        clear hw3 HR CB
        generalize d + xs.length = m at *
        generalize u8 = v3 at *
        have hs3 := cb3.size
        have RW := Lib.hid (fun (W : World) (hb : Below w3.heap.size w3 W) => rows_calls v3 (wrd d xs s) (by rw [hlen3]; omega) W (slt_below (slt_own hrow3).1 hb))
        obtain ⟨R, hR⟩ : ∃ R, (m + 3) / 4 = R := ⟨_, rfl⟩
        rw [hlen3, hR] at RW
        obtain ⟨ws, hws⟩ : ∃ ws, wrd d xs s = ws := ⟨_, rfl⟩
        rw [hws] at HW RW
        have HWS := Lib.hid hws
        have hwl : ws.length = m := by rw [← hws]; exact hlen3
        have hm3 : m ≤ 400 := by rw [← hlen3]; have := hlenle; omega
        clear hrow3 hws hlen3 hlenle
        go_upto_region 15 with (go_at_call 54; refine (RW.out _ (by repeat (first | (with_reducible exact Below.refl _ _) | ((with_reducible refine below_grow ?_ ?_); rotate_left; focus (first | omega | (simp [go_sem]; done) | (simp [go_sem]; omega))) | ((with_reducible refine Below.alloc ?_ ?_ _); rotate_left; focus (first | omega | (simp [go_sem]; done) | (simp [go_sem]; omega))) | ((with_reducible refine Below.setCell ?_ ?_ _); rotate_left; focus (first | omega | (simp [go_sem]; done) | (simp [go_sem]; omega))) | (with_reducible refine Below.drew ?_) | (with_reducible refine below_drewN _ ?_)))).mono ?_; rintro e w4 ⟨⟨q2, rfl, hq2, hcell⟩, hb4⟩)
        have hb4' : Below w.heap.size w w4 := cb3.trans (hb4.mono (by omega))
        have hTL : (tbl ws).length = R := by rw [tbl_len, hwl, hR]
        have HTL := Lib.hid hTL
        have HC := Lib.hid hcell
        have HT := Lib.hid (show tbl ws = (List.range R).map (ln ws) by unfold tbl; rw [hwl, hR])
        have hR1 : R ≤ 200 := by omega
        have hs4 := hb4'.size
        clear hcell hb4 RW hR hTL
        go_wp2
        go_loopw [13, 15, 54] (fun s13 _ s54 wr => ∃ k : Nat, s54 = .int .i64 k ∧ k ≤ R ∧ wr.ownsRow w4.heap.size 9 1 s13 k (((List.range k).map (ln ws)).map strv) ∧ Below w4.heap.size w4 wr) (fun _ _ s54 _ => R - (intOf s54).toNat)
        case atStart => exact ⟨0, rfl, Nat.zero_le _, World.ownsRow_nil _ _ _ _, Below.refl _ _⟩
        case round =>
          obtain ⟨k, rfl, hkR, hrow, cb⟩ := hrel
          by_cases hlt : k < R
          · have hlt2 : (k : Int) < R := by omega
            have f1 : IntKind.i64.wrap ((k : Int) + 1) = (k : Int) + 1 := IntWalk.i64_in _ (by omega)
            have kc : ∀ j, j < 4 → wr.cell? ⟨q2, k * 4 + j, none⟩ = some (strv (ws.getD (4 * k + j) [])) := fun j hj => (cb.cell (p := ⟨q2, k * 4 + j, none⟩) hq2).trans (by rw [HC.out _ (by omega), Nat.mul_comm])
            have k0 := kc 0 (by decide)
            have k1 := kc 1 (by decide)
            have k2 := kc 2 (by decide)
            have k3 := kc 3 (by decide)
            rw [Nat.add_zero] at k0
            have TX := Lib.hid (text_row (fun j => ws.getD (4 * k + j) []) (fun j => (getD_ok HW.out (4 * k + j)).2))
            have hln : pad (ws.getD (4 * k + 0) []) ++ (pad (ws.getD (4 * k + 1) []) ++ (pad (ws.getD (4 * k + 2) []) ++ pad (ws.getD (4 * k + 3) []))) = ln ws k := rfl
            rw [hln] at TX
            simp only [Nat.add_zero] at TX k0
            have hll : (ln ws k).length = 20 := ln_len HW.out k
            obtain ⟨L, hL⟩ : ∃ L, ln ws k = L := ⟨_, rfl⟩
            rw [hL] at TX
            have HLn := Lib.hid hL
            have HR := Lib.hid hrow
            have CB := Lib.hid cb
            have hbs := cb.size
            clear kc hln hL hrow cb hll
            generalize ws.getD (4 * k) [] = z0 at *
            generalize ws.getD (4 * k + 1) [] = z1 at *
            generalize ws.getD (4 * k + 2) [] = z2 at *
            generalize ws.getD (4 * k + 3) [] = z3 at *
            go_wp2_with (first | (go_at_call 55; refine (TX.out _).mono ?_; rintro e w9 ⟨rfl, hbel⟩; obtain ⟨o5, j5, rfl⟩ := grow_of_below hbel; clear hbel) | (at_builtin; refine wpList_append_own _ rfl _ _ 51 rfl w4.heap.size 9 i0 (.string ⟨#[]⟩) 1 16 Tryd.underlying51 hi hz0 hz1 hz2 rfl (by decide) _ _ _ rfl ((own_grow (HR.out.alloc _) _ _).alloc _) ⟨wr.heap.size + 1 + sz o5, 0, none⟩ 1 1 [strv L] rfl rfl (news1 _ _ _ _ (by simp [go_sem]) rfl) (fun u hu => by simp only [List.mem_singleton] at hu; subst hu; rfl) (by unfold maxLen; omega) (by omega) (by simp [go_sem]; omega) ?_; intro v' w5 hown' hgrow _))
            go_roundw
            case rel =>
              refine ⟨k + 1, by go_num, by omega, ?_, Below.grown (by repeat (first | (with_reducible exact CB.out) | ((with_reducible refine below_grow ?_ ?_); rotate_left; focus (first | omega | (simp [go_sem]; done) | (simp [go_sem]; omega))) | ((with_reducible refine Below.alloc ?_ ?_ _); rotate_left; focus (first | omega | (simp [go_sem]; done) | (simp [go_sem]; omega))) | ((with_reducible refine Below.setCell ?_ ?_ _); rotate_left; focus (first | omega | (simp [go_sem]; done) | (simp [go_sem]; omega))) | (with_reducible refine Below.drew ?_) | (with_reducible refine below_drewN _ ?_))) hgrow (by simp [go_sem]; omega) (fun k e => by have := own_block_ge HR.out e; omega)⟩
              have e : ((List.range (k + 1)).map (ln ws)).map strv = ((List.range k).map (ln ws)).map strv ++ [strv L] := by rw [List.range_succ, ← HLn.out]; simp
              rw [e]
              exact hown'
            case measure => simp [intOf]; omega
          · obtain rfl : k = R := by omega
            go_wp2
            refine bodyPost_ret (by simp [results, Tryd.results25, go_sem]; rfl) rfl ⟨⟨_, rfl, ?_⟩, hb4'.trans (cb.mono (by omega))⟩
            rw [HWS.out, HTL.out, HT.out]
            exact own_base (B := w.heap.size) (C := w4.heap.size - w.heap.size) (by rw [show w.heap.size + (w4.heap.size - w.heap.size) = w4.heap.size by omega]; exact hrow)
      | false =>
        rw [ho] at O
        have hw3 : (wrd d xs s).map strv = (List.replicate d [45] ++ xs.map nm).map strv ++ [strv [63]] := by simp [wrd, ho]
        have hlen3 : (wrd d xs s).length = d + xs.length + 1 := by simp [wrd, ho]; omega
        go_upto_region 14 with (first | (go_at_call 46; refine (O.out _).mono ?_; rintro e w9 ⟨rfl, hbel⟩; obtain ⟨o2, j2, rfl⟩ := grow_of_below hbel; clear hbel) | (at_builtin; refine wpList_append_own _ rfl _ _ 51 rfl (q + 1) 9 i0 (.string ⟨#[]⟩) 1 16 Tryd.underlying51 hi hz0 hz1 hz2 rfl (by decide) _ _ _ rfl ((own_grow HR.out _ _).alloc _) ⟨wr.heap.size + sz o2, 0, none⟩ 1 1 [strv [63]] rfl rfl (news1 _ _ _ _ (by simp [go_sem]) rfl) (fun u hu => by simp only [List.mem_singleton] at hu; subst hu; rfl) (by unfold maxLen; omega) (by omega) (by simp [go_sem]; omega) ?_; intro v3 w3 hown' hgrow _))
        have hrow3 : w3.ownsRow (q + 1) 9 1 v3 (d + xs.length + 1) ((wrd d xs s).map strv) := by rw [hw3, hxn]; exact hown'
        have cb3 : Below w.heap.size w w3 := Below.grown (by repeat (first | (with_reducible exact CB.out) | ((with_reducible refine below_grow ?_ ?_); rotate_left; focus (first | omega | (simp [go_sem]; done) | (simp [go_sem]; omega))) | ((with_reducible refine Below.alloc ?_ ?_ _); rotate_left; focus (first | omega | (simp [go_sem]; done) | (simp [go_sem]; omega))) | ((with_reducible refine Below.setCell ?_ ?_ _); rotate_left; focus (first | omega | (simp [go_sem]; done) | (simp [go_sem]; omega))) | (with_reducible refine Below.drew ?_) | (with_reducible refine below_drewN _ ?_))) hgrow (by simp [go_sem]; omega) (fun k e => by have := own_block_ge HR.out e; omega)
        clear hw3 HR CB hown' hgrow
        generalize d + xs.length + 1 = m at *
        have hs3 := cb3.size
        have RW := Lib.hid (fun (W : World) (hb : Below w3.heap.size w3 W) => rows_calls v3 (wrd d xs s) (by rw [hlen3]; omega) W (slt_below (slt_own hrow3).1 hb))
        obtain ⟨R, hR⟩ : ∃ R, (m + 3) / 4 = R := ⟨_, rfl⟩
        rw [hlen3, hR] at RW
        obtain ⟨ws, hws⟩ : ∃ ws, wrd d xs s = ws := ⟨_, rfl⟩
        rw [hws] at HW RW
        have HWS := Lib.hid hws
        have hwl : ws.length = m := by rw [← hws]; exact hlen3
        have hm3 : m ≤ 400 := by rw [← hlen3]; have := hlenle; omega
        clear hrow3 hws hlen3 hlenle
        go_upto_region 15 with (go_at_call 54; refine (RW.out _ (by repeat (first | (with_reducible exact Below.refl _ _) | ((with_reducible refine below_grow ?_ ?_); rotate_left; focus (first | omega | (simp [go_sem]; done) | (simp [go_sem]; omega))) | ((with_reducible refine Below.alloc ?_ ?_ _); rotate_left; focus (first | omega | (simp [go_sem]; done) | (simp [go_sem]; omega))) | ((with_reducible refine Below.setCell ?_ ?_ _); rotate_left; focus (first | omega | (simp [go_sem]; done) | (simp [go_sem]; omega))) | (with_reducible refine Below.drew ?_) | (with_reducible refine below_drewN _ ?_)))).mono ?_; rintro e w4 ⟨⟨q2, rfl, hq2, hcell⟩, hb4⟩)
        have hb4' : Below w.heap.size w w4 := cb3.trans (hb4.mono (by omega))
        have hTL : (tbl ws).length = R := by rw [tbl_len, hwl, hR]
        have HTL := Lib.hid hTL
        have HC := Lib.hid hcell
        have HT := Lib.hid (show tbl ws = (List.range R).map (ln ws) by unfold tbl; rw [hwl, hR])
        have hR1 : R ≤ 200 := by omega
        have hs4 := hb4'.size
        clear hcell hb4 RW hR hTL
        go_wp2
        go_loopw [13, 15, 54] (fun s13 _ s54 wr => ∃ k : Nat, s54 = .int .i64 k ∧ k ≤ R ∧ wr.ownsRow w4.heap.size 9 1 s13 k (((List.range k).map (ln ws)).map strv) ∧ Below w4.heap.size w4 wr) (fun _ _ s54 _ => R - (intOf s54).toNat)
        case atStart => exact ⟨0, rfl, Nat.zero_le _, World.ownsRow_nil _ _ _ _, Below.refl _ _⟩
        case round =>
          obtain ⟨k, rfl, hkR, hrow, cb⟩ := hrel
          by_cases hlt : k < R
          · have hlt2 : (k : Int) < R := by omega
            have f1 : IntKind.i64.wrap ((k : Int) + 1) = (k : Int) + 1 := IntWalk.i64_in _ (by omega)
            have kc : ∀ j, j < 4 → wr.cell? ⟨q2, k * 4 + j, none⟩ = some (strv (ws.getD (4 * k + j) [])) := fun j hj => (cb.cell (p := ⟨q2, k * 4 + j, none⟩) hq2).trans (by rw [HC.out _ (by omega), Nat.mul_comm])
            have k0 := kc 0 (by decide)
            have k1 := kc 1 (by decide)
            have k2 := kc 2 (by decide)
            have k3 := kc 3 (by decide)
            rw [Nat.add_zero] at k0
            have TX := Lib.hid (text_row (fun j => ws.getD (4 * k + j) []) (fun j => (getD_ok HW.out (4 * k + j)).2))
            have hln : pad (ws.getD (4 * k + 0) []) ++ (pad (ws.getD (4 * k + 1) []) ++ (pad (ws.getD (4 * k + 2) []) ++ pad (ws.getD (4 * k + 3) []))) = ln ws k := rfl
            rw [hln] at TX
            simp only [Nat.add_zero] at TX k0
            have hll : (ln ws k).length = 20 := ln_len HW.out k
            obtain ⟨L, hL⟩ : ∃ L, ln ws k = L := ⟨_, rfl⟩
            rw [hL] at TX
            have HLn := Lib.hid hL
            have HR := Lib.hid hrow
            have CB := Lib.hid cb
            have hbs := cb.size
            clear kc hln hL hrow cb hll
            generalize ws.getD (4 * k) [] = z0 at *
            generalize ws.getD (4 * k + 1) [] = z1 at *
            generalize ws.getD (4 * k + 2) [] = z2 at *
            generalize ws.getD (4 * k + 3) [] = z3 at *
            go_wp2_with (first | (go_at_call 55; refine (TX.out _).mono ?_; rintro e w9 ⟨rfl, hbel⟩; obtain ⟨o5, j5, rfl⟩ := grow_of_below hbel; clear hbel) | (at_builtin; refine wpList_append_own _ rfl _ _ 51 rfl w4.heap.size 9 i0 (.string ⟨#[]⟩) 1 16 Tryd.underlying51 hi hz0 hz1 hz2 rfl (by decide) _ _ _ rfl ((own_grow (HR.out.alloc _) _ _).alloc _) ⟨wr.heap.size + 1 + sz o5, 0, none⟩ 1 1 [strv L] rfl rfl (news1 _ _ _ _ (by simp [go_sem]) rfl) (fun u hu => by simp only [List.mem_singleton] at hu; subst hu; rfl) (by unfold maxLen; omega) (by omega) (by simp [go_sem]; omega) ?_; intro v' w5 hown' hgrow _))
            go_roundw
            case rel =>
              refine ⟨k + 1, by go_num, by omega, ?_, Below.grown (by repeat (first | (with_reducible exact CB.out) | ((with_reducible refine below_grow ?_ ?_); rotate_left; focus (first | omega | (simp [go_sem]; done) | (simp [go_sem]; omega))) | ((with_reducible refine Below.alloc ?_ ?_ _); rotate_left; focus (first | omega | (simp [go_sem]; done) | (simp [go_sem]; omega))) | ((with_reducible refine Below.setCell ?_ ?_ _); rotate_left; focus (first | omega | (simp [go_sem]; done) | (simp [go_sem]; omega))) | (with_reducible refine Below.drew ?_) | (with_reducible refine below_drewN _ ?_))) hgrow (by simp [go_sem]; omega) (fun k e => by have := own_block_ge HR.out e; omega)⟩
              have e : ((List.range (k + 1)).map (ln ws)).map strv = ((List.range k).map (ln ws)).map strv ++ [strv L] := by rw [List.range_succ, ← HLn.out]; simp
              rw [e]
              exact hown'
            case measure => simp [intOf]; omega
          · obtain rfl : k = R := by omega
            go_wp2
            refine bodyPost_ret (by simp [results, Tryd.results25, go_sem]; rfl) rfl ⟨⟨_, rfl, ?_⟩, hb4'.trans (cb.mono (by omega))⟩
            rw [HWS.out, HTL.out, HT.out]
            exact own_base (B := w.heap.size) (C := w4.heap.size - w.heap.size) (by rw [show w.heap.size + (w4.heap.size - w.heap.size) = w4.heap.size by omega]; exact hrow)
end Go.Proofs.YtacgikhedhiaaaaDoor
