/- sets. -/
import Derived.Test.YtcfkcfbgnciccaaDoorCZl
namespace Go.Proofs.YtcfkcfbgnciccaaDoor
open Go.RowKit

theorem sl_one (W : World) (x : Nat) : Sl (W.alloc (.cells #[.int .u8 (x : Int)] 5)) (.slice (some ⟨W.heap.size, 0, none⟩) 1 1) [x] := by
  refine .inr ⟨W.heap.size, 0, 1, rfl, by simp, fun j y hj => ?_⟩
  rw [Nat.zero_add, blk_cell (blk_new W _ _) j]
  match j, hj with
  | 0, hj => cases hj; rfl
theorem own_in {W : World} {B : Nat} {v : Value} {ys : List Nat} (h : W.ownsRow B 5 1 v (0 + ys.length + [77].length) ([] ++ ys.map u8v ++ [77].map u8v)) :
    ∃ g cap, v = .slice (some ⟨g, 0, none⟩) (ys.length + 1) cap ∧ ys.length + 1 ≤ cap ∧ g < W.heap.size ∧ Rd8 W g 0 ys ∧ Sl W v (ys ++ [77]) := by
  rw [Nat.zero_add, List.nil_append, ← List.map_append] at h
  have hs := sl_own h
  rcases h.2 with ⟨_, h0⟩ | ⟨g, cap, cur, rfl, hbg, hg, h1, h2, h3, h4⟩
  · simp at h0
  · refine ⟨g, cap, rfl, h1, lt_of_block hg, fun j x hj => ?_, hs⟩
    have hc := h.cells (g := g) rfl j (u8v x) (by rw [List.map_append, List.getElem?_append_left (by rw [List.length_map]; exact (List.getElem?_eq_some_iff.1 hj).1), List.getElem?_map, hj]; rfl)
    rw [show (⟨g, 0 + j, none⟩ : Addr) = (⟨g, 0, none⟩ : Addr).add j by unfold Addr.add; split <;> simp_all]
    exact hc
set_option maxRecDepth 100000 in
set_option maxHeartbeats 16000000 in
theorem sets_calls (m : Nat) (hm : m < 18446744073709551616) (lv : Value) (ys : List Nat) (h8 : ∀ x ∈ ys, x < 256) (hn : ys.length ≤ 1000) (s : ByteArray) (hs : s.size < 4294967281) (w : World) (he : Env w) (hl : Sl w lv ys) :
    Calls Tryd.prog 13 #[.int .u64 m, lv, .string s] w fun e w' => e = .returned (.bool true) ∧ Below w.heap.size w w' := by
  obtain ⟨i0, hi, hz0, hz1, hz2⟩ := info_parts Tryd.infoU
  have LI := Lib.hid (list_all m)
  have LR := Lib.hid (ref_list_all m)
  have hlen := lcs_len m
  have hl8 := lcs_lt m
  have HC := Lib.hid (And.intro hl8 (And.intro h8 hm))
  have WA := Lib.hid (write_all m)
  have WR := Lib.hid (ref_write_all m)
  have PA := Lib.hid (parse_all s hs)
  have PR := Lib.hid (ref_parse_all s hs)
  have MR := Lib.hid (fun v w h => ref_mask_all (v := v) h8 (by omega : ys.length ≤ 1000000) w h)
  have MC := Lib.hid (fun b off cap w h1 h2 => mask_calls b off cap ys h8 (by omega : ys.length ≤ 1000000) w h1 h2)
  have SC := Lib.hid (fun v1 v2 w h1 h2 => same_calls (v1 := v1) (v2 := v2) hl8 w h1 h2)
  have SI := Lib.hid (fun v1 v2 w h1 h2 => same_calls (v1 := v1) (v2 := v2) (xs := ys ++ [77]) (fun x hx => by rcases List.mem_append.1 hx with h | h; exact h8 x h; rw [List.mem_singleton.1 h]; decide) w h1 h2)
  obtain ⟨cs, hcs⟩ : ∃ cs, lcs m = cs := ⟨_, rfl⟩
  obtain ⟨ce, hce⟩ : ∃ ce, lce m = ce := ⟨_, rfl⟩
  obtain ⟨ws, hws⟩ : ∃ ws, wrs m = ws := ⟨_, rfl⟩
  obtain ⟨pn, hpn⟩ : ∃ pn, prsN s.data.toList = pn := ⟨_, rfl⟩
  obtain ⟨pe, hpe⟩ : ∃ pe, prsE s.data.toList = pe := ⟨_, rfl⟩
  obtain ⟨mn, hmn⟩ : ∃ mn, (mskR 0 ys).1 = mn := ⟨_, rfl⟩
  obtain ⟨me, hme⟩ : ∃ me, (mskR 0 ys).2 = me := ⟨_, rfl⟩
  rw [hcs] at hlen SC
  simp only [hcs, hce] at LI LR
  simp only [hws, hce] at WA WR
  simp only [hpn, hpe] at PA PR
  simp only [hmn, hme] at MR MC
  have HL := Lib.hid hl
  obtain ⟨A, c, rfl⟩ : ∃ A c, lv = .slice A ys.length c := by
    rcases hl with ⟨rfl, rfl | ⟨a, c, rfl⟩⟩ | ⟨b, off, c, rfl, _⟩
    · exact ⟨none, 0, rfl⟩
    · exact ⟨some a, c, rfl⟩
    · exact ⟨_, c, rfl⟩
  clear h8 hl8 hcs hce hws hpn hpe hmn hme hl hs hm
  go_enter Tryd.func13, Tryd.ntmps13
  go_upto_region 2 with (first | (at_builtin; refine wpList_append_sl (by rfl) _ _ rfl w.heap.size i0 hi hz0 hz1 hz2 _ 0 [] rfl (World.ownsRow_made w #[] 0 (Nat.le_refl _) (Nat.zero_le _) (by simp)) _ ys rfl (HL.out.below (by repeat (first | (with_reducible exact Below.refl _ _) | ((with_reducible refine below_grow ?_ ?_); rotate_left; focus (first | omega | (simp [go_sem]; done) | (simp [go_sem]; omega))) | ((with_reducible refine Below.alloc ?_ ?_ _); rotate_left; focus (first | omega | (simp [go_sem]; done) | (simp [go_sem]; omega))) | ((with_reducible refine Below.setCell ?_ ?_ _); rotate_left; focus (first | omega | (simp [go_sem]; done) | (simp [go_sem]; omega))) | (with_reducible refine Below.drew ?_) | (with_reducible refine below_drewN _ ?_)))) (by omega) (by simp) ?_; intro v1 w1 hown1 hbel1) | (at_builtin; refine wpList_append_sl (by rfl) _ _ rfl w.heap.size i0 hi hz0 hz1 hz2 v1 (0 + ys.length) _ rfl (hown1.alloc _) _ [77] rfl (sl_one w1 77) (by simp; omega) (by have := hbel1.size; simp at this ⊢; omega) ?_; intro v2 w2 hown2 hbel2))
  have hb1 : Below w.heap.size w w1 := Below.trans (by repeat (first | (with_reducible exact Below.refl _ _) | ((with_reducible refine below_grow ?_ ?_); rotate_left; focus (first | omega | (simp [go_sem]; done) | (simp [go_sem]; omega))) | ((with_reducible refine Below.alloc ?_ ?_ _); rotate_left; focus (first | omega | (simp [go_sem]; done) | (simp [go_sem]; omega))) | ((with_reducible refine Below.setCell ?_ ?_ _); rotate_left; focus (first | omega | (simp [go_sem]; done) | (simp [go_sem]; omega))) | (with_reducible refine Below.drew ?_) | (with_reducible refine below_drewN _ ?_))) hbel1
  have hb2 : Below w.heap.size w w2 := (hb1.alloc (by have := hb1.size; omega) _).trans hbel2
  obtain ⟨g, cap, rfl, hcap, hg, hrd, hsl⟩ := own_in hown2
  have HG := Lib.hid (And.intro hg (And.intro hrd hsl))
  have HB := Lib.hid hb2
  have HS := Lib.hid (HL.out.below hb2)
  have he2 := Lib.hid (he.below hb2)
  clear hown1 hown2 hbel1 hbel2 hg hrd hsl hb1 hb2 HL he
  go_upto_region 3 with (go_at_call 18; refine (LI.out _).mono ?_; rintro e w3 ⟨v3, rfl, hown3, hb3⟩)
  obtain ⟨A3, cap3, rfl, hA3⟩ := own_slice hown3
  have hb3s := hb3.size
  obtain ⟨n3, hn3⟩ : ∃ n3, cs.length = n3 := ⟨_, rfl⟩
  rw [hn3] at hown3 hlen hA3 ⊢
  go_wp2
  go_loopw [42] (fun s42 wr => ∃ (i : Nat) (zs : List Value), s42 = .int .i64 i ∧ i ≤ n3 ∧ wr.ownsRow w2.heap.size 5 1 (.slice A3 n3 cap3) n3 zs ∧ Below w2.heap.size w2 wr) (fun s42 _ => n3 - (intOf s42).toNat)
  case atStart => exact ⟨0, _, rfl, Nat.zero_le _, hown3, hb3⟩
  case round =>
    obtain ⟨i, zs, rfl, hin, hown, hb⟩ := hrel
    have hsz := hb.size
    by_cases hlt : i < n3
    · have hlt2 : (i : Int) < n3 := by omega
      have e1 : IntKind.i64.wrap ((i : Int) + 1) = (i : Int) + 1 := IntWalk.i64_in _ (by omega)
      obtain ⟨g3, rfl⟩ : ∃ g3, A3 = some ⟨g3, 0, none⟩ := by
        rcases hA3 with h | h
        · omega
        · exact h
      have hg3 : w2.heap.size ≤ g3 := own_block_ge hown rfl
      have k0 : ∃ z, wr.cell? ⟨g3, i, none⟩ = some z := by
        rw [hown.cellAt i (by omega)]
        exact ⟨_, List.getElem?_eq_getElem (by have := hown.1; omega)⟩
      obtain ⟨z, k0⟩ := k0
      have f0 := hown.frozenAt i
      have hst := (hown.stored i (.int .u8 99)).1
      have HH := Lib.hid (And.intro hin hlt)
      clear hin hlt
      go_wp2
      go_roundw
      case rel => exact ⟨i + 1, _, by go_num, by have := HH.out; omega, hst, Below.trans hb (Below.setCell (Below.refl _ _) (by simpa using hg3) _)⟩
      case measure => simp [intOf]; have := HH.out; omega
    · obtain rfl : n3 = i := by omega
      have HB3 := Lib.hid hb
      clear hlt hin hown hown3 hA3 hb3 hb3s
      go_upto_region 9 with (go_at_call 18; refine (LI.out _).mono ?_; rintro e w4 ⟨v4, rfl, hown4, hb4⟩)
      have S4 := Lib.hid (sl_own hown4)
      have hb24 := Lib.hid (HB3.out.trans (hb4.mono HB3.out.size))
      clear hown4 hb4 HB3
      go_upto_region 10 with (go_at_call 15; refine (LR.out _).mono ?_; rintro e w5 ⟨v5, rfl, hown5, hb5⟩)
      have S5 := Lib.hid (sl_own hown5)
      have S45 := Lib.hid (S4.out.below hb5)
      have hb25 := Lib.hid (hb24.out.trans (hb5.mono hb24.out.size))
      have M5 := Lib.hid (MC.out g 0 cap w5 (Nat.lt_of_lt_of_le HG.out.1 hb25.out.size) (HG.out.2.1.below hb25.out HG.out.1))
      clear hown5 hb5 S4 hb24
      go_upto_region 11 with (go_at_call 20; refine M5.out.mono ?_; rintro e w6 ⟨rfl, hb6⟩)
      have hb26 := Lib.hid (hb25.out.trans (hb6.mono hb25.out.size))
      have S46 := Lib.hid (S45.out.below hb6)
      have S56 := Lib.hid (S5.out.below hb6)
      have M6 := Lib.hid (MR.out _ w6 (HS.out.below hb26.out))
      clear hb6 M5 S45 S5 hb25
      go_upto_region 12 with (go_at_call 34; refine M6.out.mono ?_; rintro e w7 ⟨rfl, hb7⟩)
      have hb27 := Lib.hid (hb26.out.trans (hb7.mono hb26.out.size))
      have E7 := Lib.hid (SC.out v4 v5 w7 (S46.out.below hb7) (S56.out.below hb7))
      have H7 := Lib.hid (HS.out.below hb27.out)
      have G7 := Lib.hid (HG.out.2.2.below hb27.out)
      have sz7 := hb27.out.size
      clear hb7 M6 S46 S56 hb26
      go_upto_region 14 with (first | (go_at_call_of 35 v4; refine E7.out.mono ?_; rintro e w8 ⟨rfl, rfl⟩) | (refine wpList_append_sl (by rfl) _ _ rfl w7.heap.size i0 hi hz0 hz1 hz2 _ 0 [] rfl (World.ownsRow_made w7 #[] 0 (Nat.le_refl _) (Nat.zero_le _) (by simp)) _ ys rfl (H7.out.below (by repeat (first | (with_reducible exact Below.refl _ _) | ((with_reducible refine below_grow ?_ ?_); rotate_left; focus (first | omega | (simp [go_sem]; done) | (simp [go_sem]; omega))) | ((with_reducible refine Below.alloc ?_ ?_ _); rotate_left; focus (first | omega | (simp [go_sem]; done) | (simp [go_sem]; omega))) | ((with_reducible refine Below.setCell ?_ ?_ _); rotate_left; focus (first | omega | (simp [go_sem]; done) | (simp [go_sem]; omega))) | (with_reducible refine Below.drew ?_) | (with_reducible refine below_drewN _ ?_)))) (by omega) (by simp) ?_; intro v8 w8 hown8 hbel8) | (refine wpList_append_sl (by rfl) _ _ rfl w7.heap.size i0 hi hz0 hz1 hz2 v8 (0 + ys.length) _ rfl (hown8.alloc _) _ [77] rfl (sl_one w8 77) (by simp; omega) (by have := hbel8.size; simp at this ⊢; omega) ?_; intro v9 w9 hown9 hbel9))
      have hb79 : Below w7.heap.size w7 w9 := ((Below.trans (by repeat (first | (with_reducible exact Below.refl _ _) | ((with_reducible refine below_grow ?_ ?_); rotate_left; focus (first | omega | (simp [go_sem]; done) | (simp [go_sem]; omega))) | ((with_reducible refine Below.alloc ?_ ?_ _); rotate_left; focus (first | omega | (simp [go_sem]; done) | (simp [go_sem]; omega))) | ((with_reducible refine Below.setCell ?_ ?_ _); rotate_left; focus (first | omega | (simp [go_sem]; done) | (simp [go_sem]; omega))) | (with_reducible refine Below.drew ?_) | (with_reducible refine below_drewN _ ?_))) hbel8).alloc (by have := hbel8.size; simp at this; omega) _).trans hbel9
      refine (SI.out _ _ w9 (G7.out.below hb79) (sl_own (xs := ys ++ [77]) (by simpa using hown9))).mono ?_
      rintro e w10 ⟨rfl, rfl⟩
      have hb29 := hb27.out.trans (hb79.mono hb27.out.size)
      have HB := Lib.hid (HB.out.trans (hb29.mono HB.out.size))
      have hE := he2.out.below hb29
      have sz9 := HB.out.size
      clear hb79 hown8 hown9 hbel8 hbel9 hb29 hb27 sz7 H7 G7 E7 LI LR SC SI MC MR HG HS he2
      go_upto_region 14 with fail
      go_upto_region 15 with (go_at_call 16; refine (WA.out _).mono ?_; rintro e w11 ⟨rfl, hbel⟩; obtain ⟨o1, j1, rfl⟩ := grow_of_below hbel; clear hbel)
      go_upto_region 16 with (go_at_call 14; refine (WR.out _).mono ?_; rintro e w12 ⟨rfl, hbel⟩; obtain ⟨o2, j2, rfl⟩ := grow_of_below hbel; clear hbel)
      go_upto_region 17 with (go_at_call 17; refine (PA.out _ (hE.below (by repeat (first | (with_reducible exact Below.refl _ _) | ((with_reducible refine below_grow ?_ ?_); rotate_left; focus (first | omega | (simp [go_sem]; done) | (simp [go_sem]; omega))) | ((with_reducible refine Below.alloc ?_ ?_ _); rotate_left; focus (first | omega | (simp [go_sem]; done) | (simp [go_sem]; omega))) | ((with_reducible refine Below.setCell ?_ ?_ _); rotate_left; focus (first | omega | (simp [go_sem]; done) | (simp [go_sem]; omega))) | (with_reducible refine Below.drew ?_) | (with_reducible refine below_drewN _ ?_))))).mono ?_; rintro e w13 ⟨rfl, hbel⟩; obtain ⟨o3, j3, rfl⟩ := grow_of_below hbel; clear hbel)
      go_upto_region 18 with (go_at_call 36; refine (PR.out _).mono ?_; rintro e w14 ⟨rfl, hbel⟩; obtain ⟨o4, j4, rfl⟩ := grow_of_below hbel; clear hbel)
      clear PA PR WA WR
      go_wp2
      go_loopw [21] (fun s21 wi => ∃ t : Nat, s21 = .int .u8 t ∧ t ≤ 5 ∧ Env wi ∧ Below w.heap.size w wi) (fun s21 _ => 5 - (intOf s21).toNat)
      case atStart => exact ⟨0, rfl, by decide, hE.below (by repeat (first | (with_reducible exact Below.refl _ _) | ((with_reducible refine below_grow ?_ ?_); rotate_left; focus (first | omega | (simp [go_sem]; done) | (simp [go_sem]; omega))) | ((with_reducible refine Below.alloc ?_ ?_ _); rotate_left; focus (first | omega | (simp [go_sem]; done) | (simp [go_sem]; omega))) | ((with_reducible refine Below.setCell ?_ ?_ _); rotate_left; focus (first | omega | (simp [go_sem]; done) | (simp [go_sem]; omega))) | (with_reducible refine Below.drew ?_) | (with_reducible refine below_drewN _ ?_))), by have hb := HB.out; repeat (first | (with_reducible exact hb) | ((with_reducible refine below_grow ?_ ?_); rotate_left; focus (first | omega | (simp [go_sem]; done) | (simp [go_sem]; omega))) | ((with_reducible refine Below.alloc ?_ ?_ _); rotate_left; focus (first | omega | (simp [go_sem]; done) | (simp [go_sem]; omega))) | ((with_reducible refine Below.setCell ?_ ?_ _); rotate_left; focus (first | omega | (simp [go_sem]; done) | (simp [go_sem]; omega))) | (with_reducible refine Below.drew ?_) | (with_reducible refine below_drewN _ ?_))⟩
      case round =>
        obtain ⟨t, rfl, ht, hE, hb⟩ := hrel
        have hsz := hb.size
        by_cases hlt : t < 5
        · have hlt2 : (t : Int) < 5 := by omega
          have e1 : IntKind.u8.wrap ((t : Int) + 1) = (t : Int) + 1 := u8_wrap (by omega) (by omega)
          have T1 := Lib.hid (top_all m t (by omega))
          have T2 := Lib.hid (ref_top_all m t)
          have L1 := Lib.hid (low_all m t (by omega))
          have L2 := Lib.hid (ref_low_all m t)
          obtain ⟨x1, hx1⟩ : ∃ x1, topN m t = x1 := ⟨_, rfl⟩
          obtain ⟨x2, hx2⟩ : ∃ x2, lowN m t = x2 := ⟨_, rfl⟩
          obtain ⟨x3, hx3⟩ : ∃ x3, has m t = x3 := ⟨_, rfl⟩
          simp only [hx1, hx2, hx3] at T1 T2 L1 L2
          have HH := Lib.hid hlt
          clear hx1 hx2 hx3 hlt ht
          go_wp2_with (first | (go_at_call 27; refine (T1.out _).mono ?_; rintro e w11 ⟨rfl, rfl⟩) | (go_at_call 37; refine (T2.out _).mono ?_; rintro e w11 ⟨rfl, hbel⟩; obtain ⟨p1, q1, rfl⟩ := grow_of_below hbel; clear hbel) | (go_at_call 28; refine (L1.out _ (hE.below (by repeat (first | (with_reducible exact Below.refl _ _) | ((with_reducible refine below_grow ?_ ?_); rotate_left; focus (first | omega | (simp [go_sem]; done) | (simp [go_sem]; omega))) | ((with_reducible refine Below.alloc ?_ ?_ _); rotate_left; focus (first | omega | (simp [go_sem]; done) | (simp [go_sem]; omega))) | ((with_reducible refine Below.setCell ?_ ?_ _); rotate_left; focus (first | omega | (simp [go_sem]; done) | (simp [go_sem]; omega))) | (with_reducible refine Below.drew ?_) | (with_reducible refine below_drewN _ ?_))))).mono ?_; rintro e w11 ⟨rfl, rfl⟩) | (go_at_call 38; refine (L2.out _).mono ?_; rintro e w11 ⟨rfl, hbel⟩; obtain ⟨p2, q2, rfl⟩ := grow_of_below hbel; clear hbel))
          go_roundw
          case rel => exact ⟨t + 1, by go_num, by have := HH.out; omega, hE.below (by repeat (first | (with_reducible exact Below.refl _ _) | ((with_reducible refine below_grow ?_ ?_); rotate_left; focus (first | omega | (simp [go_sem]; done) | (simp [go_sem]; omega))) | ((with_reducible refine Below.alloc ?_ ?_ _); rotate_left; focus (first | omega | (simp [go_sem]; done) | (simp [go_sem]; omega))) | ((with_reducible refine Below.setCell ?_ ?_ _); rotate_left; focus (first | omega | (simp [go_sem]; done) | (simp [go_sem]; omega))) | (with_reducible refine Below.drew ?_) | (with_reducible refine below_drewN _ ?_))), by repeat (first | (with_reducible exact hb) | ((with_reducible refine below_grow ?_ ?_); rotate_left; focus (first | omega | (simp [go_sem]; done) | (simp [go_sem]; omega))) | ((with_reducible refine Below.alloc ?_ ?_ _); rotate_left; focus (first | omega | (simp [go_sem]; done) | (simp [go_sem]; omega))) | ((with_reducible refine Below.setCell ?_ ?_ _); rotate_left; focus (first | omega | (simp [go_sem]; done) | (simp [go_sem]; omega))) | (with_reducible refine Below.drew ?_) | (with_reducible refine below_drewN _ ?_))⟩
          case measure => simp [intOf]; have := HH.out; omega
        · obtain rfl : t = 5 := by omega
          clear hlt ht
          go_wp2
          refine bodyPost_ret (by simp [results, Tryd.results13, go_sem]) rfl ⟨rfl, ?_⟩
          exact hb
end Go.Proofs.YtcfkcfbgnciccaaDoor
