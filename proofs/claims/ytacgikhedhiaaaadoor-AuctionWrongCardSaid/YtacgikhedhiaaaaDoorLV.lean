/- AuctionWrong: what is no auction is rejected, each at its place. -/
import Derived.Test.YtacgikhedhiaaaaDoorLU
import Derived.Test.YtacgikhedhiaaaaDoorKM
import Derived.Deep.RegionWith
namespace Go.Proofs.YtacgikhedhiaaaaDoor
open Go.RowKit

theorem run_bad {d : Nat} {l r : List Nat} {s : St} {c : Nat} (h : Rt d l s) (hc : s.ref c ≠ 0) : Wg d (l ++ c :: r) := .inr (by
  rw [St.run_append, h.hr]
  show St.run s (c :: r) = none
  unfold St.run
  rw [if_neg hc])
theorem wp_keep {P : Program} {c : Code} {Q : Exit → Act → World → Prop} {a : Act} {w : World} (S : World → Prop) (hs : S w) (h : ∀ W, S W → Code.wp P c Q a W) : Code.wp P c Q a w := h w hs
theorem slb_one {W : World} {q c : Nat} (hc : W.cell? ⟨q, 0, none⟩ = some (u8v c)) (hq : q < W.heap.size) : SlB W (.slice (some ⟨q, 0, none⟩) 1 1) [c] :=
  ⟨_, _, rfl, Nat.le_refl _, fun _ => ⟨_, 0, rfl, hq, fun j x hj => by
    match j, hj with
    | 0, hj =>
      simp only [List.getElem?_cons_zero, Option.some.injEq] at hj
      subst hj
      exact hc⟩⟩
set_option maxRecDepth 100000 in
theorem ready_append {ops : Array Oper} {o : Oper} {a : Act} {K : Act → World → Prop} {Q : Exit → Act → World → Prop} {W : World} (hw : Region.wanted o (yielded ops a.tmps) = true) (s x : Operand)
    (ho : o.op = .call { callee := .builtin .append, args := #[s, x], argTypes := #[22, 22] }) (v y : Value) (hs : a.eval s = v) (hy : a.eval x = y)
    (h : ∃ base n xs ys, W.ownsRow base 5 1 v n xs ∧ SlB W y ys ∧ n + ys.length ≤ 140737488355328 ∧ base ≤ W.heap.size ∧ ∀ v' w', w'.ownsRow base 5 1 v' (n + ys.length) (xs ++ ys.map u8v) → Below base W w' → K (a.put o.dst v') w') :
    if Region.wanted o (yielded ops a.tmps) = true then Oper.wp Tryd.prog o a W K Q else K (a.put o.dst undef) W := by
  obtain ⟨i0, hi, hz0, hz1, hz2⟩ := info_parts Tryd.infoU
  obtain ⟨base, n, xs, ys, h1, h2, h3, h4, h5⟩ := h
  rw [if_pos hw]
  obtain ⟨v', w', hr, r2, r3⟩ := run_append_slb W base o.type i0 hi hz0 hz1 hz2 v n xs h1 y ys h2 h3 h4
  unfold Oper.wp execOp
  simp only [ho, resolve, invoke, builtin, Sem.run_bind, Sem.run_pure, Result.andThen_ok, List.map_toArray, List.map_cons, List.map_nil, hs, hy, hr]
  exact h5 v' w' r2 r3
set_option maxRecDepth 100000 in
theorem clone_slb (v : Value) (l : List Nat) (w : World) (hn : l.length ≤ 100000) (h0 : l ≠ []) (hS : SlB w v l) :
    Calls Tryd.prog 24 #[v] w fun e w' => (∃ v', e = .returned v' ∧ w'.ownsRow w.heap.size 5 1 v' l.length (l.map u8v)) ∧ Below w.heap.size w w' := by
  obtain ⟨i0, hi, hz0, hz1, hz2⟩ := info_parts Tryd.infoU
  obtain ⟨p, c, rfl, hc, hx⟩ := hS
  obtain ⟨b, off, rfl, hb, hcell⟩ := hx h0
  refine (Tryd.slices_Clone i0 (.int .u8 0) 1 1 hi hz0 hz1 hz2 rfl (by decide) (Tryd.sizeOf5) b off l.length c (l.map u8v) w (by simp) (by unfold maxLen; omega) (by omega) (fun j u hj => ?_) (fun u hu => by obtain ⟨x, _, rfl⟩ := List.mem_map.1 hu; rfl)).mono ?_
  · rw [List.getElem?_map] at hj
    obtain ⟨x, hx, rfl⟩ := Option.map_eq_some_iff.1 hj
    exact hcell j x hx
  · rintro e w' ⟨v', rfl, h1, _, h2⟩
    exact ⟨⟨_, rfl, h1⟩, h2⟩
theorem wp_cut {P : Program} {c : Code} {Q : Exit → Act → World → Prop} {a : Act} {w : World} (Q' : Act → Exit → Act → World → Prop) (h1 : Code.wp P c (Q' a) a w) (h2 : ∀ e a' w', Q' a e a' w' → Q e a' w') : Code.wp P c Q a w := Code.wp_mono (fun e a' w' => h2 e a' w') h1
set_option maxRecDepth 100000 in
set_option maxHeartbeats 16000000 in
theorem wrong_calls (d0 : Nat) (hd8 : d0 < 256) (v : Value) (xs : List Nat) (h8 : ∀ x ∈ xs, x < 256) (n0 : Nat) (hn8 : n0 < 256) (v2 : Value) (ys : List Nat) (hy8 : ∀ x ∈ ys, x < 256) (w : World) (hS : SlB w v xs) (hS2 : SlB w v2 ys) (he : Env w) :
    Calls Tryd.prog 9 #[.int .u8 d0, v, .int .u8 n0, v2] w fun e w' => e = .returned (.bool true) ∧ Below w.heap.size w w' := by
  obtain ⟨i0, hi, hz0, hz1, hz2⟩ := info_parts Tryd.infoU
  have AW := Lib.hid (awake_calls w he)
  have MD := Lib.hid (fun W (hb : Below w.heap.size w W) => made_calls d0 hd8 v xs h8 true W (slb_below hS hb))
  obtain ⟨p2, c2, rfl, hc2⟩ := slb_at hS2
  obtain ⟨m2, hm2⟩ : ∃ m, min ys.length 20 = m := ⟨_, rfl⟩
  obtain ⟨p3, hsl, hS3⟩ := slb_cut hS2 m2 (by omega)
  obtain ⟨n2, hn2⟩ : ∃ n, ys.length = n := ⟨_, rfl⟩
  rw [hn2] at hS2 hsl hm2 hc2 ⊢
  have e2 : min (n2 : Int) 20 = m2 := by omega
  obtain ⟨zs, hzs⟩ : ∃ zs, ys.take m2 = zs := ⟨_, rfl⟩
  have hzl : zs.length = m2 := by rw [← hzs, List.length_take]; omega
  have hz8 : ∀ x ∈ zs, x < 256 := fun x hx => hy8 x (List.mem_of_mem_take (by rw [hzs]; exact hx))
  have hm20 : m2 ≤ 20 := by omega
  rw [hzs] at hS3
  obtain ⟨d, hd⟩ : ∃ d, d0 % 4 = d := ⟨_, rfl⟩
  have hd4 : d < 4 := by omega
  rw [hd] at MD
  obtain ⟨x1, hx1⟩ : ∃ x, n0 % 38 = x := ⟨_, rfl⟩
  have hx1l : x1 < 38 := by omega
  have t1 : (n0 : Int).tmod 38 = x1 := by rw [Int.tmod_eq_emod_of_nonneg (by omega)]; omega
  have t2 : IntKind.u8.wrap (x1 : Int) = x1 := u8_wrap (by omega) (by omega)
  obtain ⟨y1, hy1⟩ : ∃ x, n0 % 218 = x := ⟨_, rfl⟩
  have t3 : (n0 : Int).tmod 218 = y1 := by rw [Int.tmod_eq_emod_of_nonneg (by omega)]; omega
  have t4 : IntKind.u8.wrap (y1 : Int) = y1 := u8_wrap (by omega) (by omega)
  obtain ⟨y2, hy2⟩ : ∃ x, 38 + y1 = x := ⟨_, rfl⟩
  have hy2l : 38 ≤ y2 ∧ y2 < 256 := by omega
  have t5 : IntKind.u8.wrap ((38 : Int) + y1) = y2 := by rw [u8_wrap (by omega) (by omega)]; omega
  have HN := Lib.hid (⟨hx1, hy1, hy2⟩ : n0 % 38 = x1 ∧ n0 % 218 = y1 ∧ 38 + y1 = y2)
  clear hS hS2 he hd hx1 hy1 hy2 hm2 hn2 hzs hc2
  go_enter Tryd.func9, Tryd.ntmps9
  go_upto_region 3 with (go_at_call 11; refine AW.out.mono ?_; rintro e w9 ⟨rfl, hbel⟩; obtain ⟨o1, j1, rfl⟩ := grow_of_below hbel; clear hbel)
  go_upto_region 4 with (go_at_call 13; refine (MD.out _ (by repeat (first | (with_reducible exact Below.refl _ _) | ((with_reducible refine below_grow ?_ ?_); rotate_left; focus (first | omega | (simp [go_sem]; done) | (simp [go_sem]; omega))) | ((with_reducible refine Below.alloc ?_ ?_ _); rotate_left; focus (first | omega | (simp [go_sem]; done) | (simp [go_sem]; omega))) | ((with_reducible refine Below.setCell ?_ ?_ _); rotate_left; focus (first | omega | (simp [go_sem]; done) | (simp [go_sem]; omega))) | (with_reducible refine Below.drew ?_) | (with_reducible refine below_drewN _ ?_)))).mono ?_; rintro e w1 ⟨⟨v1, l, s, rfl, hrow, hrt, hov⟩, hbel⟩)
  have cb : Below w.heap.size w w1 := (show Below w.heap.size w (grow w o1 j1) by repeat (first | (with_reducible exact Below.refl _ _) | ((with_reducible refine below_grow ?_ ?_); rotate_left; focus (first | omega | (simp [go_sem]; done) | (simp [go_sem]; omega))) | ((with_reducible refine Below.alloc ?_ ?_ _); rotate_left; focus (first | omega | (simp [go_sem]; done) | (simp [go_sem]; omega))) | ((with_reducible refine Below.setCell ?_ ?_ _); rotate_left; focus (first | omega | (simp [go_sem]; done) | (simp [go_sem]; omega))) | (with_reducible refine Below.drew ?_) | (with_reducible refine below_drewN _ ?_))).trans (hbel.mono (by simp [go_sem]))
  have ho : s.over = true := by first | exact hov rfl | exact hov trivial
  have hs1 := cb.size
  have hln := hrt.len
  obtain ⟨A1, cap1, rfl, -⟩ := own_slice hrow
  have hS3' := slb_below hS3 cb
  have HS1 := Lib.hid (slb_own hrow).1
  have HRT := Lib.hid hrt
  have HROW := Lib.hid hrow
  have HBW := Lib.hid cb
  clear AW MD hbel hov hS3
  have hr1 : s.ref x1 = 90 := by unfold St.ref; rw [if_pos hx1l, ho]; rfl
  have hr2 : s.ref y2 = 80 := by unfold St.ref; rw [if_neg (by omega)]
  have HCL := Lib.hid (fun W (hb : Below w1.heap.size w1 W) => clone_calls _ l _ W (by omega) (own_below hrow hb rfl))
  have HZ := Lib.hid (fun W (hb : Below w1.heap.size w1 W) => slb_below hS3' hb)
  have hb8 : ∀ c, c < 256 → ∀ x ∈ l ++ c :: zs, x < 256 := fun c hc x hx => by
    rcases List.mem_append.1 hx with hx | hx
    · exact hrt.lt x hx
    · rcases List.mem_cons.1 hx with rfl | hx
      · exact hc
      · exact hz8 x hx
  have hbts : ∀ c, c < 256 → Bts d (l ++ c :: zs) := fun c hc => ⟨by omega, hb8 c hc, by simp; omega⟩
  have CK1 := Lib.hid (fun W v5 (hS : SlB W v5 (l ++ x1 :: zs)) => check_calls d v5 _ (hbts x1 (by omega)) W hS)
  have CK2 := Lib.hid (fun W v5 (hS : SlB W v5 (l ++ y2 :: zs)) => check_calls d v5 _ (hbts y2 (by omega)) W hS)
  rw [if_pos hd4, St.fol_bad (r := zs) hrt.hr (c := x1) (by omega), hr1] at CK1
  rw [if_pos hd4, St.fol_bad (r := zs) hrt.hr (c := y2) (by omega), hr2] at CK2
  have TN1 := Lib.hid (fun W v5 (hS : SlB W v5 (l ++ x1 :: zs)) => turn_no d v5 _ (run_bad hrt (by omega)) (hbts x1 (by omega)) W hS)
  have TN2 := Lib.hid (fun W v5 (hS : SlB W v5 (l ++ y2 :: zs)) => turn_no d v5 _ (run_bad hrt (by omega)) (hbts y2 (by omega)) W hS)
  have TB1 := Lib.hid (fun W v5 (hS : SlB W v5 (l ++ x1 :: zs)) => table_no d v5 _ (run_bad hrt (by omega)) (hbts x1 (by omega)) W hS)
  have TB2 := Lib.hid (fun W v5 (hS : SlB W v5 (l ++ y2 :: zs)) => table_no d v5 _ (run_bad hrt (by omega)) (hbts y2 (by omega)) W hS)
  clear hb8 hbts
  go_upto_region 5 with fail
  go_wp2
  refine wp_loop_rounds 3 ?_
  rw [rounds_succ]
  go_upto_region 8 with fail
  refine wp_keep (fun W => blk W w1.heap.size #[.slice A1 l.length cap1, .int .u8 x1, .int .i64 90, .slice A1 l.length cap1, .int .u8 y2, .int .i64 80] 57 ∧ blk W (w1.heap.size + 1) #[.slice A1 l.length cap1, .int .u8 x1, .int .i64 90] 57 ∧ Below w1.heap.size w1 W) ⟨blk_alloc (blk_at _ _ _ rfl) _, blk_at _ _ _ (by simp), by repeat (first | (with_reducible exact Below.refl _ _) | ((with_reducible refine below_grow ?_ ?_); rotate_left; focus (first | omega | (simp [go_sem]; done) | (simp [go_sem]; omega))) | ((with_reducible refine Below.alloc ?_ ?_ _); rotate_left; focus (first | omega | (simp [go_sem]; done) | (simp [go_sem]; omega))) | ((with_reducible refine Below.setCell ?_ ?_ _); rotate_left; focus (first | omega | (simp [go_sem]; done) | (simp [go_sem]; omega))) | (with_reducible refine Below.drew ?_) | (with_reducible refine below_drewN _ ?_))⟩ ?_
  rintro wr ⟨b6, b3, cbr⟩
  have k0 : wr.cell? ⟨(w1.heap.size + 1), 0, none⟩ = some (.slice A1 l.length cap1) := blk_cell b3 0
  have k1 : wr.cell? ⟨(w1.heap.size + 1), 1, none⟩ = some (.int .u8 x1) := blk_cell b3 1
  have k2 : wr.cell? ⟨(w1.heap.size + 1), 2, none⟩ = some (.int .i64 90) := blk_cell b3 2
  have hq3 := blk_lt b3
  have hsr := cbr.size
  haveI := inW_mk hq3
  refine wp_cut (fun a e a' w' => e = .normal ∧ ∃ v4 x5 v7 v8 : Value, a' = (((((((((a.put (some 60) (.pointer (some ⟨(w1.heap.size + 1), 0, none⟩))).put (some 61) (.slice A1 l.length cap1)).put (some 62) v4).put (some 63) (.pointer (some ⟨(w1.heap.size + 1), 1, none⟩))).put (some 64) (.int .u8 x1)).put (some 65) x5).put (some 66) v7).put (some 67) (.slice p3 m2 c2)).put (some 68) v8).put (some 14) v8 ∧ SlB w' v8 (l ++ x1 :: zs) ∧ blk w' w1.heap.size #[.slice A1 l.length cap1, .int .u8 x1, .int .i64 90, .slice A1 l.length cap1, .int .u8 y2, .int .i64 80] 57 ∧ blk w' (w1.heap.size + 1) #[.slice A1 l.length cap1, .int .u8 x1, .int .i64 90] 57 ∧ Below w1.heap.size w1 w') ?_ ?_
  · clear k2
    refine wp_region_any (by kernel_rfl) ?_
    change wpAny _ _ _ _ _ _ _ (World.drew _)
    refine wpAny_take (i := 0) (v := ?v0a) rfl (by kernel_rfl) (by kernel_rfl) (by kernel_rfl) (fun _ _ _ h => by cases h.1) (Or.inl ⟨by rfl, ?y0a⟩) ?r0a
    case y0a => intro W; go_simp; try with_reducible rfl
    go_simp
    refine wpAny_take (i := 3) (v := ?v3a) rfl (by kernel_rfl) (by kernel_rfl) (by kernel_rfl) (fun _ _ _ h => by cases h.1) (Or.inl ⟨by rfl, ?y3a⟩) ?r3a
    case y3a => intro W; go_simp; try with_reducible rfl
    go_simp
    refine wpAny_take (i := 7) (v := ?v7a) rfl (by kernel_rfl) (by kernel_rfl) (by kernel_rfl) (fun _ _ _ h => by cases h.1) (Or.inl ⟨by rfl, ?y7a⟩) ?r7a
    case y7a => intro W; go_simp; try with_reducible rfl
    go_simp
    refine wpAny_ready (rs := [1, 4]) (by kernel_rfl) (by simp) ?_
    refine AllReady.cons rfl (fun K hK => ?_) ?_
    · go_simp
      refine hK _ _ ?_; clear hK K
      refine wpAny_ready (rs := [2, 4]) (by kernel_rfl) (by simp) ?_
      refine AllReady.cons rfl (fun K hK => ?_) ?_
      · go_simp
        go_at_call 24
        refine (HCL.out _ (by repeat (first | (with_reducible exact cbr) | ((with_reducible refine below_grow ?_ ?_); rotate_left; focus (first | omega | (simp [go_sem]; done) | (simp [go_sem]; omega))) | ((with_reducible refine Below.alloc ?_ ?_ _); rotate_left; focus (first | omega | (simp [go_sem]; done) | (simp [go_sem]; omega))) | ((with_reducible refine Below.setCell ?_ ?_ _); rotate_left; focus (first | omega | (simp [go_sem]; done) | (simp [go_sem]; omega))) | (with_reducible refine Below.drew ?_) | (with_reducible refine below_drewN _ ?_)))).mono ?_
        rintro e w4 ⟨⟨v4, rfl, hrow4⟩, hb4⟩
        obtain ⟨o7, j7, rfl⟩ := grow_of_below hb4
        clear hb4
        simp only []
        refine hK _ _ ?_; clear hK K
        refine wpAny_ready (rs := [4]) (by kernel_rfl) (by simp) ?_
        refine AllReady.cons rfl (fun K hK => ?_) AllReady.nil
        go_simp
        refine hK _ _ ?_; clear hK K
        refine wpAny_ready (rs := [5]) (by kernel_rfl) (by simp) ?_
        refine AllReady.cons rfl (fun K hK => ?_) AllReady.nil
        go_simp
        refine hK _ _ ?_; clear hK K
        refine wpAny_ready (rs := [6]) (by kernel_rfl) (by simp) ?_
        refine AllReady.cons rfl (fun K hK => ?_) AllReady.nil
        refine ready_append rfl _ _ rfl v4 _ rfl rfl ⟨_, _, _, [x1], (by first | exact hrow4 | exact hrow4.alloc _), slb_one (by simp [go_sem]) (by first | (simp [go_sem]; done) | (simp [go_sem]; omega)), (by simp; omega), (by first | (simp [go_sem]; done) | (simp [go_sem]; omega)), ?_⟩
        intro v7 w7 hown7 hb7
        refine hK _ _ ?_; clear hK K
        refine wpAny_ready (rs := [8]) (by kernel_rfl) (by simp) ?_
        refine AllReady.cons rfl (fun K hK => ?_) AllReady.nil
        have hs7 := hb7.size
        simp [go_sem] at hs7
        refine ready_append rfl _ _ rfl v7 _ rfl rfl ⟨_, _, _, zs, hown7, HZ.out _ (Below.trans (show Below w1.heap.size w1 _ by repeat (first | (with_reducible exact cbr) | ((with_reducible refine below_grow ?_ ?_); rotate_left; focus (first | omega | (simp [go_sem]; done) | (simp [go_sem]; omega))) | ((with_reducible refine Below.alloc ?_ ?_ _); rotate_left; focus (first | omega | (simp [go_sem]; done) | (simp [go_sem]; omega))) | ((with_reducible refine Below.setCell ?_ ?_ _); rotate_left; focus (first | omega | (simp [go_sem]; done) | (simp [go_sem]; omega))) | (with_reducible refine Below.drew ?_) | (with_reducible refine below_drewN _ ?_))) (hb7.mono (by simp [go_sem]; omega))), (by simp; omega), (by simp [go_sem]; omega), ?_⟩
        intro v8 w8 hown8 hb8
        refine hK _ _ ?_; clear hK K
        refine wpAny_ready (rs := [9]) (by kernel_rfl) (by simp) ?_
        refine AllReady.cons rfl (fun K hK => ?_) AllReady.nil
        go_simp
        refine hK _ _ ?_; clear hK K
        refine wpAny_done (by kernel_rfl) ?_ _
        refine ⟨rfl, v4, _, v7, v8, by rfl, ?_, blk_below (blk_below (show blk _ w1.heap.size _ _ by repeat (first | (with_reducible exact b6) | (with_reducible exact set4 b6 _ _ _ _) | (with_reducible refine blk_grow ?_ _ _) | (with_reducible refine blk_alloc ?_ _) | (with_reducible refine blk_drew ?_) | (with_reducible refine blk_other ?_ (by (first | omega | (simp [go_sem]; done) | (simp [go_sem]; omega))) _))) hb7 (by simp [go_sem]; omega)) hb8 (by simp [go_sem]; omega), blk_below (blk_below (show blk _ (w1.heap.size + 1) _ _ by repeat (first | (with_reducible exact b3) | (with_reducible exact set4 b3 _ _ _ _) | (with_reducible refine blk_grow ?_ _ _) | (with_reducible refine blk_alloc ?_ _) | (with_reducible refine blk_drew ?_) | (with_reducible refine blk_other ?_ (by (first | omega | (simp [go_sem]; done) | (simp [go_sem]; omega))) _))) hb7 (by simp [go_sem]; omega)) hb8 (by simp [go_sem]; omega), Below.trans (Below.trans (show Below w1.heap.size w1 _ by repeat (first | (with_reducible exact cbr) | ((with_reducible refine below_grow ?_ ?_); rotate_left; focus (first | omega | (simp [go_sem]; done) | (simp [go_sem]; omega))) | ((with_reducible refine Below.alloc ?_ ?_ _); rotate_left; focus (first | omega | (simp [go_sem]; done) | (simp [go_sem]; omega))) | ((with_reducible refine Below.setCell ?_ ?_ _); rotate_left; focus (first | omega | (simp [go_sem]; done) | (simp [go_sem]; omega))) | (with_reducible refine Below.drew ?_) | (with_reducible refine below_drewN _ ?_))) (hb7.mono (by simp [go_sem]; omega))) (hb8.mono (by simp [go_sem]; omega))⟩
        exact (slb_own (xs := l ++ x1 :: zs) (by rw [show (l ++ x1 :: zs).map u8v = (l.map u8v ++ [x1].map u8v) ++ zs.map u8v by simp]; exact hown8)).1
      refine AllReady.cons rfl (fun K hK => ?_) AllReady.nil
      go_simp
      refine hK _ _ ?_; clear hK K
      refine wpAny_ready (rs := [2, 5]) (by kernel_rfl) (by simp) ?_
      refine AllReady.cons rfl (fun K hK => ?_) ?_
      · go_simp
        go_at_call 24
        refine (HCL.out _ (by repeat (first | (with_reducible exact cbr) | ((with_reducible refine below_grow ?_ ?_); rotate_left; focus (first | omega | (simp [go_sem]; done) | (simp [go_sem]; omega))) | ((with_reducible refine Below.alloc ?_ ?_ _); rotate_left; focus (first | omega | (simp [go_sem]; done) | (simp [go_sem]; omega))) | ((with_reducible refine Below.setCell ?_ ?_ _); rotate_left; focus (first | omega | (simp [go_sem]; done) | (simp [go_sem]; omega))) | (with_reducible refine Below.drew ?_) | (with_reducible refine below_drewN _ ?_)))).mono ?_
        rintro e w4 ⟨⟨v4, rfl, hrow4⟩, hb4⟩
        obtain ⟨o7, j7, rfl⟩ := grow_of_below hb4
        clear hb4
        simp only []
        refine hK _ _ ?_; clear hK K
        refine wpAny_ready (rs := [5]) (by kernel_rfl) (by simp) ?_
        refine AllReady.cons rfl (fun K hK => ?_) AllReady.nil
        go_simp
        refine hK _ _ ?_; clear hK K
        refine wpAny_ready (rs := [6]) (by kernel_rfl) (by simp) ?_
        refine AllReady.cons rfl (fun K hK => ?_) AllReady.nil
        refine ready_append rfl _ _ rfl v4 _ rfl rfl ⟨_, _, _, [x1], (by first | exact hrow4 | exact hrow4.alloc _), slb_one (by simp [go_sem]) (by first | (simp [go_sem]; done) | (simp [go_sem]; omega)), (by simp; omega), (by first | (simp [go_sem]; done) | (simp [go_sem]; omega)), ?_⟩
        intro v7 w7 hown7 hb7
        refine hK _ _ ?_; clear hK K
        refine wpAny_ready (rs := [8]) (by kernel_rfl) (by simp) ?_
        refine AllReady.cons rfl (fun K hK => ?_) AllReady.nil
        have hs7 := hb7.size
        simp [go_sem] at hs7
        refine ready_append rfl _ _ rfl v7 _ rfl rfl ⟨_, _, _, zs, hown7, HZ.out _ (Below.trans (show Below w1.heap.size w1 _ by repeat (first | (with_reducible exact cbr) | ((with_reducible refine below_grow ?_ ?_); rotate_left; focus (first | omega | (simp [go_sem]; done) | (simp [go_sem]; omega))) | ((with_reducible refine Below.alloc ?_ ?_ _); rotate_left; focus (first | omega | (simp [go_sem]; done) | (simp [go_sem]; omega))) | ((with_reducible refine Below.setCell ?_ ?_ _); rotate_left; focus (first | omega | (simp [go_sem]; done) | (simp [go_sem]; omega))) | (with_reducible refine Below.drew ?_) | (with_reducible refine below_drewN _ ?_))) (hb7.mono (by simp [go_sem]; omega))), (by simp; omega), (by simp [go_sem]; omega), ?_⟩
        intro v8 w8 hown8 hb8
        refine hK _ _ ?_; clear hK K
        refine wpAny_ready (rs := [9]) (by kernel_rfl) (by simp) ?_
        refine AllReady.cons rfl (fun K hK => ?_) AllReady.nil
        go_simp
        refine hK _ _ ?_; clear hK K
        refine wpAny_done (by kernel_rfl) ?_ _
        refine ⟨rfl, v4, _, v7, v8, by rfl, ?_, blk_below (blk_below (show blk _ w1.heap.size _ _ by repeat (first | (with_reducible exact b6) | (with_reducible exact set4 b6 _ _ _ _) | (with_reducible refine blk_grow ?_ _ _) | (with_reducible refine blk_alloc ?_ _) | (with_reducible refine blk_drew ?_) | (with_reducible refine blk_other ?_ (by (first | omega | (simp [go_sem]; done) | (simp [go_sem]; omega))) _))) hb7 (by simp [go_sem]; omega)) hb8 (by simp [go_sem]; omega), blk_below (blk_below (show blk _ (w1.heap.size + 1) _ _ by repeat (first | (with_reducible exact b3) | (with_reducible exact set4 b3 _ _ _ _) | (with_reducible refine blk_grow ?_ _ _) | (with_reducible refine blk_alloc ?_ _) | (with_reducible refine blk_drew ?_) | (with_reducible refine blk_other ?_ (by (first | omega | (simp [go_sem]; done) | (simp [go_sem]; omega))) _))) hb7 (by simp [go_sem]; omega)) hb8 (by simp [go_sem]; omega), Below.trans (Below.trans (show Below w1.heap.size w1 _ by repeat (first | (with_reducible exact cbr) | ((with_reducible refine below_grow ?_ ?_); rotate_left; focus (first | omega | (simp [go_sem]; done) | (simp [go_sem]; omega))) | ((with_reducible refine Below.alloc ?_ ?_ _); rotate_left; focus (first | omega | (simp [go_sem]; done) | (simp [go_sem]; omega))) | ((with_reducible refine Below.setCell ?_ ?_ _); rotate_left; focus (first | omega | (simp [go_sem]; done) | (simp [go_sem]; omega))) | (with_reducible refine Below.drew ?_) | (with_reducible refine below_drewN _ ?_))) (hb7.mono (by simp [go_sem]; omega))) (hb8.mono (by simp [go_sem]; omega))⟩
        exact (slb_own (xs := l ++ x1 :: zs) (by rw [show (l ++ x1 :: zs).map u8v = (l.map u8v ++ [x1].map u8v) ++ zs.map u8v by simp]; exact hown8)).1
      refine AllReady.cons rfl (fun K hK => ?_) AllReady.nil
      go_simp
      refine hK _ _ ?_; clear hK K
      refine wpAny_ready (rs := [2]) (by kernel_rfl) (by simp) ?_
      refine AllReady.cons rfl (fun K hK => ?_) AllReady.nil
      go_simp
      go_at_call 24
      refine (HCL.out _ (by repeat (first | (with_reducible exact cbr) | ((with_reducible refine below_grow ?_ ?_); rotate_left; focus (first | omega | (simp [go_sem]; done) | (simp [go_sem]; omega))) | ((with_reducible refine Below.alloc ?_ ?_ _); rotate_left; focus (first | omega | (simp [go_sem]; done) | (simp [go_sem]; omega))) | ((with_reducible refine Below.setCell ?_ ?_ _); rotate_left; focus (first | omega | (simp [go_sem]; done) | (simp [go_sem]; omega))) | (with_reducible refine Below.drew ?_) | (with_reducible refine below_drewN _ ?_)))).mono ?_
      rintro e w4 ⟨⟨v4, rfl, hrow4⟩, hb4⟩
      obtain ⟨o7, j7, rfl⟩ := grow_of_below hb4
      clear hb4
      simp only []
      refine hK _ _ ?_; clear hK K
      refine wpAny_ready (rs := [6]) (by kernel_rfl) (by simp) ?_
      refine AllReady.cons rfl (fun K hK => ?_) AllReady.nil
      refine ready_append rfl _ _ rfl v4 _ rfl rfl ⟨_, _, _, [x1], (by first | exact hrow4 | exact hrow4.alloc _), slb_one (by simp [go_sem]) (by first | (simp [go_sem]; done) | (simp [go_sem]; omega)), (by simp; omega), (by first | (simp [go_sem]; done) | (simp [go_sem]; omega)), ?_⟩
      intro v7 w7 hown7 hb7
      refine hK _ _ ?_; clear hK K
      refine wpAny_ready (rs := [8]) (by kernel_rfl) (by simp) ?_
      refine AllReady.cons rfl (fun K hK => ?_) AllReady.nil
      have hs7 := hb7.size
      simp [go_sem] at hs7
      refine ready_append rfl _ _ rfl v7 _ rfl rfl ⟨_, _, _, zs, hown7, HZ.out _ (Below.trans (show Below w1.heap.size w1 _ by repeat (first | (with_reducible exact cbr) | ((with_reducible refine below_grow ?_ ?_); rotate_left; focus (first | omega | (simp [go_sem]; done) | (simp [go_sem]; omega))) | ((with_reducible refine Below.alloc ?_ ?_ _); rotate_left; focus (first | omega | (simp [go_sem]; done) | (simp [go_sem]; omega))) | ((with_reducible refine Below.setCell ?_ ?_ _); rotate_left; focus (first | omega | (simp [go_sem]; done) | (simp [go_sem]; omega))) | (with_reducible refine Below.drew ?_) | (with_reducible refine below_drewN _ ?_))) (hb7.mono (by simp [go_sem]; omega))), (by simp; omega), (by simp [go_sem]; omega), ?_⟩
      intro v8 w8 hown8 hb8
      refine hK _ _ ?_; clear hK K
      refine wpAny_ready (rs := [9]) (by kernel_rfl) (by simp) ?_
      refine AllReady.cons rfl (fun K hK => ?_) AllReady.nil
      go_simp
      refine hK _ _ ?_; clear hK K
      refine wpAny_done (by kernel_rfl) ?_ _
      refine ⟨rfl, v4, _, v7, v8, by rfl, ?_, blk_below (blk_below (show blk _ w1.heap.size _ _ by repeat (first | (with_reducible exact b6) | (with_reducible exact set4 b6 _ _ _ _) | (with_reducible refine blk_grow ?_ _ _) | (with_reducible refine blk_alloc ?_ _) | (with_reducible refine blk_drew ?_) | (with_reducible refine blk_other ?_ (by (first | omega | (simp [go_sem]; done) | (simp [go_sem]; omega))) _))) hb7 (by simp [go_sem]; omega)) hb8 (by simp [go_sem]; omega), blk_below (blk_below (show blk _ (w1.heap.size + 1) _ _ by repeat (first | (with_reducible exact b3) | (with_reducible exact set4 b3 _ _ _ _) | (with_reducible refine blk_grow ?_ _ _) | (with_reducible refine blk_alloc ?_ _) | (with_reducible refine blk_drew ?_) | (with_reducible refine blk_other ?_ (by (first | omega | (simp [go_sem]; done) | (simp [go_sem]; omega))) _))) hb7 (by simp [go_sem]; omega)) hb8 (by simp [go_sem]; omega), Below.trans (Below.trans (show Below w1.heap.size w1 _ by repeat (first | (with_reducible exact cbr) | ((with_reducible refine below_grow ?_ ?_); rotate_left; focus (first | omega | (simp [go_sem]; done) | (simp [go_sem]; omega))) | ((with_reducible refine Below.alloc ?_ ?_ _); rotate_left; focus (first | omega | (simp [go_sem]; done) | (simp [go_sem]; omega))) | ((with_reducible refine Below.setCell ?_ ?_ _); rotate_left; focus (first | omega | (simp [go_sem]; done) | (simp [go_sem]; omega))) | (with_reducible refine Below.drew ?_) | (with_reducible refine below_drewN _ ?_))) (hb7.mono (by simp [go_sem]; omega))) (hb8.mono (by simp [go_sem]; omega))⟩
      exact (slb_own (xs := l ++ x1 :: zs) (by rw [show (l ++ x1 :: zs).map u8v = (l.map u8v ++ [x1].map u8v) ++ zs.map u8v by simp]; exact hown8)).1
    refine AllReady.cons rfl (fun K hK => ?_) AllReady.nil
    go_simp
    refine hK _ _ ?_; clear hK K
    refine wpAny_ready (rs := [1, 5]) (by kernel_rfl) (by simp) ?_
    refine AllReady.cons rfl (fun K hK => ?_) ?_
    · go_simp
      refine hK _ _ ?_; clear hK K
      refine wpAny_ready (rs := [2, 5]) (by kernel_rfl) (by simp) ?_
      refine AllReady.cons rfl (fun K hK => ?_) ?_
      · go_simp
        go_at_call 24
        refine (HCL.out _ (by repeat (first | (with_reducible exact cbr) | ((with_reducible refine below_grow ?_ ?_); rotate_left; focus (first | omega | (simp [go_sem]; done) | (simp [go_sem]; omega))) | ((with_reducible refine Below.alloc ?_ ?_ _); rotate_left; focus (first | omega | (simp [go_sem]; done) | (simp [go_sem]; omega))) | ((with_reducible refine Below.setCell ?_ ?_ _); rotate_left; focus (first | omega | (simp [go_sem]; done) | (simp [go_sem]; omega))) | (with_reducible refine Below.drew ?_) | (with_reducible refine below_drewN _ ?_)))).mono ?_
        rintro e w4 ⟨⟨v4, rfl, hrow4⟩, hb4⟩
        obtain ⟨o7, j7, rfl⟩ := grow_of_below hb4
        clear hb4
        simp only []
        refine hK _ _ ?_; clear hK K
        refine wpAny_ready (rs := [5]) (by kernel_rfl) (by simp) ?_
        refine AllReady.cons rfl (fun K hK => ?_) AllReady.nil
        go_simp
        refine hK _ _ ?_; clear hK K
        refine wpAny_ready (rs := [6]) (by kernel_rfl) (by simp) ?_
        refine AllReady.cons rfl (fun K hK => ?_) AllReady.nil
        refine ready_append rfl _ _ rfl v4 _ rfl rfl ⟨_, _, _, [x1], (by first | exact hrow4 | exact hrow4.alloc _), slb_one (by simp [go_sem]) (by first | (simp [go_sem]; done) | (simp [go_sem]; omega)), (by simp; omega), (by first | (simp [go_sem]; done) | (simp [go_sem]; omega)), ?_⟩
        intro v7 w7 hown7 hb7
        refine hK _ _ ?_; clear hK K
        refine wpAny_ready (rs := [8]) (by kernel_rfl) (by simp) ?_
        refine AllReady.cons rfl (fun K hK => ?_) AllReady.nil
        have hs7 := hb7.size
        simp [go_sem] at hs7
        refine ready_append rfl _ _ rfl v7 _ rfl rfl ⟨_, _, _, zs, hown7, HZ.out _ (Below.trans (show Below w1.heap.size w1 _ by repeat (first | (with_reducible exact cbr) | ((with_reducible refine below_grow ?_ ?_); rotate_left; focus (first | omega | (simp [go_sem]; done) | (simp [go_sem]; omega))) | ((with_reducible refine Below.alloc ?_ ?_ _); rotate_left; focus (first | omega | (simp [go_sem]; done) | (simp [go_sem]; omega))) | ((with_reducible refine Below.setCell ?_ ?_ _); rotate_left; focus (first | omega | (simp [go_sem]; done) | (simp [go_sem]; omega))) | (with_reducible refine Below.drew ?_) | (with_reducible refine below_drewN _ ?_))) (hb7.mono (by simp [go_sem]; omega))), (by simp; omega), (by simp [go_sem]; omega), ?_⟩
        intro v8 w8 hown8 hb8
        refine hK _ _ ?_; clear hK K
        refine wpAny_ready (rs := [9]) (by kernel_rfl) (by simp) ?_
        refine AllReady.cons rfl (fun K hK => ?_) AllReady.nil
        go_simp
        refine hK _ _ ?_; clear hK K
        refine wpAny_done (by kernel_rfl) ?_ _
        refine ⟨rfl, v4, _, v7, v8, by rfl, ?_, blk_below (blk_below (show blk _ w1.heap.size _ _ by repeat (first | (with_reducible exact b6) | (with_reducible exact set4 b6 _ _ _ _) | (with_reducible refine blk_grow ?_ _ _) | (with_reducible refine blk_alloc ?_ _) | (with_reducible refine blk_drew ?_) | (with_reducible refine blk_other ?_ (by (first | omega | (simp [go_sem]; done) | (simp [go_sem]; omega))) _))) hb7 (by simp [go_sem]; omega)) hb8 (by simp [go_sem]; omega), blk_below (blk_below (show blk _ (w1.heap.size + 1) _ _ by repeat (first | (with_reducible exact b3) | (with_reducible exact set4 b3 _ _ _ _) | (with_reducible refine blk_grow ?_ _ _) | (with_reducible refine blk_alloc ?_ _) | (with_reducible refine blk_drew ?_) | (with_reducible refine blk_other ?_ (by (first | omega | (simp [go_sem]; done) | (simp [go_sem]; omega))) _))) hb7 (by simp [go_sem]; omega)) hb8 (by simp [go_sem]; omega), Below.trans (Below.trans (show Below w1.heap.size w1 _ by repeat (first | (with_reducible exact cbr) | ((with_reducible refine below_grow ?_ ?_); rotate_left; focus (first | omega | (simp [go_sem]; done) | (simp [go_sem]; omega))) | ((with_reducible refine Below.alloc ?_ ?_ _); rotate_left; focus (first | omega | (simp [go_sem]; done) | (simp [go_sem]; omega))) | ((with_reducible refine Below.setCell ?_ ?_ _); rotate_left; focus (first | omega | (simp [go_sem]; done) | (simp [go_sem]; omega))) | (with_reducible refine Below.drew ?_) | (with_reducible refine below_drewN _ ?_))) (hb7.mono (by simp [go_sem]; omega))) (hb8.mono (by simp [go_sem]; omega))⟩
        exact (slb_own (xs := l ++ x1 :: zs) (by rw [show (l ++ x1 :: zs).map u8v = (l.map u8v ++ [x1].map u8v) ++ zs.map u8v by simp]; exact hown8)).1
      refine AllReady.cons rfl (fun K hK => ?_) AllReady.nil
      go_simp
      refine hK _ _ ?_; clear hK K
      refine wpAny_ready (rs := [2]) (by kernel_rfl) (by simp) ?_
      refine AllReady.cons rfl (fun K hK => ?_) AllReady.nil
      go_simp
      go_at_call 24
      refine (HCL.out _ (by repeat (first | (with_reducible exact cbr) | ((with_reducible refine below_grow ?_ ?_); rotate_left; focus (first | omega | (simp [go_sem]; done) | (simp [go_sem]; omega))) | ((with_reducible refine Below.alloc ?_ ?_ _); rotate_left; focus (first | omega | (simp [go_sem]; done) | (simp [go_sem]; omega))) | ((with_reducible refine Below.setCell ?_ ?_ _); rotate_left; focus (first | omega | (simp [go_sem]; done) | (simp [go_sem]; omega))) | (with_reducible refine Below.drew ?_) | (with_reducible refine below_drewN _ ?_)))).mono ?_
      rintro e w4 ⟨⟨v4, rfl, hrow4⟩, hb4⟩
      obtain ⟨o7, j7, rfl⟩ := grow_of_below hb4
      clear hb4
      simp only []
      refine hK _ _ ?_; clear hK K
      refine wpAny_ready (rs := [6]) (by kernel_rfl) (by simp) ?_
      refine AllReady.cons rfl (fun K hK => ?_) AllReady.nil
      refine ready_append rfl _ _ rfl v4 _ rfl rfl ⟨_, _, _, [x1], (by first | exact hrow4 | exact hrow4.alloc _), slb_one (by simp [go_sem]) (by first | (simp [go_sem]; done) | (simp [go_sem]; omega)), (by simp; omega), (by first | (simp [go_sem]; done) | (simp [go_sem]; omega)), ?_⟩
      intro v7 w7 hown7 hb7
      refine hK _ _ ?_; clear hK K
      refine wpAny_ready (rs := [8]) (by kernel_rfl) (by simp) ?_
      refine AllReady.cons rfl (fun K hK => ?_) AllReady.nil
      have hs7 := hb7.size
      simp [go_sem] at hs7
      refine ready_append rfl _ _ rfl v7 _ rfl rfl ⟨_, _, _, zs, hown7, HZ.out _ (Below.trans (show Below w1.heap.size w1 _ by repeat (first | (with_reducible exact cbr) | ((with_reducible refine below_grow ?_ ?_); rotate_left; focus (first | omega | (simp [go_sem]; done) | (simp [go_sem]; omega))) | ((with_reducible refine Below.alloc ?_ ?_ _); rotate_left; focus (first | omega | (simp [go_sem]; done) | (simp [go_sem]; omega))) | ((with_reducible refine Below.setCell ?_ ?_ _); rotate_left; focus (first | omega | (simp [go_sem]; done) | (simp [go_sem]; omega))) | (with_reducible refine Below.drew ?_) | (with_reducible refine below_drewN _ ?_))) (hb7.mono (by simp [go_sem]; omega))), (by simp; omega), (by simp [go_sem]; omega), ?_⟩
      intro v8 w8 hown8 hb8
      refine hK _ _ ?_; clear hK K
      refine wpAny_ready (rs := [9]) (by kernel_rfl) (by simp) ?_
      refine AllReady.cons rfl (fun K hK => ?_) AllReady.nil
      go_simp
      refine hK _ _ ?_; clear hK K
      refine wpAny_done (by kernel_rfl) ?_ _
      refine ⟨rfl, v4, _, v7, v8, by rfl, ?_, blk_below (blk_below (show blk _ w1.heap.size _ _ by repeat (first | (with_reducible exact b6) | (with_reducible exact set4 b6 _ _ _ _) | (with_reducible refine blk_grow ?_ _ _) | (with_reducible refine blk_alloc ?_ _) | (with_reducible refine blk_drew ?_) | (with_reducible refine blk_other ?_ (by (first | omega | (simp [go_sem]; done) | (simp [go_sem]; omega))) _))) hb7 (by simp [go_sem]; omega)) hb8 (by simp [go_sem]; omega), blk_below (blk_below (show blk _ (w1.heap.size + 1) _ _ by repeat (first | (with_reducible exact b3) | (with_reducible exact set4 b3 _ _ _ _) | (with_reducible refine blk_grow ?_ _ _) | (with_reducible refine blk_alloc ?_ _) | (with_reducible refine blk_drew ?_) | (with_reducible refine blk_other ?_ (by (first | omega | (simp [go_sem]; done) | (simp [go_sem]; omega))) _))) hb7 (by simp [go_sem]; omega)) hb8 (by simp [go_sem]; omega), Below.trans (Below.trans (show Below w1.heap.size w1 _ by repeat (first | (with_reducible exact cbr) | ((with_reducible refine below_grow ?_ ?_); rotate_left; focus (first | omega | (simp [go_sem]; done) | (simp [go_sem]; omega))) | ((with_reducible refine Below.alloc ?_ ?_ _); rotate_left; focus (first | omega | (simp [go_sem]; done) | (simp [go_sem]; omega))) | ((with_reducible refine Below.setCell ?_ ?_ _); rotate_left; focus (first | omega | (simp [go_sem]; done) | (simp [go_sem]; omega))) | (with_reducible refine Below.drew ?_) | (with_reducible refine below_drewN _ ?_))) (hb7.mono (by simp [go_sem]; omega))) (hb8.mono (by simp [go_sem]; omega))⟩
      exact (slb_own (xs := l ++ x1 :: zs) (by rw [show (l ++ x1 :: zs).map u8v = (l.map u8v ++ [x1].map u8v) ++ zs.map u8v by simp]; exact hown8)).1
    refine AllReady.cons rfl (fun K hK => ?_) AllReady.nil
    go_simp
    refine hK _ _ ?_; clear hK K
    refine wpAny_ready (rs := [1]) (by kernel_rfl) (by simp) ?_
    refine AllReady.cons rfl (fun K hK => ?_) AllReady.nil
    go_simp
    refine hK _ _ ?_; clear hK K
    refine wpAny_ready (rs := [2]) (by kernel_rfl) (by simp) ?_
    refine AllReady.cons rfl (fun K hK => ?_) AllReady.nil
    go_simp
    go_at_call 24
    refine (HCL.out _ (by repeat (first | (with_reducible exact cbr) | ((with_reducible refine below_grow ?_ ?_); rotate_left; focus (first | omega | (simp [go_sem]; done) | (simp [go_sem]; omega))) | ((with_reducible refine Below.alloc ?_ ?_ _); rotate_left; focus (first | omega | (simp [go_sem]; done) | (simp [go_sem]; omega))) | ((with_reducible refine Below.setCell ?_ ?_ _); rotate_left; focus (first | omega | (simp [go_sem]; done) | (simp [go_sem]; omega))) | (with_reducible refine Below.drew ?_) | (with_reducible refine below_drewN _ ?_)))).mono ?_
    rintro e w4 ⟨⟨v4, rfl, hrow4⟩, hb4⟩
    obtain ⟨o7, j7, rfl⟩ := grow_of_below hb4
    clear hb4
    simp only []
    refine hK _ _ ?_; clear hK K
    refine wpAny_ready (rs := [6]) (by kernel_rfl) (by simp) ?_
    refine AllReady.cons rfl (fun K hK => ?_) AllReady.nil
    refine ready_append rfl _ _ rfl v4 _ rfl rfl ⟨_, _, _, [x1], (by first | exact hrow4 | exact hrow4.alloc _), slb_one (by simp [go_sem]) (by first | (simp [go_sem]; done) | (simp [go_sem]; omega)), (by simp; omega), (by first | (simp [go_sem]; done) | (simp [go_sem]; omega)), ?_⟩
    intro v7 w7 hown7 hb7
    refine hK _ _ ?_; clear hK K
    refine wpAny_ready (rs := [8]) (by kernel_rfl) (by simp) ?_
    refine AllReady.cons rfl (fun K hK => ?_) AllReady.nil
    have hs7 := hb7.size
    simp [go_sem] at hs7
    refine ready_append rfl _ _ rfl v7 _ rfl rfl ⟨_, _, _, zs, hown7, HZ.out _ (Below.trans (show Below w1.heap.size w1 _ by repeat (first | (with_reducible exact cbr) | ((with_reducible refine below_grow ?_ ?_); rotate_left; focus (first | omega | (simp [go_sem]; done) | (simp [go_sem]; omega))) | ((with_reducible refine Below.alloc ?_ ?_ _); rotate_left; focus (first | omega | (simp [go_sem]; done) | (simp [go_sem]; omega))) | ((with_reducible refine Below.setCell ?_ ?_ _); rotate_left; focus (first | omega | (simp [go_sem]; done) | (simp [go_sem]; omega))) | (with_reducible refine Below.drew ?_) | (with_reducible refine below_drewN _ ?_))) (hb7.mono (by simp [go_sem]; omega))), (by simp; omega), (by simp [go_sem]; omega), ?_⟩
    intro v8 w8 hown8 hb8
    refine hK _ _ ?_; clear hK K
    refine wpAny_ready (rs := [9]) (by kernel_rfl) (by simp) ?_
    refine AllReady.cons rfl (fun K hK => ?_) AllReady.nil
    go_simp
    refine hK _ _ ?_; clear hK K
    refine wpAny_done (by kernel_rfl) ?_ _
    refine ⟨rfl, v4, _, v7, v8, by rfl, ?_, blk_below (blk_below (show blk _ w1.heap.size _ _ by repeat (first | (with_reducible exact b6) | (with_reducible exact set4 b6 _ _ _ _) | (with_reducible refine blk_grow ?_ _ _) | (with_reducible refine blk_alloc ?_ _) | (with_reducible refine blk_drew ?_) | (with_reducible refine blk_other ?_ (by (first | omega | (simp [go_sem]; done) | (simp [go_sem]; omega))) _))) hb7 (by simp [go_sem]; omega)) hb8 (by simp [go_sem]; omega), blk_below (blk_below (show blk _ (w1.heap.size + 1) _ _ by repeat (first | (with_reducible exact b3) | (with_reducible exact set4 b3 _ _ _ _) | (with_reducible refine blk_grow ?_ _ _) | (with_reducible refine blk_alloc ?_ _) | (with_reducible refine blk_drew ?_) | (with_reducible refine blk_other ?_ (by (first | omega | (simp [go_sem]; done) | (simp [go_sem]; omega))) _))) hb7 (by simp [go_sem]; omega)) hb8 (by simp [go_sem]; omega), Below.trans (Below.trans (show Below w1.heap.size w1 _ by repeat (first | (with_reducible exact cbr) | ((with_reducible refine below_grow ?_ ?_); rotate_left; focus (first | omega | (simp [go_sem]; done) | (simp [go_sem]; omega))) | ((with_reducible refine Below.alloc ?_ ?_ _); rotate_left; focus (first | omega | (simp [go_sem]; done) | (simp [go_sem]; omega))) | ((with_reducible refine Below.setCell ?_ ?_ _); rotate_left; focus (first | omega | (simp [go_sem]; done) | (simp [go_sem]; omega))) | (with_reducible refine Below.drew ?_) | (with_reducible refine below_drewN _ ?_))) (hb7.mono (by simp [go_sem]; omega))) (hb8.mono (by simp [go_sem]; omega))⟩
    exact (slb_own (xs := l ++ x1 :: zs) (by rw [show (l ++ x1 :: zs).map u8v = (l.map u8v ++ [x1].map u8v) ++ zs.map u8v by simp]; exact hown8)).1
  rintro _ _ w8 ⟨rfl, v4, x5, v7, v8, rfl, hX, b6', b3', cb8⟩
  clear b6 b3 cbr k0 k1 k2 hq3 hsr this
  have k0 : w8.cell? ⟨(w1.heap.size + 1), 0, none⟩ = some (.slice A1 l.length cap1) := blk_cell b3' 0
  have k2 : w8.cell? ⟨(w1.heap.size + 1), 2, none⟩ = some (.int .i64 90) := blk_cell b3' 2
  haveI := inW_mk (blk_lt b3')
  have hs8 := cb8.size
  go_simp
  go_upto_region 10 with (go_at_call 23; refine (CK1.out _ _ hX).mono ?_; rintro e w9 ⟨rfl, hbel⟩; obtain ⟨o8, j8, rfl⟩ := grow_of_below hbel; clear hbel)
  go_upto_region 11 with (go_at_call 15; refine (TN1.out _ _ (slb_below hX (by repeat (first | (with_reducible exact Below.refl _ _) | ((with_reducible refine below_grow ?_ ?_); rotate_left; focus (first | omega | (simp [go_sem]; done) | (simp [go_sem]; omega))) | ((with_reducible refine Below.alloc ?_ ?_ _); rotate_left; focus (first | omega | (simp [go_sem]; done) | (simp [go_sem]; omega))) | ((with_reducible refine Below.setCell ?_ ?_ _); rotate_left; focus (first | omega | (simp [go_sem]; done) | (simp [go_sem]; omega))) | (with_reducible refine Below.drew ?_) | (with_reducible refine below_drewN _ ?_))))).mono ?_; rintro e w9 ⟨rfl, hbel⟩; obtain ⟨o9, j9, rfl⟩ := grow_of_below hbel; clear hbel)
  go_upto_region 12 with (go_at_call 25; refine (TB1.out _ _ (slb_below hX (by repeat (first | (with_reducible exact Below.refl _ _) | ((with_reducible refine below_grow ?_ ?_); rotate_left; focus (first | omega | (simp [go_sem]; done) | (simp [go_sem]; omega))) | ((with_reducible refine Below.alloc ?_ ?_ _); rotate_left; focus (first | omega | (simp [go_sem]; done) | (simp [go_sem]; omega))) | ((with_reducible refine Below.setCell ?_ ?_ _); rotate_left; focus (first | omega | (simp [go_sem]; done) | (simp [go_sem]; omega))) | (with_reducible refine Below.drew ?_) | (with_reducible refine below_drewN _ ?_))))).mono ?_; rintro e w9 ⟨rfl, hbel⟩; obtain ⟨o10, j10, rfl⟩ := grow_of_below hbel; clear hbel)
  clear CK1 TN1 TB1 hX
  go_wp2
  rw [rounds_succ]
  refine wp_keep (fun W => blk W w1.heap.size #[.slice A1 l.length cap1, .int .u8 x1, .int .i64 90, .slice A1 l.length cap1, .int .u8 y2, .int .i64 80] 57 ∧ Below w1.heap.size w1 W) ⟨by repeat (first | (with_reducible exact b6') | (with_reducible exact set4 b6' _ _ _ _) | (with_reducible refine blk_grow ?_ _ _) | (with_reducible refine blk_alloc ?_ _) | (with_reducible refine blk_drew ?_) | (with_reducible refine blk_other ?_ (by (first | omega | (simp [go_sem]; done) | (simp [go_sem]; omega))) _)), by repeat (first | (with_reducible exact cb8) | ((with_reducible refine below_grow ?_ ?_); rotate_left; focus (first | omega | (simp [go_sem]; done) | (simp [go_sem]; omega))) | ((with_reducible refine Below.alloc ?_ ?_ _); rotate_left; focus (first | omega | (simp [go_sem]; done) | (simp [go_sem]; omega))) | ((with_reducible refine Below.setCell ?_ ?_ _); rotate_left; focus (first | omega | (simp [go_sem]; done) | (simp [go_sem]; omega))) | (with_reducible refine Below.drew ?_) | (with_reducible refine below_drewN _ ?_))⟩ ?_
  rintro wm ⟨b6, cbm⟩
  clear b6' b3' cb8 k0 k2 hs8 this
  have k3 : wm.cell? ⟨w1.heap.size, 3, none⟩ = some (.slice A1 l.length cap1) := blk_cell b6 3
  have k4 : wm.cell? ⟨w1.heap.size, 4, none⟩ = some (.int .u8 y2) := blk_cell b6 4
  have k5 : wm.cell? ⟨w1.heap.size, 5, none⟩ = some (.int .i64 80) := blk_cell b6 5
  haveI := inW_mk (blk_lt b6)
  have hsm := cbm.size
  go_upto_region 8 with fail
  clear k3 k4 k5
  refine wp_keep (fun W => blk W w1.heap.size #[.slice A1 l.length cap1, .int .u8 x1, .int .i64 90, .slice A1 l.length cap1, .int .u8 y2, .int .i64 80] 57 ∧ blk W wm.heap.size #[.slice A1 l.length cap1, .int .u8 y2, .int .i64 80] 57 ∧ Below w1.heap.size w1 W) ⟨blk_alloc b6 _, blk_at _ _ _ rfl, by repeat (first | (with_reducible exact cbm) | ((with_reducible refine below_grow ?_ ?_); rotate_left; focus (first | omega | (simp [go_sem]; done) | (simp [go_sem]; omega))) | ((with_reducible refine Below.alloc ?_ ?_ _); rotate_left; focus (first | omega | (simp [go_sem]; done) | (simp [go_sem]; omega))) | ((with_reducible refine Below.setCell ?_ ?_ _); rotate_left; focus (first | omega | (simp [go_sem]; done) | (simp [go_sem]; omega))) | (with_reducible refine Below.drew ?_) | (with_reducible refine below_drewN _ ?_))⟩ ?_
  rintro wr ⟨b6, b3, cbr⟩
  have k0 : wr.cell? ⟨wm.heap.size, 0, none⟩ = some (.slice A1 l.length cap1) := blk_cell b3 0
  have k1 : wr.cell? ⟨wm.heap.size, 1, none⟩ = some (.int .u8 y2) := blk_cell b3 1
  have k2 : wr.cell? ⟨wm.heap.size, 2, none⟩ = some (.int .i64 80) := blk_cell b3 2
  have hq3 := blk_lt b3
  have hsr := cbr.size
  haveI := inW_mk hq3
  refine wp_cut (fun a e a' w' => e = .normal ∧ ∃ v4 x5 v7 v8 : Value, a' = (((((((((a.put (some 60) (.pointer (some ⟨wm.heap.size, 0, none⟩))).put (some 61) (.slice A1 l.length cap1)).put (some 62) v4).put (some 63) (.pointer (some ⟨wm.heap.size, 1, none⟩))).put (some 64) (.int .u8 y2)).put (some 65) x5).put (some 66) v7).put (some 67) (.slice p3 m2 c2)).put (some 68) v8).put (some 14) v8 ∧ SlB w' v8 (l ++ y2 :: zs) ∧ blk w' w1.heap.size #[.slice A1 l.length cap1, .int .u8 x1, .int .i64 90, .slice A1 l.length cap1, .int .u8 y2, .int .i64 80] 57 ∧ blk w' wm.heap.size #[.slice A1 l.length cap1, .int .u8 y2, .int .i64 80] 57 ∧ Below w1.heap.size w1 w') ?_ ?_
  · clear k2
    refine wp_region_any (by kernel_rfl) ?_
    change wpAny _ _ _ _ _ _ _ (World.drew _)
    refine wpAny_take (i := 0) (v := ?v0b) rfl (by kernel_rfl) (by kernel_rfl) (by kernel_rfl) (fun _ _ _ h => by cases h.1) (Or.inl ⟨by rfl, ?y0b⟩) ?r0b
    case y0b => intro W; go_simp; try with_reducible rfl
    go_simp
    refine wpAny_take (i := 3) (v := ?v3b) rfl (by kernel_rfl) (by kernel_rfl) (by kernel_rfl) (fun _ _ _ h => by cases h.1) (Or.inl ⟨by rfl, ?y3b⟩) ?r3b
    case y3b => intro W; go_simp; try with_reducible rfl
    go_simp
    refine wpAny_take (i := 7) (v := ?v7b) rfl (by kernel_rfl) (by kernel_rfl) (by kernel_rfl) (fun _ _ _ h => by cases h.1) (Or.inl ⟨by rfl, ?y7b⟩) ?r7b
    case y7b => intro W; go_simp; try with_reducible rfl
    go_simp
    refine wpAny_ready (rs := [1, 4]) (by kernel_rfl) (by simp) ?_
    refine AllReady.cons rfl (fun K hK => ?_) ?_
    · go_simp
      refine hK _ _ ?_; clear hK K
      refine wpAny_ready (rs := [2, 4]) (by kernel_rfl) (by simp) ?_
      refine AllReady.cons rfl (fun K hK => ?_) ?_
      · go_simp
        go_at_call 24
        refine (HCL.out _ (by repeat (first | (with_reducible exact cbr) | ((with_reducible refine below_grow ?_ ?_); rotate_left; focus (first | omega | (simp [go_sem]; done) | (simp [go_sem]; omega))) | ((with_reducible refine Below.alloc ?_ ?_ _); rotate_left; focus (first | omega | (simp [go_sem]; done) | (simp [go_sem]; omega))) | ((with_reducible refine Below.setCell ?_ ?_ _); rotate_left; focus (first | omega | (simp [go_sem]; done) | (simp [go_sem]; omega))) | (with_reducible refine Below.drew ?_) | (with_reducible refine below_drewN _ ?_)))).mono ?_
        rintro e w4 ⟨⟨v4, rfl, hrow4⟩, hb4⟩
        obtain ⟨o7, j7, rfl⟩ := grow_of_below hb4
        clear hb4
        simp only []
        refine hK _ _ ?_; clear hK K
        refine wpAny_ready (rs := [4]) (by kernel_rfl) (by simp) ?_
        refine AllReady.cons rfl (fun K hK => ?_) AllReady.nil
        go_simp
        refine hK _ _ ?_; clear hK K
        refine wpAny_ready (rs := [5]) (by kernel_rfl) (by simp) ?_
        refine AllReady.cons rfl (fun K hK => ?_) AllReady.nil
        go_simp
        refine hK _ _ ?_; clear hK K
        refine wpAny_ready (rs := [6]) (by kernel_rfl) (by simp) ?_
        refine AllReady.cons rfl (fun K hK => ?_) AllReady.nil
        refine ready_append rfl _ _ rfl v4 _ rfl rfl ⟨_, _, _, [y2], (by first | exact hrow4 | exact hrow4.alloc _), slb_one (by simp [go_sem]) (by first | (simp [go_sem]; done) | (simp [go_sem]; omega)), (by simp; omega), (by first | (simp [go_sem]; done) | (simp [go_sem]; omega)), ?_⟩
        intro v7 w7 hown7 hb7
        refine hK _ _ ?_; clear hK K
        refine wpAny_ready (rs := [8]) (by kernel_rfl) (by simp) ?_
        refine AllReady.cons rfl (fun K hK => ?_) AllReady.nil
        have hs7 := hb7.size
        simp [go_sem] at hs7
        refine ready_append rfl _ _ rfl v7 _ rfl rfl ⟨_, _, _, zs, hown7, HZ.out _ (Below.trans (show Below w1.heap.size w1 _ by repeat (first | (with_reducible exact cbr) | ((with_reducible refine below_grow ?_ ?_); rotate_left; focus (first | omega | (simp [go_sem]; done) | (simp [go_sem]; omega))) | ((with_reducible refine Below.alloc ?_ ?_ _); rotate_left; focus (first | omega | (simp [go_sem]; done) | (simp [go_sem]; omega))) | ((with_reducible refine Below.setCell ?_ ?_ _); rotate_left; focus (first | omega | (simp [go_sem]; done) | (simp [go_sem]; omega))) | (with_reducible refine Below.drew ?_) | (with_reducible refine below_drewN _ ?_))) (hb7.mono (by simp [go_sem]; omega))), (by simp; omega), (by simp [go_sem]; omega), ?_⟩
        intro v8 w8 hown8 hb8
        refine hK _ _ ?_; clear hK K
        refine wpAny_ready (rs := [9]) (by kernel_rfl) (by simp) ?_
        refine AllReady.cons rfl (fun K hK => ?_) AllReady.nil
        go_simp
        refine hK _ _ ?_; clear hK K
        refine wpAny_done (by kernel_rfl) ?_ _
        refine ⟨rfl, v4, _, v7, v8, by rfl, ?_, blk_below (blk_below (show blk _ w1.heap.size _ _ by repeat (first | (with_reducible exact b6) | (with_reducible exact set4 b6 _ _ _ _) | (with_reducible refine blk_grow ?_ _ _) | (with_reducible refine blk_alloc ?_ _) | (with_reducible refine blk_drew ?_) | (with_reducible refine blk_other ?_ (by (first | omega | (simp [go_sem]; done) | (simp [go_sem]; omega))) _))) hb7 (by simp [go_sem]; omega)) hb8 (by simp [go_sem]; omega), blk_below (blk_below (show blk _ wm.heap.size _ _ by repeat (first | (with_reducible exact b3) | (with_reducible exact set4 b3 _ _ _ _) | (with_reducible refine blk_grow ?_ _ _) | (with_reducible refine blk_alloc ?_ _) | (with_reducible refine blk_drew ?_) | (with_reducible refine blk_other ?_ (by (first | omega | (simp [go_sem]; done) | (simp [go_sem]; omega))) _))) hb7 (by simp [go_sem]; omega)) hb8 (by simp [go_sem]; omega), Below.trans (Below.trans (show Below w1.heap.size w1 _ by repeat (first | (with_reducible exact cbr) | ((with_reducible refine below_grow ?_ ?_); rotate_left; focus (first | omega | (simp [go_sem]; done) | (simp [go_sem]; omega))) | ((with_reducible refine Below.alloc ?_ ?_ _); rotate_left; focus (first | omega | (simp [go_sem]; done) | (simp [go_sem]; omega))) | ((with_reducible refine Below.setCell ?_ ?_ _); rotate_left; focus (first | omega | (simp [go_sem]; done) | (simp [go_sem]; omega))) | (with_reducible refine Below.drew ?_) | (with_reducible refine below_drewN _ ?_))) (hb7.mono (by simp [go_sem]; omega))) (hb8.mono (by simp [go_sem]; omega))⟩
        exact (slb_own (xs := l ++ y2 :: zs) (by rw [show (l ++ y2 :: zs).map u8v = (l.map u8v ++ [y2].map u8v) ++ zs.map u8v by simp]; exact hown8)).1
      refine AllReady.cons rfl (fun K hK => ?_) AllReady.nil
      go_simp
      refine hK _ _ ?_; clear hK K
      refine wpAny_ready (rs := [2, 5]) (by kernel_rfl) (by simp) ?_
      refine AllReady.cons rfl (fun K hK => ?_) ?_
      · go_simp
        go_at_call 24
        refine (HCL.out _ (by repeat (first | (with_reducible exact cbr) | ((with_reducible refine below_grow ?_ ?_); rotate_left; focus (first | omega | (simp [go_sem]; done) | (simp [go_sem]; omega))) | ((with_reducible refine Below.alloc ?_ ?_ _); rotate_left; focus (first | omega | (simp [go_sem]; done) | (simp [go_sem]; omega))) | ((with_reducible refine Below.setCell ?_ ?_ _); rotate_left; focus (first | omega | (simp [go_sem]; done) | (simp [go_sem]; omega))) | (with_reducible refine Below.drew ?_) | (with_reducible refine below_drewN _ ?_)))).mono ?_
        rintro e w4 ⟨⟨v4, rfl, hrow4⟩, hb4⟩
        obtain ⟨o7, j7, rfl⟩ := grow_of_below hb4
        clear hb4
        simp only []
        refine hK _ _ ?_; clear hK K
        refine wpAny_ready (rs := [5]) (by kernel_rfl) (by simp) ?_
        refine AllReady.cons rfl (fun K hK => ?_) AllReady.nil
        go_simp
        refine hK _ _ ?_; clear hK K
        refine wpAny_ready (rs := [6]) (by kernel_rfl) (by simp) ?_
        refine AllReady.cons rfl (fun K hK => ?_) AllReady.nil
        refine ready_append rfl _ _ rfl v4 _ rfl rfl ⟨_, _, _, [y2], (by first | exact hrow4 | exact hrow4.alloc _), slb_one (by simp [go_sem]) (by first | (simp [go_sem]; done) | (simp [go_sem]; omega)), (by simp; omega), (by first | (simp [go_sem]; done) | (simp [go_sem]; omega)), ?_⟩
        intro v7 w7 hown7 hb7
        refine hK _ _ ?_; clear hK K
        refine wpAny_ready (rs := [8]) (by kernel_rfl) (by simp) ?_
        refine AllReady.cons rfl (fun K hK => ?_) AllReady.nil
        have hs7 := hb7.size
        simp [go_sem] at hs7
        refine ready_append rfl _ _ rfl v7 _ rfl rfl ⟨_, _, _, zs, hown7, HZ.out _ (Below.trans (show Below w1.heap.size w1 _ by repeat (first | (with_reducible exact cbr) | ((with_reducible refine below_grow ?_ ?_); rotate_left; focus (first | omega | (simp [go_sem]; done) | (simp [go_sem]; omega))) | ((with_reducible refine Below.alloc ?_ ?_ _); rotate_left; focus (first | omega | (simp [go_sem]; done) | (simp [go_sem]; omega))) | ((with_reducible refine Below.setCell ?_ ?_ _); rotate_left; focus (first | omega | (simp [go_sem]; done) | (simp [go_sem]; omega))) | (with_reducible refine Below.drew ?_) | (with_reducible refine below_drewN _ ?_))) (hb7.mono (by simp [go_sem]; omega))), (by simp; omega), (by simp [go_sem]; omega), ?_⟩
        intro v8 w8 hown8 hb8
        refine hK _ _ ?_; clear hK K
        refine wpAny_ready (rs := [9]) (by kernel_rfl) (by simp) ?_
        refine AllReady.cons rfl (fun K hK => ?_) AllReady.nil
        go_simp
        refine hK _ _ ?_; clear hK K
        refine wpAny_done (by kernel_rfl) ?_ _
        refine ⟨rfl, v4, _, v7, v8, by rfl, ?_, blk_below (blk_below (show blk _ w1.heap.size _ _ by repeat (first | (with_reducible exact b6) | (with_reducible exact set4 b6 _ _ _ _) | (with_reducible refine blk_grow ?_ _ _) | (with_reducible refine blk_alloc ?_ _) | (with_reducible refine blk_drew ?_) | (with_reducible refine blk_other ?_ (by (first | omega | (simp [go_sem]; done) | (simp [go_sem]; omega))) _))) hb7 (by simp [go_sem]; omega)) hb8 (by simp [go_sem]; omega), blk_below (blk_below (show blk _ wm.heap.size _ _ by repeat (first | (with_reducible exact b3) | (with_reducible exact set4 b3 _ _ _ _) | (with_reducible refine blk_grow ?_ _ _) | (with_reducible refine blk_alloc ?_ _) | (with_reducible refine blk_drew ?_) | (with_reducible refine blk_other ?_ (by (first | omega | (simp [go_sem]; done) | (simp [go_sem]; omega))) _))) hb7 (by simp [go_sem]; omega)) hb8 (by simp [go_sem]; omega), Below.trans (Below.trans (show Below w1.heap.size w1 _ by repeat (first | (with_reducible exact cbr) | ((with_reducible refine below_grow ?_ ?_); rotate_left; focus (first | omega | (simp [go_sem]; done) | (simp [go_sem]; omega))) | ((with_reducible refine Below.alloc ?_ ?_ _); rotate_left; focus (first | omega | (simp [go_sem]; done) | (simp [go_sem]; omega))) | ((with_reducible refine Below.setCell ?_ ?_ _); rotate_left; focus (first | omega | (simp [go_sem]; done) | (simp [go_sem]; omega))) | (with_reducible refine Below.drew ?_) | (with_reducible refine below_drewN _ ?_))) (hb7.mono (by simp [go_sem]; omega))) (hb8.mono (by simp [go_sem]; omega))⟩
        exact (slb_own (xs := l ++ y2 :: zs) (by rw [show (l ++ y2 :: zs).map u8v = (l.map u8v ++ [y2].map u8v) ++ zs.map u8v by simp]; exact hown8)).1
      refine AllReady.cons rfl (fun K hK => ?_) AllReady.nil
      go_simp
      refine hK _ _ ?_; clear hK K
      refine wpAny_ready (rs := [2]) (by kernel_rfl) (by simp) ?_
      refine AllReady.cons rfl (fun K hK => ?_) AllReady.nil
      go_simp
      go_at_call 24
      refine (HCL.out _ (by repeat (first | (with_reducible exact cbr) | ((with_reducible refine below_grow ?_ ?_); rotate_left; focus (first | omega | (simp [go_sem]; done) | (simp [go_sem]; omega))) | ((with_reducible refine Below.alloc ?_ ?_ _); rotate_left; focus (first | omega | (simp [go_sem]; done) | (simp [go_sem]; omega))) | ((with_reducible refine Below.setCell ?_ ?_ _); rotate_left; focus (first | omega | (simp [go_sem]; done) | (simp [go_sem]; omega))) | (with_reducible refine Below.drew ?_) | (with_reducible refine below_drewN _ ?_)))).mono ?_
      rintro e w4 ⟨⟨v4, rfl, hrow4⟩, hb4⟩
      obtain ⟨o7, j7, rfl⟩ := grow_of_below hb4
      clear hb4
      simp only []
      refine hK _ _ ?_; clear hK K
      refine wpAny_ready (rs := [6]) (by kernel_rfl) (by simp) ?_
      refine AllReady.cons rfl (fun K hK => ?_) AllReady.nil
      refine ready_append rfl _ _ rfl v4 _ rfl rfl ⟨_, _, _, [y2], (by first | exact hrow4 | exact hrow4.alloc _), slb_one (by simp [go_sem]) (by first | (simp [go_sem]; done) | (simp [go_sem]; omega)), (by simp; omega), (by first | (simp [go_sem]; done) | (simp [go_sem]; omega)), ?_⟩
      intro v7 w7 hown7 hb7
      refine hK _ _ ?_; clear hK K
      refine wpAny_ready (rs := [8]) (by kernel_rfl) (by simp) ?_
      refine AllReady.cons rfl (fun K hK => ?_) AllReady.nil
      have hs7 := hb7.size
      simp [go_sem] at hs7
      refine ready_append rfl _ _ rfl v7 _ rfl rfl ⟨_, _, _, zs, hown7, HZ.out _ (Below.trans (show Below w1.heap.size w1 _ by repeat (first | (with_reducible exact cbr) | ((with_reducible refine below_grow ?_ ?_); rotate_left; focus (first | omega | (simp [go_sem]; done) | (simp [go_sem]; omega))) | ((with_reducible refine Below.alloc ?_ ?_ _); rotate_left; focus (first | omega | (simp [go_sem]; done) | (simp [go_sem]; omega))) | ((with_reducible refine Below.setCell ?_ ?_ _); rotate_left; focus (first | omega | (simp [go_sem]; done) | (simp [go_sem]; omega))) | (with_reducible refine Below.drew ?_) | (with_reducible refine below_drewN _ ?_))) (hb7.mono (by simp [go_sem]; omega))), (by simp; omega), (by simp [go_sem]; omega), ?_⟩
      intro v8 w8 hown8 hb8
      refine hK _ _ ?_; clear hK K
      refine wpAny_ready (rs := [9]) (by kernel_rfl) (by simp) ?_
      refine AllReady.cons rfl (fun K hK => ?_) AllReady.nil
      go_simp
      refine hK _ _ ?_; clear hK K
      refine wpAny_done (by kernel_rfl) ?_ _
      refine ⟨rfl, v4, _, v7, v8, by rfl, ?_, blk_below (blk_below (show blk _ w1.heap.size _ _ by repeat (first | (with_reducible exact b6) | (with_reducible exact set4 b6 _ _ _ _) | (with_reducible refine blk_grow ?_ _ _) | (with_reducible refine blk_alloc ?_ _) | (with_reducible refine blk_drew ?_) | (with_reducible refine blk_other ?_ (by (first | omega | (simp [go_sem]; done) | (simp [go_sem]; omega))) _))) hb7 (by simp [go_sem]; omega)) hb8 (by simp [go_sem]; omega), blk_below (blk_below (show blk _ wm.heap.size _ _ by repeat (first | (with_reducible exact b3) | (with_reducible exact set4 b3 _ _ _ _) | (with_reducible refine blk_grow ?_ _ _) | (with_reducible refine blk_alloc ?_ _) | (with_reducible refine blk_drew ?_) | (with_reducible refine blk_other ?_ (by (first | omega | (simp [go_sem]; done) | (simp [go_sem]; omega))) _))) hb7 (by simp [go_sem]; omega)) hb8 (by simp [go_sem]; omega), Below.trans (Below.trans (show Below w1.heap.size w1 _ by repeat (first | (with_reducible exact cbr) | ((with_reducible refine below_grow ?_ ?_); rotate_left; focus (first | omega | (simp [go_sem]; done) | (simp [go_sem]; omega))) | ((with_reducible refine Below.alloc ?_ ?_ _); rotate_left; focus (first | omega | (simp [go_sem]; done) | (simp [go_sem]; omega))) | ((with_reducible refine Below.setCell ?_ ?_ _); rotate_left; focus (first | omega | (simp [go_sem]; done) | (simp [go_sem]; omega))) | (with_reducible refine Below.drew ?_) | (with_reducible refine below_drewN _ ?_))) (hb7.mono (by simp [go_sem]; omega))) (hb8.mono (by simp [go_sem]; omega))⟩
      exact (slb_own (xs := l ++ y2 :: zs) (by rw [show (l ++ y2 :: zs).map u8v = (l.map u8v ++ [y2].map u8v) ++ zs.map u8v by simp]; exact hown8)).1
    refine AllReady.cons rfl (fun K hK => ?_) AllReady.nil
    go_simp
    refine hK _ _ ?_; clear hK K
    refine wpAny_ready (rs := [1, 5]) (by kernel_rfl) (by simp) ?_
    refine AllReady.cons rfl (fun K hK => ?_) ?_
    · go_simp
      refine hK _ _ ?_; clear hK K
      refine wpAny_ready (rs := [2, 5]) (by kernel_rfl) (by simp) ?_
      refine AllReady.cons rfl (fun K hK => ?_) ?_
      · go_simp
        go_at_call 24
        refine (HCL.out _ (by repeat (first | (with_reducible exact cbr) | ((with_reducible refine below_grow ?_ ?_); rotate_left; focus (first | omega | (simp [go_sem]; done) | (simp [go_sem]; omega))) | ((with_reducible refine Below.alloc ?_ ?_ _); rotate_left; focus (first | omega | (simp [go_sem]; done) | (simp [go_sem]; omega))) | ((with_reducible refine Below.setCell ?_ ?_ _); rotate_left; focus (first | omega | (simp [go_sem]; done) | (simp [go_sem]; omega))) | (with_reducible refine Below.drew ?_) | (with_reducible refine below_drewN _ ?_)))).mono ?_
        rintro e w4 ⟨⟨v4, rfl, hrow4⟩, hb4⟩
        obtain ⟨o7, j7, rfl⟩ := grow_of_below hb4
        clear hb4
        simp only []
        refine hK _ _ ?_; clear hK K
        refine wpAny_ready (rs := [5]) (by kernel_rfl) (by simp) ?_
        refine AllReady.cons rfl (fun K hK => ?_) AllReady.nil
        go_simp
        refine hK _ _ ?_; clear hK K
        refine wpAny_ready (rs := [6]) (by kernel_rfl) (by simp) ?_
        refine AllReady.cons rfl (fun K hK => ?_) AllReady.nil
        refine ready_append rfl _ _ rfl v4 _ rfl rfl ⟨_, _, _, [y2], (by first | exact hrow4 | exact hrow4.alloc _), slb_one (by simp [go_sem]) (by first | (simp [go_sem]; done) | (simp [go_sem]; omega)), (by simp; omega), (by first | (simp [go_sem]; done) | (simp [go_sem]; omega)), ?_⟩
        intro v7 w7 hown7 hb7
        refine hK _ _ ?_; clear hK K
        refine wpAny_ready (rs := [8]) (by kernel_rfl) (by simp) ?_
        refine AllReady.cons rfl (fun K hK => ?_) AllReady.nil
        have hs7 := hb7.size
        simp [go_sem] at hs7
        refine ready_append rfl _ _ rfl v7 _ rfl rfl ⟨_, _, _, zs, hown7, HZ.out _ (Below.trans (show Below w1.heap.size w1 _ by repeat (first | (with_reducible exact cbr) | ((with_reducible refine below_grow ?_ ?_); rotate_left; focus (first | omega | (simp [go_sem]; done) | (simp [go_sem]; omega))) | ((with_reducible refine Below.alloc ?_ ?_ _); rotate_left; focus (first | omega | (simp [go_sem]; done) | (simp [go_sem]; omega))) | ((with_reducible refine Below.setCell ?_ ?_ _); rotate_left; focus (first | omega | (simp [go_sem]; done) | (simp [go_sem]; omega))) | (with_reducible refine Below.drew ?_) | (with_reducible refine below_drewN _ ?_))) (hb7.mono (by simp [go_sem]; omega))), (by simp; omega), (by simp [go_sem]; omega), ?_⟩
        intro v8 w8 hown8 hb8
        refine hK _ _ ?_; clear hK K
        refine wpAny_ready (rs := [9]) (by kernel_rfl) (by simp) ?_
        refine AllReady.cons rfl (fun K hK => ?_) AllReady.nil
        go_simp
        refine hK _ _ ?_; clear hK K
        refine wpAny_done (by kernel_rfl) ?_ _
        refine ⟨rfl, v4, _, v7, v8, by rfl, ?_, blk_below (blk_below (show blk _ w1.heap.size _ _ by repeat (first | (with_reducible exact b6) | (with_reducible exact set4 b6 _ _ _ _) | (with_reducible refine blk_grow ?_ _ _) | (with_reducible refine blk_alloc ?_ _) | (with_reducible refine blk_drew ?_) | (with_reducible refine blk_other ?_ (by (first | omega | (simp [go_sem]; done) | (simp [go_sem]; omega))) _))) hb7 (by simp [go_sem]; omega)) hb8 (by simp [go_sem]; omega), blk_below (blk_below (show blk _ wm.heap.size _ _ by repeat (first | (with_reducible exact b3) | (with_reducible exact set4 b3 _ _ _ _) | (with_reducible refine blk_grow ?_ _ _) | (with_reducible refine blk_alloc ?_ _) | (with_reducible refine blk_drew ?_) | (with_reducible refine blk_other ?_ (by (first | omega | (simp [go_sem]; done) | (simp [go_sem]; omega))) _))) hb7 (by simp [go_sem]; omega)) hb8 (by simp [go_sem]; omega), Below.trans (Below.trans (show Below w1.heap.size w1 _ by repeat (first | (with_reducible exact cbr) | ((with_reducible refine below_grow ?_ ?_); rotate_left; focus (first | omega | (simp [go_sem]; done) | (simp [go_sem]; omega))) | ((with_reducible refine Below.alloc ?_ ?_ _); rotate_left; focus (first | omega | (simp [go_sem]; done) | (simp [go_sem]; omega))) | ((with_reducible refine Below.setCell ?_ ?_ _); rotate_left; focus (first | omega | (simp [go_sem]; done) | (simp [go_sem]; omega))) | (with_reducible refine Below.drew ?_) | (with_reducible refine below_drewN _ ?_))) (hb7.mono (by simp [go_sem]; omega))) (hb8.mono (by simp [go_sem]; omega))⟩
        exact (slb_own (xs := l ++ y2 :: zs) (by rw [show (l ++ y2 :: zs).map u8v = (l.map u8v ++ [y2].map u8v) ++ zs.map u8v by simp]; exact hown8)).1
      refine AllReady.cons rfl (fun K hK => ?_) AllReady.nil
      go_simp
      refine hK _ _ ?_; clear hK K
      refine wpAny_ready (rs := [2]) (by kernel_rfl) (by simp) ?_
      refine AllReady.cons rfl (fun K hK => ?_) AllReady.nil
      go_simp
      go_at_call 24
      refine (HCL.out _ (by repeat (first | (with_reducible exact cbr) | ((with_reducible refine below_grow ?_ ?_); rotate_left; focus (first | omega | (simp [go_sem]; done) | (simp [go_sem]; omega))) | ((with_reducible refine Below.alloc ?_ ?_ _); rotate_left; focus (first | omega | (simp [go_sem]; done) | (simp [go_sem]; omega))) | ((with_reducible refine Below.setCell ?_ ?_ _); rotate_left; focus (first | omega | (simp [go_sem]; done) | (simp [go_sem]; omega))) | (with_reducible refine Below.drew ?_) | (with_reducible refine below_drewN _ ?_)))).mono ?_
      rintro e w4 ⟨⟨v4, rfl, hrow4⟩, hb4⟩
      obtain ⟨o7, j7, rfl⟩ := grow_of_below hb4
      clear hb4
      simp only []
      refine hK _ _ ?_; clear hK K
      refine wpAny_ready (rs := [6]) (by kernel_rfl) (by simp) ?_
      refine AllReady.cons rfl (fun K hK => ?_) AllReady.nil
      refine ready_append rfl _ _ rfl v4 _ rfl rfl ⟨_, _, _, [y2], (by first | exact hrow4 | exact hrow4.alloc _), slb_one (by simp [go_sem]) (by first | (simp [go_sem]; done) | (simp [go_sem]; omega)), (by simp; omega), (by first | (simp [go_sem]; done) | (simp [go_sem]; omega)), ?_⟩
      intro v7 w7 hown7 hb7
      refine hK _ _ ?_; clear hK K
      refine wpAny_ready (rs := [8]) (by kernel_rfl) (by simp) ?_
      refine AllReady.cons rfl (fun K hK => ?_) AllReady.nil
      have hs7 := hb7.size
      simp [go_sem] at hs7
      refine ready_append rfl _ _ rfl v7 _ rfl rfl ⟨_, _, _, zs, hown7, HZ.out _ (Below.trans (show Below w1.heap.size w1 _ by repeat (first | (with_reducible exact cbr) | ((with_reducible refine below_grow ?_ ?_); rotate_left; focus (first | omega | (simp [go_sem]; done) | (simp [go_sem]; omega))) | ((with_reducible refine Below.alloc ?_ ?_ _); rotate_left; focus (first | omega | (simp [go_sem]; done) | (simp [go_sem]; omega))) | ((with_reducible refine Below.setCell ?_ ?_ _); rotate_left; focus (first | omega | (simp [go_sem]; done) | (simp [go_sem]; omega))) | (with_reducible refine Below.drew ?_) | (with_reducible refine below_drewN _ ?_))) (hb7.mono (by simp [go_sem]; omega))), (by simp; omega), (by simp [go_sem]; omega), ?_⟩
      intro v8 w8 hown8 hb8
      refine hK _ _ ?_; clear hK K
      refine wpAny_ready (rs := [9]) (by kernel_rfl) (by simp) ?_
      refine AllReady.cons rfl (fun K hK => ?_) AllReady.nil
      go_simp
      refine hK _ _ ?_; clear hK K
      refine wpAny_done (by kernel_rfl) ?_ _
      refine ⟨rfl, v4, _, v7, v8, by rfl, ?_, blk_below (blk_below (show blk _ w1.heap.size _ _ by repeat (first | (with_reducible exact b6) | (with_reducible exact set4 b6 _ _ _ _) | (with_reducible refine blk_grow ?_ _ _) | (with_reducible refine blk_alloc ?_ _) | (with_reducible refine blk_drew ?_) | (with_reducible refine blk_other ?_ (by (first | omega | (simp [go_sem]; done) | (simp [go_sem]; omega))) _))) hb7 (by simp [go_sem]; omega)) hb8 (by simp [go_sem]; omega), blk_below (blk_below (show blk _ wm.heap.size _ _ by repeat (first | (with_reducible exact b3) | (with_reducible exact set4 b3 _ _ _ _) | (with_reducible refine blk_grow ?_ _ _) | (with_reducible refine blk_alloc ?_ _) | (with_reducible refine blk_drew ?_) | (with_reducible refine blk_other ?_ (by (first | omega | (simp [go_sem]; done) | (simp [go_sem]; omega))) _))) hb7 (by simp [go_sem]; omega)) hb8 (by simp [go_sem]; omega), Below.trans (Below.trans (show Below w1.heap.size w1 _ by repeat (first | (with_reducible exact cbr) | ((with_reducible refine below_grow ?_ ?_); rotate_left; focus (first | omega | (simp [go_sem]; done) | (simp [go_sem]; omega))) | ((with_reducible refine Below.alloc ?_ ?_ _); rotate_left; focus (first | omega | (simp [go_sem]; done) | (simp [go_sem]; omega))) | ((with_reducible refine Below.setCell ?_ ?_ _); rotate_left; focus (first | omega | (simp [go_sem]; done) | (simp [go_sem]; omega))) | (with_reducible refine Below.drew ?_) | (with_reducible refine below_drewN _ ?_))) (hb7.mono (by simp [go_sem]; omega))) (hb8.mono (by simp [go_sem]; omega))⟩
      exact (slb_own (xs := l ++ y2 :: zs) (by rw [show (l ++ y2 :: zs).map u8v = (l.map u8v ++ [y2].map u8v) ++ zs.map u8v by simp]; exact hown8)).1
    refine AllReady.cons rfl (fun K hK => ?_) AllReady.nil
    go_simp
    refine hK _ _ ?_; clear hK K
    refine wpAny_ready (rs := [1]) (by kernel_rfl) (by simp) ?_
    refine AllReady.cons rfl (fun K hK => ?_) AllReady.nil
    go_simp
    refine hK _ _ ?_; clear hK K
    refine wpAny_ready (rs := [2]) (by kernel_rfl) (by simp) ?_
    refine AllReady.cons rfl (fun K hK => ?_) AllReady.nil
    go_simp
    go_at_call 24
    refine (HCL.out _ (by repeat (first | (with_reducible exact cbr) | ((with_reducible refine below_grow ?_ ?_); rotate_left; focus (first | omega | (simp [go_sem]; done) | (simp [go_sem]; omega))) | ((with_reducible refine Below.alloc ?_ ?_ _); rotate_left; focus (first | omega | (simp [go_sem]; done) | (simp [go_sem]; omega))) | ((with_reducible refine Below.setCell ?_ ?_ _); rotate_left; focus (first | omega | (simp [go_sem]; done) | (simp [go_sem]; omega))) | (with_reducible refine Below.drew ?_) | (with_reducible refine below_drewN _ ?_)))).mono ?_
    rintro e w4 ⟨⟨v4, rfl, hrow4⟩, hb4⟩
    obtain ⟨o7, j7, rfl⟩ := grow_of_below hb4
    clear hb4
    simp only []
    refine hK _ _ ?_; clear hK K
    refine wpAny_ready (rs := [6]) (by kernel_rfl) (by simp) ?_
    refine AllReady.cons rfl (fun K hK => ?_) AllReady.nil
    refine ready_append rfl _ _ rfl v4 _ rfl rfl ⟨_, _, _, [y2], (by first | exact hrow4 | exact hrow4.alloc _), slb_one (by simp [go_sem]) (by first | (simp [go_sem]; done) | (simp [go_sem]; omega)), (by simp; omega), (by first | (simp [go_sem]; done) | (simp [go_sem]; omega)), ?_⟩
    intro v7 w7 hown7 hb7
    refine hK _ _ ?_; clear hK K
    refine wpAny_ready (rs := [8]) (by kernel_rfl) (by simp) ?_
    refine AllReady.cons rfl (fun K hK => ?_) AllReady.nil
    have hs7 := hb7.size
    simp [go_sem] at hs7
    refine ready_append rfl _ _ rfl v7 _ rfl rfl ⟨_, _, _, zs, hown7, HZ.out _ (Below.trans (show Below w1.heap.size w1 _ by repeat (first | (with_reducible exact cbr) | ((with_reducible refine below_grow ?_ ?_); rotate_left; focus (first | omega | (simp [go_sem]; done) | (simp [go_sem]; omega))) | ((with_reducible refine Below.alloc ?_ ?_ _); rotate_left; focus (first | omega | (simp [go_sem]; done) | (simp [go_sem]; omega))) | ((with_reducible refine Below.setCell ?_ ?_ _); rotate_left; focus (first | omega | (simp [go_sem]; done) | (simp [go_sem]; omega))) | (with_reducible refine Below.drew ?_) | (with_reducible refine below_drewN _ ?_))) (hb7.mono (by simp [go_sem]; omega))), (by simp; omega), (by simp [go_sem]; omega), ?_⟩
    intro v8 w8 hown8 hb8
    refine hK _ _ ?_; clear hK K
    refine wpAny_ready (rs := [9]) (by kernel_rfl) (by simp) ?_
    refine AllReady.cons rfl (fun K hK => ?_) AllReady.nil
    go_simp
    refine hK _ _ ?_; clear hK K
    refine wpAny_done (by kernel_rfl) ?_ _
    refine ⟨rfl, v4, _, v7, v8, by rfl, ?_, blk_below (blk_below (show blk _ w1.heap.size _ _ by repeat (first | (with_reducible exact b6) | (with_reducible exact set4 b6 _ _ _ _) | (with_reducible refine blk_grow ?_ _ _) | (with_reducible refine blk_alloc ?_ _) | (with_reducible refine blk_drew ?_) | (with_reducible refine blk_other ?_ (by (first | omega | (simp [go_sem]; done) | (simp [go_sem]; omega))) _))) hb7 (by simp [go_sem]; omega)) hb8 (by simp [go_sem]; omega), blk_below (blk_below (show blk _ wm.heap.size _ _ by repeat (first | (with_reducible exact b3) | (with_reducible exact set4 b3 _ _ _ _) | (with_reducible refine blk_grow ?_ _ _) | (with_reducible refine blk_alloc ?_ _) | (with_reducible refine blk_drew ?_) | (with_reducible refine blk_other ?_ (by (first | omega | (simp [go_sem]; done) | (simp [go_sem]; omega))) _))) hb7 (by simp [go_sem]; omega)) hb8 (by simp [go_sem]; omega), Below.trans (Below.trans (show Below w1.heap.size w1 _ by repeat (first | (with_reducible exact cbr) | ((with_reducible refine below_grow ?_ ?_); rotate_left; focus (first | omega | (simp [go_sem]; done) | (simp [go_sem]; omega))) | ((with_reducible refine Below.alloc ?_ ?_ _); rotate_left; focus (first | omega | (simp [go_sem]; done) | (simp [go_sem]; omega))) | ((with_reducible refine Below.setCell ?_ ?_ _); rotate_left; focus (first | omega | (simp [go_sem]; done) | (simp [go_sem]; omega))) | (with_reducible refine Below.drew ?_) | (with_reducible refine below_drewN _ ?_))) (hb7.mono (by simp [go_sem]; omega))) (hb8.mono (by simp [go_sem]; omega))⟩
    exact (slb_own (xs := l ++ y2 :: zs) (by rw [show (l ++ y2 :: zs).map u8v = (l.map u8v ++ [y2].map u8v) ++ zs.map u8v by simp]; exact hown8)).1
  rintro _ _ w8 ⟨rfl, v4, x5, v7, v8, rfl, hX, b6', b3', cb8⟩
  clear b6 b3 cbr k0 k1 k2 hq3 hsr this
  have k0 : w8.cell? ⟨wm.heap.size, 0, none⟩ = some (.slice A1 l.length cap1) := blk_cell b3' 0
  have k2 : w8.cell? ⟨wm.heap.size, 2, none⟩ = some (.int .i64 80) := blk_cell b3' 2
  haveI := inW_mk (blk_lt b3')
  have hs8 := cb8.size
  go_simp
  go_upto_region 10 with (go_at_call 23; refine (CK2.out _ _ hX).mono ?_; rintro e w9 ⟨rfl, hbel⟩; obtain ⟨o8, j8, rfl⟩ := grow_of_below hbel; clear hbel)
  go_upto_region 11 with (go_at_call 15; refine (TN2.out _ _ (slb_below hX (by repeat (first | (with_reducible exact Below.refl _ _) | ((with_reducible refine below_grow ?_ ?_); rotate_left; focus (first | omega | (simp [go_sem]; done) | (simp [go_sem]; omega))) | ((with_reducible refine Below.alloc ?_ ?_ _); rotate_left; focus (first | omega | (simp [go_sem]; done) | (simp [go_sem]; omega))) | ((with_reducible refine Below.setCell ?_ ?_ _); rotate_left; focus (first | omega | (simp [go_sem]; done) | (simp [go_sem]; omega))) | (with_reducible refine Below.drew ?_) | (with_reducible refine below_drewN _ ?_))))).mono ?_; rintro e w9 ⟨rfl, hbel⟩; obtain ⟨o9, j9, rfl⟩ := grow_of_below hbel; clear hbel)
  go_upto_region 12 with (go_at_call 25; refine (TB2.out _ _ (slb_below hX (by repeat (first | (with_reducible exact Below.refl _ _) | ((with_reducible refine below_grow ?_ ?_); rotate_left; focus (first | omega | (simp [go_sem]; done) | (simp [go_sem]; omega))) | ((with_reducible refine Below.alloc ?_ ?_ _); rotate_left; focus (first | omega | (simp [go_sem]; done) | (simp [go_sem]; omega))) | ((with_reducible refine Below.setCell ?_ ?_ _); rotate_left; focus (first | omega | (simp [go_sem]; done) | (simp [go_sem]; omega))) | (with_reducible refine Below.drew ?_) | (with_reducible refine below_drewN _ ?_))))).mono ?_; rintro e w9 ⟨rfl, hbel⟩; obtain ⟨o10, j10, rfl⟩ := grow_of_below hbel; clear hbel)
  clear CK2 TN2 TB2 hX
  go_wp2
  rw [rounds_succ]
  refine wp_keep (fun W => Below w1.heap.size w1 W) (by repeat (first | (with_reducible exact cb8) | ((with_reducible refine below_grow ?_ ?_); rotate_left; focus (first | omega | (simp [go_sem]; done) | (simp [go_sem]; omega))) | ((with_reducible refine Below.alloc ?_ ?_ _); rotate_left; focus (first | omega | (simp [go_sem]; done) | (simp [go_sem]; omega))) | ((with_reducible refine Below.setCell ?_ ?_ _); rotate_left; focus (first | omega | (simp [go_sem]; done) | (simp [go_sem]; omega))) | (with_reducible refine Below.drew ?_) | (with_reducible refine below_drewN _ ?_))) ?_
  intro wz cbz
  clear b6' b3' cb8 k0 k2 hs8 this cbm hsm
  have hsz := cbz.size
  have LA := Lib.hid (fun W (hb : Below w1.heap.size w1 W) => last_calls _ l HRT.out.lt (by omega) W (slb_below HS1.out hb))
  go_upto_region 15 with fail
  rcases St.run_la hd4 l s HRT.out.hr with ⟨hb0, hla⟩ | ⟨hbid, at', hla, hat, hseat⟩
  · rw [hla] at LA
    unfold laV at LA
    go_upto_region 16 with (go_at_call 20; refine (LA.out _ cbz).mono ?_; rintro e w9 ⟨rfl, rfl⟩)
    go_upto_region 21 with fail
    clear LA hla hb0
    have hz2 : n0 % 252 < 252 := Nat.mod_lt _ (by decide)
    obtain ⟨z2, hz2e⟩ : ∃ z, n0 % 252 = z := ⟨_, rfl⟩
    have s1 : (n0 : Int).tmod 252 = z2 := by rw [Int.tmod_eq_emod_of_nonneg (by omega)]; omega
    have s2 : IntKind.u8.wrap (z2 : Int) = z2 := u8_wrap (by omega) (by omega)
    obtain ⟨z3, hz3⟩ : ∃ z, 4 + z2 = z := ⟨_, rfl⟩
    have s3 : IntKind.u8.wrap ((4 : Int) + z2) = z3 := by rw [u8_wrap (by omega) (by omega)]; omega
    have hb3 : Bts z3 l := ⟨by omega, HRT.out.lt, by omega⟩
    have hw3 : Wg z3 l := .inl (by omega)
    have CK3 := Lib.hid (fun W (hb : Below w1.heap.size w1 W) => check_calls z3 _ l hb3 W (slb_below HS1.out hb))
    rw [if_neg (by omega)] at CK3
    have OV3 := Lib.hid (fun W (hb : Below w1.heap.size w1 W) => aover_no z3 _ l hw3 hb3 W (slb_below HS1.out hb))
    have CO3 := Lib.hid (fun W (hb : Below w1.heap.size w1 W) => contract_no z3 _ l hw3 hb3 W (slb_below HS1.out hb))
    unfold ctV at CO3
    simp only at CO3
    have EQ := fun w => eqCt 0 0 0 0 0 0 0 0 w
    clear hz2 hz2e hz3 hb3 hw3
    go_upto_region 22 with (go_at_call 23; refine (CK3.out _ (by repeat (first | (with_reducible exact cbz) | ((with_reducible refine below_grow ?_ ?_); rotate_left; focus (first | omega | (simp [go_sem]; done) | (simp [go_sem]; omega))) | ((with_reducible refine Below.alloc ?_ ?_ _); rotate_left; focus (first | omega | (simp [go_sem]; done) | (simp [go_sem]; omega))) | ((with_reducible refine Below.setCell ?_ ?_ _); rotate_left; focus (first | omega | (simp [go_sem]; done) | (simp [go_sem]; omega))) | (with_reducible refine Below.drew ?_) | (with_reducible refine below_drewN _ ?_)))).mono ?_; rintro e w9 ⟨rfl, hbel⟩; obtain ⟨o11, j11, rfl⟩ := grow_of_below hbel; clear hbel)
    go_upto_region 23 with (go_at_call 18; refine (OV3.out _ (by repeat (first | (with_reducible exact cbz) | ((with_reducible refine below_grow ?_ ?_); rotate_left; focus (first | omega | (simp [go_sem]; done) | (simp [go_sem]; omega))) | ((with_reducible refine Below.alloc ?_ ?_ _); rotate_left; focus (first | omega | (simp [go_sem]; done) | (simp [go_sem]; omega))) | ((with_reducible refine Below.setCell ?_ ?_ _); rotate_left; focus (first | omega | (simp [go_sem]; done) | (simp [go_sem]; omega))) | (with_reducible refine Below.drew ?_) | (with_reducible refine below_drewN _ ?_)))).mono ?_; rintro e w9 ⟨rfl, hbel⟩; obtain ⟨o12, j12, rfl⟩ := grow_of_below hbel; clear hbel)
    go_upto_region 24 with (go_at_call 19; refine (CO3.out _ (by repeat (first | (with_reducible exact cbz) | ((with_reducible refine below_grow ?_ ?_); rotate_left; focus (first | omega | (simp [go_sem]; done) | (simp [go_sem]; omega))) | ((with_reducible refine Below.alloc ?_ ?_ _); rotate_left; focus (first | omega | (simp [go_sem]; done) | (simp [go_sem]; omega))) | ((with_reducible refine Below.setCell ?_ ?_ _); rotate_left; focus (first | omega | (simp [go_sem]; done) | (simp [go_sem]; omega))) | (with_reducible refine Below.drew ?_) | (with_reducible refine below_drewN _ ?_)))).mono ?_; rintro e w9 ⟨rfl, hbel⟩; obtain ⟨o13, j13, rfl⟩ := grow_of_below hbel; clear hbel)
    go_wp2
    refine bodyPost_ret (by simp [results, Tryd.results9, go_sem]) rfl ⟨rfl, ?_⟩
    have hbw := HBW.out.trans (cbz.mono hs1)
    have hs2 := hbw.size
    repeat (first | (with_reducible exact hbw) | ((with_reducible refine below_grow ?_ ?_); rotate_left; focus (first | omega | (simp [go_sem]; done) | (simp [go_sem]; omega))) | ((with_reducible refine Below.alloc ?_ ?_ _); rotate_left; focus (first | omega | (simp [go_sem]; done) | (simp [go_sem]; omega))) | ((with_reducible refine Below.setCell ?_ ?_ _); rotate_left; focus (first | omega | (simp [go_sem]; done) | (simp [go_sem]; omega))) | (with_reducible refine Below.drew ?_) | (with_reducible refine below_drewN _ ?_))
  · rw [hla] at LA
    unfold laV at LA
    simp only at LA
    have hatn : at' < l.length := (List.getElem?_eq_some_iff.1 hat).1
    obtain ⟨u0, hu0, hrun0, ok0⟩ := HRT.out.part (at' + 1) (by omega)
    have HU : u0.bid = s.bid ∧ u0.over = false := by
      have h1 := hu0.hr
      rw [List.take_add_one, hat] at h1
      obtain ⟨u, h2, h3, h4⟩ := St.run_snoc_inv h1
      rw [St.take_bid hbid] at h4
      rw [h4]
      refine ⟨rfl, ?_⟩
      unfold St.over
      have := isb_iff.1 hbid
      rw [if_neg (by simp only; omega)]
      rfl
    obtain ⟨B, hB⟩ : ∃ B, s.bid = B := ⟨_, rfl⟩
    rw [hB] at hbid hat HU
    have hB3 := isb_iff.1 hbid
    obtain ⟨g, rfl⟩ : ∃ g, A1 = some ⟨g, 0, none⟩ := by
      obtain ⟨A, cap, e, hA⟩ := own_slice HROW.out
      simp only [Value.slice.injEq] at e
      obtain ⟨rfl, -, -⟩ := e
      exact hA.resolve_left (by omega)
    have kat : wz.cell? ⟨g, at', none⟩ = some (.int .u8 B) := by
      have h1 : w1.cell? ⟨g, at', none⟩ = some (.int .u8 B) := by rw [own_at HROW.out at' (by omega), List.getElem?_map, hat]; rfl
      exact (cbz.cell (p := ⟨g, at', none⟩) (World.block_lt_of_cell? w1 _ h1)).trans h1
    have hgz : g < wz.heap.size := World.block_lt_of_cell? wz _ kat
    haveI := inW_mk hgz
    obtain ⟨m, hm⟩ : ∃ m, B - 2 = m := ⟨_, rfl⟩
    have s1 : IntKind.u8.wrap ((B : Int) - 2) = m := by rw [u8_wrap (by omega) (by omega)]; omega
    have hm0 : ¬ (m : Int) = 0 := by omega
    have hm0n : ¬ m = 0 := by omega
    obtain ⟨r, hr⟩ : ∃ r, n0 % m = r := ⟨_, rfl⟩
    have hrm : r < m := by rw [← hr]; exact Nat.mod_lt _ (by omega)
    have s2 : (n0 : Int).tmod m = r := by rw [Int.tmod_eq_emod_of_nonneg (by omega), ← hr]; rfl
    have s3 : IntKind.u8.wrap (r : Int) = r := u8_wrap (by omega) (by omega)
    obtain ⟨x, hx⟩ : ∃ x, 3 + r = x := ⟨_, rfl⟩
    have s4 : IntKind.u8.wrap ((3 : Int) + r) = x := by rw [u8_wrap (by omega) (by omega)]; omega
    obtain ⟨k, hk⟩ : ∃ k, at' + 1 = k := ⟨_, rfl⟩
    have s5 : IntKind.i64.wrap ((at' : Int) + 1) = k := by rw [IntWalk.i64_in _ (by omega)]; omega
    obtain ⟨p', hsl, hSk⟩ := slb_cut HS1.out k (by omega)
    rw [hk] at hu0
    have hlk : (l.take k).length = k := by rw [List.length_take]; omega
    have href : u0.ref x = 2 := by
      have halw : u0.alw x = false := by
        unfold St.alw
        rw [if_neg (by omega), if_neg (by omega), if_neg (by omega), HU.1]
        exact decide_eq_false (by omega)
      unfold St.ref
      rw [if_pos (by omega), HU.2, halw]
      rfl
    have HCS := Lib.hid (fun W (hb : Below w1.heap.size w1 W) => clone_slb _ (l.take k) W (by omega) (by intro e; rw [e] at hlk; simp at hlk; omega) (slb_below hSk hb))
    have CKL := Lib.hid (fun W v5 (hS : SlB W v5 (l.take k ++ [x])) => check_at d v5 _ u0 hu0 x (by omega) W hS)
    rw [href, if_neg (by decide), hlk] at CKL
    rw [hlk] at HCS
    have hat2 : (at' : Int) < l.length := by omega
    have HLK := Lib.hid hlk
    have hkl : k ≤ 319 := by omega
    clear hla hat hseat hu0 hrun0 ok0 HU hB hbid hm hr hx hk href hSk
    go_upto_region 16 with (go_at_call 20; refine (LA.out _ cbz).mono ?_; rintro e w9 ⟨rfl, rfl⟩)
    go_upto_region 17 with fail
    refine wp_cut (fun a e a' w' => e = .normal ∧ ∃ v4 x5 v8 : Value, a' = (((((((((((((((a.put (some 122) (.slice (some ⟨g, 0, none⟩) l.length cap1)).put (some 123) (.int .i64 at')).put (some 124) (.int .i64 k)).put (some 125) (.slice p' k cap1)).put (some 126) v4).put (some 127) (.int .u8 n0)).put (some 128) (.slice (some ⟨g, 0, none⟩) l.length cap1)).put (some 129) (.int .i64 at')).put (some 130) (.pointer (some ⟨g, at', none⟩))).put (some 131) (.int .u8 B)).put (some 132) (.int .u8 m)).put (some 133) (.int .u8 r)).put (some 134) (.int .u8 x)).put (some 135) x5).put (some 136) v8).put (some 23) v8 ∧ SlB w' v8 (l.take k ++ [x]) ∧ Below w1.heap.size w1 w') ?_ ?_
    · clear LA
      refine wp_region_any (by kernel_rfl) ?_
      change wpAny _ _ _ _ _ _ _ (World.drew _)
      refine wpAny_take (i := 0) (v := ?v0c) rfl (by kernel_rfl) (by kernel_rfl) (by kernel_rfl) (fun _ _ _ h => by cases h.1) (Or.inl ⟨by rfl, ?y0c⟩) ?r0c
      case y0c => intro W; go_simp; try with_reducible rfl
      go_simp
      refine wpAny_take (i := 1) (v := ?v1c) rfl (by kernel_rfl) (by kernel_rfl) (by kernel_rfl) (fun _ _ _ h => by cases h.1) (Or.inl ⟨by rfl, ?y1c⟩) ?r1c
      case y1c => intro W; go_simp; try with_reducible rfl
      go_simp
      refine wpAny_take (i := 2) (v := ?v2c) rfl (by kernel_rfl) (by kernel_rfl) (by kernel_rfl) (fun _ _ _ h => by cases h.1) (Or.inl ⟨by rfl, ?y2c⟩) ?r2c
      case y2c => intro W; go_simp; try with_reducible rfl
      go_simp
      refine wpAny_take (i := 3) (v := ?v3c) rfl (by kernel_rfl) (by kernel_rfl) (by kernel_rfl) (fun _ _ _ h => by cases h.1) (Or.inl ⟨by rfl, ?y3c⟩) ?r3c
      case y3c => intro W; go_simp; try with_reducible rfl
      go_simp
      refine wpAny_take (i := 5) (v := ?v5c) rfl (by kernel_rfl) (by kernel_rfl) (by kernel_rfl) (fun _ _ _ h => by cases h.1) (Or.inl ⟨by rfl, ?y5c⟩) ?r5c
      case y5c => intro W; go_simp; try with_reducible rfl
      go_simp
      refine wpAny_take (i := 6) (v := ?v6c) rfl (by kernel_rfl) (by kernel_rfl) (by kernel_rfl) (fun _ _ _ h => by cases h.1) (Or.inl ⟨by rfl, ?y6c⟩) ?r6c
      case y6c => intro W; go_simp; try with_reducible rfl
      go_simp
      refine wpAny_take (i := 7) (v := ?v7c) rfl (by kernel_rfl) (by kernel_rfl) (by kernel_rfl) (fun _ _ _ h => by cases h.1) (Or.inl ⟨by rfl, ?y7c⟩) ?r7c
      case y7c => intro W; go_simp; try with_reducible rfl
      go_simp
      refine wpAny_take (i := 8) (v := ?v8c) rfl (by kernel_rfl) (by kernel_rfl) (by kernel_rfl) (fun _ _ _ h => by cases h.1) (Or.inl ⟨by rfl, ?y8c⟩) ?r8c
      case y8c => intro W; go_simp; try with_reducible rfl
      go_simp
      refine wpAny_ready (rs := [4, 9]) (by kernel_rfl) (by simp) ?_
      refine AllReady.cons rfl (fun K hK => ?_) ?_
      · go_simp
        go_at_call 24
        refine (HCS.out _ (by repeat (first | (with_reducible exact cbz) | ((with_reducible refine below_grow ?_ ?_); rotate_left; focus (first | omega | (simp [go_sem]; done) | (simp [go_sem]; omega))) | ((with_reducible refine Below.alloc ?_ ?_ _); rotate_left; focus (first | omega | (simp [go_sem]; done) | (simp [go_sem]; omega))) | ((with_reducible refine Below.setCell ?_ ?_ _); rotate_left; focus (first | omega | (simp [go_sem]; done) | (simp [go_sem]; omega))) | (with_reducible refine Below.drew ?_) | (with_reducible refine below_drewN _ ?_)))).mono ?_
        rintro e w4 ⟨⟨v4, rfl, hrow4⟩, hb4⟩
        obtain ⟨o7, j7, rfl⟩ := grow_of_below hb4
        clear hb4
        simp only []
        refine hK _ _ ?_; clear hK K
        refine wpAny_ready (rs := [9]) (by kernel_rfl) (by simp) ?_
        refine AllReady.cons rfl (fun K hK => ?_) AllReady.nil
        go_simp
        refine hK _ _ ?_; clear hK K
        refine wpAny_ready (rs := [10]) (by kernel_rfl) (by simp) ?_
        refine AllReady.cons rfl (fun K hK => ?_) AllReady.nil
        go_simp
        refine hK _ _ ?_; clear hK K
        refine wpAny_ready (rs := [11]) (by kernel_rfl) (by simp) ?_
        refine AllReady.cons rfl (fun K hK => ?_) AllReady.nil
        go_simp
        refine hK _ _ ?_; clear hK K
        refine wpAny_ready (rs := [12]) (by kernel_rfl) (by simp) ?_
        refine AllReady.cons rfl (fun K hK => ?_) AllReady.nil
        go_simp
        refine hK _ _ ?_; clear hK K
        refine wpAny_ready (rs := [13]) (by kernel_rfl) (by simp) ?_
        refine AllReady.cons rfl (fun K hK => ?_) AllReady.nil
        go_simp
        refine hK _ _ ?_; clear hK K
        refine wpAny_ready (rs := [14]) (by kernel_rfl) (by simp) ?_
        refine AllReady.cons rfl (fun K hK => ?_) AllReady.nil
        refine ready_append rfl _ _ rfl v4 _ rfl rfl ⟨_, _, _, [x], (by first | exact hrow4 | exact hrow4.alloc _), slb_one (by simp [go_sem]) (by first | (simp [go_sem]; done) | (simp [go_sem]; omega)), (by simp; omega), (by first | (simp [go_sem]; done) | (simp [go_sem]; omega)), ?_⟩
        intro v8 w8 hown8 hb8
        refine hK _ _ ?_; clear hK K
        refine wpAny_ready (rs := [15]) (by kernel_rfl) (by simp) ?_
        refine AllReady.cons rfl (fun K hK => ?_) AllReady.nil
        go_simp
        refine hK _ _ ?_; clear hK K
        refine wpAny_done (by kernel_rfl) ?_ _
        refine ⟨rfl, v4, _, v8, by rfl, ?_, Below.trans (show Below w1.heap.size w1 _ by repeat (first | (with_reducible exact cbz) | ((with_reducible refine below_grow ?_ ?_); rotate_left; focus (first | omega | (simp [go_sem]; done) | (simp [go_sem]; omega))) | ((with_reducible refine Below.alloc ?_ ?_ _); rotate_left; focus (first | omega | (simp [go_sem]; done) | (simp [go_sem]; omega))) | ((with_reducible refine Below.setCell ?_ ?_ _); rotate_left; focus (first | omega | (simp [go_sem]; done) | (simp [go_sem]; omega))) | (with_reducible refine Below.drew ?_) | (with_reducible refine below_drewN _ ?_))) (hb8.mono (by simp [go_sem]; omega))⟩
        exact (slb_own (xs := l.take k ++ [x]) (by rw [List.map_append]; exact hown8)).1
      refine AllReady.cons rfl (fun K hK => ?_) AllReady.nil
      go_simp
      refine hK _ _ ?_; clear hK K
      refine wpAny_ready (rs := [4, 10]) (by kernel_rfl) (by simp) ?_
      refine AllReady.cons rfl (fun K hK => ?_) ?_
      · go_simp
        go_at_call 24
        refine (HCS.out _ (by repeat (first | (with_reducible exact cbz) | ((with_reducible refine below_grow ?_ ?_); rotate_left; focus (first | omega | (simp [go_sem]; done) | (simp [go_sem]; omega))) | ((with_reducible refine Below.alloc ?_ ?_ _); rotate_left; focus (first | omega | (simp [go_sem]; done) | (simp [go_sem]; omega))) | ((with_reducible refine Below.setCell ?_ ?_ _); rotate_left; focus (first | omega | (simp [go_sem]; done) | (simp [go_sem]; omega))) | (with_reducible refine Below.drew ?_) | (with_reducible refine below_drewN _ ?_)))).mono ?_
        rintro e w4 ⟨⟨v4, rfl, hrow4⟩, hb4⟩
        obtain ⟨o7, j7, rfl⟩ := grow_of_below hb4
        clear hb4
        simp only []
        refine hK _ _ ?_; clear hK K
        refine wpAny_ready (rs := [10]) (by kernel_rfl) (by simp) ?_
        refine AllReady.cons rfl (fun K hK => ?_) AllReady.nil
        go_simp
        refine hK _ _ ?_; clear hK K
        refine wpAny_ready (rs := [11]) (by kernel_rfl) (by simp) ?_
        refine AllReady.cons rfl (fun K hK => ?_) AllReady.nil
        go_simp
        refine hK _ _ ?_; clear hK K
        refine wpAny_ready (rs := [12]) (by kernel_rfl) (by simp) ?_
        refine AllReady.cons rfl (fun K hK => ?_) AllReady.nil
        go_simp
        refine hK _ _ ?_; clear hK K
        refine wpAny_ready (rs := [13]) (by kernel_rfl) (by simp) ?_
        refine AllReady.cons rfl (fun K hK => ?_) AllReady.nil
        go_simp
        refine hK _ _ ?_; clear hK K
        refine wpAny_ready (rs := [14]) (by kernel_rfl) (by simp) ?_
        refine AllReady.cons rfl (fun K hK => ?_) AllReady.nil
        refine ready_append rfl _ _ rfl v4 _ rfl rfl ⟨_, _, _, [x], (by first | exact hrow4 | exact hrow4.alloc _), slb_one (by simp [go_sem]) (by first | (simp [go_sem]; done) | (simp [go_sem]; omega)), (by simp; omega), (by first | (simp [go_sem]; done) | (simp [go_sem]; omega)), ?_⟩
        intro v8 w8 hown8 hb8
        refine hK _ _ ?_; clear hK K
        refine wpAny_ready (rs := [15]) (by kernel_rfl) (by simp) ?_
        refine AllReady.cons rfl (fun K hK => ?_) AllReady.nil
        go_simp
        refine hK _ _ ?_; clear hK K
        refine wpAny_done (by kernel_rfl) ?_ _
        refine ⟨rfl, v4, _, v8, by rfl, ?_, Below.trans (show Below w1.heap.size w1 _ by repeat (first | (with_reducible exact cbz) | ((with_reducible refine below_grow ?_ ?_); rotate_left; focus (first | omega | (simp [go_sem]; done) | (simp [go_sem]; omega))) | ((with_reducible refine Below.alloc ?_ ?_ _); rotate_left; focus (first | omega | (simp [go_sem]; done) | (simp [go_sem]; omega))) | ((with_reducible refine Below.setCell ?_ ?_ _); rotate_left; focus (first | omega | (simp [go_sem]; done) | (simp [go_sem]; omega))) | (with_reducible refine Below.drew ?_) | (with_reducible refine below_drewN _ ?_))) (hb8.mono (by simp [go_sem]; omega))⟩
        exact (slb_own (xs := l.take k ++ [x]) (by rw [List.map_append]; exact hown8)).1
      refine AllReady.cons rfl (fun K hK => ?_) AllReady.nil
      go_simp
      refine hK _ _ ?_; clear hK K
      refine wpAny_ready (rs := [4, 11]) (by kernel_rfl) (by simp) ?_
      refine AllReady.cons rfl (fun K hK => ?_) ?_
      · go_simp
        go_at_call 24
        refine (HCS.out _ (by repeat (first | (with_reducible exact cbz) | ((with_reducible refine below_grow ?_ ?_); rotate_left; focus (first | omega | (simp [go_sem]; done) | (simp [go_sem]; omega))) | ((with_reducible refine Below.alloc ?_ ?_ _); rotate_left; focus (first | omega | (simp [go_sem]; done) | (simp [go_sem]; omega))) | ((with_reducible refine Below.setCell ?_ ?_ _); rotate_left; focus (first | omega | (simp [go_sem]; done) | (simp [go_sem]; omega))) | (with_reducible refine Below.drew ?_) | (with_reducible refine below_drewN _ ?_)))).mono ?_
        rintro e w4 ⟨⟨v4, rfl, hrow4⟩, hb4⟩
        obtain ⟨o7, j7, rfl⟩ := grow_of_below hb4
        clear hb4
        simp only []
        refine hK _ _ ?_; clear hK K
        refine wpAny_ready (rs := [11]) (by kernel_rfl) (by simp) ?_
        refine AllReady.cons rfl (fun K hK => ?_) AllReady.nil
        go_simp
        refine hK _ _ ?_; clear hK K
        refine wpAny_ready (rs := [12]) (by kernel_rfl) (by simp) ?_
        refine AllReady.cons rfl (fun K hK => ?_) AllReady.nil
        go_simp
        refine hK _ _ ?_; clear hK K
        refine wpAny_ready (rs := [13]) (by kernel_rfl) (by simp) ?_
        refine AllReady.cons rfl (fun K hK => ?_) AllReady.nil
        go_simp
        refine hK _ _ ?_; clear hK K
        refine wpAny_ready (rs := [14]) (by kernel_rfl) (by simp) ?_
        refine AllReady.cons rfl (fun K hK => ?_) AllReady.nil
        refine ready_append rfl _ _ rfl v4 _ rfl rfl ⟨_, _, _, [x], (by first | exact hrow4 | exact hrow4.alloc _), slb_one (by simp [go_sem]) (by first | (simp [go_sem]; done) | (simp [go_sem]; omega)), (by simp; omega), (by first | (simp [go_sem]; done) | (simp [go_sem]; omega)), ?_⟩
        intro v8 w8 hown8 hb8
        refine hK _ _ ?_; clear hK K
        refine wpAny_ready (rs := [15]) (by kernel_rfl) (by simp) ?_
        refine AllReady.cons rfl (fun K hK => ?_) AllReady.nil
        go_simp
        refine hK _ _ ?_; clear hK K
        refine wpAny_done (by kernel_rfl) ?_ _
        refine ⟨rfl, v4, _, v8, by rfl, ?_, Below.trans (show Below w1.heap.size w1 _ by repeat (first | (with_reducible exact cbz) | ((with_reducible refine below_grow ?_ ?_); rotate_left; focus (first | omega | (simp [go_sem]; done) | (simp [go_sem]; omega))) | ((with_reducible refine Below.alloc ?_ ?_ _); rotate_left; focus (first | omega | (simp [go_sem]; done) | (simp [go_sem]; omega))) | ((with_reducible refine Below.setCell ?_ ?_ _); rotate_left; focus (first | omega | (simp [go_sem]; done) | (simp [go_sem]; omega))) | (with_reducible refine Below.drew ?_) | (with_reducible refine below_drewN _ ?_))) (hb8.mono (by simp [go_sem]; omega))⟩
        exact (slb_own (xs := l.take k ++ [x]) (by rw [List.map_append]; exact hown8)).1
      refine AllReady.cons rfl (fun K hK => ?_) AllReady.nil
      go_simp
      refine hK _ _ ?_; clear hK K
      refine wpAny_ready (rs := [4, 12]) (by kernel_rfl) (by simp) ?_
      refine AllReady.cons rfl (fun K hK => ?_) ?_
      · go_simp
        go_at_call 24
        refine (HCS.out _ (by repeat (first | (with_reducible exact cbz) | ((with_reducible refine below_grow ?_ ?_); rotate_left; focus (first | omega | (simp [go_sem]; done) | (simp [go_sem]; omega))) | ((with_reducible refine Below.alloc ?_ ?_ _); rotate_left; focus (first | omega | (simp [go_sem]; done) | (simp [go_sem]; omega))) | ((with_reducible refine Below.setCell ?_ ?_ _); rotate_left; focus (first | omega | (simp [go_sem]; done) | (simp [go_sem]; omega))) | (with_reducible refine Below.drew ?_) | (with_reducible refine below_drewN _ ?_)))).mono ?_
        rintro e w4 ⟨⟨v4, rfl, hrow4⟩, hb4⟩
        obtain ⟨o7, j7, rfl⟩ := grow_of_below hb4
        clear hb4
        simp only []
        refine hK _ _ ?_; clear hK K
        refine wpAny_ready (rs := [12]) (by kernel_rfl) (by simp) ?_
        refine AllReady.cons rfl (fun K hK => ?_) AllReady.nil
        go_simp
        refine hK _ _ ?_; clear hK K
        refine wpAny_ready (rs := [13]) (by kernel_rfl) (by simp) ?_
        refine AllReady.cons rfl (fun K hK => ?_) AllReady.nil
        go_simp
        refine hK _ _ ?_; clear hK K
        refine wpAny_ready (rs := [14]) (by kernel_rfl) (by simp) ?_
        refine AllReady.cons rfl (fun K hK => ?_) AllReady.nil
        refine ready_append rfl _ _ rfl v4 _ rfl rfl ⟨_, _, _, [x], (by first | exact hrow4 | exact hrow4.alloc _), slb_one (by simp [go_sem]) (by first | (simp [go_sem]; done) | (simp [go_sem]; omega)), (by simp; omega), (by first | (simp [go_sem]; done) | (simp [go_sem]; omega)), ?_⟩
        intro v8 w8 hown8 hb8
        refine hK _ _ ?_; clear hK K
        refine wpAny_ready (rs := [15]) (by kernel_rfl) (by simp) ?_
        refine AllReady.cons rfl (fun K hK => ?_) AllReady.nil
        go_simp
        refine hK _ _ ?_; clear hK K
        refine wpAny_done (by kernel_rfl) ?_ _
        refine ⟨rfl, v4, _, v8, by rfl, ?_, Below.trans (show Below w1.heap.size w1 _ by repeat (first | (with_reducible exact cbz) | ((with_reducible refine below_grow ?_ ?_); rotate_left; focus (first | omega | (simp [go_sem]; done) | (simp [go_sem]; omega))) | ((with_reducible refine Below.alloc ?_ ?_ _); rotate_left; focus (first | omega | (simp [go_sem]; done) | (simp [go_sem]; omega))) | ((with_reducible refine Below.setCell ?_ ?_ _); rotate_left; focus (first | omega | (simp [go_sem]; done) | (simp [go_sem]; omega))) | (with_reducible refine Below.drew ?_) | (with_reducible refine below_drewN _ ?_))) (hb8.mono (by simp [go_sem]; omega))⟩
        exact (slb_own (xs := l.take k ++ [x]) (by rw [List.map_append]; exact hown8)).1
      refine AllReady.cons rfl (fun K hK => ?_) AllReady.nil
      go_simp
      refine hK _ _ ?_; clear hK K
      refine wpAny_ready (rs := [4, 13]) (by kernel_rfl) (by simp) ?_
      refine AllReady.cons rfl (fun K hK => ?_) ?_
      · go_simp
        go_at_call 24
        refine (HCS.out _ (by repeat (first | (with_reducible exact cbz) | ((with_reducible refine below_grow ?_ ?_); rotate_left; focus (first | omega | (simp [go_sem]; done) | (simp [go_sem]; omega))) | ((with_reducible refine Below.alloc ?_ ?_ _); rotate_left; focus (first | omega | (simp [go_sem]; done) | (simp [go_sem]; omega))) | ((with_reducible refine Below.setCell ?_ ?_ _); rotate_left; focus (first | omega | (simp [go_sem]; done) | (simp [go_sem]; omega))) | (with_reducible refine Below.drew ?_) | (with_reducible refine below_drewN _ ?_)))).mono ?_
        rintro e w4 ⟨⟨v4, rfl, hrow4⟩, hb4⟩
        obtain ⟨o7, j7, rfl⟩ := grow_of_below hb4
        clear hb4
        simp only []
        refine hK _ _ ?_; clear hK K
        refine wpAny_ready (rs := [13]) (by kernel_rfl) (by simp) ?_
        refine AllReady.cons rfl (fun K hK => ?_) AllReady.nil
        go_simp
        refine hK _ _ ?_; clear hK K
        refine wpAny_ready (rs := [14]) (by kernel_rfl) (by simp) ?_
        refine AllReady.cons rfl (fun K hK => ?_) AllReady.nil
        refine ready_append rfl _ _ rfl v4 _ rfl rfl ⟨_, _, _, [x], (by first | exact hrow4 | exact hrow4.alloc _), slb_one (by simp [go_sem]) (by first | (simp [go_sem]; done) | (simp [go_sem]; omega)), (by simp; omega), (by first | (simp [go_sem]; done) | (simp [go_sem]; omega)), ?_⟩
        intro v8 w8 hown8 hb8
        refine hK _ _ ?_; clear hK K
        refine wpAny_ready (rs := [15]) (by kernel_rfl) (by simp) ?_
        refine AllReady.cons rfl (fun K hK => ?_) AllReady.nil
        go_simp
        refine hK _ _ ?_; clear hK K
        refine wpAny_done (by kernel_rfl) ?_ _
        refine ⟨rfl, v4, _, v8, by rfl, ?_, Below.trans (show Below w1.heap.size w1 _ by repeat (first | (with_reducible exact cbz) | ((with_reducible refine below_grow ?_ ?_); rotate_left; focus (first | omega | (simp [go_sem]; done) | (simp [go_sem]; omega))) | ((with_reducible refine Below.alloc ?_ ?_ _); rotate_left; focus (first | omega | (simp [go_sem]; done) | (simp [go_sem]; omega))) | ((with_reducible refine Below.setCell ?_ ?_ _); rotate_left; focus (first | omega | (simp [go_sem]; done) | (simp [go_sem]; omega))) | (with_reducible refine Below.drew ?_) | (with_reducible refine below_drewN _ ?_))) (hb8.mono (by simp [go_sem]; omega))⟩
        exact (slb_own (xs := l.take k ++ [x]) (by rw [List.map_append]; exact hown8)).1
      refine AllReady.cons rfl (fun K hK => ?_) AllReady.nil
      go_simp
      refine hK _ _ ?_; clear hK K
      refine wpAny_ready (rs := [4]) (by kernel_rfl) (by simp) ?_
      refine AllReady.cons rfl (fun K hK => ?_) AllReady.nil
      go_simp
      go_at_call 24
      refine (HCS.out _ (by repeat (first | (with_reducible exact cbz) | ((with_reducible refine below_grow ?_ ?_); rotate_left; focus (first | omega | (simp [go_sem]; done) | (simp [go_sem]; omega))) | ((with_reducible refine Below.alloc ?_ ?_ _); rotate_left; focus (first | omega | (simp [go_sem]; done) | (simp [go_sem]; omega))) | ((with_reducible refine Below.setCell ?_ ?_ _); rotate_left; focus (first | omega | (simp [go_sem]; done) | (simp [go_sem]; omega))) | (with_reducible refine Below.drew ?_) | (with_reducible refine below_drewN _ ?_)))).mono ?_
      rintro e w4 ⟨⟨v4, rfl, hrow4⟩, hb4⟩
      obtain ⟨o7, j7, rfl⟩ := grow_of_below hb4
      clear hb4
      simp only []
      refine hK _ _ ?_; clear hK K
      refine wpAny_ready (rs := [14]) (by kernel_rfl) (by simp) ?_
      refine AllReady.cons rfl (fun K hK => ?_) AllReady.nil
      refine ready_append rfl _ _ rfl v4 _ rfl rfl ⟨_, _, _, [x], (by first | exact hrow4 | exact hrow4.alloc _), slb_one (by simp [go_sem]) (by first | (simp [go_sem]; done) | (simp [go_sem]; omega)), (by simp; omega), (by first | (simp [go_sem]; done) | (simp [go_sem]; omega)), ?_⟩
      intro v8 w8 hown8 hb8
      refine hK _ _ ?_; clear hK K
      refine wpAny_ready (rs := [15]) (by kernel_rfl) (by simp) ?_
      refine AllReady.cons rfl (fun K hK => ?_) AllReady.nil
      go_simp
      refine hK _ _ ?_; clear hK K
      refine wpAny_done (by kernel_rfl) ?_ _
      refine ⟨rfl, v4, _, v8, by rfl, ?_, Below.trans (show Below w1.heap.size w1 _ by repeat (first | (with_reducible exact cbz) | ((with_reducible refine below_grow ?_ ?_); rotate_left; focus (first | omega | (simp [go_sem]; done) | (simp [go_sem]; omega))) | ((with_reducible refine Below.alloc ?_ ?_ _); rotate_left; focus (first | omega | (simp [go_sem]; done) | (simp [go_sem]; omega))) | ((with_reducible refine Below.setCell ?_ ?_ _); rotate_left; focus (first | omega | (simp [go_sem]; done) | (simp [go_sem]; omega))) | (with_reducible refine Below.drew ?_) | (with_reducible refine below_drewN _ ?_))) (hb8.mono (by simp [go_sem]; omega))⟩
      exact (slb_own (xs := l.take k ++ [x]) (by rw [List.map_append]; exact hown8)).1
    rintro _ _ w8 ⟨rfl, v4, x5, v8, rfl, hX, cb8⟩
    clear kat this hgz
    have hs8 := cb8.size
    go_simp
    go_upto_region 19 with (go_at_call 23; refine (CKL.out _ _ hX).mono ?_; rintro e w9 ⟨rfl, hbel⟩; obtain ⟨o8, j8, rfl⟩ := grow_of_below hbel; clear hbel)
    go_upto_region 21 with fail
    refine wp_keep (fun W => Below w1.heap.size w1 W) (by repeat (first | (with_reducible exact cb8) | ((with_reducible refine below_grow ?_ ?_); rotate_left; focus (first | omega | (simp [go_sem]; done) | (simp [go_sem]; omega))) | ((with_reducible refine Below.alloc ?_ ?_ _); rotate_left; focus (first | omega | (simp [go_sem]; done) | (simp [go_sem]; omega))) | ((with_reducible refine Below.setCell ?_ ?_ _); rotate_left; focus (first | omega | (simp [go_sem]; done) | (simp [go_sem]; omega))) | (with_reducible refine Below.drew ?_) | (with_reducible refine below_drewN _ ?_))) ?_
    clear cbz hsz hX cb8 hs8 s1 s2 s3 s4 s5
    intro wz cbz
    have hsz := cbz.size
    have hz2 : n0 % 252 < 252 := Nat.mod_lt _ (by decide)
    obtain ⟨z2, hz2e⟩ : ∃ z, n0 % 252 = z := ⟨_, rfl⟩
    have s1 : (n0 : Int).tmod 252 = z2 := by rw [Int.tmod_eq_emod_of_nonneg (by omega)]; omega
    have s2 : IntKind.u8.wrap (z2 : Int) = z2 := u8_wrap (by omega) (by omega)
    obtain ⟨z3, hz3⟩ : ∃ z, 4 + z2 = z := ⟨_, rfl⟩
    have s3 : IntKind.u8.wrap ((4 : Int) + z2) = z3 := by rw [u8_wrap (by omega) (by omega)]; omega
    have hb3 : Bts z3 l := ⟨by omega, HRT.out.lt, by omega⟩
    have hw3 : Wg z3 l := .inl (by omega)
    have CK3 := Lib.hid (fun W (hb : Below w1.heap.size w1 W) => check_calls z3 _ l hb3 W (slb_below HS1.out hb))
    rw [if_neg (by omega)] at CK3
    have OV3 := Lib.hid (fun W (hb : Below w1.heap.size w1 W) => aover_no z3 _ l hw3 hb3 W (slb_below HS1.out hb))
    have CO3 := Lib.hid (fun W (hb : Below w1.heap.size w1 W) => contract_no z3 _ l hw3 hb3 W (slb_below HS1.out hb))
    unfold ctV at CO3
    simp only at CO3
    have EQ := fun w => eqCt 0 0 0 0 0 0 0 0 w
    clear hz2 hz2e hz3 hb3 hw3
    go_upto_region 22 with (go_at_call 23; refine (CK3.out _ (by repeat (first | (with_reducible exact cbz) | ((with_reducible refine below_grow ?_ ?_); rotate_left; focus (first | omega | (simp [go_sem]; done) | (simp [go_sem]; omega))) | ((with_reducible refine Below.alloc ?_ ?_ _); rotate_left; focus (first | omega | (simp [go_sem]; done) | (simp [go_sem]; omega))) | ((with_reducible refine Below.setCell ?_ ?_ _); rotate_left; focus (first | omega | (simp [go_sem]; done) | (simp [go_sem]; omega))) | (with_reducible refine Below.drew ?_) | (with_reducible refine below_drewN _ ?_)))).mono ?_; rintro e w9 ⟨rfl, hbel⟩; obtain ⟨o11, j11, rfl⟩ := grow_of_below hbel; clear hbel)
    go_upto_region 23 with (go_at_call 18; refine (OV3.out _ (by repeat (first | (with_reducible exact cbz) | ((with_reducible refine below_grow ?_ ?_); rotate_left; focus (first | omega | (simp [go_sem]; done) | (simp [go_sem]; omega))) | ((with_reducible refine Below.alloc ?_ ?_ _); rotate_left; focus (first | omega | (simp [go_sem]; done) | (simp [go_sem]; omega))) | ((with_reducible refine Below.setCell ?_ ?_ _); rotate_left; focus (first | omega | (simp [go_sem]; done) | (simp [go_sem]; omega))) | (with_reducible refine Below.drew ?_) | (with_reducible refine below_drewN _ ?_)))).mono ?_; rintro e w9 ⟨rfl, hbel⟩; obtain ⟨o12, j12, rfl⟩ := grow_of_below hbel; clear hbel)
    go_upto_region 24 with (go_at_call 19; refine (CO3.out _ (by repeat (first | (with_reducible exact cbz) | ((with_reducible refine below_grow ?_ ?_); rotate_left; focus (first | omega | (simp [go_sem]; done) | (simp [go_sem]; omega))) | ((with_reducible refine Below.alloc ?_ ?_ _); rotate_left; focus (first | omega | (simp [go_sem]; done) | (simp [go_sem]; omega))) | ((with_reducible refine Below.setCell ?_ ?_ _); rotate_left; focus (first | omega | (simp [go_sem]; done) | (simp [go_sem]; omega))) | (with_reducible refine Below.drew ?_) | (with_reducible refine below_drewN _ ?_)))).mono ?_; rintro e w9 ⟨rfl, hbel⟩; obtain ⟨o13, j13, rfl⟩ := grow_of_below hbel; clear hbel)
    go_wp2
    refine bodyPost_ret (by simp [results, Tryd.results9, go_sem]) rfl ⟨rfl, ?_⟩
    have hbw := HBW.out.trans (cbz.mono hs1)
    have hs2 := hbw.size
    repeat (first | (with_reducible exact hbw) | ((with_reducible refine below_grow ?_ ?_); rotate_left; focus (first | omega | (simp [go_sem]; done) | (simp [go_sem]; omega))) | ((with_reducible refine Below.alloc ?_ ?_ _); rotate_left; focus (first | omega | (simp [go_sem]; done) | (simp [go_sem]; omega))) | ((with_reducible refine Below.setCell ?_ ?_ _); rotate_left; focus (first | omega | (simp [go_sem]; done) | (simp [go_sem]; omega))) | (with_reducible refine Below.drew ?_) | (with_reducible refine below_drewN _ ?_))
theorem wrong_walk (a0 : Int) (v : Value) (xs : List Nat) (a2 : Int) (v3 : Value) (ys : List Nat) (b0 : 0 ≤ a0 ∧ a0 ≤ 255) (h8 : ∀ x ∈ xs, x < 256) (b2 : 0 ≤ a2 ∧ a2 ≤ 255) (h38 : ∀ x ∈ ys, x < 256) (w : World) (hS : SlB w v xs) (hS3 : SlB w v3 ys) (he : Env w) :
    Calls Tryd.prog 9 #[.int .u8 a0, v, .int .u8 a2, v3] w fun e w' => e = .returned (.bool true) ∧ Below w.heap.size w w' := by
  obtain ⟨n, rfl⟩ := Int.eq_ofNat_of_zero_le b0.1
  obtain ⟨m, rfl⟩ := Int.eq_ofNat_of_zero_le b2.1
  exact wrong_calls n (by omega) v xs h8 m (by omega) v3 ys h38 w hS hS3 he
end Go.Proofs.YtacgikhedhiaaaaDoor
