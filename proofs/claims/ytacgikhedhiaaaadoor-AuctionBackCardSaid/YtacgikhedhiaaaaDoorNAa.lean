/- Auctions: Read. -/
import Derived.Test.YtacgikhedhiaaaaDoorLZ
namespace Go.Proofs.YtacgikhedhiaaaaDoor
open Go.RowKit

theorem mk_inj {a b : List UInt8} (h : ByteArray.mk a.toArray = ⟨b.toArray⟩) : a = b := by
  have := congrArg (fun x : ByteArray => x.data.toList) h
  simpa using this
theorem equalT_calls (v1 v2 : Value) (xs ys : List (List UInt8)) (hx : xs.length ≤ 100000) (hy : ys.length ≤ 100000) (w : World) (h1 : SlT w v1 xs) (h2 : SlT w v2 ys) :
    Calls Tryd.prog 58 #[v1, v2] w fun e w' => e = .returned (.bool (decide (xs = ys))) ∧ Below w.heap.size w w' := by
  obtain ⟨p, c, rfl, hc, hxc⟩ := h1
  obtain ⟨q, d, rfl, hd, hyc⟩ := h2
  by_cases hl : xs.length = ys.length
  · by_cases h0 : xs = []
    · subst h0
      have hy0 : ys = [] := List.length_eq_zero_iff.1 hl.symm
      subst hy0
      refine (Tryd.slices_Equal_string_empty p q c 0 d w (by decide)).mono ?_
      rintro e w' ⟨rfl, rfl⟩
      exact ⟨by simp, Below.refl _ _⟩
    · obtain ⟨b1, o1, rfl, hb1, hx1⟩ := hxc h0
      obtain ⟨b2, o2, rfl, hb2, hy1⟩ := hyc (by rintro rfl; exact h0 (List.length_eq_zero_iff.1 hl))
      refine (Tryd.slices_Equal_string b1 o1 xs.length c b2 o2 ys.length d (xs.map fun s => ⟨s.toArray⟩) (ys.map fun s => ⟨s.toArray⟩) w (by simp) (by simp) (by omega) (by omega) (fun j hj => ?_) (fun j hj => ?_)).mono ?_
      · rw [List.length_map] at hj
        rw [hx1 j xs[j] (List.getElem?_eq_getElem hj), List.getD_eq_getElem?_getD, List.getElem?_map, List.getElem?_eq_getElem hj]; rfl
      · rw [List.length_map] at hj
        rw [hy1 j ys[j] (List.getElem?_eq_getElem hj), List.getD_eq_getElem?_getD, List.getElem?_map, List.getElem?_eq_getElem hj]; rfl
      · rintro e w' ⟨rfl, q, rfl⟩
        refine ⟨?_, below_drewN _ (Below.refl _ _)⟩
        congr 2
        rw [decide_eq_decide, List.take_of_length_le (by simp), List.take_of_length_le (by simp)]
        exact ⟨fun h => List.map_inj_right (fun a b h => mk_inj h) |>.1 h, fun h => by rw [h]⟩
  · refine (Tryd.slices_Equal_string_lens p q xs.length c ys.length d w hl).mono ?_
    rintro e w' ⟨rfl, rfl⟩
    have : ¬ xs = ys := fun e => hl (by rw [e])
    exact ⟨by simp [this], Below.refl _ _⟩
theorem row4_at (W : World) (t : TypeId) (a b c d : Value) (n : Nat) (hn : n = W.heap.size) : ∀ (j : Nat) (u : Value), [a, b, c, d][j]? = some u → (W.alloc (.cells #[a, b, c, d] t)).cell? ((⟨n, 0, none⟩ : Addr).add j) = some u := by
  intro j u hj
  rw [show (⟨n, 0, none⟩ : Addr).add j = ⟨n, j, none⟩ by unfold Addr.add; split <;> simp_all, World.cell?_alloc_at _ _ _ j hn]
  simpa using hj
theorem tkn_lt : ∀ (ws : List (List UInt8)), ∀ c ∈ tkn ws, c < 38
  | [] => by simp [tkn]
  | w :: r => by
    unfold tkn
    cases h : rd w with
    | none => simp
    | some c =>
      intro x hx
      rcases List.mem_cons.1 hx with rfl | hx
      · exact (rd_some h).1
      · exact tkn_lt r x hx
theorem tkn_len : ∀ (ws : List (List UInt8)), (tkn ws).length ≤ ws.length
  | [] => by simp [tkn]
  | w :: r => by
    unfold tkn
    cases h : rd w with
    | none => simp
    | some c => simp; exact tkn_len r
theorem cuts_len (t : List (List UInt8)) : (cuts t).length = 4 * t.length := by
  induction t with
  | nil => rfl
  | cons a r ih => unfold cuts at *; rw [List.flatMap_cons, List.length_append, ih]; simp [cutl]; omega
theorem cuts_snoc (t : List (List UInt8)) (s : List UInt8) : cuts (t ++ [s]) = cuts t ++ cutl s := by simp [cuts]
theorem rd_bts (t : List (List UInt8)) (ht : t.length ≤ 200) : Bts (rdD t) (rdL t) := by
  refine ⟨by have := hyp_lt 4 (cuts t); unfold rdD; omega, fun x hx => by have := tkn_lt _ x hx; omega, ?_⟩
  have h1 := tkn_len ((cuts t).drop (rdD t))
  have h2 := cuts_len t
  have h3 : ((cuts t).drop (rdD t)).length ≤ (cuts t).length := by rw [List.length_drop]; omega
  unfold rdL
  omega
set_option maxRecDepth 100000 in
set_option maxHeartbeats 16000000 in
theorem aread_calls (v : Value) (t : List (List UInt8)) (hn : t.length ≤ 200) (hl : ∀ s ∈ t, s.length ≤ 1000) (w : World) (hS : SlT w v t) (he : Env w) :
    Calls Tryd.prog 26 #[v] w fun e w' => (if rdOk t then ∃ v', e = .returned (.tuple #[.int .u8 (rdD t : Nat), v', .int .i64 0]) ∧ w'.ownsRow w.heap.size 5 1 v' (rdL t).length ((rdL t).map u8v) else e = .returned (.tuple #[.int .u8 0, .slice none 0 0, .int .i64 92])) ∧ Below w.heap.size w w' := by
  obtain ⟨i0, hi, hz0, hz1, hz2⟩ := info_parts Tryd.infoStr
  have HS := Lib.hid hS
  obtain ⟨p, c, rfl, hc, hx⟩ := hS
  obtain ⟨n, hxn⟩ : ∃ n, t.length = n := ⟨_, rfl⟩
  have HBT := Lib.hid (rd_bts t hn)
  rw [hxn] at hc hn HS ⊢
  have HX := Lib.hid hx
  have HE := Lib.hid (fun W (hb : Below w.heap.size w W) => he.below hb)
  have HL := Lib.hid hl
  have HN := Lib.hid hxn
  obtain ⟨OKb, hok⟩ : ∃ b, rdOk t = b := ⟨_, rfl⟩
  rw [hok]
  have HOK := Lib.hid hok
  clear hx he hl hok
  go_enter Tryd.func26, Tryd.ntmps26
  go_wp2
  go_loopw [5, 7, 8, 15] (fun s5 _ _ s15 wr => ∃ i : Nat, s15 = .int .i64 i ∧ i ≤ n ∧ (∀ s ∈ t.take i, s.length = 20) ∧ wr.ownsRow w.heap.size 9 1 s5 (4 * i) ((cuts (t.take i)).map strv) ∧ Below w.heap.size w wr) (fun _ _ _ s15 _ => n - (intOf s15).toNat)
  case atStart => exact ⟨0, rfl, Nat.zero_le _, by simp, by simpa [cuts] using World.ownsRow_nil _ _ _ _, Below.refl _ _⟩
  case round =>
    obtain ⟨i, rfl, hin, hall, hrow, cb⟩ := hrel
    have hsr := cb.size
    by_cases hlt : i < n
    · have hlt2 : (i : Int) < n := by omega
      obtain ⟨b1, o1, rfl, hb1, hx⟩ := HX.out (by rintro rfl; simp at hxn; omega)
      obtain ⟨s, hs⟩ : ∃ a, t[i]? = some a := ⟨_, List.getElem?_eq_getElem (by omega)⟩
      have k1 : wr.cell? ⟨b1, o1 + i, none⟩ = some (strv s) := (cb.cell (p := ⟨b1, o1 + i, none⟩) hb1).trans (hx i s hs)
      have f1 : IntKind.i64.wrap ((i : Int) + 1) = (i : Int) + 1 := IntWalk.i64_in _ (by omega)
      by_cases h20 : s.length = 20
      · have CU := Lib.hid (cut_calls s h20)
        have HS2 := Lib.hid (⟨hs, h20⟩ : t[i]? = some s ∧ s.length = 20)
        have HALL := Lib.hid hall
        have h20' : (s.length : Int) = 20 := by omega
        have HCS : Hid (((cutl s).map strv) = [strv (trm (s.take 5)), strv (trm ((s.drop 5).take 5)), strv (trm ((s.drop 10).take 5)), strv (trm ((s.drop 15).take 5))]) := Lib.hid rfl
        obtain ⟨c0, hc0⟩ : ∃ x, trm (s.take 5) = x := ⟨_, rfl⟩
        obtain ⟨c1, hc1⟩ : ∃ x, trm ((s.drop 5).take 5) = x := ⟨_, rfl⟩
        obtain ⟨c2, hc2⟩ : ∃ x, trm ((s.drop 10).take 5) = x := ⟨_, rfl⟩
        obtain ⟨c3, hc3⟩ : ∃ x, trm ((s.drop 15).take 5) = x := ⟨_, rfl⟩
        rw [hc0, hc1, hc2, hc3] at CU HCS
        have HR := Lib.hid hrow
        have CB := Lib.hid cb
        clear hs h20 hx hall hc0 hc1 hc2 hc3 hrow cb
        go_wp2_with (first | (go_at_call 56; refine (CU.out _).mono ?_; rintro e w9 ⟨rfl, hbel⟩; obtain ⟨o2, j2, rfl⟩ := grow_of_below hbel; clear hbel) | (at_builtin; refine wpList_append_own _ rfl _ _ 51 rfl w.heap.size 9 i0 (.string ⟨#[]⟩) 1 16 Tryd.underlying51 hi hz0 hz1 hz2 rfl (by decide) _ _ _ rfl ((own_grow HR.out _ _).alloc _) ⟨wr.heap.size + sz o2, 0, none⟩ 4 4 [strv c0, strv c1, strv c2, strv c3] rfl rfl (row4_at _ _ _ _ _ _ _ (by simp [go_sem])) (fun u hu => by simp only [List.mem_cons, List.not_mem_nil, or_false] at hu; rcases hu with rfl | rfl | rfl | rfl <;> rfl) (by unfold maxLen; omega) (by omega) (by simp [go_sem]; omega) ?_; intro v' w2 hown' hgrow _))
        go_roundw
        case rel =>
          refine ⟨i + 1, by go_num, by omega, ?_, ?_, Below.grown (by repeat (first | (with_reducible exact CB.out) | ((with_reducible refine below_grow ?_ ?_); rotate_left; focus (first | omega | (simp [go_sem]; done) | (simp [go_sem]; omega))) | ((with_reducible refine Below.alloc ?_ ?_ _); rotate_left; focus (first | omega | (simp [go_sem]; done) | (simp [go_sem]; omega))) | ((with_reducible refine Below.setCell ?_ ?_ _); rotate_left; focus (first | omega | (simp [go_sem]; done) | (simp [go_sem]; omega))) | (with_reducible refine Below.drew ?_) | (with_reducible refine below_drewN _ ?_))) hgrow (by simp [go_sem]; omega) (fun k e => own_block_ge HR.out e)⟩
          · rw [List.take_add_one, HS2.out.1]
            intro x hx
            rcases List.mem_append.1 hx with hx | hx
            · exact HALL.out x hx
            · simp at hx; rw [hx]; exact HS2.out.2
          · rw [List.take_add_one, HS2.out.1]
            show w2.ownsRow _ _ _ _ _ ((cuts (t.take i ++ [s])).map strv)
            rw [cuts_snoc, List.map_append, HCS.out]
            exact hown'
        case measure => simp [intOf]; omega
      · have hno : rdOk t = false := by
          unfold rdOk
          have : t.all (fun s => s.length == 20) = false := by
            rw [Bool.eq_false_iff]
            intro h
            rw [List.all_eq_true] at h
            exact h20 (by simpa using h s (List.mem_of_getElem? hs))
          rw [this]; rfl
        obtain rfl : OKb = false := by rw [← HOK.out]; exact hno
        have h20' : ¬ (s.length : Int) = 20 := by omega
        have h20n : ¬ s.length = 20 := h20
        clear hs hx hall h20
        go_wp2
        refine bodyPost_ret (by simp [results, Tryd.results26, go_sem]; rfl) rfl ⟨?_, cb⟩
        simp
    · obtain rfl : n = i := by omega
      have htk : t.take n = t := List.take_of_length_le (by omega)
      rw [htk] at hall hrow
      have hcl : (cuts t).length ≤ 1000 := by rw [cuts_len]; omega
      have TK := Lib.hid (taken_calls _ (cuts t) hcl wr (slt_own hrow).1 (HE.out wr cb))
      have hall2 : t.all (fun s => s.length == 20) = true := by rw [List.all_eq_true]; intro x hx; simpa using hall x hx
      have hrd : rdOk t = isT (rdD t) (rdL t) t := by unfold rdOk; rw [hall2]; rfl
      have eD : hyp 4 (cuts t) = rdD t := rfl
      have eL : tkn ((cuts t).drop (hyp 4 (cuts t))) = rdL t := rfl
      rw [eL, eD] at TK
      rw [hrd] at HOK
      have HBTs := HBT
      obtain ⟨D, hD⟩ : ∃ D, rdD t = D := ⟨_, rfl⟩
      obtain ⟨L, hL⟩ : ∃ L, rdL t = L := ⟨_, rfl⟩
      rw [hD, hL] at TK HBTs HOK
      have HDL := Lib.hid (⟨hD, hL⟩ : rdD t = D ∧ rdL t = L)
      clear hD hL eD eL hrd hall2 hall htk hcl hrow
      cases hrun : St.run (st0 D) L with
      | none =>
        have hwg : Wg D L := .inr hrun
        have hno : isT D L t = false := by unfold isT; rw [hrun]
        clear hrun
        have F := Lib.hid (fun W v2 (hS : SlB W v2 L) => table_no D v2 L hwg HBTs.out W hS)
        obtain rfl : OKb = false := by rw [← HOK.out]; exact hno
        go_upto_region 11 with (go_at_call 57; refine TK.out.mono ?_; rintro e w1 ⟨⟨v1, rfl, hrow1⟩, hb1⟩)
        go_upto_region 12 with (go_at_call 25; refine (F.out _ _ (slb_own hrow1).1).mono ?_; rintro e w2 ⟨rfl, hb2⟩)
        have hs1 := hb1.size
        go_wp2
        refine bodyPost_ret (by simp [results, Tryd.results26, go_sem]; rfl) rfl ⟨by simp, (cb.trans (hb1.mono hsr)).trans (hb2.mono (by omega))⟩
      | some s =>
        by_cases hD4 : D < 4
        · have hrt : Rt D L s := ⟨hD4, hrun⟩
          have hisT : isT D L t = decide (tbl (wrd D L s) = t) := by unfold isT; rw [hrun]; simp [hD4]
          rw [hisT] at HOK
          have F := Lib.hid (fun W v2 (hS : SlB W v2 L) (he : Env W) => table_yes D v2 L s hrt W hS he)
          have htl : (tbl (wrd D L s)).length ≤ 100000 := by
            rw [tbl_len]
            have := hrt.len
            unfold wrd
            rw [List.length_append, List.length_append, List.length_replicate, List.length_map]
            split <;> simp <;> omega
          clear hrun hisT
          go_upto_region 11 with (go_at_call 57; refine TK.out.mono ?_; rintro e w1 ⟨⟨v1, rfl, hrow1⟩, hb1⟩)
          have cb1 := cb.trans (hb1.mono hsr)
          have hs1 := cb1.size
          go_upto_region 12 with (go_at_call 25; refine (F.out _ _ (slb_own hrow1).1 (HE.out _ cb1)).mono ?_; rintro e w2 ⟨⟨v2, rfl, hrow2⟩, hb2⟩)
          have cb2 := cb1.trans (hb2.mono hs1)
          have EQ := Lib.hid (equalT_calls v2 _ (tbl (wrd D L s)) t htl (by omega) w2 (slt_own hrow2).1 (slt_below HS.out cb2))
          rw [HOK.out] at EQ
          have hrow1' := own_below hrow1 hb2 rfl
          have hs2 := cb2.size
          clear hrow2 hrow1 F TK
          cases OKb with
          | true =>
            go_wp2_with (go_at_call 58; refine EQ.out.mono ?_; rintro e w3 ⟨rfl, hb3⟩)
            refine bodyPost_ret (by simp [results, Tryd.results26, go_sem]; rfl) rfl ⟨?_, cb2.trans (hb3.mono hs2)⟩
            rw [HDL.out.1, HDL.out.2]
            exact ⟨_, rfl, own_below (own_base (B := w.heap.size) (C := wr.heap.size - w.heap.size) (by rw [show w.heap.size + (wr.heap.size - w.heap.size) = wr.heap.size by omega]; exact hrow1')) hb3 rfl⟩
          | false =>
            go_wp2_with (go_at_call 58; refine EQ.out.mono ?_; rintro e w3 ⟨rfl, hb3⟩)
            refine bodyPost_ret (by simp [results, Tryd.results26, go_sem]; rfl) rfl ⟨by simp, cb2.trans (hb3.mono hs2)⟩
        · have hwg : Wg D L := .inl hD4
          have hno : isT D L t = false := by unfold isT; rw [hrun]; simp [hD4]
          clear hrun
          have F := Lib.hid (fun W v2 (hS : SlB W v2 L) => table_no D v2 L hwg HBTs.out W hS)
          obtain rfl : OKb = false := by rw [← HOK.out]; exact hno
          go_upto_region 11 with (go_at_call 57; refine TK.out.mono ?_; rintro e w1 ⟨⟨v1, rfl, hrow1⟩, hb1⟩)
          go_upto_region 12 with (go_at_call 25; refine (F.out _ _ (slb_own hrow1).1).mono ?_; rintro e w2 ⟨rfl, hb2⟩)
          have hs1 := hb1.size
          go_wp2
          refine bodyPost_ret (by simp [results, Tryd.results26, go_sem]; rfl) rfl ⟨by simp, (cb.trans (hb1.mono hsr)).trans (hb2.mono (by omega))⟩
end Go.Proofs.YtacgikhedhiaaaaDoor
