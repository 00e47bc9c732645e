/- AuctionBack: tables are read as the auctions that they were made of. -/
import Derived.Test.YtacgikhedhiaaaaDoorNBb
import Derived.Lib.ConvBytes
namespace Go.Proofs.YtacgikhedhiaaaaDoor
open Go.RowKit

theorem conv_str (x : List UInt8) (W : World) : ∃ q c W', (convert 9 22 (strv x)).run Tryd.prog W = .ok (.slice (some ⟨q, 0, none⟩) x.length c) W' ∧ q < W'.heap.size ∧ (∀ j b, x[j]? = some b → W'.cell? ⟨q, j, none⟩ = some (.int .u8 (b.toNat : Nat))) ∧ Below W.heap.size W W' := by
  refine ⟨W.heap.size, _, _, Lib.run_convert_string_bytes W 9 22 5 ⟨x.toArray⟩ Tryd.underlying9 Tryd.underlying22 Tryd.underlying5, ?_, fun j b hj => ?_, ?_⟩
  · rw [Lib.bytesWorld_size]; omega
  · rw [Lib.bytesWorld_cell _ _ _ _ (by have := (List.getElem?_eq_some_iff.1 hj).1; exact this)]
    show some (Value.int .u8 ((x.getD j 0).toNat : Nat)) = _
    rw [List.getD_eq_getElem?_getD, hj]; rfl
  · exact ⟨rfl, rfl, rfl, by rw [Lib.bytesWorld_size]; omega, fun k hk => Lib.bytesWorld_at_old _ _ _ _ hk⟩
theorem count_take {x : List UInt8} {j : Nat} {b : UInt8} (h : x[j]? = some b) : (x.take (j + 1)).count 63 = (x.take j).count 63 + if b = 63 then 1 else 0 := by
  rw [List.take_add_one, h, List.count_append]
  congr 1
  by_cases hb : b = 63
  · subst hb; rfl
  · rw [if_neg hb]
    show List.count 63 [b] = 0
    rw [List.count_eq_zero]
    simpa using fun e => hb e.symm
theorem aread_yes (v : Value) (t : List (List UInt8)) (hn : t.length ≤ 200) (hl : ∀ s ∈ t, s.length ≤ 1000) (hok : rdOk t = true) (w : World) (hS : SlT w v t) (he : Env w) :
    Calls Tryd.prog 26 #[v] w fun e w' => (∃ v', e = .returned (.tuple #[.int .u8 (rdD t : Nat), v', .int .i64 0]) ∧ w'.ownsRow w.heap.size 5 1 v' (rdL t).length ((rdL t).map u8v)) ∧ Below w.heap.size w w' :=
  (aread_calls v t hn hl w hS he).mono fun e w' h => by
    rw [if_pos hok] at h
    exact h
set_option maxRecDepth 100000 in
set_option maxHeartbeats 16000000 in
theorem back_calls (d0 : Nat) (hd8 : d0 < 256) (v : Value) (xs : List Nat) (h8 : ∀ x ∈ xs, x < 256) (fin : Bool) (w : World) (hS : SlB w v xs) (he : Env w) :
    Calls Tryd.prog 8 #[.int .u8 d0, v, .bool fin] w fun e w' => e = .returned (.bool true) ∧ Below w.heap.size w w' := by
  have AW := Lib.hid (awake_calls w he)
  have MD := Lib.hid (fun W (hb : Below w.heap.size w W) => made_calls d0 hd8 v xs h8 fin W (slb_below hS hb))
  have HE := Lib.hid (fun W (hb : Below w.heap.size w W) => he.below hb)
  obtain ⟨d, hd⟩ : ∃ d, d0 % 4 = d := ⟨_, rfl⟩
  have hd4 : d < 4 := by omega
  rw [hd] at MD
  clear hS he hd
  go_enter Tryd.func8, Tryd.ntmps8
  go_upto_region 3 with (go_at_call 11; refine AW.out.mono ?_; rintro e w9 ⟨rfl, hbel⟩; obtain ⟨o1, j1, rfl⟩ := grow_of_below hbel; clear hbel)
  go_upto_region 4 with (go_at_call 13; refine (MD.out _ (by repeat (first | (with_reducible exact Below.refl _ _) | ((with_reducible refine below_grow ?_ ?_); rotate_left; focus (first | omega | (simp [go_sem]; done) | (simp [go_sem]; omega))) | ((with_reducible refine Below.alloc ?_ ?_ _); rotate_left; focus (first | omega | (simp [go_sem]; done) | (simp [go_sem]; omega))) | ((with_reducible refine Below.setCell ?_ ?_ _); rotate_left; focus (first | omega | (simp [go_sem]; done) | (simp [go_sem]; omega))) | (with_reducible refine Below.drew ?_) | (with_reducible refine below_drewN _ ?_)))).mono ?_; rintro e w1 ⟨⟨v1, l, s, rfl, hrow, hrt, -⟩, hbel⟩)
  have cb : Below w.heap.size w w1 := (show Below w.heap.size w (grow w o1 j1) by repeat (first | (with_reducible exact Below.refl _ _) | ((with_reducible refine below_grow ?_ ?_); rotate_left; focus (first | omega | (simp [go_sem]; done) | (simp [go_sem]; omega))) | ((with_reducible refine Below.alloc ?_ ?_ _); rotate_left; focus (first | omega | (simp [go_sem]; done) | (simp [go_sem]; omega))) | ((with_reducible refine Below.setCell ?_ ?_ _); rotate_left; focus (first | omega | (simp [go_sem]; done) | (simp [go_sem]; omega))) | (with_reducible refine Below.drew ?_) | (with_reducible refine below_drewN _ ?_))).trans (hbel.mono (by simp [go_sem]))
  have hs1 := cb.size
  have hln := hrt.len
  have h38 := St.run_lt hrt.hr
  have hrt2 := rd_tbl hrt.hd hrt.hr
  have hwl := wrd_len d l s
  have hqm := (tbl_qm (wrd d l s)).trans (wrd_qm d l s h38)
  have hll := ln_len (word_ok (d := d) (s := s) h38)
  have htl := tbl_len (wrd d l s)
  have TB := Lib.hid (table_yes d v1 l s hrt w1 (slb_own hrow).1 (HE.out _ cb))
  obtain ⟨t, ht⟩ : ∃ t, tbl (wrd d l s) = t := ⟨_, rfl⟩
  rw [ht] at TB htl hqm hrt2
  have hl20 : ∀ x ∈ t, x.length = 20 := fun x hx => by
    rw [← ht] at hx
    obtain ⟨r, _, rfl⟩ := List.mem_map.1 hx
    exact hll r
  obtain ⟨R, hR⟩ : ∃ R, t.length = R := ⟨_, rfl⟩
  have hR2 : R ≤ 200 := by
    rw [← hR, htl, hwl]
    split <;> omega
  obtain ⟨A1, cap1, rfl, -⟩ := own_slice hrow
  have HRw : Hid ((R : Int) = ((d : Int) + l.length + (if s.over then 0 else 1) + 3) / 4) := Lib.hid (by
    rw [← hR, htl, hwl]
    split <;> omega)
  have HRl := Lib.hid hR
  have HQ := Lib.hid hqm
  have H20 := Lib.hid hl20
  have HRT2 := Lib.hid hrt2
  clear AW MD hbel ht hll htl hwl hR hqm hrt2 hl20
  go_upto_region 5 with (go_at_call 25; refine TB.out.mono ?_; rintro e w2 ⟨⟨v2, rfl, hrow2⟩, hb2⟩)
  have cb2 := cb.trans (hb2.mono hs1)
  have hs2 := cb2.size
  have hST := (slt_own hrow2).1
  obtain ⟨p2, c2, rfl, hc2, hx2⟩ := id hST
  have RD := Lib.hid (aread_yes _ t (by have := HRl.out; omega) (fun x hx => by rw [H20.out x hx]; decide) HRT2.out.2.2 w2 hST (HE.out _ cb2))
  rw [HRT2.out.1, HRT2.out.2.1, HRl.out] at RD
  rw [HRl.out] at hc2 hST ⊢
  go_upto_region 6 with (go_at_call 26; refine RD.out.mono ?_; rintro e w3 ⟨⟨v3, rfl, hrow3⟩, hb3⟩)
  have cb3 := cb2.trans (hb3.mono hs2)
  have hs3 := cb3.size
  have hrowA := own_below (own_below hrow hb2 rfl) hb3 rfl
  have OV := Lib.hid (aover_yes d _ l s hrt w3 (slb_own hrowA).1)
  go_upto_region 7 with (go_at_call 18; refine OV.out.mono ?_; rintro e w4 ⟨rfl, hb4⟩)
  have cb4 := cb3.trans (hb4.mono hs3)
  have HBW := Lib.hid cb4
  have hs4 := cb4.size
  have SB := Lib.hid (fun W (hb : Below w4.heap.size w4 W) => same_calls v3 _ l l hrt.lt hrt.lt (by omega) W (slb_own (own_below (own_below hrow3 hb4 rfl) hb rfl)).1 (slb_own (own_below (own_below hrowA hb4 rfl) hb rfl)).1)
  rw [show decide (l = l) = true by simp] at SB
  have HXT := Lib.hid (slt_below (slt_below hST hb3) hb4)
  obtain ⟨n, hn⟩ : ∃ n, l.length = n := ⟨_, rfl⟩
  rw [hn] at hln SB HRw ⊢
  have g0 : IntKind.i64.wrap (d : Int) = d := IntWalk.i64_in _ (by omega)
  have g1 : IntKind.i64.wrap ((d : Int) + n) = (d : Int) + n := IntWalk.i64_in _ (by omega)
  clear cb4 hrow hrow2 hrow3 hrowA hrt hST hx2 TB RD OV hb2 hb3 hb4 cb2 cb3 hs2 hs3 hn h38 cb hs1
  go_wp2
  go_loopw [16, 19, 21, 56] (fun s16 _ _ s56 wr => ∃ i : Nat, s56 = .int .i64 i ∧ i ≤ R ∧ s16 = .int .i64 (qm (t.take i) : Nat) ∧ qm (t.take i) ≤ 20 * i ∧ Below w4.heap.size w4 wr) (fun _ _ _ s56 _ => R - (intOf s56).toNat)
  case atStart => exact ⟨0, rfl, Nat.zero_le _, rfl, by simp [qm], Below.refl _ _⟩
  case round =>
    obtain ⟨i, rfl, hiR, rfl, hqi, cbr⟩ := hrel
    have hsr := cbr.size
    by_cases hlt : i < R
    · have hlt2 : (i : Int) < R := by omega
      obtain ⟨p0, c0, e0, -, hx⟩ := HXT.out
      simp only [Value.slice.injEq] at e0
      obtain ⟨rfl, -, rfl⟩ := e0
      obtain ⟨b1, o1', rfl, hb1, hx⟩ := hx (by rintro rfl; have := HRl.out; simp at this; omega)
      obtain ⟨x, hxs⟩ : ∃ a, t[i]? = some a := ⟨_, List.getElem?_eq_getElem (by have := HRl.out; omega)⟩
      have k1 : wr.cell? ⟨b1, o1' + i, none⟩ = some (strv x) := (cbr.cell (p := ⟨b1, o1' + i, none⟩) hb1).trans (hx i x hxs)
      have f1 : IntKind.i64.wrap ((i : Int) + 1) = (i : Int) + 1 := IntWalk.i64_in _ (by omega)
      have h20 : x.length = 20 := H20.out x (List.mem_of_getElem? hxs)
      obtain ⟨Q, hQ⟩ : ∃ q, qm (t.take i) = q := ⟨_, rfl⟩
      have hQ1 : qm (t.take (i + 1)) = Q + x.count 63 := by rw [List.take_add_one, hxs]; show qm (t.take i ++ [x]) = _; rw [qm_snoc, hQ]
      have HQ1 := Lib.hid hQ1
      rw [hQ] at hqi ⊢
      clear hQ hQ1 hx hxs
      go_wp2
      obtain ⟨q, c3, w5, hcv, hq5, hcell, hb5⟩ := conv_str x wr
      rw [hcv]
      simp only [Result.andThen]
      rw [Oper.upon_value]
      have HC := Lib.hid hcell
      have H20x := Lib.hid h20
      rw [h20]
      clear hcell hcv h20
      have cb5 := cbr.trans (hb5.mono hsr)
      have hs5 := cb5.size
      have HB5 := Lib.hid cb5
      clear cb5 hb5
      go_wp2
      go_loopw [16, 21, 66] (fun s16 _ s66 wr2 => ∃ j : Nat, s66 = .int .i64 j ∧ j ≤ 20 ∧ s16 = .int .i64 (Q + (x.take j).count 63 : Nat) ∧ (x.take j).count 63 ≤ j ∧ Below w5.heap.size w5 wr2) (fun _ _ s66 _ => 20 - (intOf s66).toNat)
      case atStart => exact ⟨0, rfl, by decide, by simp, by simp, Below.refl _ _⟩
      case round =>
        obtain ⟨j, rfl, hj20, rfl, hcj, cbj⟩ := hrel
        by_cases hlj : j < 20
        · have hlj2 : (j : Int) < 20 := by omega
          obtain ⟨b, hbx⟩ : ∃ b, x[j]? = some b := ⟨_, List.getElem?_eq_getElem (by rw [H20x.out]; omega)⟩
          have kb : wr.cell? ⟨q, j, none⟩ = some (.int .u8 (b.toNat : Nat)) := (cbj.cell (p := ⟨q, j, none⟩) hq5).trans (HC.out j b hbx)
          have f2 : IntKind.i64.wrap ((j : Int) + 1) = (j : Int) + 1 := IntWalk.i64_in _ (by omega)
          have hct := count_take hbx
          obtain ⟨M, hM⟩ : ∃ m, Q + (x.take j).count 63 = m := ⟨_, rfl⟩
          rw [hM]
          have f3 : IntKind.i64.wrap ((M : Int) + 1) = (M : Int) + 1 := IntWalk.i64_in _ (by omega)
          by_cases hb63 : b = 63
          · have hn : b.toNat = 63 := by rw [hb63]; rfl
            rw [hn] at kb
            rw [if_pos hb63] at hct
            have HR1 := Lib.hid (show Q + (x.take (j + 1)).count 63 = M + 1 ∧ (x.take (j + 1)).count 63 ≤ j + 1 by omega)
            clear hct hM hbx hn hb63 hcj
            go_wp2
            go_roundw
            case rel => exact ⟨j + 1, by go_num, by omega, by rw [HR1.out.1]; rfl, HR1.out.2, cbj⟩
            case measure => simp [intOf]; omega
          · have hn : ¬ (b.toNat : Int) = 63 := fun e => hb63 (by
              have : b.toNat = 63 := by omega
              exact UInt8.toNat_inj.1 this)
            have hn2 : ¬ b.toNat = 63 := by omega
            rw [if_neg hb63] at hct
            have HR1 := Lib.hid (show Q + (x.take (j + 1)).count 63 = M ∧ (x.take (j + 1)).count 63 ≤ j + 1 by omega)
            obtain ⟨B, hB⟩ : ∃ B, b.toNat = B := ⟨_, rfl⟩
            rw [hB] at kb hn hn2
            clear hct hM hbx hB hb63 hcj
            go_wp2
            go_roundw
            case rel => exact ⟨j + 1, by go_num, by omega, by rw [HR1.out.1], HR1.out.2, cbj⟩
            case measure => simp [intOf]; omega
        · obtain rfl : j = 20 := by omega
          have hx20 : x.take 20 = x := List.take_of_length_le (by rw [H20x.out]; exact Nat.le_refl _)
          rw [hx20] at hcj ⊢
          have HR2 := Lib.hid (show Q + x.count 63 ≤ 20 * (i + 1) by omega)
          obtain ⟨M, hM⟩ : ∃ m, Q + x.count 63 = m := ⟨_, rfl⟩
          rw [hM]
          have HM := Lib.hid hM
          clear hx20 hcj hM
          go_wp2
          go_roundw
          case rel => exact ⟨i + 1, by go_num, by omega, by rw [HQ1.out, HM.out], by rw [HQ1.out]; exact HR2.out, HB5.out.trans (cbj.mono hs5)⟩
          case measure => simp [intOf]; omega
    · obtain rfl : R = i := by omega
      have hq : qm (t.take R) = if s.over = true then 0 else 1 := by rw [List.take_of_length_le (by have := HRl.out; omega)]; exact HQ.out
      rw [hq]
      have hw := HBW.out.trans (cbr.mono hs4)
      clear hq hqi
      cases ho : s.over with
      | true =>
        rw [ho] at HRw
        have hRw := HRw.out
        simp only [if_true] at hRw
        rw [if_pos rfl]
        have g2 : IntKind.i64.wrap ((d : Int) + n + 3) = (d : Int) + n + 3 := IntWalk.i64_in _ (by omega)
        have g3 : ((d : Int) + n + 3).tdiv 4 = R := by rw [Int.tdiv_eq_ediv_of_nonneg (by omega)]; omega
        have g4 : IntKind.i64.wrap (R : Int) = R := IntWalk.i64_in _ (by omega)
        clear hRw ho
        go_wp2_with (go_at_call 27; refine (SB.out _ cbr).mono ?_; rintro e w9 ⟨rfl, hb9⟩)
        refine bodyPost_ret (by simp [results, Tryd.results8, go_sem]) rfl ⟨rfl, ?_⟩
        exact hw.trans (hb9.mono (by omega))
      | false =>
        rw [ho] at HRw
        have hRw := HRw.out
        simp only [Bool.false_eq_true, if_false] at hRw
        rw [if_neg (by decide)]
        have g5 : IntKind.i64.wrap ((d : Int) + n + 1) = (d : Int) + n + 1 := IntWalk.i64_in _ (by omega)
        have g2 : IntKind.i64.wrap ((d : Int) + n + 1 + 3) = (d : Int) + n + 1 + 3 := IntWalk.i64_in _ (by omega)
        have g3 : ((d : Int) + n + 1 + 3).tdiv 4 = R := by rw [Int.tdiv_eq_ediv_of_nonneg (by omega)]; omega
        have g4 : IntKind.i64.wrap (R : Int) = R := IntWalk.i64_in _ (by omega)
        clear hRw ho
        go_wp2_with (go_at_call 27; refine (SB.out _ cbr).mono ?_; rintro e w9 ⟨rfl, hb9⟩)
        refine bodyPost_ret (by simp [results, Tryd.results8, go_sem]) rfl ⟨rfl, ?_⟩
        exact hw.trans (hb9.mono (by omega))
theorem back_walk (a0 : Int) (v : Value) (xs : List Nat) (fin : Bool) (b0 : 0 ≤ a0 ∧ a0 ≤ 255) (h8 : ∀ x ∈ xs, x < 256) (w : World) (hS : SlB w v xs) (he : Env w) :
    Calls Tryd.prog 8 #[.int .u8 a0, v, .bool fin] w fun e w' => e = .returned (.bool true) ∧ Below w.heap.size w w' := by
  obtain ⟨n, rfl⟩ := Int.eq_ofNat_of_zero_le b0.1
  exact back_calls n (by omega) v xs h8 fin w hS he
end Go.Proofs.YtacgikhedhiaaaaDoor
