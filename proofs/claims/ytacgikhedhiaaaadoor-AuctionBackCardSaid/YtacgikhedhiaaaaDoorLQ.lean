/- Auctions: Made, a right auction made of numbers. -/
import Derived.Test.YtacgikhedhiaaaaDoorLN
namespace Go.Proofs.YtacgikhedhiaaaaDoor
open Go.RowKit

theorem St.mis_over {s : St} (h : s.over = true) : s.mis = 0 := by
  unfold St.over at h
  unfold St.mis
  by_cases hb : s.bid = 0
  · rw [if_pos hb] at h ⊢
    have := of_decide_eq_true h
    omega
  · rw [if_neg hb] at h ⊢
    have := of_decide_eq_true h
    omega
theorem Rt.snoc {d : Nat} {l : List Nat} {s : St} (h : Rt d l s) {c : Nat} (hc : s.ref c = 0) : Rt d (l ++ [c]) (s.take c) := ⟨h.hd, St.run_snoc h.hr hc⟩
theorem Rt.nil {d : Nat} (h : d < 4) : Rt d [] (st0 d) := ⟨h, rfl⟩
theorem slice_u8 {p : Option Addr} {n c : Nat} (m : Nat) (hm : m ≤ n) (hnc : n ≤ c) : ∃ p', ∀ w, (Instr.slice 22 (.slice p n c) none (some (.int .i64 m)) none).run Tryd.prog w = .ok (.slice p' m c) w ∧ (∀ b off, p = some ⟨b, off, none⟩ → 0 < m → p' = p) := by
  have z := Tryd.sizeOf5
  have u := Tryd.underlying22
  have hm2 : (m : Int) ≤ c := by omega
  refine ⟨if c = 0 then p else p.map (·.add 0), fun w => ⟨by simp [go_sem, *], fun b off hp h0 => ?_⟩⟩
  subst hp
  rw [if_neg (by omega)]
  simp [Addr.add]
set_option maxRecDepth 100000 in
set_option maxHeartbeats 16000000 in
theorem made_calls (d0 : Nat) (hd8 : d0 < 256) (v : Value) (xs : List Nat) (h8 : ∀ x ∈ xs, x < 256) (fin : Bool) (w : World) (hS : SlB w v xs) :
    Calls Tryd.prog 13 #[.int .u8 d0, v, .bool fin] w fun e w' => (∃ v' l s, e = .returned (.tuple #[.int .u8 (d0 % 4 : Nat), v']) ∧ w'.ownsRow w.heap.size 5 1 v' l.length (l.map u8v) ∧ Rt (d0 % 4) l s ∧ (fin = true → s.over = true)) ∧ Below w.heap.size w w' := by
  obtain ⟨i0, hi, hz0, hz1, hz2⟩ := info_parts Tryd.infoU
  obtain ⟨p, c, rfl, hc, hxc⟩ := hS
  obtain ⟨n, hxn⟩ : ∃ n, xs.length = n := ⟨_, rfl⟩
  obtain ⟨m, hm⟩ : ∃ m, min n 319 = m := ⟨_, rfl⟩
  rw [hxn] at hc ⊢
  obtain ⟨p', hsl⟩ := slice_u8 (p := p) (n := n) (c := c) m (by omega) hc
  have hsl1 := fun w => (hsl w).1
  have e0 : min (n : Int) 319 = m := by omega
  obtain ⟨d, hd⟩ : ∃ d, d0 % 4 = d := ⟨_, rfl⟩
  have hd4 : d < 4 := by omega
  have t1 : (d0 : Int).tmod 4 = d := by rw [Int.tmod_eq_emod_of_nonneg (by omega)]; omega
  have t2 : IntKind.u8.wrap (d : Int) = d := u8_wrap (by omega) (by omega)
  rw [hd]
  have HX : Hid (0 < m → ∃ b off, p' = some ⟨b, off, none⟩ ∧ b < w.heap.size ∧ ∀ j, j < m → ∃ a, a < 256 ∧ w.cell? ⟨b, off + j, none⟩ = some (.int .u8 (a : Nat))) := Lib.hid (fun h => by
    obtain ⟨b, off, hp, hb, hx⟩ := hxc (by rintro rfl; simp at hxn; omega)
    refine ⟨b, off, (hsl w).2 b off hp h |>.trans hp, hb, fun j hj => ?_⟩
    have hjl : j < xs.length := by omega
    exact ⟨xs[j], h8 _ (List.getElem_mem hjl), hx j _ (List.getElem?_eq_getElem hjl)⟩)
  have hm3 : m ≤ 319 := by omega
  clear hsl hxc hm hd
  go_enter Tryd.func13, Tryd.ntmps13
  go_wp2
  go_loopw [8, 10, 11, 12, 13, 24] (fun s8 _ _ _ _ s24 wr => ∃ (i : Nat) (l : List Nat) (s : St), s24 = .int .i64 i ∧ i ≤ m ∧ wr.ownsRow w.heap.size 5 1 s8 l.length (l.map u8v) ∧ Rt d l s ∧ Below w.heap.size w wr) (fun _ _ _ _ _ s24 _ => m - (intOf s24).toNat)
  case atStart => exact ⟨0, [], _, rfl, Nat.zero_le _, World.ownsRow_nil _ _ _ _, Rt.nil hd4, Below.refl _ _⟩
  case round =>
    obtain ⟨i, l, s, rfl, him, hrow, hrt, cb⟩ := hrel
    by_cases hlt : i < m
    · have hlt2 : (i : Int) < m := by omega
      obtain ⟨b1, o1, rfl, hb1, hx⟩ := HX.out (by omega)
      obtain ⟨a, ha8, hcell⟩ := hx i hlt
      have k1 : wr.cell? ⟨b1, o1 + i, none⟩ = some (.int .u8 a) := (cb.cell (p := ⟨b1, o1 + i, none⟩) hb1).trans hcell
      have f1 : IntKind.i64.wrap ((i : Int) + 1) = (i : Int) + 1 := IntWalk.i64_in _ (by omega)
      have hbs := cb.size
      have hln := hrt.len
      have hS := (slb_own hrow).1
      cases ho : s.over with
      | true =>
        have LG := Lib.hid (legal_over d _ l s hrt ho wr hS)
        have HR0 := Lib.hid hrow
        have HRT := Lib.hid hrt
        have CB0 := Lib.hid cb
        clear hx hcell hrow hrt cb hS
        go_upto_region 7 with (go_at_call 14; refine LG.out.mono ?_; rintro e w9 ⟨rfl, hbel⟩; obtain ⟨o2, j2, rfl⟩ := grow_of_below hbel; clear hbel)
        have HR := Lib.hid (own_grow HR0.out o2 j2)
        have CB : Hid (Below w.heap.size w (grow wr o2 j2)) := Lib.hid (by repeat (first | (with_reducible exact CB0.out) | ((with_reducible refine below_grow ?_ ?_); rotate_left; focus (first | omega | (simp [go_sem]; done) | (simp [go_sem]; omega))) | ((with_reducible refine Below.alloc ?_ ?_ _); rotate_left; focus (first | omega | (simp [go_sem]; done) | (simp [go_sem]; omega))) | ((with_reducible refine Below.setCell ?_ ?_ _); rotate_left; focus (first | omega | (simp [go_sem]; done) | (simp [go_sem]; omega))) | (with_reducible refine Below.drew ?_) | (with_reducible refine below_drewN _ ?_)))
        clear HR0 CB0 LG
        generalize grow wr o2 j2 = wr at *
        clear hlt hlt2 k1 f1 him hb1
        clear HX
        go_wp2
        go_loopw [8, 14, 15, 61] (fun s8 _ _ s61 wr => ∃ (k : Nat) (l : List Nat) (s : St), s61 = .int .i64 k ∧ k ≤ 4 ∧ wr.ownsRow w.heap.size 5 1 s8 l.length (l.map u8v) ∧ Rt d l s ∧ (fin = true → s.mis ≤ 4 - k) ∧ Below w.heap.size w wr) (fun _ _ _ s61 _ => 4 - (intOf s61).toNat)
        case atStart => exact ⟨0, l, s, rfl, by decide, HR.out, HRT.out, fun _ => s.mis_le, CB.out⟩
        case round =>
          clear HR HRT CB
          obtain ⟨k, l, s, rfl, hk, hrow, hrt, hmis, cb⟩ := hrel
          by_cases hlt : k < 4
          · have hlt2 : (k : Int) < 4 := by omega
            have f1 : IntKind.i64.wrap ((k : Int) + 1) = (k : Int) + 1 := IntWalk.i64_in _ (by omega)
            have OV := Lib.hid (aover_yes d _ l s hrt wr (slb_own hrow).1)
            have hbs := cb.size
            have hln := hrt.len
            have HR := Lib.hid hrow
            have HRT := Lib.hid hrt
            have CB := Lib.hid cb
            have HM := Lib.hid hmis
            clear hrow hrt cb hmis
            cases ho : s.over with
            | true =>
              have HO := Lib.hid ho
              rw [ho] at OV
              clear ho
              cases fin with
              | true =>
                go_wp2_with (go_at_call 18; refine OV.out.mono ?_; rintro e w9 ⟨rfl, hbel⟩; obtain ⟨o1, j1, rfl⟩ := grow_of_below hbel; clear hbel)
                go_roundw
                case rel => exact ⟨k + 1, l, s, by go_num, by omega, own_grow HR.out _ _, HRT.out, fun _ => by rw [St.mis_over HO.out]; omega, by repeat (first | (with_reducible exact CB.out) | ((with_reducible refine below_grow ?_ ?_); rotate_left; focus (first | omega | (simp [go_sem]; done) | (simp [go_sem]; omega))) | ((with_reducible refine Below.alloc ?_ ?_ _); rotate_left; focus (first | omega | (simp [go_sem]; done) | (simp [go_sem]; omega))) | ((with_reducible refine Below.setCell ?_ ?_ _); rotate_left; focus (first | omega | (simp [go_sem]; done) | (simp [go_sem]; omega))) | (with_reducible refine Below.drew ?_) | (with_reducible refine below_drewN _ ?_))⟩
                case measure => simp [intOf]; omega
              | false =>
                go_wp2_with (go_at_call 18; refine OV.out.mono ?_; rintro e w9 ⟨rfl, hbel⟩; obtain ⟨o1, j1, rfl⟩ := grow_of_below hbel; clear hbel)
                go_roundw
                case rel => exact ⟨k + 1, l, s, by go_num, by omega, own_grow HR.out _ _, HRT.out, (fun h => by cases h), by repeat (first | (with_reducible exact CB.out) | ((with_reducible refine below_grow ?_ ?_); rotate_left; focus (first | omega | (simp [go_sem]; done) | (simp [go_sem]; omega))) | ((with_reducible refine Below.alloc ?_ ?_ _); rotate_left; focus (first | omega | (simp [go_sem]; done) | (simp [go_sem]; omega))) | ((with_reducible refine Below.setCell ?_ ?_ _); rotate_left; focus (first | omega | (simp [go_sem]; done) | (simp [go_sem]; omega))) | (with_reducible refine Below.drew ?_) | (with_reducible refine below_drewN _ ?_))⟩
                case measure => simp [intOf]; omega
            | false =>
              have HO := Lib.hid ho
              rw [ho] at OV
              clear ho
              cases fin with
              | true =>
                go_wp2_with (first | (go_at_call 18; refine OV.out.mono ?_; rintro e w9 ⟨rfl, hbel⟩; obtain ⟨o1, j1, rfl⟩ := grow_of_below hbel; clear hbel) | (at_builtin; refine wpList_append_own _ rfl _ _ 22 rfl w.heap.size 5 i0 (.int .u8 0) 1 1 Tryd.underlying22 hi hz0 hz1 hz2 rfl (by decide) _ _ _ rfl ((own_grow HR.out _ _).alloc _) ⟨wr.heap.size + sz o1, 0, none⟩ 1 1 [u8v 0] rfl rfl (news1 _ _ _ _ (by simp [go_sem]) rfl) (fun u hu => by simp only [List.mem_singleton] at hu; subst hu; rfl) (by unfold maxLen; omega) (by omega) (by simp [go_sem]; omega) ?_; intro v' w2 hown' hgrow _))
                go_roundw
                case rel =>
                  refine ⟨k + 1, l ++ [0], s.take 0, by go_num, by omega, ?_, HRT.out.snoc (St.ref_0 HO.out), fun _ => by rw [St.mis_take]; have := HM.out trivial; omega, Below.grown (by repeat (first | (with_reducible exact CB.out) | ((with_reducible refine below_grow ?_ ?_); rotate_left; focus (first | omega | (simp [go_sem]; done) | (simp [go_sem]; omega))) | ((with_reducible refine Below.alloc ?_ ?_ _); rotate_left; focus (first | omega | (simp [go_sem]; done) | (simp [go_sem]; omega))) | ((with_reducible refine Below.setCell ?_ ?_ _); rotate_left; focus (first | omega | (simp [go_sem]; done) | (simp [go_sem]; omega))) | (with_reducible refine Below.drew ?_) | (with_reducible refine below_drewN _ ?_))) hgrow (by simp [go_sem]; omega) (fun k e => own_block_ge HR.out e)⟩
                  rw [List.length_append, List.map_append]
                  exact hown'
                case measure => simp [intOf]; omega
              | false =>
                go_wp2_with (go_at_call 18; refine OV.out.mono ?_; rintro e w9 ⟨rfl, hbel⟩; obtain ⟨o1, j1, rfl⟩ := grow_of_below hbel; clear hbel)
                go_roundw
                case rel => exact ⟨k + 1, l, s, by go_num, by omega, own_grow HR.out _ _, HRT.out, (fun h => by cases h), by repeat (first | (with_reducible exact CB.out) | ((with_reducible refine below_grow ?_ ?_); rotate_left; focus (first | omega | (simp [go_sem]; done) | (simp [go_sem]; omega))) | ((with_reducible refine Below.alloc ?_ ?_ _); rotate_left; focus (first | omega | (simp [go_sem]; done) | (simp [go_sem]; omega))) | ((with_reducible refine Below.setCell ?_ ?_ _); rotate_left; focus (first | omega | (simp [go_sem]; done) | (simp [go_sem]; omega))) | (with_reducible refine Below.drew ?_) | (with_reducible refine below_drewN _ ?_))⟩
                case measure => simp [intOf]; omega
          · obtain rfl : k = 4 := by omega
            go_wp2
            refine bodyPost_ret (by simp [results, Tryd.results13, go_sem]) rfl ⟨⟨_, l, s, rfl, hrow, hrt, fun h => hrt.ok.mis_0 (by have := hmis h; omega)⟩, cb⟩
      | false =>
        have LG := Lib.hid (legal_open d _ l s hrt ho wr hS)
        obtain ⟨L, hL⟩ : ∃ L, s.lgl = L := ⟨_, rfl⟩
        obtain ⟨nL, hnL⟩ : ∃ n, L.length = n := ⟨_, rfl⟩
        have hL1 : 1 ≤ nL := by rw [← hnL, ← hL, St.lgl_cons]; simp
        have hL38 : nL ≤ 38 := by rw [← hnL, ← hL]; exact s.lgl_le
        rw [hL, hnL] at LG
        have HLc : Hid (∀ z, z < nL → ∃ x, L[z]? = some x ∧ s.ref x = 0) := Lib.hid (fun z hz => by
          have hzl : z < L.length := by omega
          refine ⟨L[z], List.getElem?_eq_getElem hzl, ?_⟩
          have hm : L[z] ∈ s.lgl := by rw [hL]; exact List.getElem_mem hzl
          have := St.mem_lgl.1 hm
          exact St.ref_of this.1 ho this.2)
        have HR := Lib.hid hrow
        have HRT := Lib.hid hrt
        have CB := Lib.hid cb
        clear hx hcell hrow hrt cb hS hL hnL
        go_upto_region 7 with (go_at_call 14; refine LG.out.mono ?_; rintro e w9 ⟨⟨v9, rfl, hown9⟩, hbel⟩; obtain ⟨o2, j2, rfl⟩ := grow_of_below hbel; clear hbel)
        obtain ⟨A, cap, rfl, hA⟩ := own_slice hown9
        obtain ⟨g, rfl⟩ := hA.resolve_left (by omega)
        have HC : Hid (∀ z, z < nL → ∃ x, (grow wr o2 j2).cell? ⟨g, z, none⟩ = some (u8v x) ∧ s.ref x = 0) := Lib.hid (fun z hz => by
          obtain ⟨x, h1, h2⟩ := HLc.out z hz
          refine ⟨x, ?_, h2⟩
          rw [own_at hown9 z (by omega), List.getElem?_map, h1]; rfl)
        clear hown9 hA HLc LG
        have g1 : IntKind.i64.wrap (a : Int) = a := IntWalk.i64_in _ (by omega)
        have hne0 : ¬ (nL : Int) = 0 := by omega
        obtain ⟨x, hx⟩ : ∃ x, a % nL = x := ⟨_, rfl⟩
        have hxl : x < nL := by rw [← hx]; exact Nat.mod_lt _ (by omega)
        have g2 : (a : Int).tmod nL = x := by rw [Int.tmod_eq_emod_of_nonneg (by omega), ← hx]; rfl
        have g3 : IntKind.i64.wrap (x : Int) = x := IntWalk.i64_in _ (by omega)
        obtain ⟨y, hy⟩ : ∃ y, min nL 3 = y := ⟨_, rfl⟩
        have g4 : min (nL : Int) 3 = y := by omega
        have hy0 : ¬ (y : Int) = 0 := by omega
        obtain ⟨z, hz⟩ : ∃ z, x % y = z := ⟨_, rfl⟩
        have hzl : z < nL := by have : z < y := by rw [← hz]; exact Nat.mod_lt _ (by omega)
                                omega
        have g5 : (x : Int).tmod y = z := by rw [Int.tmod_eq_emod_of_nonneg (by omega), ← hz]; rfl
        have g6 : IntKind.i64.wrap (z : Int) = z := IntWalk.i64_in _ (by omega)
        have hxl2 : (x : Int) < nL := by omega
        have hzl2 : (z : Int) < nL := by omega
        clear hx hy hz
        by_cases h128 : 128 ≤ a
        · have h128' : (128 : Int) ≤ a := by omega
          obtain ⟨q, kc, hq⟩ := HC.out z hzl
          have HQ := Lib.hid hq
          clear hq
          go_wp2_with (at_builtin; refine wpList_append_own _ rfl _ _ 22 rfl w.heap.size 5 i0 (.int .u8 0) 1 1 Tryd.underlying22 hi hz0 hz1 hz2 rfl (by decide) _ _ _ rfl ((own_grow HR.out _ _).alloc _) ⟨wr.heap.size + sz o2, 0, none⟩ 1 1 [u8v q] rfl rfl (news1 _ _ _ _ (by simp [go_sem]) rfl) (fun u hu => by simp only [List.mem_singleton] at hu; subst hu; rfl) (by unfold maxLen; omega) (by omega) (by simp [go_sem]; omega) ?_; intro v' w2 hown' hgrow _)
          go_roundw
          case rel =>
            refine ⟨i + 1, l ++ [q], s.take q, by go_num, by omega, ?_, HRT.out.snoc HQ.out, Below.grown (by repeat (first | (with_reducible exact CB.out) | ((with_reducible refine below_grow ?_ ?_); rotate_left; focus (first | omega | (simp [go_sem]; done) | (simp [go_sem]; omega))) | ((with_reducible refine Below.alloc ?_ ?_ _); rotate_left; focus (first | omega | (simp [go_sem]; done) | (simp [go_sem]; omega))) | ((with_reducible refine Below.setCell ?_ ?_ _); rotate_left; focus (first | omega | (simp [go_sem]; done) | (simp [go_sem]; omega))) | (with_reducible refine Below.drew ?_) | (with_reducible refine below_drewN _ ?_))) hgrow (by simp [go_sem]; omega) (fun k e => own_block_ge HR.out e)⟩
            rw [List.length_append, List.map_append]
            exact hown'
          case measure => simp [intOf]; omega
        · have h128' : ¬ (128 : Int) ≤ a := by omega
          obtain ⟨q, kc, hq⟩ := HC.out x hxl
          have HQ := Lib.hid hq
          clear hq
          go_wp2_with (at_builtin; refine wpList_append_own _ rfl _ _ 22 rfl w.heap.size 5 i0 (.int .u8 0) 1 1 Tryd.underlying22 hi hz0 hz1 hz2 rfl (by decide) _ _ _ rfl ((own_grow HR.out _ _).alloc _) ⟨wr.heap.size + sz o2, 0, none⟩ 1 1 [u8v q] rfl rfl (news1 _ _ _ _ (by simp [go_sem]) rfl) (fun u hu => by simp only [List.mem_singleton] at hu; subst hu; rfl) (by unfold maxLen; omega) (by omega) (by simp [go_sem]; omega) ?_; intro v' w2 hown' hgrow _)
          go_roundw
          case rel =>
            refine ⟨i + 1, l ++ [q], s.take q, by go_num, by omega, ?_, HRT.out.snoc HQ.out, Below.grown (by repeat (first | (with_reducible exact CB.out) | ((with_reducible refine below_grow ?_ ?_); rotate_left; focus (first | omega | (simp [go_sem]; done) | (simp [go_sem]; omega))) | ((with_reducible refine Below.alloc ?_ ?_ _); rotate_left; focus (first | omega | (simp [go_sem]; done) | (simp [go_sem]; omega))) | ((with_reducible refine Below.setCell ?_ ?_ _); rotate_left; focus (first | omega | (simp [go_sem]; done) | (simp [go_sem]; omega))) | (with_reducible refine Below.drew ?_) | (with_reducible refine below_drewN _ ?_))) hgrow (by simp [go_sem]; omega) (fun k e => own_block_ge HR.out e)⟩
            rw [List.length_append, List.map_append]
            exact hown'
          case measure => simp [intOf]; omega
    · obtain rfl : i = m := by omega
      have HR := Lib.hid hrow
      have HRT := Lib.hid hrt
      have CB := Lib.hid cb
      clear hrow hrt cb
      clear HX
      go_wp2
      go_loopw [8, 14, 15, 61] (fun s8 _ _ s61 wr => ∃ (k : Nat) (l : List Nat) (s : St), s61 = .int .i64 k ∧ k ≤ 4 ∧ wr.ownsRow w.heap.size 5 1 s8 l.length (l.map u8v) ∧ Rt d l s ∧ (fin = true → s.mis ≤ 4 - k) ∧ Below w.heap.size w wr) (fun _ _ _ s61 _ => 4 - (intOf s61).toNat)
      case atStart => exact ⟨0, l, s, rfl, by decide, HR.out, HRT.out, fun _ => s.mis_le, CB.out⟩
      case round =>
        clear HR HRT CB
        obtain ⟨k, l, s, rfl, hk, hrow, hrt, hmis, cb⟩ := hrel
        by_cases hlt : k < 4
        · have hlt2 : (k : Int) < 4 := by omega
          have f1 : IntKind.i64.wrap ((k : Int) + 1) = (k : Int) + 1 := IntWalk.i64_in _ (by omega)
          have OV := Lib.hid (aover_yes d _ l s hrt wr (slb_own hrow).1)
          have hbs := cb.size
          have hln := hrt.len
          have HR := Lib.hid hrow
          have HRT := Lib.hid hrt
          have CB := Lib.hid cb
          have HM := Lib.hid hmis
          clear hrow hrt cb hmis
          cases ho : s.over with
          | true =>
            have HO := Lib.hid ho
            rw [ho] at OV
            clear ho
            cases fin with
            | true =>
              go_wp2_with (go_at_call 18; refine OV.out.mono ?_; rintro e w9 ⟨rfl, hbel⟩; obtain ⟨o1, j1, rfl⟩ := grow_of_below hbel; clear hbel)
              go_roundw
              case rel => exact ⟨k + 1, l, s, by go_num, by omega, own_grow HR.out _ _, HRT.out, fun _ => by rw [St.mis_over HO.out]; omega, by repeat (first | (with_reducible exact CB.out) | ((with_reducible refine below_grow ?_ ?_); rotate_left; focus (first | omega | (simp [go_sem]; done) | (simp [go_sem]; omega))) | ((with_reducible refine Below.alloc ?_ ?_ _); rotate_left; focus (first | omega | (simp [go_sem]; done) | (simp [go_sem]; omega))) | ((with_reducible refine Below.setCell ?_ ?_ _); rotate_left; focus (first | omega | (simp [go_sem]; done) | (simp [go_sem]; omega))) | (with_reducible refine Below.drew ?_) | (with_reducible refine below_drewN _ ?_))⟩
              case measure => simp [intOf]; omega
            | false =>
              go_wp2_with (go_at_call 18; refine OV.out.mono ?_; rintro e w9 ⟨rfl, hbel⟩; obtain ⟨o1, j1, rfl⟩ := grow_of_below hbel; clear hbel)
              go_roundw
              case rel => exact ⟨k + 1, l, s, by go_num, by omega, own_grow HR.out _ _, HRT.out, (fun h => by cases h), by repeat (first | (with_reducible exact CB.out) | ((with_reducible refine below_grow ?_ ?_); rotate_left; focus (first | omega | (simp [go_sem]; done) | (simp [go_sem]; omega))) | ((with_reducible refine Below.alloc ?_ ?_ _); rotate_left; focus (first | omega | (simp [go_sem]; done) | (simp [go_sem]; omega))) | ((with_reducible refine Below.setCell ?_ ?_ _); rotate_left; focus (first | omega | (simp [go_sem]; done) | (simp [go_sem]; omega))) | (with_reducible refine Below.drew ?_) | (with_reducible refine below_drewN _ ?_))⟩
              case measure => simp [intOf]; omega
          | false =>
            have HO := Lib.hid ho
            rw [ho] at OV
            clear ho
            cases fin with
            | true =>
              go_wp2_with (first | (go_at_call 18; refine OV.out.mono ?_; rintro e w9 ⟨rfl, hbel⟩; obtain ⟨o1, j1, rfl⟩ := grow_of_below hbel; clear hbel) | (at_builtin; refine wpList_append_own _ rfl _ _ 22 rfl w.heap.size 5 i0 (.int .u8 0) 1 1 Tryd.underlying22 hi hz0 hz1 hz2 rfl (by decide) _ _ _ rfl ((own_grow HR.out _ _).alloc _) ⟨wr.heap.size + sz o1, 0, none⟩ 1 1 [u8v 0] rfl rfl (news1 _ _ _ _ (by simp [go_sem]) rfl) (fun u hu => by simp only [List.mem_singleton] at hu; subst hu; rfl) (by unfold maxLen; omega) (by omega) (by simp [go_sem]; omega) ?_; intro v' w2 hown' hgrow _))
              go_roundw
              case rel =>
                refine ⟨k + 1, l ++ [0], s.take 0, by go_num, by omega, ?_, HRT.out.snoc (St.ref_0 HO.out), fun _ => by rw [St.mis_take]; have := HM.out trivial; omega, Below.grown (by repeat (first | (with_reducible exact CB.out) | ((with_reducible refine below_grow ?_ ?_); rotate_left; focus (first | omega | (simp [go_sem]; done) | (simp [go_sem]; omega))) | ((with_reducible refine Below.alloc ?_ ?_ _); rotate_left; focus (first | omega | (simp [go_sem]; done) | (simp [go_sem]; omega))) | ((with_reducible refine Below.setCell ?_ ?_ _); rotate_left; focus (first | omega | (simp [go_sem]; done) | (simp [go_sem]; omega))) | (with_reducible refine Below.drew ?_) | (with_reducible refine below_drewN _ ?_))) hgrow (by simp [go_sem]; omega) (fun k e => own_block_ge HR.out e)⟩
                rw [List.length_append, List.map_append]
                exact hown'
              case measure => simp [intOf]; omega
            | false =>
              go_wp2_with (go_at_call 18; refine OV.out.mono ?_; rintro e w9 ⟨rfl, hbel⟩; obtain ⟨o1, j1, rfl⟩ := grow_of_below hbel; clear hbel)
              go_roundw
              case rel => exact ⟨k + 1, l, s, by go_num, by omega, own_grow HR.out _ _, HRT.out, (fun h => by cases h), by repeat (first | (with_reducible exact CB.out) | ((with_reducible refine below_grow ?_ ?_); rotate_left; focus (first | omega | (simp [go_sem]; done) | (simp [go_sem]; omega))) | ((with_reducible refine Below.alloc ?_ ?_ _); rotate_left; focus (first | omega | (simp [go_sem]; done) | (simp [go_sem]; omega))) | ((with_reducible refine Below.setCell ?_ ?_ _); rotate_left; focus (first | omega | (simp [go_sem]; done) | (simp [go_sem]; omega))) | (with_reducible refine Below.drew ?_) | (with_reducible refine below_drewN _ ?_))⟩
              case measure => simp [intOf]; omega
        · obtain rfl : k = 4 := by omega
          go_wp2
          refine bodyPost_ret (by simp [results, Tryd.results13, go_sem]) rfl ⟨⟨_, l, s, rfl, hrow, hrt, fun h => hrt.ok.mis_0 (by have := hmis h; omega)⟩, cb⟩
end Go.Proofs.YtacgikhedhiaaaaDoor
