/- AuctionLegal: exactly the legal calls make, put to an auction, a right one. -/
import Derived.Test.YtacgikhedhiaaaaDoorLQ
namespace Go.Proofs.YtacgikhedhiaaaaDoor
open Go.RowKit

theorem clone_calls (v : Value) (l : List Nat) (B : Nat) (w : World) (hn : l.length ≤ 100000) (hrow : w.ownsRow B 5 1 v l.length (l.map u8v)) :
    Calls Tryd.prog 24 #[v] w fun e w' => (∃ v', e = .returned v' ∧ w'.ownsRow w.heap.size 5 1 v' l.length (l.map u8v)) ∧ Below w.heap.size w w' := by
  obtain ⟨i0, hi, hz0, hz1, hz2⟩ := info_parts Tryd.infoU
  rcases hrow.2 with ⟨rfl, h0⟩ | ⟨g, cap, cur, rfl, hbg, hg, h1, h2, h3, h4⟩
  · refine (Tryd.slices_Clone_nil 0 0 w).mono ?_
    rintro e w' ⟨rfl, rfl⟩
    have h00 : l = [] := List.length_eq_zero_iff.1 h0
    subst h00
    exact ⟨⟨_, rfl, World.ownsRow_nil _ _ _ _⟩, Below.refl _ _⟩
  · refine (Tryd.slices_Clone i0 (.int .u8 0) 1 1 hi hz0 hz1 hz2 rfl (by decide) (Tryd.sizeOf5) g 0 l.length cap (l.map u8v) w (by simp) (by unfold maxLen; omega) (by omega) (fun j u hj => ?_) (fun u hu => by obtain ⟨x, _, rfl⟩ := List.mem_map.1 hu; rfl)).mono ?_
    · have hc := hrow.cells (g := g) rfl j u hj
      rw [show (⟨g, 0 + j, none⟩ : Addr) = (⟨g, 0, none⟩ : Addr).add j by unfold Addr.add; split <;> simp_all]
      exact hc
    · rintro e w' ⟨v', rfl, h1, _, h2⟩
      exact ⟨⟨_, rfl, h1⟩, h2⟩
theorem contains_calls (v : Value) (l : List Nat) (B : Nat) (c : Nat) (w : World) (hn : l.length ≤ 100000) (hrow : w.ownsRow B 5 1 v l.length (l.map u8v)) :
    Calls Tryd.prog 17 #[v, .int .u8 c] w fun e w' => e = .returned (.bool (decide (c ∈ l))) ∧ w = w' := by
  rcases hrow.2 with ⟨rfl, h0⟩ | ⟨g, cap, cur, rfl, hbg, hg, h1, h2, h3, h4⟩
  · have h00 : l = [] := List.length_eq_zero_iff.1 h0
    subst h00
    refine (Tryd.slices_Contains_empty (α := Int) none 0 (.int .u8 c) w).mono ?_
    rintro e w' ⟨rfl, rfl⟩
    exact ⟨by simp, rfl⟩
  · refine (Tryd.slices_Contains (α := Int) (Value.int .u8) (fun x y => x == y) (EqlAt.int _ _ _) g 0 l.length cap (l.map (fun x : Nat => (x : Int))) c w (by simp) (by omega) (fun j hj => ?_)).mono ?_
    · rw [List.length_map] at hj
      have hc := hrow.cells (g := g) rfl j (u8v l[j]) (by rw [List.getElem?_map, List.getElem?_eq_getElem hj]; rfl)
      rw [show (⟨g, 0 + j, none⟩ : Addr) = (⟨g, 0, none⟩ : Addr).add j by unfold Addr.add; split <;> simp_all, hc]
      simp [hj]
    · rintro e w' ⟨rfl, rfl⟩
      refine ⟨?_, rfl⟩
      congr 2
      rw [List.take_of_length_le (by simp), Bool.eq_iff_iff]
      simp only [List.any_eq_true, List.mem_map, beq_iff_eq, decide_eq_true_eq]
      constructor
      · rintro ⟨y, ⟨x, hx, rfl⟩, h⟩
        have : c = x := by omega
        rw [this]; exact hx
      · exact fun h => ⟨c, ⟨c, h, rfl⟩, rfl⟩
theorem check_at (d : Nat) (v : Value) (l : List Nat) (s : St) (h : Rt d l s) (c : Nat) (hc : c < 256) (w : World) (hS : SlB w v (l ++ [c])) :
    Calls Tryd.prog 23 #[.int .u8 d, v] w fun e w' => e = .returned (if s.ref c = 0 then .tuple #[.int .i64 (-1), .int .i64 0] else .tuple #[.int .i64 l.length, .int .i64 (s.ref c : Nat)]) ∧ Below w.heap.size w w' := by
  have F := check_calls d v (l ++ [c]) ⟨by have := h.hd; omega, fun x hx => by
    rcases List.mem_append.1 hx with hx | hx
    · exact h.lt x hx
    · rw [List.mem_singleton.1 hx]; exact hc, by have := h.len; simp; omega⟩ w hS
  rw [if_pos h.hd] at F
  by_cases hr : s.ref c = 0
  · rw [St.fol_run (St.run_snoc h.hr hr)] at F
    rw [if_pos hr]
    exact F
  · rw [St.fol_bad (r := []) h.hr hr] at F
    rw [if_neg hr]
    exact F
theorem St.ref_le (s : St) (c : Nat) : s.ref c ≤ 90 := by unfold St.ref; split <;> (try split) <;> (try split) <;> omega
theorem lgl_ref {s : St} (ho : s.over = false) (c : Nat) : decide (c ∈ s.lgl) = decide (s.ref c = 0) := by
  rw [decide_eq_decide, St.mem_lgl]
  exact ⟨fun h => St.ref_of h.1 ho h.2, fun h => ⟨(St.ref_zero h).1, (St.ref_zero h).2.2⟩⟩
theorem over_ref {s : St} (ho : s.over = true) (c : Nat) : s.ref c ≠ 0 := fun h => by have := (St.ref_zero h).2.1; rw [ho] at this; cases this
set_option maxRecDepth 100000 in
set_option maxHeartbeats 16000000 in
theorem legal_calls (d0 : Nat) (hd8 : d0 < 256) (v : Value) (xs : List Nat) (h8 : ∀ x ∈ xs, x < 256) (fin : Bool) (w : World) (hS : SlB w v xs) (he : Env w) :
    Calls Tryd.prog 6 #[.int .u8 d0, v, .bool fin] w fun e w' => e = .returned (.bool true) ∧ Below w.heap.size w w' := by
  obtain ⟨i0, hi, hz0, hz1, hz2⟩ := info_parts Tryd.infoU
  have AW := Lib.hid (awake_calls w he)
  have MD := Lib.hid (fun W (hb : Below w.heap.size w W) => made_calls d0 hd8 v xs h8 fin W (slb_below hS hb))
  obtain ⟨d, hd⟩ : ∃ d, d0 % 4 = d := ⟨_, rfl⟩
  have hd4 : d < 4 := by omega
  rw [hd] at MD
  clear hS he hd
  go_enter Tryd.func6, Tryd.ntmps6
  go_upto_region 3 with (go_at_call 11; refine AW.out.mono ?_; rintro e w9 ⟨rfl, hbel⟩; obtain ⟨o1, j1, rfl⟩ := grow_of_below hbel; clear hbel)
  go_upto_region 4 with (go_at_call 13; refine (MD.out _ (by repeat (first | (with_reducible exact Below.refl _ _) | ((with_reducible refine below_grow ?_ ?_); rotate_left; focus (first | omega | (simp [go_sem]; done) | (simp [go_sem]; omega))) | ((with_reducible refine Below.alloc ?_ ?_ _); rotate_left; focus (first | omega | (simp [go_sem]; done) | (simp [go_sem]; omega))) | ((with_reducible refine Below.setCell ?_ ?_ _); rotate_left; focus (first | omega | (simp [go_sem]; done) | (simp [go_sem]; omega))) | (with_reducible refine Below.drew ?_) | (with_reducible refine below_drewN _ ?_)))).mono ?_; rintro e w1 ⟨⟨v1, l, s, rfl, hrow, hrt, -⟩, hbel⟩)
  have cb : Below w.heap.size w w1 := (show Below w.heap.size w (grow w o1 j1) by repeat (first | (with_reducible exact Below.refl _ _) | ((with_reducible refine below_grow ?_ ?_); rotate_left; focus (first | omega | (simp [go_sem]; done) | (simp [go_sem]; omega))) | ((with_reducible refine Below.alloc ?_ ?_ _); rotate_left; focus (first | omega | (simp [go_sem]; done) | (simp [go_sem]; omega))) | ((with_reducible refine Below.setCell ?_ ?_ _); rotate_left; focus (first | omega | (simp [go_sem]; done) | (simp [go_sem]; omega))) | (with_reducible refine Below.drew ?_) | (with_reducible refine below_drewN _ ?_))).trans (hbel.mono (by simp [go_sem]))
  have hs1 := cb.size
  have hln := hrt.len
  obtain ⟨A1, cap1, rfl, -⟩ := own_slice hrow
  clear AW MD hbel
  cases ho : s.over with
  | true =>
    have LG := Lib.hid (legal_over d _ l s hrt ho w1 (slb_own hrow).1)
    go_upto_region 5 with (go_at_call 14; refine LG.out.mono ?_; rintro e w3 ⟨rfl, hb3⟩)
    have cb3 : Below w.heap.size w w3 := cb.trans (hb3.mono hs1)
    have hrow3 := own_below hrow hb3 rfl
    have HCL := Lib.hid (fun W (hb : Below w3.heap.size w3 W) => clone_calls _ l _ W (by omega) (own_below hrow3 hb rfl))
    have HCK := Lib.hid (fun c hc W v5 hS => check_at d v5 l s hrt c hc W hS)
    have HO := Lib.hid ho
    have hs3 := cb3.size
    clear LG hrow hb3 cb hs1 hrow3 hrt ho
    go_wp2
    go_loopw [11, 12, 13, 29] (fun _ _ _ s29 wr => ∃ k : Nat, s29 = .int .i64 k ∧ k ≤ 256 ∧ Below w3.heap.size w3 wr) (fun _ _ _ s29 _ => 256 - (intOf s29).toNat)
    case atStart => exact ⟨0, rfl, by decide, Below.refl _ _⟩
    case round =>
      obtain ⟨k, rfl, hk, cbr⟩ := hrel
      have hsr := cbr.size
      by_cases hlt : k < 256
      · have hlt2 : (k : Int) < 256 := by omega
        have f1 : IntKind.i64.wrap ((k : Int) + 1) = (k : Int) + 1 := IntWalk.i64_in _ (by omega)
        have f2 : IntKind.u8.wrap (k : Int) = k := u8_wrap (by omega) (by omega)
        have CL := Lib.hid (HCL.out wr cbr)
        have CK := Lib.hid (HCK.out k hlt)
        have hr := over_ref HO.out k
        rw [if_neg hr] at CK
        have hr2 : ¬ (s.ref k : Int) = 0 := by omega
        generalize s.ref k = f at *
        clear hr
        go_upto_region 9 with (first | (go_at_call 24; refine CL.out.mono ?_; rintro e w4 ⟨⟨v4, rfl, hrow4⟩, hb4⟩) | (at_builtin; refine wpList_append_own _ rfl _ _ 22 rfl wr.heap.size 5 i0 (.int .u8 0) 1 1 Tryd.underlying22 hi hz0 hz1 hz2 rfl (by decide) _ _ _ rfl (hrow4.alloc _) ⟨w4.heap.size, 0, none⟩ 1 1 [u8v k] rfl rfl (news1 _ _ _ _ rfl rfl) (fun u hu => by simp only [List.mem_singleton] at hu; subst hu; rfl) (by unfold maxLen; omega) (by omega) (by simp; have := hb4.size; omega) ?_; intro v5 w5 hown5 hgrow _) | (go_at_call 23; refine (CK.out w5 v5 (slb_own (xs := l ++ [k]) (by rw [List.map_append]; exact hown5)).1).mono ?_; rintro e w6 ⟨rfl, hb6⟩))
        have hb5 : Below wr.heap.size wr w5 := Below.grown (hb4.alloc (by have := hb4.size; omega) _) hgrow (by simp; have := hb4.size; omega) (fun k e => own_block_ge hrow4 e)
        have cb6 : Below w3.heap.size w3 w6 := (cbr.trans (hb5.mono hsr)).trans (hb6.mono (by have := hb5.size; omega))
        clear hb4 hb5 hb6 hgrow hown5 hrow4 CL CK
        go_wp2
        go_roundw
        case rel => exact ⟨k + 1, by go_num, by omega, cb6⟩
        case measure => simp [intOf]; omega
      · obtain rfl : k = 256 := by omega
        go_wp2
        refine bodyPost_ret (by simp [results, Tryd.results6, go_sem]) rfl ⟨rfl, ?_⟩
        exact cb3.trans (cbr.mono hs3)
  | false =>
    have LG := Lib.hid (legal_open d _ l s hrt ho w1 (slb_own hrow).1)
    go_upto_region 5 with (go_at_call 14; refine LG.out.mono ?_; rintro e w3 ⟨⟨v2, rfl, hrow2⟩, hb3⟩)
    have HCT := Lib.hid (fun c W (hb : Below w3.heap.size w3 W) => contains_calls v2 s.lgl w1.heap.size c W (by have := s.lgl_le; omega) (own_below hrow2 hb rfl))
    have cb3 : Below w.heap.size w w3 := cb.trans (hb3.mono hs1)
    have hrow3 := own_below hrow hb3 rfl
    have HCL := Lib.hid (fun W (hb : Below w3.heap.size w3 W) => clone_calls _ l _ W (by omega) (own_below hrow3 hb rfl))
    have HCK := Lib.hid (fun c hc W v5 hS => check_at d v5 l s hrt c hc W hS)
    have HO := Lib.hid ho
    have hs3 := cb3.size
    clear LG hrow hb3 cb hs1 hrow3 hrt ho
    go_wp2
    go_loopw [11, 12, 13, 29] (fun _ _ _ s29 wr => ∃ k : Nat, s29 = .int .i64 k ∧ k ≤ 256 ∧ Below w3.heap.size w3 wr) (fun _ _ _ s29 _ => 256 - (intOf s29).toNat)
    case atStart => exact ⟨0, rfl, by decide, Below.refl _ _⟩
    case round =>
      obtain ⟨k, rfl, hk, cbr⟩ := hrel
      have hsr := cbr.size
      by_cases hlt : k < 256
      · have hlt2 : (k : Int) < 256 := by omega
        have f1 : IntKind.i64.wrap ((k : Int) + 1) = (k : Int) + 1 := IntWalk.i64_in _ (by omega)
        have f2 : IntKind.u8.wrap (k : Int) = k := u8_wrap (by omega) (by omega)
        have CL := Lib.hid (HCL.out wr cbr)
        have CK := Lib.hid (HCK.out k hlt)
        have CT := Lib.hid (HCT.out k)
        rw [lgl_ref HO.out] at CT
        by_cases hr : s.ref k = 0
        · rw [if_pos hr] at CK
          rw [decide_eq_true hr] at CT
          clear hr
          go_upto_region 9 with (first | (go_at_call 24; refine CL.out.mono ?_; rintro e w4 ⟨⟨v4, rfl, hrow4⟩, hb4⟩) | (at_builtin; refine wpList_append_own _ rfl _ _ 22 rfl wr.heap.size 5 i0 (.int .u8 0) 1 1 Tryd.underlying22 hi hz0 hz1 hz2 rfl (by decide) _ _ _ rfl (hrow4.alloc _) ⟨w4.heap.size, 0, none⟩ 1 1 [u8v k] rfl rfl (news1 _ _ _ _ rfl rfl) (fun u hu => by simp only [List.mem_singleton] at hu; subst hu; rfl) (by unfold maxLen; omega) (by omega) (by simp; have := hb4.size; omega) ?_; intro v5 w5 hown5 hgrow _) | (go_at_call 23; refine (CK.out w5 v5 (slb_own (xs := l ++ [k]) (by rw [List.map_append]; exact hown5)).1).mono ?_; rintro e w6 ⟨rfl, hb6⟩))
          have hb5 : Below wr.heap.size wr w5 := Below.grown (hb4.alloc (by have := hb4.size; omega) _) hgrow (by simp; have := hb4.size; omega) (fun k e => own_block_ge hrow4 e)
          have cb6 : Below w3.heap.size w3 w6 := (cbr.trans (hb5.mono hsr)).trans (hb6.mono (by have := hb5.size; omega))
          clear hb4 hb5 hb6 hgrow hown5 hrow4 CL CK
          go_wp2_with (go_at_call 17; refine (CT.out _ cb6).mono ?_; rintro e w9 ⟨rfl, rfl⟩)
          go_roundw
          case rel => exact ⟨k + 1, by go_num, by omega, cb6⟩
          case measure => simp [intOf]; omega
        · rw [if_neg hr] at CK
          rw [decide_eq_false hr] at CT
          have hr2 : ¬ (s.ref k : Int) = 0 := by omega
          generalize s.ref k = f at *
          clear hr
          go_upto_region 9 with (first | (go_at_call 24; refine CL.out.mono ?_; rintro e w4 ⟨⟨v4, rfl, hrow4⟩, hb4⟩) | (at_builtin; refine wpList_append_own _ rfl _ _ 22 rfl wr.heap.size 5 i0 (.int .u8 0) 1 1 Tryd.underlying22 hi hz0 hz1 hz2 rfl (by decide) _ _ _ rfl (hrow4.alloc _) ⟨w4.heap.size, 0, none⟩ 1 1 [u8v k] rfl rfl (news1 _ _ _ _ rfl rfl) (fun u hu => by simp only [List.mem_singleton] at hu; subst hu; rfl) (by unfold maxLen; omega) (by omega) (by simp; have := hb4.size; omega) ?_; intro v5 w5 hown5 hgrow _) | (go_at_call 23; refine (CK.out w5 v5 (slb_own (xs := l ++ [k]) (by rw [List.map_append]; exact hown5)).1).mono ?_; rintro e w6 ⟨rfl, hb6⟩))
          have hb5 : Below wr.heap.size wr w5 := Below.grown (hb4.alloc (by have := hb4.size; omega) _) hgrow (by simp; have := hb4.size; omega) (fun k e => own_block_ge hrow4 e)
          have cb6 : Below w3.heap.size w3 w6 := (cbr.trans (hb5.mono hsr)).trans (hb6.mono (by have := hb5.size; omega))
          clear hb4 hb5 hb6 hgrow hown5 hrow4 CL CK
          go_wp2_with (go_at_call 17; refine (CT.out _ cb6).mono ?_; rintro e w9 ⟨rfl, rfl⟩)
          go_roundw
          case rel => exact ⟨k + 1, by go_num, by omega, cb6⟩
          case measure => simp [intOf]; omega
      · obtain rfl : k = 256 := by omega
        go_wp2
        refine bodyPost_ret (by simp [results, Tryd.results6, go_sem]) rfl ⟨rfl, ?_⟩
        exact cb3.trans (cbr.mono hs3)
theorem legal_walk (a0 : Int) (v : Value) (xs : List Nat) (fin : Bool) (b0 : 0 ≤ a0 ∧ a0 ≤ 255) (h8 : ∀ x ∈ xs, x < 256) (w : World) (hS : SlB w v xs) (he : Env w) :
    Calls Tryd.prog 6 #[.int .u8 a0, v, .bool fin] w fun e w' => e = .returned (.bool true) ∧ Below w.heap.size w w' := by
  obtain ⟨n, rfl⟩ := Int.eq_ofNat_of_zero_le b0.1
  exact legal_calls n (by omega) v xs h8 fin w hS he
end Go.Proofs.YtacgikhedhiaaaaDoor
