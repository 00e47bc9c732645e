/- AuctionTurned: with another dealer the same calls make the same contract, turned. -/
import Derived.Test.YtacgikhedhiaaaaDoorLQ
namespace Go.Proofs.YtacgikhedhiaaaaDoor
open Go.RowKit

theorem Rt.rot {d : Nat} {l : List Nat} {s : St} (h : Rt d l s) (b : Nat) : Rt ((d + b) % 4) l (s.rot b) := ⟨Nat.mod_lt _ (by decide), by rw [← rot_st0]; exact St.rot_run b (St.ok0 d h.hd) h.hr⟩
theorem ctr_rot (s : St) (d b : Nat) (l : List Nat) (h : isb s.bid = true) : (s.rot b).ctr ((d + b) % 4) l = (prL s.bid, prD s.bid, s.risk, (dcl s.seat (prD s.bid) d l + b) % 4) := by
  have h0 : s.bid ≠ 0 := by have := isb_iff.1 h; omega
  unfold St.ctr
  have e : (s.rot b).bid = s.bid := rfl
  have e2 : (s.rot b).seat = (s.seat + b) % 4 := if_neg h0
  have e3 : (s.rot b).risk = s.risk := rfl
  rw [e, if_pos h, e2, e3, dcl_rot]
set_option maxRecDepth 100000 in
set_option maxHeartbeats 16000000 in
theorem turned_calls (d0 : Nat) (hd8 : d0 < 256) (v : Value) (xs : List Nat) (h8 : ∀ x ∈ xs, x < 256) (b0 : Nat) (hb8 : b0 < 256) (w : World) (hS : SlB w v xs) (he : Env w) :
    Calls Tryd.prog 7 #[.int .u8 d0, v, .int .u8 b0] w fun e w' => e = .returned (.bool true) ∧ Below w.heap.size w w' := by
  have AW := Lib.hid (awake_calls w he)
  have MD := Lib.hid (fun W (hb : Below w.heap.size w W) => made_calls d0 hd8 v xs h8 true W (slb_below hS hb))
  obtain ⟨b, hb⟩ : ∃ b, b0 % 4 = b := ⟨_, rfl⟩
  have hb4 : b < 4 := by omega
  have t1 : (b0 : Int).tmod 4 = b := by rw [Int.tmod_eq_emod_of_nonneg (by omega)]; omega
  have t2 : IntKind.u8.wrap (b : Int) = b := u8_wrap (by omega) (by omega)
  obtain ⟨d, hd⟩ : ∃ d, d0 % 4 = d := ⟨_, rfl⟩
  have hd4 : d < 4 := by omega
  obtain ⟨t, ht⟩ : ∃ t, (d + b) % 4 = t := ⟨_, rfl⟩
  have t3 : IntKind.u8.wrap ((d : Int) + b) = (d : Int) + b := u8_wrap (by omega) (by omega)
  have t4 : ((d : Int) + b).tmod 4 = t := by rw [Int.tmod_eq_emod_of_nonneg (by omega)]; omega
  have t5 : IntKind.u8.wrap (t : Int) = t := u8_wrap (by omega) (by omega)
  rw [hd] at MD
  have HT := Lib.hid ht
  clear hS he hb hd ht
  go_enter Tryd.func7, Tryd.ntmps7
  go_upto_region 3 with (go_at_call 11; refine AW.out.mono ?_; rintro e w9 ⟨rfl, hbel⟩; obtain ⟨o1, j1, rfl⟩ := grow_of_below hbel; clear hbel)
  go_upto_region 4 with (go_at_call 13; refine (MD.out _ (by repeat (first | (with_reducible exact Below.refl _ _) | ((with_reducible refine below_grow ?_ ?_); rotate_left; focus (first | omega | (simp [go_sem]; done) | (simp [go_sem]; omega))) | ((with_reducible refine Below.alloc ?_ ?_ _); rotate_left; focus (first | omega | (simp [go_sem]; done) | (simp [go_sem]; omega))) | ((with_reducible refine Below.setCell ?_ ?_ _); rotate_left; focus (first | omega | (simp [go_sem]; done) | (simp [go_sem]; omega))) | (with_reducible refine Below.drew ?_) | (with_reducible refine below_drewN _ ?_)))).mono ?_; rintro e w1 ⟨⟨v1, l, s, rfl, hrow, hrt, hov⟩, hbel⟩)
  have cb : Below w.heap.size w w1 := (show Below w.heap.size w (grow w o1 j1) by repeat (first | (with_reducible exact Below.refl _ _) | ((with_reducible refine below_grow ?_ ?_); rotate_left; focus (first | omega | (simp [go_sem]; done) | (simp [go_sem]; omega))) | ((with_reducible refine Below.alloc ?_ ?_ _); rotate_left; focus (first | omega | (simp [go_sem]; done) | (simp [go_sem]; omega))) | ((with_reducible refine Below.setCell ?_ ?_ _); rotate_left; focus (first | omega | (simp [go_sem]; done) | (simp [go_sem]; omega))) | (with_reducible refine Below.drew ?_) | (with_reducible refine below_drewN _ ?_))).trans (hbel.mono (by simp [go_sem]))
  have hS := (slb_own hrow).1
  have ho : s.over = true := by first | exact hov rfl | exact hov trivial
  have C1 := Lib.hid (fun W (hb : Below w1.heap.size w1 W) => contract_over d v1 l s hrt ho W (slb_below hS hb))
  have C2 := Lib.hid (fun W (hb : Below w1.heap.size w1 W) => contract_over ((d + b) % 4) v1 l (s.rot b) (hrt.rot b) ho W (slb_below hS hb))
  rw [HT.out] at C2
  have hs1 := cb.size
  have ok := hrt.ok
  cases hbd : isb s.bid with
  | false =>
    have hc1 : s.ctr d l = (0, 0, 0, 0) := by unfold St.ctr; rw [hbd]; rfl
    have hc2 : (s.rot b).ctr t l = (0, 0, 0, 0) := by unfold St.ctr; rw [show (s.rot b).bid = s.bid from rfl, hbd]; rfl
    rw [hc1] at C1
    rw [hc2] at C2
    unfold ctV at C1 C2
    have EQ := fun w => eqCt 0 0 0 0 0 0 0 0 w
    clear hc1 hc2 hS hrow hrt hov ok hbel AW MD hbd
    go_upto_region 6 with (go_at_call 19; refine (C1.out _ (by repeat (first | (with_reducible exact Below.refl _ _) | ((with_reducible refine below_grow ?_ ?_); rotate_left; focus (first | omega | (simp [go_sem]; done) | (simp [go_sem]; omega))) | ((with_reducible refine Below.alloc ?_ ?_ _); rotate_left; focus (first | omega | (simp [go_sem]; done) | (simp [go_sem]; omega))) | ((with_reducible refine Below.setCell ?_ ?_ _); rotate_left; focus (first | omega | (simp [go_sem]; done) | (simp [go_sem]; omega))) | (with_reducible refine Below.drew ?_) | (with_reducible refine below_drewN _ ?_)))).mono ?_; rintro e w9 ⟨rfl, hbel⟩; obtain ⟨o2, j2, rfl⟩ := grow_of_below hbel; clear hbel)
    go_upto_region 7 with (go_at_call 19; refine (C2.out _ (by repeat (first | (with_reducible exact Below.refl _ _) | ((with_reducible refine below_grow ?_ ?_); rotate_left; focus (first | omega | (simp [go_sem]; done) | (simp [go_sem]; omega))) | ((with_reducible refine Below.alloc ?_ ?_ _); rotate_left; focus (first | omega | (simp [go_sem]; done) | (simp [go_sem]; omega))) | ((with_reducible refine Below.setCell ?_ ?_ _); rotate_left; focus (first | omega | (simp [go_sem]; done) | (simp [go_sem]; omega))) | (with_reducible refine Below.drew ?_) | (with_reducible refine below_drewN _ ?_)))).mono ?_; rintro e w9 ⟨rfl, hbel⟩; obtain ⟨o3, j3, rfl⟩ := grow_of_below hbel; clear hbel)
    go_wp2
    refine bodyPost_ret (by simp [results, Tryd.results7, go_sem]) rfl ⟨rfl, ?_⟩
    repeat (first | (with_reducible exact cb) | ((with_reducible refine below_grow ?_ ?_); rotate_left; focus (first | omega | (simp [go_sem]; done) | (simp [go_sem]; omega))) | ((with_reducible refine Below.alloc ?_ ?_ _); rotate_left; focus (first | omega | (simp [go_sem]; done) | (simp [go_sem]; omega))) | ((with_reducible refine Below.setCell ?_ ?_ _); rotate_left; focus (first | omega | (simp [go_sem]; done) | (simp [go_sem]; omega))) | (with_reducible refine Below.drew ?_) | (with_reducible refine below_drewN _ ?_))
  | true =>
    have hc1 : s.ctr d l = (prL s.bid, prD s.bid, s.risk, dcl s.seat (prD s.bid) d l) := by unfold St.ctr; rw [hbd]; rfl
    have hc2 : (s.rot b).ctr t l = (prL s.bid, prD s.bid, s.risk, (dcl s.seat (prD s.bid) d l + b) % 4) := by rw [← HT.out]; exact ctr_rot s d b l hbd
    have hpl := prL_pos hbd
    have hD : dcl s.seat (prD s.bid) d l < 4 := dcl_lt ok.seat hd4
    rw [hc1] at C1
    rw [hc2] at C2
    unfold ctV at C1 C2
    generalize prL s.bid = x0 at *
    generalize prD s.bid = x1 at *
    generalize s.risk = x2 at *
    generalize dcl s.seat x1 d l = x3 at *
    have u1 : IntKind.u8.wrap ((x3 : Int) + b) = (x3 : Int) + b := u8_wrap (by omega) (by omega)
    obtain ⟨x4, hx4⟩ : ∃ x4, (x3 + b) % 4 = x4 := ⟨_, rfl⟩
    have u2 : ((x3 : Int) + b).tmod 4 = x4 := by rw [Int.tmod_eq_emod_of_nonneg (by omega)]; omega
    have u3 : IntKind.u8.wrap (x4 : Int) = x4 := u8_wrap (by omega) (by omega)
    rw [hx4] at C2
    simp only at C1 C2
    have hpl2 : (0 : Int) < x0 := by omega
    have EQ := fun w => eqCt x0 x1 x2 x4 x0 x1 x2 x4 w
    clear hc1 hc2 hS hrow hrt hov ok hbel AW MD hbd hx4 hpl hD
    go_upto_region 6 with (go_at_call 19; refine (C1.out _ (by repeat (first | (with_reducible exact Below.refl _ _) | ((with_reducible refine below_grow ?_ ?_); rotate_left; focus (first | omega | (simp [go_sem]; done) | (simp [go_sem]; omega))) | ((with_reducible refine Below.alloc ?_ ?_ _); rotate_left; focus (first | omega | (simp [go_sem]; done) | (simp [go_sem]; omega))) | ((with_reducible refine Below.setCell ?_ ?_ _); rotate_left; focus (first | omega | (simp [go_sem]; done) | (simp [go_sem]; omega))) | (with_reducible refine Below.drew ?_) | (with_reducible refine below_drewN _ ?_)))).mono ?_; rintro e w9 ⟨rfl, hbel⟩; obtain ⟨o2, j2, rfl⟩ := grow_of_below hbel; clear hbel)
    go_upto_region 7 with (go_at_call 19; refine (C2.out _ (by repeat (first | (with_reducible exact Below.refl _ _) | ((with_reducible refine below_grow ?_ ?_); rotate_left; focus (first | omega | (simp [go_sem]; done) | (simp [go_sem]; omega))) | ((with_reducible refine Below.alloc ?_ ?_ _); rotate_left; focus (first | omega | (simp [go_sem]; done) | (simp [go_sem]; omega))) | ((with_reducible refine Below.setCell ?_ ?_ _); rotate_left; focus (first | omega | (simp [go_sem]; done) | (simp [go_sem]; omega))) | (with_reducible refine Below.drew ?_) | (with_reducible refine below_drewN _ ?_)))).mono ?_; rintro e w9 ⟨rfl, hbel⟩; obtain ⟨o3, j3, rfl⟩ := grow_of_below hbel; clear hbel)
    go_wp2
    refine bodyPost_ret (by simp [results, Tryd.results7, go_sem]) rfl ⟨rfl, ?_⟩
    repeat (first | (with_reducible exact cb) | ((with_reducible refine below_grow ?_ ?_); rotate_left; focus (first | omega | (simp [go_sem]; done) | (simp [go_sem]; omega))) | ((with_reducible refine Below.alloc ?_ ?_ _); rotate_left; focus (first | omega | (simp [go_sem]; done) | (simp [go_sem]; omega))) | ((with_reducible refine Below.setCell ?_ ?_ _); rotate_left; focus (first | omega | (simp [go_sem]; done) | (simp [go_sem]; omega))) | (with_reducible refine Below.drew ?_) | (with_reducible refine below_drewN _ ?_))
theorem turned_walk (a0 : Int) (v : Value) (xs : List Nat) (a2 : Int) (b0 : 0 ≤ a0 ∧ a0 ≤ 255) (h8 : ∀ x ∈ xs, x < 256) (b2 : 0 ≤ a2 ∧ a2 ≤ 255) (w : World) (hS : SlB w v xs) (he : Env w) :
    Calls Tryd.prog 7 #[.int .u8 a0, v, .int .u8 a2] w fun e w' => e = .returned (.bool true) ∧ Below w.heap.size w w' := by
  obtain ⟨n, rfl⟩ := Int.eq_ofNat_of_zero_le b0.1
  obtain ⟨m, rfl⟩ := Int.eq_ofNat_of_zero_le b2.1
  exact turned_calls n (by omega) v xs h8 m (by omega) w hS he
end Go.Proofs.YtacgikhedhiaaaaDoor
