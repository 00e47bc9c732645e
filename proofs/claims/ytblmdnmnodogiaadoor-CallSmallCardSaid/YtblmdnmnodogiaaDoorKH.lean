/- The chapter's examples: awake. -/
import Derived.Test.YtblmdnmnodogiaaDoorKG
namespace Go.Proofs.YtblmdnmnodogiaaDoor
open Go.RowKit

theorem slb_new (W : World) (xs : List Nat) (q : Nat) (hq : q = W.heap.size) : SlB (W.alloc (.cells (xs.map u8v).toArray 5)) (.slice (some ⟨q, 0, none⟩) xs.length xs.length) xs := by
  subst hq
  refine ⟨_, _, rfl, Nat.le_refl _, fun _ => ⟨_, 0, rfl, by simp, fun j x hj => ?_⟩⟩
  rw [blk_cell (blk_new _ _ _), Nat.zero_add, List.getElem?_toArray, List.getElem?_map, hj]
  rfl
theorem ex_tx : tx [0, 1, 2, 15] = [80, 32, 88, 32, 88, 88, 32, 51, 72] := by decide
theorem ex_text (W : World) (q : Nat) (hq : q = W.heap.size) (he : Env W) :
    Calls Tryd.prog 15 #[.slice (some ⟨q, 0, none⟩) 4 4] (W.alloc (.cells #[.int .u8 0, .int .u8 1, .int .u8 2, .int .u8 15] 5)) fun e w' => e = .returned (.tuple #[.string ⟨#[80, 32, 88, 32, 88, 88, 32, 51, 72]⟩, .int .i64 0]) ∧ Below W.heap.size W w' := by
  have h := textAll_few _ [0, 1, 2, 15] (by decide) (by decide) _ (slb_new W [0, 1, 2, 15] q hq) (he.below (by repeat (first | (with_reducible exact Below.refl _ _) | ((with_reducible refine below_grow ?_ ?_); rotate_left; focus (first | omega | (simp [go_sem]; done) | (simp [go_sem]; omega))) | ((with_reducible refine Below.alloc ?_ ?_ _); rotate_left; focus (first | omega | (simp [go_sem]; done) | (simp [go_sem]; omega))) | ((with_reducible refine Below.setCell ?_ ?_ _); rotate_left; focus (first | omega | (simp [go_sem]; done) | (simp [go_sem]; omega))) | (with_reducible refine Below.drew ?_) | (with_reducible refine below_drewN _ ?_))))
  rw [if_pos (by decide), if_pos (by decide), ex_tx] at h
  refine h.mono fun e w' h => ⟨h.1, ?_⟩
  exact (show Below W.heap.size W _ by repeat (first | (with_reducible exact Below.refl _ _) | ((with_reducible refine below_grow ?_ ?_); rotate_left; focus (first | omega | (simp [go_sem]; done) | (simp [go_sem]; omega))) | ((with_reducible refine Below.alloc ?_ ?_ _); rotate_left; focus (first | omega | (simp [go_sem]; done) | (simp [go_sem]; omega))) | ((with_reducible refine Below.setCell ?_ ?_ _); rotate_left; focus (first | omega | (simp [go_sem]; done) | (simp [go_sem]; omega))) | (with_reducible refine Below.drew ?_) | (with_reducible refine below_drewN _ ?_))).trans (h.2.mono (by simp))
theorem ex_read (l : List UInt8) (h : rd l = none) (w : World) (he : Env w) : Calls Tryd.prog 25 #[strv l] w fun e w' => e = .returned (.tuple #[.int .u8 0, .int .i64 81]) ∧ w = w' := by
  have R := read_calls ⟨l.toArray⟩ w he
  simp only [rdV, rdE] at R
  rw [h] at R
  exact R
theorem ex_all (w : World) (he : Env w) : Calls Tryd.prog 16 #[.string ⟨#[80, 32, 32, 80]⟩] w fun e w' => (∃ p c, e = .returned (.tuple #[.slice p 0 c, .int .i64 81])) ∧ Below w.heap.size w w' := by
  have R := readAll_calls ⟨#[80, 32, 32, 80]⟩ (by decide) w he
  have hr : rda [80, 32, 32, 80] = none := by decide +kernel
  have hr' : rda (ByteArray.mk #[80, 32, 32, 80]).data.toList = none := hr
  unfold raL raE at R
  rw [hr'] at R
  refine R.mono fun e w' h => ⟨?_, h.2⟩
  obtain ⟨⟨v, h1, h2⟩, _⟩ := h
  obtain ⟨p, c, rfl, _⟩ := own_slice h2
  exact ⟨p, c, h1⟩
set_option maxRecDepth 100000 in
set_option maxHeartbeats 8000000 in
theorem awake_calls (w : World) (he : Env w) : Calls Tryd.prog 11 #[] w fun e w' => e = .returned (.bool true) ∧ Below w.heap.size w w' := by
  have B1 := Lib.hid (bid_calls 1 0 (by decide) (by decide))
  have B2 := Lib.hid (bid_calls 7 4 (by decide) (by decide))
  have B3 := Lib.hid (bid_calls 3 2 (by decide) (by decide))
  have P := Lib.hid (parts_calls 15)
  rw [show bdV 1 0 = 3 from rfl, show bdE 1 0 = 0 from rfl] at B1
  rw [show bdV 7 4 = 37 from rfl, show bdE 7 4 = 0 from rfl] at B2
  rw [show bdV 3 2 = 15 from rfl, show bdE 3 2 = 0 from rfl] at B3
  rw [show prL 15 = 3 from rfl, show prD 15 = 2 from rfl, show isb 15 = true from rfl] at P
  have TA := Lib.hid (fun W q hq (hb : Below w.heap.size w W) => ex_text W q hq (he.below hb))
  have RA := Lib.hid (fun W (hb : Below w.heap.size w W) => ex_all W (he.below hb))
  have C0 := Lib.hid (cheapest_calls 15 1 (by decide) (by decide))
  have C1 := Lib.hid (cheapest_calls 15 3 (by decide) (by decide))
  have C2 := Lib.hid (cheapest_calls 37 0 (by decide) (by decide))
  have C3 := Lib.hid (cheapest_calls 2 4 (by decide) (by decide))
  have J0 := Lib.hid (jump_calls 15 19 (by decide) (by decide))
  have J1 := Lib.hid (jump_calls 15 24 (by decide) (by decide))
  have J2 := Lib.hid (jump_calls 15 16 (by decide) (by decide))
  have J3 := Lib.hid (jump_calls 15 15 (by decide) (by decide))
  rw [show chB 15 1 = 19 from rfl, show chE 15 1 = 0 from rfl] at C0
  rw [show chB 15 3 = 16 from rfl, show chE 15 3 = 0 from rfl] at C1
  rw [show chB 37 0 = 0 from rfl, show chE 37 0 = 6 from rfl] at C2
  rw [show chB 2 4 = 7 from rfl, show chE 2 4 = 0 from rfl] at C3
  rw [show jmN 15 19 = 0 from rfl, show jmE 15 19 = 0 from rfl] at J0
  rw [show jmN 15 24 = 1 from rfl, show jmE 15 24 = 0 from rfl] at J1
  rw [show jmN 15 16 = 0 from rfl, show jmE 15 16 = 0 from rfl] at J2
  rw [show jmN 15 15 = 0 from rfl, show jmE 15 15 = 6 from rfl] at J3
  have HE := Lib.hid he
  clear he
  go_enter Tryd.func11, Tryd.ntmps11
  go_upto_region 2 with (go_at_call 20; refine (B1.out _).mono ?_; rintro e w9 ⟨rfl, rfl⟩)
  go_upto_region 3 with (go_at_call 20; refine (B2.out _).mono ?_; rintro e w9 ⟨rfl, rfl⟩)
  go_upto_region 4 with (go_at_call 20; refine (B3.out _).mono ?_; rintro e w9 ⟨rfl, rfl⟩)
  go_upto_region 5 with (go_at_call 19; refine (P.out _).mono ?_; rintro e w9 ⟨rfl, rfl⟩)
  go_upto_region 8 with (go_at_call 15; refine (TA.out w w.heap.size rfl (Below.refl _ _)).mono ?_; rintro e w2 ⟨rfl, hb2⟩)
  clear B1 B2 B3 P TA
  have hs2 := hb2.size
  go_upto_region 9 with fail
  have z0 : blk (w2.alloc (.cells #[.string ⟨#[51, 104]⟩, .string ⟨#[48, 67]⟩, .string ⟨#[56, 67]⟩, .string ⟨#[49, 78]⟩, .string ⟨#[88, 88, 88]⟩] 9)) w2.heap.size #[.string ⟨#[51, 104]⟩, .string ⟨#[48, 67]⟩, .string ⟨#[56, 67]⟩, .string ⟨#[49, 78]⟩, .string ⟨#[88, 88, 88]⟩] 9 := blk_new _ _ _
  have zb : Below w.heap.size w (w2.alloc (.cells #[.string ⟨#[51, 104]⟩, .string ⟨#[48, 67]⟩, .string ⟨#[56, 67]⟩, .string ⟨#[49, 78]⟩, .string ⟨#[88, 88, 88]⟩] 9)) := by repeat (first | (with_reducible exact hb2) | ((with_reducible refine below_grow ?_ ?_); rotate_left; focus (first | omega | (simp [go_sem]; done) | (simp [go_sem]; omega))) | ((with_reducible refine Below.alloc ?_ ?_ _); rotate_left; focus (first | omega | (simp [go_sem]; done) | (simp [go_sem]; omega))) | ((with_reducible refine Below.setCell ?_ ?_ _); rotate_left; focus (first | omega | (simp [go_sem]; done) | (simp [go_sem]; omega))) | (with_reducible refine Below.drew ?_) | (with_reducible refine below_drewN _ ?_))
  generalize (w2.alloc (.cells #[.string ⟨#[51, 104]⟩, .string ⟨#[48, 67]⟩, .string ⟨#[56, 67]⟩, .string ⟨#[49, 78]⟩, .string ⟨#[88, 88, 88]⟩] 9)) = W at *
  generalize w2.heap.size = q at *
  have c0 := blk_cell z0 0
  have c1 := blk_cell z0 1
  have c2 := blk_cell z0 2
  have c3 := blk_cell z0 3
  have c4 := blk_cell z0 4
  simp only [List.getElem?_toArray, List.getElem?_cons_zero, List.getElem?_cons_succ] at c0 c1 c2 c3 c4
  have R0 := Lib.hid (ex_read [51, 104] (by decide +kernel) W (HE.out.below zb))
  have R1 := Lib.hid (ex_read [48, 67] (by decide +kernel) W (HE.out.below zb))
  have R2 := Lib.hid (ex_read [56, 67] (by decide +kernel) W (HE.out.below zb))
  have R3 := Lib.hid (ex_read [49, 78] (by decide +kernel) W (HE.out.below zb))
  have R4 := Lib.hid (ex_read [88, 88, 88] (by decide +kernel) W (HE.out.below zb))
  have HB := Lib.hid zb
  clear z0 zb hb2 hs2
  go_wp2
  refine wp_loop_rounds 6 ?_
  rw [rounds_succ]
  go_wp2_with (go_at_call 25; refine R0.out.mono ?_; rintro e w9 ⟨rfl, rfl⟩)
  rw [rounds_succ]
  go_wp2_with (go_at_call 25; refine R1.out.mono ?_; rintro e w9 ⟨rfl, rfl⟩)
  rw [rounds_succ]
  go_wp2_with (go_at_call 25; refine R2.out.mono ?_; rintro e w9 ⟨rfl, rfl⟩)
  rw [rounds_succ]
  go_wp2_with (go_at_call 25; refine R3.out.mono ?_; rintro e w9 ⟨rfl, rfl⟩)
  rw [rounds_succ]
  go_wp2_with (go_at_call 25; refine R4.out.mono ?_; rintro e w9 ⟨rfl, rfl⟩)
  rw [rounds_succ]
  clear R0 R1 R2 R3 R4 c0 c1 c2 c3 c4
  go_upto_region 18 with (go_at_call 16; refine (RA.out _ HB.out).mono ?_; rintro e w3 ⟨⟨p, c, rfl⟩, hb3⟩)
  have hs3 := hb3.size
  have HB3 := Lib.hid (HB.out.trans (hb3.mono HB.out.size))
  clear RA HB hb3 HE hs3
  go_wp2
  refine wp_loop_rounds 5 ?_
  rw [rounds_succ]
  go_wp2_with (go_at_call 21; refine (C0.out _).mono ?_; rintro e w9 ⟨rfl, rfl⟩)
  rw [rounds_succ]
  go_wp2_with (go_at_call 21; refine (C1.out _).mono ?_; rintro e w9 ⟨rfl, rfl⟩)
  rw [rounds_succ]
  go_wp2_with (go_at_call 21; refine (C2.out _).mono ?_; rintro e w9 ⟨rfl, rfl⟩)
  rw [rounds_succ]
  go_wp2_with (go_at_call 21; refine (C3.out _).mono ?_; rintro e w9 ⟨rfl, rfl⟩)
  rw [rounds_succ]
  go_wp2
  refine wp_loop_rounds 5 ?_
  rw [rounds_succ]
  go_wp2_with (go_at_call 22; refine (J0.out _).mono ?_; rintro e w9 ⟨rfl, rfl⟩)
  rw [rounds_succ]
  go_wp2_with (go_at_call 22; refine (J1.out _).mono ?_; rintro e w9 ⟨rfl, rfl⟩)
  rw [rounds_succ]
  go_wp2_with (go_at_call 22; refine (J2.out _).mono ?_; rintro e w9 ⟨rfl, rfl⟩)
  rw [rounds_succ]
  go_wp2_with (go_at_call 22; refine (J3.out _).mono ?_; rintro e w9 ⟨rfl, rfl⟩)
  rw [rounds_succ]
  go_wp2
  refine bodyPost_ret (by simp [results, Tryd.results11, go_sem]) rfl ⟨rfl, ?_⟩
  have hs3 := HB3.out.size
  repeat (first | (with_reducible exact HB3.out) | ((with_reducible refine below_grow ?_ ?_); rotate_left; focus (first | omega | (simp [go_sem]; done) | (simp [go_sem]; omega))) | ((with_reducible refine Below.alloc ?_ ?_ _); rotate_left; focus (first | omega | (simp [go_sem]; done) | (simp [go_sem]; omega))) | ((with_reducible refine Below.setCell ?_ ?_ _); rotate_left; focus (first | omega | (simp [go_sem]; done) | (simp [go_sem]; omega))) | (with_reducible refine Below.drew ?_) | (with_reducible refine below_drewN _ ?_))
end Go.Proofs.YtblmdnmnodogiaaDoor
