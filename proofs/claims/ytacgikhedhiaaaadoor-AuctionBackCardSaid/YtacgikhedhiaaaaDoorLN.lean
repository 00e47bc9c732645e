/- Auctions: the chapter's examples: awake. -/
import Derived.Test.YtacgikhedhiaaaaDoorLM
namespace Go.Proofs.YtacgikhedhiaaaaDoor
open Go.RowKit

theorem wp_below {P : Program} {c : Code} {Q : Exit → Act → World → Prop} {a : Act} {w w0 : World} {B : Nat} (hb : Below B w0 w) (h : ∀ W, Below B w0 W → Code.wp P c Q a W) : Code.wp P c Q a w := h w hb
theorem slt_new (W : World) (xs : List (List UInt8)) (q : Nat) (hq : q = W.heap.size) : SlT (W.alloc (.cells (xs.map strv).toArray 9)) (.slice (some ⟨q, 0, none⟩) xs.length xs.length) xs := by
  subst hq
  refine ⟨_, _, rfl, Nat.le_refl _, fun _ => ⟨_, 0, rfl, by simp, fun j x hj => ?_⟩⟩
  rw [blk_cell (blk_new _ _ _), Nat.zero_add, List.getElem?_toArray, List.getElem?_map, hj]
  rfl
def xL1 : List Nat := [0, 5, 0, 10, 0, 0, 1, 0, 0, 2, 0, 0, 0]
theorem slb_new (W : World) (xs : List Nat) (q : Nat) (hq : q = W.heap.size) : SlB (W.alloc (.cells (xs.map u8v).toArray 5)) (.slice (some ⟨q, 0, none⟩) xs.length xs.length) xs := by
  subst hq
  refine ⟨_, _, rfl, Nat.le_refl _, fun _ => ⟨_, 0, rfl, by simp, fun j x hj => ?_⟩⟩
  rw [blk_cell (blk_new _ _ _), Nat.zero_add, List.getElem?_toArray, List.getElem?_map, hj]
  rfl
theorem slb_take {W : World} {p : Option Addr} {n c : Nat} {xs : List Nat} (h : SlB W (.slice p n c) xs) (m : Nat) (hm : m ≤ n) : SlB W (.slice p m c) (xs.take m) := by
  obtain ⟨p', c', e, h2, h3⟩ := h
  simp only [Value.slice.injEq] at e
  obtain ⟨rfl, rfl, rfl⟩ := e
  refine ⟨p, c, by rw [List.length_take, Nat.min_eq_left hm], by rw [List.length_take]; omega, fun hne => ?_⟩
  obtain ⟨b, off, rfl, hb, hc⟩ := h3 (by rintro rfl; simp at hne)
  refine ⟨b, off, rfl, hb, fun j x hj => hc j x ?_⟩
  rw [List.getElem?_take] at hj
  split at hj
  · exact hj
  · cases hj
theorem info_u8 : ∃ i, Tryd.prog.info? 5 = some i ∧ i.zero = some (.int .u8 0) ∧ i.size = 1 ∧ i.bytes = 1 := info_parts Tryd.infoU
theorem made_rep8 (z : Value) (d : Nat) : madeCells #[z] d = Array.replicate d z := by
  apply Array.ext
  · simp [madeCells]
  · intro i h1 h2
    simp [madeCells, Nat.mod_one]
theorem make_u8 (d : Nat) (hd : d < 100) (w : World) : (Instr.makeSlice 22 (.int .i64 d) (.int .i64 d)).run Tryd.prog w = .ok (.slice (some ⟨w.heap.size, 0, none⟩) d d) (w.alloc (.cells (((List.replicate d 0).map u8v).toArray) 5)) := by
  obtain ⟨i, hi, hz, h4, h5⟩ := info_u8
  have := run_makeSlice (P := Tryd.prog) w 22 5 i (.int .u8 0) Tryd.underlying22 hi hz .i64 .i64 d d (by omega) (by omega) (by rw [h4]; omega) (by rw [h5]; omega) (by omega)
  rw [h4] at this
  have e : (List.map u8v (List.replicate d 0)).toArray = madeCells #[.int .u8 0] d := by rw [made_rep8]; simp
  rw [e]
  simpa [Value.cells] using this
theorem rt_1 : Rt 1 xL1 ⟨10, 0, 2, 2, 3⟩ := ⟨by decide, by decide +kernel⟩
theorem rt_2 : Rt 1 (xL1.take 12) ⟨10, 0, 2, 1, 2⟩ := ⟨by decide, by decide +kernel⟩
theorem rt_3 : Rt 0 [0, 5] ⟨5, 1, 0, 2, 0⟩ := ⟨by decide, by decide +kernel⟩
theorem rt_4 : Rt 0 [0, 0, 0, 0] ⟨0, 0, 0, 0, 4⟩ := ⟨by decide, by decide +kernel⟩
theorem rt_5 : Rt 0 [0, 0, 0] ⟨0, 0, 0, 3, 3⟩ := ⟨by decide, by decide +kernel⟩
theorem rt_6 : Rt 1 [0, 5, 1] ⟨5, 2, 1, 0, 0⟩ := ⟨by decide, by decide +kernel⟩
theorem ex_calls (s : List UInt8) (l : List Nat) (h : raL s = l) (h0 : l ≠ []) (hs : s.length < 1000) (w : World) (he : Env w) :
    Calls Tryd.prog 39 #[strv s] w fun e w' => (∃ g cap, e = .returned (.slice (some ⟨g, 0, none⟩) l.length cap) ∧ SlB w' (.slice (some ⟨g, 0, none⟩) l.length cap) l) ∧ Below w.heap.size w w' := by
  refine (calls_calls s (by omega) w he).mono ?_
  rintro e w' ⟨⟨v, rfl, hrow⟩, hb⟩
  rw [h] at hrow
  have hS := slb_own hrow
  obtain ⟨A, cap, rfl, hA⟩ := own_slice hrow
  obtain ⟨g, rfl⟩ := hA.resolve_left (fun e => h0 (List.length_eq_zero_iff.1 e))
  exact ⟨⟨g, cap, rfl, hS.1⟩, hb⟩
theorem ex_over4 (W : World) (q : Nat) (hq : q = W.heap.size) :
    Calls Tryd.prog 18 #[.int .u8 0, .slice (some ⟨q, 0, none⟩) 4 4] (W.alloc (.cells #[.int .u8 0, .int .u8 0, .int .u8 0, .int .u8 0] 5)) fun e w' => e = .returned (.tuple #[.bool true, .int .i64 0]) ∧ Below (W.alloc (.cells #[.int .u8 0, .int .u8 0, .int .u8 0, .int .u8 0] 5)).heap.size (W.alloc (.cells #[.int .u8 0, .int .u8 0, .int .u8 0, .int .u8 0] 5)) w' :=
  aover_yes 0 _ [0, 0, 0, 0] _ rt_4 _ (slb_new W [0, 0, 0, 0] q hq)
theorem ex_over3 (W : World) (q : Nat) (hq : q = W.heap.size) :
    Calls Tryd.prog 18 #[.int .u8 0, .slice (some ⟨q, 0, none⟩) 3 3] (W.alloc (.cells #[.int .u8 0, .int .u8 0, .int .u8 0] 5)) fun e w' => e = .returned (.tuple #[.bool false, .int .i64 0]) ∧ Below (W.alloc (.cells #[.int .u8 0, .int .u8 0, .int .u8 0] 5)).heap.size (W.alloc (.cells #[.int .u8 0, .int .u8 0, .int .u8 0] 5)) w' :=
  aover_yes 0 _ [0, 0, 0] _ rt_5 _ (slb_new W [0, 0, 0] q hq)
theorem ex_con4 (W : World) (q : Nat) (hq : q = W.heap.size) :
    Calls Tryd.prog 19 #[.int .u8 0, .slice (some ⟨q, 0, none⟩) 4 4] (W.alloc (.cells #[.int .u8 0, .int .u8 0, .int .u8 0, .int .u8 0] 5)) fun e w' => e = .returned (.tuple #[.agg #[.int .u8 0, .int .u8 0, .int .u8 0, .int .u8 0], .int .i64 0]) ∧ Below (W.alloc (.cells #[.int .u8 0, .int .u8 0, .int .u8 0, .int .u8 0] 5)).heap.size (W.alloc (.cells #[.int .u8 0, .int .u8 0, .int .u8 0, .int .u8 0] 5)) w' :=
  contract_over 0 _ [0, 0, 0, 0] _ rt_4 (by decide) _ (slb_new W [0, 0, 0, 0] q hq)
theorem ex_chk5 (W : World) (q : Nat) (hq : q = W.heap.size) :
    Calls Tryd.prog 23 #[.int .u8 0, .slice (some ⟨q, 0, none⟩) 5 5] (W.alloc (.cells #[.int .u8 0, .int .u8 0, .int .u8 0, .int .u8 0, .int .u8 0] 5)) fun e w' => e = .returned (.tuple #[.int .i64 4, .int .i64 90]) ∧ Below (W.alloc (.cells #[.int .u8 0, .int .u8 0, .int .u8 0, .int .u8 0, .int .u8 0] 5)).heap.size (W.alloc (.cells #[.int .u8 0, .int .u8 0, .int .u8 0, .int .u8 0, .int .u8 0] 5)) w' := by
  have h := check_calls 0 _ [0, 0, 0, 0, 0] ⟨by decide, by decide, by decide⟩ _ (slb_new W [0, 0, 0, 0, 0] q hq)
  rw [if_pos (by decide)] at h
  exact h
theorem ex_chk1 (W : World) (v : Value) (hS : SlB W v [1]) :
    Calls Tryd.prog 23 #[.int .u8 0, v] W fun e w' => e = .returned (.tuple #[.int .i64 0, .int .i64 2]) ∧ Below W.heap.size W w' := by
  have h := check_calls 0 _ [1] ⟨by decide, by decide, by decide⟩ _ hS
  rw [if_pos (by decide)] at h
  exact h
def xT1 : List (List UInt8) := [[45, 32, 32, 32, 32, 80, 32, 32, 32, 32, 49, 72, 32, 32, 32, 88, 32, 32, 32, 32], [63, 32, 32, 32, 32, 32, 32, 32, 32, 32, 32, 32, 32, 32, 32, 32, 32, 32, 32, 32]]
set_option maxRecDepth 100000 in
set_option maxHeartbeats 16000000 in
theorem awake_calls (w : World) (he : Env w) : Calls Tryd.prog 11 #[] w fun e w' => e = .returned (.bool true) ∧ Below w.heap.size w w' := by
  have HE := Lib.hid (fun W (hb : Below w.heap.size w W) => he.below hb)
  clear he
  have K1 := Lib.hid (fun W (he : Env W) => ex_calls [80, 32, 49, 72, 32, 80, 32, 50, 72, 32, 80, 32, 80, 32, 88, 32, 80, 32, 80, 32, 88, 88, 32, 80, 32, 80, 32, 80] xL1 (by decide +kernel) (by decide) (by decide) W he)
  have K2 := Lib.hid (fun W (he : Env W) => ex_calls [80, 32, 49, 72] [0, 5] (by decide +kernel) (by decide) (by decide) W he)
  have EQ := fun w => eqCt 2 2 2 2 2 2 2 2 w
  have LE := Lib.hid (fun w => leader_calls 2 2 2 2 w (by decide))
  rw [if_neg (by decide), if_pos (by decide)] at LE
  go_enter Tryd.func11, Tryd.ntmps11
  go_upto_region 2 with (go_at_call 39; refine (K1.out _ (HE.out _ (Below.refl _ _))).mono ?_; rintro e w1 ⟨⟨A1, cap1, rfl, hS1⟩, hb1⟩)
  have hs1 := hb1.size
  have C1 := Lib.hid (fun W (hb : Below w1.heap.size w1 W) => check_yes 1 _ xL1 _ rt_1 W (slb_below hS1 hb))
  have C2 := Lib.hid (fun W (hb : Below w1.heap.size w1 W) => contract_over 1 _ xL1 _ rt_1 (by decide) W (slb_below hS1 hb))
  rw [show ctV (St.ctr ⟨10, 0, 2, 2, 3⟩ 1 xL1) = .agg #[.int .u8 2, .int .u8 2, .int .u8 2, .int .u8 2] from by rfl] at C2
  have hcap : xL1.length ≤ cap1 := by
    obtain ⟨p, c, e, h, _⟩ := hS1
    simp only [Value.slice.injEq] at e
    omega
  have C3 := Lib.hid (fun W (hb : Below w1.heap.size w1 W) => turn_yes 1 _ (xL1.take 12) _ rt_2 W (slb_below (slb_take hS1 12 (by decide)) hb))
  rw [show St.over ⟨10, 0, 2, 1, 2⟩ = false from rfl, if_neg (by decide)] at C3
  rw [show xL1.length = 13 from rfl] at *
  have hc12 : (12 : Int) ≤ cap1 := by omega
  go_upto_region 3 with (go_at_call 23; refine (C1.out _ (by repeat (first | (with_reducible exact Below.refl _ _) | ((with_reducible refine below_grow ?_ ?_); rotate_left; focus (first | omega | (simp [go_sem]; done) | (simp [go_sem]; omega))) | ((with_reducible refine Below.alloc ?_ ?_ _); rotate_left; focus (first | omega | (simp [go_sem]; done) | (simp [go_sem]; omega))) | ((with_reducible refine Below.setCell ?_ ?_ _); rotate_left; focus (first | omega | (simp [go_sem]; done) | (simp [go_sem]; omega))) | (with_reducible refine Below.drew ?_) | (with_reducible refine below_drewN _ ?_)))).mono ?_; rintro e w9 ⟨rfl, hbel⟩; obtain ⟨o1, j1, rfl⟩ := grow_of_below hbel; clear hbel)
  go_upto_region 5 with fail
  go_upto_region 6 with (go_at_call 19; refine (C2.out _ (by repeat (first | (with_reducible exact Below.refl _ _) | ((with_reducible refine below_grow ?_ ?_); rotate_left; focus (first | omega | (simp [go_sem]; done) | (simp [go_sem]; omega))) | ((with_reducible refine Below.alloc ?_ ?_ _); rotate_left; focus (first | omega | (simp [go_sem]; done) | (simp [go_sem]; omega))) | ((with_reducible refine Below.setCell ?_ ?_ _); rotate_left; focus (first | omega | (simp [go_sem]; done) | (simp [go_sem]; omega))) | (with_reducible refine Below.drew ?_) | (with_reducible refine below_drewN _ ?_)))).mono ?_; rintro e w9 ⟨rfl, hbel⟩; obtain ⟨o2, j2, rfl⟩ := grow_of_below hbel; clear hbel)
  go_upto_region 7 with (go_at_call 22; refine (LE.out _).mono ?_; rintro e w9 ⟨rfl, hbel⟩; obtain ⟨o3, j3, rfl⟩ := grow_of_below hbel; clear hbel)
  go_upto_region 8 with (go_at_call 15; refine (C3.out _ (by repeat (first | (with_reducible exact Below.refl _ _) | ((with_reducible refine below_grow ?_ ?_); rotate_left; focus (first | omega | (simp [go_sem]; done) | (simp [go_sem]; omega))) | ((with_reducible refine Below.alloc ?_ ?_ _); rotate_left; focus (first | omega | (simp [go_sem]; done) | (simp [go_sem]; omega))) | ((with_reducible refine Below.setCell ?_ ?_ _); rotate_left; focus (first | omega | (simp [go_sem]; done) | (simp [go_sem]; omega))) | (with_reducible refine Below.drew ?_) | (with_reducible refine below_drewN _ ?_)))).mono ?_; rintro e w9 ⟨rfl, hbel⟩; obtain ⟨o4, j4, rfl⟩ := grow_of_below hbel; clear hbel)
  clear C1 C2 C3 LE K1
  go_upto_region 10 with fail
  have cb : Below w.heap.size w (grow ((grow w1 (o1 ++ o2) j2).alloc (.cells #[.int .u8 2, .int .u8 2, .int .u8 2, .int .u8 2] 26)) (o3 ++ o4) j4) := by repeat (first | (with_reducible exact hb1) | ((with_reducible refine below_grow ?_ ?_); rotate_left; focus (first | omega | (simp [go_sem]; done) | (simp [go_sem]; omega))) | ((with_reducible refine Below.alloc ?_ ?_ _); rotate_left; focus (first | omega | (simp [go_sem]; done) | (simp [go_sem]; omega))) | ((with_reducible refine Below.setCell ?_ ?_ _); rotate_left; focus (first | omega | (simp [go_sem]; done) | (simp [go_sem]; omega))) | (with_reducible refine Below.drew ?_) | (with_reducible refine below_drewN _ ?_))
  generalize grow ((grow w1 (o1 ++ o2) j2).alloc (.cells #[.int .u8 2, .int .u8 2, .int .u8 2, .int .u8 2] 26)) (o3 ++ o4) j4 = W1 at *
  generalize w1.heap.size + sz (o1 ++ o2) = q1 at *
  clear hS1 hb1 hcap hc12 hs1 EQ
  go_upto_region 11 with (first | (go_at_call 39; refine (K2.out _ (HE.out _ cb)).mono ?_; rintro e w2 ⟨⟨A2, cap2, rfl, hS2⟩, hb2⟩) | (go_at_call 14; refine (legal_open 0 _ [0, 5] _ rt_3 (by decide) _ hS2).mono ?_; rintro e w3 ⟨⟨v3, rfl, hrow⟩, hb3⟩))
  have cb3 : Below w.heap.size w w3 := (cb.trans (hb2.mono cb.size)).trans (hb3.mono (by have := cb.size; have := hb2.size; omega))
  have hlg : St.lgl ⟨5, 1, 0, 2, 0⟩ = 0 :: 1 :: List.range' 6 32 := by decide +kernel
  rw [hlg] at hrow
  obtain ⟨g, cap, rfl, hg⟩ := own_pos (n := 33) hrow
  have l0 := own_at hrow 0 (by decide)
  have l1 := own_at hrow 1 (by decide)
  have l2 := own_at hrow 2 (by decide)
  have l3 := own_at hrow 33 (by decide)
  rw [show (List.map u8v (0 :: 1 :: List.range' 6 32))[0]? = some (.int .u8 0) from rfl] at l0
  rw [show (List.map u8v (0 :: 1 :: List.range' 6 32))[1]? = some (.int .u8 1) from rfl] at l1
  rw [show (List.map u8v (0 :: 1 :: List.range' 6 32))[2]? = some (.int .u8 6) from rfl] at l2
  rw [show (List.map u8v (0 :: 1 :: List.range' 6 32))[33]? = some (.int .u8 37) from rfl] at l3
  clear hlg hb2 hb3 hS2 cb hrow K2
  have MK4 : ∀ w, (Instr.makeSlice 22 (.int .i64 4) (.int .i64 4)).run Tryd.prog w = .ok (.slice (some ⟨w.heap.size, 0, none⟩) 4 4) (w.alloc (.cells #[.int .u8 0, .int .u8 0, .int .u8 0, .int .u8 0] 5)) := fun w => make_u8 4 (by decide) w
  have MK3 : ∀ w, (Instr.makeSlice 22 (.int .i64 3) (.int .i64 3)).run Tryd.prog w = .ok (.slice (some ⟨w.heap.size, 0, none⟩) 3 3) (w.alloc (.cells #[.int .u8 0, .int .u8 0, .int .u8 0] 5)) := fun w => make_u8 3 (by decide) w
  have MK5 : ∀ w, (Instr.makeSlice 22 (.int .i64 5) (.int .i64 5)).run Tryd.prog w = .ok (.slice (some ⟨w.heap.size, 0, none⟩) 5 5) (w.alloc (.cells #[.int .u8 0, .int .u8 0, .int .u8 0, .int .u8 0, .int .u8 0] 5)) := fun w => make_u8 5 (by decide) w
  have EQ := fun w => eqCt 0 0 0 0 0 0 0 0 w
  go_upto_region 13 with fail
  clear l0 l1 l2 l3
  go_upto_region 14 with (go_at_call 18; refine (ex_over4 _ _ (by simp [go_sem])).mono ?_; rintro e w9 ⟨rfl, hbel⟩; obtain ⟨o5, j5, rfl⟩ := grow_of_below hbel; clear hbel)
  go_upto_region 15 with (go_at_call 18; refine (ex_over3 _ _ (by simp [go_sem])).mono ?_; rintro e w9 ⟨rfl, hbel⟩; obtain ⟨o6, j6, rfl⟩ := grow_of_below hbel; clear hbel)
  go_upto_region 16 with (go_at_call 19; refine (ex_con4 _ _ (by simp [go_sem])).mono ?_; rintro e w9 ⟨rfl, hbel⟩; obtain ⟨o7, j7, rfl⟩ := grow_of_below hbel; clear hbel)
  go_upto_region 18 with fail
  go_upto_region 19 with (go_at_call 23; refine (ex_chk5 _ _ (by simp [go_sem])).mono ?_; rintro e w9 ⟨rfl, hbel⟩; obtain ⟨o8, j8, rfl⟩ := grow_of_below hbel; clear hbel)
  go_upto_region 21 with fail
  have hs3 := cb3.size
  refine wp_below (B := w.heap.size) (w0 := w) (by repeat (first | (with_reducible exact cb3) | ((with_reducible refine below_grow ?_ ?_); rotate_left; focus (first | omega | (simp [go_sem]; done) | (simp [go_sem]; omega))) | ((with_reducible refine Below.alloc ?_ ?_ _); rotate_left; focus (first | omega | (simp [go_sem]; done) | (simp [go_sem]; omega))) | ((with_reducible refine Below.setCell ?_ ?_ _); rotate_left; focus (first | omega | (simp [go_sem]; done) | (simp [go_sem]; omega))) | (with_reducible refine Below.drew ?_) | (with_reducible refine below_drewN _ ?_))) ?_
  intro W4 cb4
  clear hs3 MK3 MK4 MK5 EQ cb3
  have K3 := Lib.hid (fun W (he : Env W) => ex_calls [88] [1] (by decide +kernel) (by decide) (by decide) W he)
  have K4 := Lib.hid (fun W (he : Env W) => ex_calls [80, 32, 49, 72, 32, 88] [0, 5, 1] (by decide +kernel) (by decide) (by decide) W he)
  go_upto_region 22 with (first | (go_at_call 39; refine (K3.out _ (HE.out _ cb4)).mono ?_; rintro e w5 ⟨⟨A5, cap5, rfl, hS5⟩, hb5⟩) | (go_at_call 23; refine (ex_chk1 _ _ hS5).mono ?_; rintro e w6 ⟨rfl, hb6⟩))
  have cb6 : Below w.heap.size w w6 := (cb4.trans (hb5.mono cb4.size)).trans (hb6.mono (by have := cb4.size; have := hb5.size; omega))
  clear cb4 hb5 hb6 hS5 K3
  go_upto_region 24 with fail
  go_upto_region 25 with (first | (go_at_call 39; refine (K4.out _ (HE.out _ cb6)).mono ?_; rintro e w7 ⟨⟨A7, cap7, rfl, hS7⟩, hb7⟩) | (go_at_call 25; refine (table_yes 1 _ [0, 5, 1] _ rt_6 _ hS7 (HE.out _ (cb6.trans (hb7.mono cb6.size)))).mono ?_; rintro e w8 ⟨⟨v8, rfl, hrow⟩, hb8⟩))
  have cb8 : Below w.heap.size w w8 := (cb6.trans (hb7.mono cb6.size)).trans (hb8.mono (by have := cb6.size; have := hb7.size; omega))
  have hsl := (slt_own hrow).1
  rw [show tbl (wrd 1 [0, 5, 1] ⟨5, 2, 1, 0, 0⟩) = xT1 from by decide +kernel] at hsl
  clear cb6 hb7 hb8 hS7 K4 hrow
  have SM := Lib.hid (fun W (hb : Below w8.heap.size w8 W) v2 (h2 : SlT W v2 xT1) => sameT_calls v8 v2 xT1 xT1 (by decide) W (slt_below hsl hb) h2)
  rw [show decide (xT1 = xT1) = true from by simp] at SM
  have hs8 := cb8.size
  go_wp2_with (first | (go_at_call 36; refine (SM.out _ (by repeat (first | (with_reducible exact Below.refl _ _) | ((with_reducible refine below_grow ?_ ?_); rotate_left; focus (first | omega | (simp [go_sem]; done) | (simp [go_sem]; omega))) | ((with_reducible refine Below.alloc ?_ ?_ _); rotate_left; focus (first | omega | (simp [go_sem]; done) | (simp [go_sem]; omega))) | ((with_reducible refine Below.setCell ?_ ?_ _); rotate_left; focus (first | omega | (simp [go_sem]; done) | (simp [go_sem]; omega))) | (with_reducible refine Below.drew ?_) | (with_reducible refine below_drewN _ ?_))) _ (slt_new _ xT1 _ (by simp [go_sem]))).mono ?_; rintro e w9 ⟨rfl, hb9⟩))
  refine bodyPost_ret (by simp [results, Tryd.results11, go_sem]) rfl ⟨rfl, ?_⟩
  exact (show Below w.heap.size w _ by repeat (first | (with_reducible exact cb8) | ((with_reducible refine below_grow ?_ ?_); rotate_left; focus (first | omega | (simp [go_sem]; done) | (simp [go_sem]; omega))) | ((with_reducible refine Below.alloc ?_ ?_ _); rotate_left; focus (first | omega | (simp [go_sem]; done) | (simp [go_sem]; omega))) | ((with_reducible refine Below.setCell ?_ ?_ _); rotate_left; focus (first | omega | (simp [go_sem]; done) | (simp [go_sem]; omega))) | (with_reducible refine Below.drew ?_) | (with_reducible refine below_drewN _ ?_))).trans (hb9.mono (by simp; omega))
end Go.Proofs.YtacgikhedhiaaaaDoor
