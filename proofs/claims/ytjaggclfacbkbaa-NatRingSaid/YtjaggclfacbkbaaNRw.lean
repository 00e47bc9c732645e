/- NatRing: the walk. -/
import Derived.Test.YtjaggclfacbkbaaNRm
import Derived.Deep.DeepCutAuto
namespace Go.Proofs.Ytjaggclfacbkbaa
open Go.RowKit

theorem blk_drew {w : World} {b : Nat} {cs : Array Value} {t : TypeId} (h : blk w b cs t) : blk w.drew b cs t := h
theorem blk_other {w : World} {b c i : Nat} {cs : Array Value} {t : TypeId} (h : blk w b cs t) (hne : b ≠ c) (v : Value) : blk (w.setCell ⟨c, i, none⟩ v) b cs t := by
  unfold blk at *
  rw [Below.heap_setCell _ _ _ _ hne]
  exact h
theorem small_pt (x : Int) (hx : 0 ≤ x ∧ x ≤ 4294967295) : ∃ X, isN X ∧ pt X 0 = x ∧ pt X 1 = 0 ∧ pt X 2 = 0 ∧ pt X 3 = 0 := by
  obtain ⟨n, hn⟩ : ∃ n : Nat, (n : Int) = x + 4294967296 * 0 + 18446744073709551616 * 0 + 79228162514264337593543950336 * 0 := ⟨x.toNat, by omega⟩
  obtain ⟨k, k0, k1, k2, k3⟩ := pt_mk x 0 0 0 hx (by decide) (by decide) (by decide) n hn
  exact ⟨n, k, k0.symm, k1.symm, k2.symm, k3.symm⟩
set_option maxRecDepth 100000 in
set_option maxHeartbeats 16000000 in
theorem ring_walk (a b c : Nat) (x y z : Int) (ha : isN a) (hb : isN b) (hc : isN c) (hxx : 0 ≤ x ∧ x ≤ 4294967295) (hyy : 0 ≤ y ∧ y ≤ 4294967295) (hzz : 0 ≤ z ∧ z ≤ 4294967295) (w : World) :
    Calls Try.prog 7 #[.agg #[.int .u32 (pt a 0), .int .u32 (pt a 1), .int .u32 (pt a 2), .int .u32 (pt a 3)], .agg #[.int .u32 (pt b 0), .int .u32 (pt b 1), .int .u32 (pt b 2), .int .u32 (pt b 3)], .agg #[.int .u32 (pt c 0), .int .u32 (pt c 1), .int .u32 (pt c 2), .int .u32 (pt c 3)], .int .u32 x, .int .u32 y, .int .u32 z] w fun e w' => e = .returned (.bool true) ∧ Below w.heap.size w w' := by
  go_enter Try.func7, Try.ntmps7
  go_upto_region 3 with (first | (go_at_call 13; refine (awake_calls _).mono ?_; rintro e w1 ⟨rfl, hbel⟩; obtain ⟨o1, j1, rfl⟩ := grow_of_below hbel; clear hbel))
  go_cut [53, 54, 55] (fun s53 s54 s55 wx => ∃ L : Nat, s53 = .slice (some ⟨L, 0, none⟩) 2 2 ∧ s54 = .int .i64 2 ∧ s55 = .int .i64 0 ∧ blk wx L #[.int .u32 (pt a 0), .int .u32 (pt a 1), .int .u32 (pt a 2), .int .u32 (pt a 3), .int .u32 (pt b 0), .int .u32 (pt b 1), .int .u32 (pt b 2), .int .u32 (pt b 3), .int .u32 (pt c 0), .int .u32 (pt c 1), .int .u32 (pt c 2), .int .u32 (pt c 3), .int .u32 x, .int .u32 0, .int .u32 0, .int .u32 0, .int .u32 y, .int .u32 0, .int .u32 0, .int .u32 0, .int .u32 z, .int .u32 0, .int .u32 0, .int .u32 0] 33 ∧ Below w.heap.size w wx)
  case first =>
    go_wp2
    go_meet
    exact ⟨_, rfl, rfl, rfl, blk_at _ _ _ (by simp [go_sem]), by repeat (first | (with_reducible exact Below.refl _ _) | ((with_reducible refine below_grow ?_ ?_); rotate_left; focus (first | omega | (simp [go_sem]; done) | (simp [go_sem]; omega))) | ((with_reducible refine Below.alloc ?_ ?_ _); rotate_left; focus (first | omega | (simp [go_sem]; done) | (simp [go_sem]; omega))) | ((with_reducible refine Below.setCell ?_ ?_ _); rotate_left; focus (first | omega | (simp [go_sem]; done) | (simp [go_sem]; omega))) | (with_reducible refine Below.drew ?_) | (with_reducible refine below_drewN _ ?_))⟩
  case rest =>
  obtain ⟨L, rfl, rfl, rfl, bL, hb0⟩ := hcut
  go_upto_region 4 with fail
  go_loopw [55] (fun s55 wx => ∃ k : Nat, s55 = .int .i64 k ∧ k ≤ 2 ∧ blk wx L #[.int .u32 (pt a 0), .int .u32 (pt a 1), .int .u32 (pt a 2), .int .u32 (pt a 3), .int .u32 (pt b 0), .int .u32 (pt b 1), .int .u32 (pt b 2), .int .u32 (pt b 3), .int .u32 (pt c 0), .int .u32 (pt c 1), .int .u32 (pt c 2), .int .u32 (pt c 3), .int .u32 x, .int .u32 0, .int .u32 0, .int .u32 0, .int .u32 y, .int .u32 0, .int .u32 0, .int .u32 0, .int .u32 z, .int .u32 0, .int .u32 0, .int .u32 0] 33 ∧ Below w.heap.size w wx) (fun s55 _ => 2 - (intOf s55).toNat)
  case atStart => exact ⟨0, rfl, by decide, bL, hb0⟩
  case round =>
    clear bL hb0
    obtain ⟨k, rfl, hk, bL, hbr⟩ := hrel
    by_cases hlt : k < 2
    · have hk1 : (k : Int) < 2 := by omega
      go_upto_region 5 with fail
      go_cut [14] (fun s14 wx => ∃ A B C m : Nat, isN A ∧ isN B ∧ isN C ∧ s14 = .pointer (some ⟨m, 0, none⟩) ∧ blk wx m #[.int .u32 (pt A 0), .int .u32 (pt A 1), .int .u32 (pt A 2), .int .u32 (pt A 3), .int .u32 (pt B 0), .int .u32 (pt B 1), .int .u32 (pt B 2), .int .u32 (pt B 3), .int .u32 (pt C 0), .int .u32 (pt C 1), .int .u32 (pt C 2), .int .u32 (pt C 3)] 33 ∧ blk wx L #[.int .u32 (pt a 0), .int .u32 (pt a 1), .int .u32 (pt a 2), .int .u32 (pt a 3), .int .u32 (pt b 0), .int .u32 (pt b 1), .int .u32 (pt b 2), .int .u32 (pt b 3), .int .u32 (pt c 0), .int .u32 (pt c 1), .int .u32 (pt c 2), .int .u32 (pt c 3), .int .u32 x, .int .u32 0, .int .u32 0, .int .u32 0, .int .u32 y, .int .u32 0, .int .u32 0, .int .u32 0, .int .u32 z, .int .u32 0, .int .u32 0, .int .u32 0] 33 ∧ Below w.heap.size w wx)
      case first =>
        as_aux_lemma =>
          have hbs := hbr.size
          have d0 := blk_cell bL 0
          have d1 := blk_cell bL 1
          have d2 := blk_cell bL 2
          have d3 := blk_cell bL 3
          have d4 := blk_cell bL 4
          have d5 := blk_cell bL 5
          have d6 := blk_cell bL 6
          have d7 := blk_cell bL 7
          have d8 := blk_cell bL 8
          have d9 := blk_cell bL 9
          have d10 := blk_cell bL 10
          have d11 := blk_cell bL 11
          have d12 := blk_cell bL 12
          have d13 := blk_cell bL 13
          have d14 := blk_cell bL 14
          have d15 := blk_cell bL 15
          have d16 := blk_cell bL 16
          have d17 := blk_cell bL 17
          have d18 := blk_cell bL 18
          have d19 := blk_cell bL 19
          have d20 := blk_cell bL 20
          have d21 := blk_cell bL 21
          have d22 := blk_cell bL 22
          have d23 := blk_cell bL 23
          simp only [List.getElem?_toArray, List.getElem?_cons_zero, List.getElem?_cons_succ] at d0 d1 d2 d3 d4 d5 d6 d7 d8 d9 d10 d11 d12 d13 d14 d15 d16 d17 d18 d19 d20 d21 d22 d23
          have hk2 : k = 0 ∨ k = 1 := by omega
          rcases hk2 with rfl | rfl
          · go_wp2
            go_meet
            exact ⟨a, b, c, _, ha, hb, hc, rfl, blk_at _ _ _ (by simp [go_sem]), by repeat (first | (with_reducible exact bL) | (with_reducible exact set4 bL _ _ _ _) | (with_reducible refine blk_grow ?_ _ _) | (with_reducible refine blk_alloc ?_ _) | (with_reducible refine blk_drew ?_) | (with_reducible refine blk_other ?_ (by (first | omega | (simp [go_sem]; done) | (simp [go_sem]; omega))) _)), by repeat (first | (with_reducible exact hbr) | ((with_reducible refine below_grow ?_ ?_); rotate_left; focus (first | omega | (simp [go_sem]; done) | (simp [go_sem]; omega))) | ((with_reducible refine Below.alloc ?_ ?_ _); rotate_left; focus (first | omega | (simp [go_sem]; done) | (simp [go_sem]; omega))) | ((with_reducible refine Below.setCell ?_ ?_ _); rotate_left; focus (first | omega | (simp [go_sem]; done) | (simp [go_sem]; omega))) | (with_reducible refine Below.drew ?_) | (with_reducible refine below_drewN _ ?_))⟩
          · obtain ⟨X, gX, x0, x1, x2, x3⟩ := small_pt x hxx
            obtain ⟨Y, gY, y0, y1, y2, y3⟩ := small_pt y hyy
            obtain ⟨Z, gZ, z0, z1, z2, z3⟩ := small_pt z hzz
            go_wp2
            go_meet
            refine ⟨X, Y, Z, _, gX, gY, gZ, rfl, ?_, by repeat (first | (with_reducible exact bL) | (with_reducible exact set4 bL _ _ _ _) | (with_reducible refine blk_grow ?_ _ _) | (with_reducible refine blk_alloc ?_ _) | (with_reducible refine blk_drew ?_) | (with_reducible refine blk_other ?_ (by (first | omega | (simp [go_sem]; done) | (simp [go_sem]; omega))) _)), by repeat (first | (with_reducible exact hbr) | ((with_reducible refine below_grow ?_ ?_); rotate_left; focus (first | omega | (simp [go_sem]; done) | (simp [go_sem]; omega))) | ((with_reducible refine Below.alloc ?_ ?_ _); rotate_left; focus (first | omega | (simp [go_sem]; done) | (simp [go_sem]; omega))) | ((with_reducible refine Below.setCell ?_ ?_ _); rotate_left; focus (first | omega | (simp [go_sem]; done) | (simp [go_sem]; omega))) | (with_reducible refine Below.drew ?_) | (with_reducible refine below_drewN _ ?_))⟩
            rw [x0, x1, x2, x3, y0, y1, y2, y3, z0, z1, z2, z3]
            exact blk_at _ _ _ (by simp [go_sem])
      case rest =>
      clear bL hbr
      obtain ⟨A, B, C, m, gA, gB, gC, rfl, bm, bL, hbr⟩ := hcut
      have hbs := hbr.size
      go_upto_region 6 with fail
      go_cut [15, 16, 17] (fun s15 s16 s17 wx => ∃ p q r : Nat, s15 = .pointer (some ⟨p, 0, none⟩) ∧ s16 = .pointer (some ⟨q, 0, none⟩) ∧ s17 = .pointer (some ⟨r, 0, none⟩) ∧ blk wx p #[.int .u32 (pt A 0), .int .u32 (pt A 1), .int .u32 (pt A 2), .int .u32 (pt A 3)] 24 ∧ blk wx q #[.int .u32 (pt B 0), .int .u32 (pt B 1), .int .u32 (pt B 2), .int .u32 (pt B 3)] 24 ∧ blk wx r #[.int .u32 (pt C 0), .int .u32 (pt C 1), .int .u32 (pt C 2), .int .u32 (pt C 3)] 24 ∧ blk wx L #[.int .u32 (pt a 0), .int .u32 (pt a 1), .int .u32 (pt a 2), .int .u32 (pt a 3), .int .u32 (pt b 0), .int .u32 (pt b 1), .int .u32 (pt b 2), .int .u32 (pt b 3), .int .u32 (pt c 0), .int .u32 (pt c 1), .int .u32 (pt c 2), .int .u32 (pt c 3), .int .u32 x, .int .u32 0, .int .u32 0, .int .u32 0, .int .u32 y, .int .u32 0, .int .u32 0, .int .u32 0, .int .u32 z, .int .u32 0, .int .u32 0, .int .u32 0] 33 ∧ Below w.heap.size w wx)
      case first =>
        as_aux_lemma =>
          have d0 := blk_cell bm 0
          have d1 := blk_cell bm 1
          have d2 := blk_cell bm 2
          have d3 := blk_cell bm 3
          have d4 := blk_cell bm 4
          have d5 := blk_cell bm 5
          have d6 := blk_cell bm 6
          have d7 := blk_cell bm 7
          have d8 := blk_cell bm 8
          have d9 := blk_cell bm 9
          have d10 := blk_cell bm 10
          have d11 := blk_cell bm 11
          simp only [List.getElem?_toArray, List.getElem?_cons_zero, List.getElem?_cons_succ] at d0 d1 d2 d3 d4 d5 d6 d7 d8 d9 d10 d11
          have im : NeZero (inW m wc) := inW_mk (blk_lt bm)
          go_region_held3 (fun w' => w'.cell? ⟨m, 0, none⟩ = some (.int .u32 (pt A 0)) ∧ w'.cell? ⟨m, 1, none⟩ = some (.int .u32 (pt A 1)) ∧ w'.cell? ⟨m, 2, none⟩ = some (.int .u32 (pt A 2)) ∧ w'.cell? ⟨m, 3, none⟩ = some (.int .u32 (pt A 3)) ∧ w'.cell? ⟨m, 4, none⟩ = some (.int .u32 (pt B 0)) ∧ w'.cell? ⟨m, 5, none⟩ = some (.int .u32 (pt B 1)) ∧ w'.cell? ⟨m, 6, none⟩ = some (.int .u32 (pt B 2)) ∧ w'.cell? ⟨m, 7, none⟩ = some (.int .u32 (pt B 3)) ∧ w'.cell? ⟨m, 8, none⟩ = some (.int .u32 (pt C 0)) ∧ w'.cell? ⟨m, 9, none⟩ = some (.int .u32 (pt C 1)) ∧ w'.cell? ⟨m, 10, none⟩ = some (.int .u32 (pt C 2)) ∧ w'.cell? ⟨m, 11, none⟩ = some (.int .u32 (pt C 3))) (simp [*, go_sem]) (first | fail)
          all_goals go_wp2
          all_goals go_meet
          all_goals
            refine ⟨_, _, _, rfl, rfl, rfl, ?_, ?_, ?_, ?_, ?_⟩
            · repeat (first | (exact blk_at _ _ _ (by simp [go_sem])) | (with_reducible refine blk_alloc ?_ _) | (with_reducible refine blk_grow ?_ _ _) | (with_reducible refine blk_drew ?_))
            · repeat (first | (exact blk_at _ _ _ (by simp [go_sem])) | (with_reducible refine blk_alloc ?_ _) | (with_reducible refine blk_grow ?_ _ _) | (with_reducible refine blk_drew ?_))
            · repeat (first | (exact blk_at _ _ _ (by simp [go_sem])) | (with_reducible refine blk_alloc ?_ _) | (with_reducible refine blk_grow ?_ _ _) | (with_reducible refine blk_drew ?_))
            · repeat (first | (with_reducible exact bL) | (with_reducible exact set4 bL _ _ _ _) | (with_reducible refine blk_grow ?_ _ _) | (with_reducible refine blk_alloc ?_ _) | (with_reducible refine blk_drew ?_) | (with_reducible refine blk_other ?_ (by (first | omega | (simp [go_sem]; done) | (simp [go_sem]; omega))) _))
            · repeat (first | (with_reducible exact hbr) | ((with_reducible refine below_grow ?_ ?_); rotate_left; focus (first | omega | (simp [go_sem]; done) | (simp [go_sem]; omega))) | ((with_reducible refine Below.alloc ?_ ?_ _); rotate_left; focus (first | omega | (simp [go_sem]; done) | (simp [go_sem]; omega))) | ((with_reducible refine Below.setCell ?_ ?_ _); rotate_left; focus (first | omega | (simp [go_sem]; done) | (simp [go_sem]; omega))) | (with_reducible refine Below.drew ?_) | (with_reducible refine below_drewN _ ?_))
      case rest =>
      clear bm bL hbr hbs
      obtain ⟨p, q, r, rfl, rfl, rfl, bp, bq, br, bL, hbr⟩ := hcut
      have hbs := hbr.size
      go_upto_region 7 with fail
      go_cut [65, 66, 67] (fun s65 s66 s67 wx => ∃ F : Nat, s65 = .slice (some ⟨F, 0, none⟩) 2 2 ∧ s66 = .int .i64 2 ∧ s67 = .int .i64 0 ∧ blk wx F #[.func (.func 17) #[] #[], .func (.func 18) #[] #[]] 35 ∧ blk wx p #[.int .u32 (pt A 0), .int .u32 (pt A 1), .int .u32 (pt A 2), .int .u32 (pt A 3)] 24 ∧ blk wx q #[.int .u32 (pt B 0), .int .u32 (pt B 1), .int .u32 (pt B 2), .int .u32 (pt B 3)] 24 ∧ blk wx r #[.int .u32 (pt C 0), .int .u32 (pt C 1), .int .u32 (pt C 2), .int .u32 (pt C 3)] 24 ∧ blk wx L #[.int .u32 (pt a 0), .int .u32 (pt a 1), .int .u32 (pt a 2), .int .u32 (pt a 3), .int .u32 (pt b 0), .int .u32 (pt b 1), .int .u32 (pt b 2), .int .u32 (pt b 3), .int .u32 (pt c 0), .int .u32 (pt c 1), .int .u32 (pt c 2), .int .u32 (pt c 3), .int .u32 x, .int .u32 0, .int .u32 0, .int .u32 0, .int .u32 y, .int .u32 0, .int .u32 0, .int .u32 0, .int .u32 z, .int .u32 0, .int .u32 0, .int .u32 0] 33 ∧ Below w.heap.size w wx)
      case first =>
        as_aux_lemma =>
          go_wp2
          go_meet
          exact ⟨_, rfl, rfl, rfl, blk_at _ _ _ (by simp [go_sem]), by repeat (first | (with_reducible exact bp) | (with_reducible exact set4 bp _ _ _ _) | (with_reducible refine blk_grow ?_ _ _) | (with_reducible refine blk_alloc ?_ _) | (with_reducible refine blk_drew ?_) | (with_reducible refine blk_other ?_ (by (first | omega | (simp [go_sem]; done) | (simp [go_sem]; omega))) _)), by repeat (first | (with_reducible exact bq) | (with_reducible exact set4 bq _ _ _ _) | (with_reducible refine blk_grow ?_ _ _) | (with_reducible refine blk_alloc ?_ _) | (with_reducible refine blk_drew ?_) | (with_reducible refine blk_other ?_ (by (first | omega | (simp [go_sem]; done) | (simp [go_sem]; omega))) _)), by repeat (first | (with_reducible exact br) | (with_reducible exact set4 br _ _ _ _) | (with_reducible refine blk_grow ?_ _ _) | (with_reducible refine blk_alloc ?_ _) | (with_reducible refine blk_drew ?_) | (with_reducible refine blk_other ?_ (by (first | omega | (simp [go_sem]; done) | (simp [go_sem]; omega))) _)), by repeat (first | (with_reducible exact bL) | (with_reducible exact set4 bL _ _ _ _) | (with_reducible refine blk_grow ?_ _ _) | (with_reducible refine blk_alloc ?_ _) | (with_reducible refine blk_drew ?_) | (with_reducible refine blk_other ?_ (by (first | omega | (simp [go_sem]; done) | (simp [go_sem]; omega))) _)), by repeat (first | (with_reducible exact hbr) | ((with_reducible refine below_grow ?_ ?_); rotate_left; focus (first | omega | (simp [go_sem]; done) | (simp [go_sem]; omega))) | ((with_reducible refine Below.alloc ?_ ?_ _); rotate_left; focus (first | omega | (simp [go_sem]; done) | (simp [go_sem]; omega))) | ((with_reducible refine Below.setCell ?_ ?_ _); rotate_left; focus (first | omega | (simp [go_sem]; done) | (simp [go_sem]; omega))) | (with_reducible refine Below.drew ?_) | (with_reducible refine below_drewN _ ?_))⟩
      case rest =>
      clear bp bq br bL hbr hbs
      obtain ⟨F, rfl, rfl, rfl, bF, bp, bq, br, bL, hbr⟩ := hcut
      go_upto_region 8 with fail
      go_loopw [67] (fun s67 wx => ∃ j : Nat, s67 = .int .i64 j ∧ j ≤ 2 ∧ blk wx F #[.func (.func 17) #[] #[], .func (.func 18) #[] #[]] 35 ∧ blk wx p #[.int .u32 (pt A 0), .int .u32 (pt A 1), .int .u32 (pt A 2), .int .u32 (pt A 3)] 24 ∧ blk wx q #[.int .u32 (pt B 0), .int .u32 (pt B 1), .int .u32 (pt B 2), .int .u32 (pt B 3)] 24 ∧ blk wx r #[.int .u32 (pt C 0), .int .u32 (pt C 1), .int .u32 (pt C 2), .int .u32 (pt C 3)] 24 ∧ blk wx L #[.int .u32 (pt a 0), .int .u32 (pt a 1), .int .u32 (pt a 2), .int .u32 (pt a 3), .int .u32 (pt b 0), .int .u32 (pt b 1), .int .u32 (pt b 2), .int .u32 (pt b 3), .int .u32 (pt c 0), .int .u32 (pt c 1), .int .u32 (pt c 2), .int .u32 (pt c 3), .int .u32 x, .int .u32 0, .int .u32 0, .int .u32 0, .int .u32 y, .int .u32 0, .int .u32 0, .int .u32 0, .int .u32 z, .int .u32 0, .int .u32 0, .int .u32 0] 33 ∧ Below w.heap.size w wx) (fun s67 _ => 2 - (intOf s67).toNat)
      case atStart => exact ⟨0, rfl, by decide, bF, bp, bq, br, bL, hbr⟩
      case round =>
        clear bF bp bq br bL hbr
        obtain ⟨j, rfl, hj, bF, bp, bq, br, bL, hbj⟩ := hrel
        have fF0 := blk_cell bF 0
        have fF1 := blk_cell bF 1
        have fp0 := blk_cell bp 0
        have fp1 := blk_cell bp 1
        have fp2 := blk_cell bp 2
        have fp3 := blk_cell bp 3
        have fq0 := blk_cell bq 0
        have fq1 := blk_cell bq 1
        have fq2 := blk_cell bq 2
        have fq3 := blk_cell bq 3
        have fr0 := blk_cell br 0
        have fr1 := blk_cell br 1
        have fr2 := blk_cell br 2
        have fr3 := blk_cell br 3
        simp only [List.getElem?_toArray, List.getElem?_cons_zero, List.getElem?_cons_succ] at fF0 fF1 fp0 fp1 fp2 fp3 fq0 fq1 fq2 fq3 fr0 fr1 fr2 fr3
        have iF : NeZero (inW F wr) := inW_mk (blk_lt bF)
        have ip : NeZero (inW p wr) := inW_mk (blk_lt bp)
        have iq : NeZero (inW q wr) := inW_mk (blk_lt bq)
        have ir : NeZero (inW r wr) := inW_mk (blk_lt br)
        have hbs := hbj.size
        have kF := Lib.hid bF
        have kp := Lib.hid bp
        have kq := Lib.hid bq
        have kr := Lib.hid br
        have kL := Lib.hid bL
        clear bF bp bq br bL
        by_cases hj2 : j < 2
        · have hj3 : j = 0 ∨ j = 1 := by omega
          rcases hj3 with rfl | rfl
          · clear hj2
            have c1 := add_ring.comm A B
            obtain ⟨p1, hp1⟩ : ∃ p1, addR A B = p1 := ⟨_, rfl⟩
            have ee := add_ring.err A B
            obtain ⟨ev, hev⟩ : ∃ ev, addE A B = ev := ⟨_, rfl⟩
            rw [hp1, hev] at c1
            rw [hev] at ee
            have gp1 : isN p1 := by rw [← hp1]; exact add_ring.good _ _
            obtain ⟨r1, hr1⟩ : ∃ r1, addR p1 C = r1 := ⟨_, rfl⟩
            obtain ⟨gv, hgv⟩ : ∃ gv, addE p1 C = gv := ⟨_, rfl⟩
            obtain ⟨s1, hs1⟩ : ∃ s1, addR B C = s1 := ⟨_, rfl⟩
            obtain ⟨hv, hhv⟩ : ∃ hv, addE B C = hv := ⟨_, rfl⟩
            have gs1 : isN s1 := by rw [← hs1]; exact add_ring.good _ _
            obtain ⟨t1, ht1⟩ : ∃ t1, addR A s1 = t1 := ⟨_, rfl⟩
            obtain ⟨iv, hiv⟩ : ∃ iv, addE A s1 = iv := ⟨_, rfl⟩
            have eg := add_ring.err p1 C
            have eh := add_ring.err B C
            have ei := add_ring.err A s1
            rw [hgv] at eg
            rw [hhv] at eh
            rw [hiv] at ei
            have H1 := Lib.hid (add_op A B p1 ev gA gB hp1 hev)
            have H2 := Lib.hid (add_op B A p1 ev gB gA c1.1 c1.2)
            have H3 := Lib.hid (add_op p1 C r1 gv gp1 gC hr1 hgv)
            have H4 := Lib.hid (add_op B C s1 hv gB gC hs1 hhv)
            have H5 := Lib.hid (add_op A s1 t1 iv gA gs1 ht1 hiv)
            have has := add_ring.assoc A B C
            rw [hp1, hev, hs1, hhv, hgv, hiv, hr1, ht1] at has
            clear c1 hp1 hev hr1 hgv hs1 hhv ht1 hiv
            have hE := eqN
            rcases ee with e0 | e3
            · obtain rfl := e0
              by_cases hsum : gv = 0 ∧ hv = 0 ∧ iv = 0
              · obtain ⟨rfl, rfl, rfl⟩ := hsum
                obtain rfl := has rfl rfl rfl rfl
                as_aux_lemma =>
                  clear eg eh ei has
                  go_upto_region 11 with (first | (go_at_call 17; refine (H1.out _).mono ?_; rintro e w21 ⟨rfl, hbel⟩; obtain ⟨o21, j21, rfl⟩ := grow_of_below hbel; clear hbel))
                  go_upto_region 12 with (first | (go_at_call 17; refine (H2.out _).mono ?_; rintro e w22 ⟨rfl, hbel⟩; obtain ⟨o22, j22, rfl⟩ := grow_of_below hbel; clear hbel))
                  go_upto_region 15 with (first | (go_at_call 17; refine (H3.out _).mono ?_; rintro e w23 ⟨rfl, hbel⟩; obtain ⟨o23, j23, rfl⟩ := grow_of_below hbel; clear hbel))
                  go_upto_region 16 with (first | (go_at_call 17; refine (H4.out _).mono ?_; rintro e w24 ⟨rfl, hbel⟩; obtain ⟨o24, j24, rfl⟩ := grow_of_below hbel; clear hbel))
                  go_upto_region 17 with (first | (go_at_call 17; refine (H5.out _).mono ?_; rintro e w25 ⟨rfl, hbel⟩; obtain ⟨o25, j25, rfl⟩ := grow_of_below hbel; clear hbel))
                  clear H1 H2 H3 H4 H5
                  go_wp2
                  go_roundw
                  case rel => exact ⟨0 + 1, by go_num, by decide, (by have b0 := kF.out; repeat (first | (with_reducible exact b0) | (with_reducible exact set4 b0 _ _ _ _) | (with_reducible refine blk_grow ?_ _ _) | (with_reducible refine blk_alloc ?_ _) | (with_reducible refine blk_drew ?_) | (with_reducible refine blk_other ?_ (by (first | omega | (simp [go_sem]; done) | (simp [go_sem]; omega))) _))), (by have b0 := kp.out; repeat (first | (with_reducible exact b0) | (with_reducible exact set4 b0 _ _ _ _) | (with_reducible refine blk_grow ?_ _ _) | (with_reducible refine blk_alloc ?_ _) | (with_reducible refine blk_drew ?_) | (with_reducible refine blk_other ?_ (by (first | omega | (simp [go_sem]; done) | (simp [go_sem]; omega))) _))), (by have b0 := kq.out; repeat (first | (with_reducible exact b0) | (with_reducible exact set4 b0 _ _ _ _) | (with_reducible refine blk_grow ?_ _ _) | (with_reducible refine blk_alloc ?_ _) | (with_reducible refine blk_drew ?_) | (with_reducible refine blk_other ?_ (by (first | omega | (simp [go_sem]; done) | (simp [go_sem]; omega))) _))), (by have b0 := kr.out; repeat (first | (with_reducible exact b0) | (with_reducible exact set4 b0 _ _ _ _) | (with_reducible refine blk_grow ?_ _ _) | (with_reducible refine blk_alloc ?_ _) | (with_reducible refine blk_drew ?_) | (with_reducible refine blk_other ?_ (by (first | omega | (simp [go_sem]; done) | (simp [go_sem]; omega))) _))), (by have b0 := kL.out; repeat (first | (with_reducible exact b0) | (with_reducible exact set4 b0 _ _ _ _) | (with_reducible refine blk_grow ?_ _ _) | (with_reducible refine blk_alloc ?_ _) | (with_reducible refine blk_drew ?_) | (with_reducible refine blk_other ?_ (by (first | omega | (simp [go_sem]; done) | (simp [go_sem]; omega))) _))), by repeat (first | (with_reducible exact hbj) | ((with_reducible refine below_grow ?_ ?_); rotate_left; focus (first | omega | (simp [go_sem]; done) | (simp [go_sem]; omega))) | ((with_reducible refine Below.alloc ?_ ?_ _); rotate_left; focus (first | omega | (simp [go_sem]; done) | (simp [go_sem]; omega))) | ((with_reducible refine Below.setCell ?_ ?_ _); rotate_left; focus (first | omega | (simp [go_sem]; done) | (simp [go_sem]; omega))) | (with_reducible refine Below.drew ?_) | (with_reducible refine below_drewN _ ?_))⟩
                  case measure => simp [intOf]
              · have z1 : IntKind.i64.wrap gv = gv := IntWalk.i64_in _ (by omega)
                have z2 : IntKind.i64.wrap (gv + hv) = gv + hv := IntWalk.i64_in _ (by omega)
                have z3 : IntKind.i64.wrap (gv + hv + iv) = gv + hv + iv := IntWalk.i64_in _ (by omega)
                have z4 : ¬ gv + hv + iv = 0 := by omega
                as_aux_lemma =>
                  clear eg eh ei has hsum
                  go_upto_region 11 with (first | (go_at_call 17; refine (H1.out _).mono ?_; rintro e w21 ⟨rfl, hbel⟩; obtain ⟨o21, j21, rfl⟩ := grow_of_below hbel; clear hbel))
                  go_upto_region 12 with (first | (go_at_call 17; refine (H2.out _).mono ?_; rintro e w22 ⟨rfl, hbel⟩; obtain ⟨o22, j22, rfl⟩ := grow_of_below hbel; clear hbel))
                  go_upto_region 15 with (first | (go_at_call 17; refine (H3.out _).mono ?_; rintro e w23 ⟨rfl, hbel⟩; obtain ⟨o23, j23, rfl⟩ := grow_of_below hbel; clear hbel))
                  go_upto_region 16 with (first | (go_at_call 17; refine (H4.out _).mono ?_; rintro e w24 ⟨rfl, hbel⟩; obtain ⟨o24, j24, rfl⟩ := grow_of_below hbel; clear hbel))
                  go_upto_region 17 with (first | (go_at_call 17; refine (H5.out _).mono ?_; rintro e w25 ⟨rfl, hbel⟩; obtain ⟨o25, j25, rfl⟩ := grow_of_below hbel; clear hbel))
                  clear H1 H2 H3 H4 H5
                  go_wp2
                  go_roundw
                  case rel => exact ⟨0 + 1, by go_num, by decide, (by have b0 := kF.out; repeat (first | (with_reducible exact b0) | (with_reducible exact set4 b0 _ _ _ _) | (with_reducible refine blk_grow ?_ _ _) | (with_reducible refine blk_alloc ?_ _) | (with_reducible refine blk_drew ?_) | (with_reducible refine blk_other ?_ (by (first | omega | (simp [go_sem]; done) | (simp [go_sem]; omega))) _))), (by have b0 := kp.out; repeat (first | (with_reducible exact b0) | (with_reducible exact set4 b0 _ _ _ _) | (with_reducible refine blk_grow ?_ _ _) | (with_reducible refine blk_alloc ?_ _) | (with_reducible refine blk_drew ?_) | (with_reducible refine blk_other ?_ (by (first | omega | (simp [go_sem]; done) | (simp [go_sem]; omega))) _))), (by have b0 := kq.out; repeat (first | (with_reducible exact b0) | (with_reducible exact set4 b0 _ _ _ _) | (with_reducible refine blk_grow ?_ _ _) | (with_reducible refine blk_alloc ?_ _) | (with_reducible refine blk_drew ?_) | (with_reducible refine blk_other ?_ (by (first | omega | (simp [go_sem]; done) | (simp [go_sem]; omega))) _))), (by have b0 := kr.out; repeat (first | (with_reducible exact b0) | (with_reducible exact set4 b0 _ _ _ _) | (with_reducible refine blk_grow ?_ _ _) | (with_reducible refine blk_alloc ?_ _) | (with_reducible refine blk_drew ?_) | (with_reducible refine blk_other ?_ (by (first | omega | (simp [go_sem]; done) | (simp [go_sem]; omega))) _))), (by have b0 := kL.out; repeat (first | (with_reducible exact b0) | (with_reducible exact set4 b0 _ _ _ _) | (with_reducible refine blk_grow ?_ _ _) | (with_reducible refine blk_alloc ?_ _) | (with_reducible refine blk_drew ?_) | (with_reducible refine blk_other ?_ (by (first | omega | (simp [go_sem]; done) | (simp [go_sem]; omega))) _))), by repeat (first | (with_reducible exact hbj) | ((with_reducible refine below_grow ?_ ?_); rotate_left; focus (first | omega | (simp [go_sem]; done) | (simp [go_sem]; omega))) | ((with_reducible refine Below.alloc ?_ ?_ _); rotate_left; focus (first | omega | (simp [go_sem]; done) | (simp [go_sem]; omega))) | ((with_reducible refine Below.setCell ?_ ?_ _); rotate_left; focus (first | omega | (simp [go_sem]; done) | (simp [go_sem]; omega))) | (with_reducible refine Below.drew ?_) | (with_reducible refine below_drewN _ ?_))⟩
                  case measure => simp [intOf]
            · obtain rfl := e3
              have z1 : IntKind.i64.wrap (3 + gv) = 3 + gv := IntWalk.i64_in _ (by omega)
              have z2 : IntKind.i64.wrap (3 + gv + hv) = 3 + gv + hv := IntWalk.i64_in _ (by omega)
              have z3 : IntKind.i64.wrap (3 + gv + hv + iv) = 3 + gv + hv + iv := IntWalk.i64_in _ (by omega)
              have z4 : ¬ 3 + gv + hv + iv = 0 := by omega
              as_aux_lemma =>
                clear eg eh ei has
                go_upto_region 11 with (first | (go_at_call 17; refine (H1.out _).mono ?_; rintro e w21 ⟨rfl, hbel⟩; obtain ⟨o21, j21, rfl⟩ := grow_of_below hbel; clear hbel))
                go_upto_region 12 with (first | (go_at_call 17; refine (H2.out _).mono ?_; rintro e w22 ⟨rfl, hbel⟩; obtain ⟨o22, j22, rfl⟩ := grow_of_below hbel; clear hbel))
                go_upto_region 15 with (first | (go_at_call 17; refine (H3.out _).mono ?_; rintro e w23 ⟨rfl, hbel⟩; obtain ⟨o23, j23, rfl⟩ := grow_of_below hbel; clear hbel))
                go_upto_region 16 with (first | (go_at_call 17; refine (H4.out _).mono ?_; rintro e w24 ⟨rfl, hbel⟩; obtain ⟨o24, j24, rfl⟩ := grow_of_below hbel; clear hbel))
                go_upto_region 17 with (first | (go_at_call 17; refine (H5.out _).mono ?_; rintro e w25 ⟨rfl, hbel⟩; obtain ⟨o25, j25, rfl⟩ := grow_of_below hbel; clear hbel))
                clear H1 H2 H3 H4 H5
                go_wp2
                go_roundw
                case rel => exact ⟨0 + 1, by go_num, by decide, (by have b0 := kF.out; repeat (first | (with_reducible exact b0) | (with_reducible exact set4 b0 _ _ _ _) | (with_reducible refine blk_grow ?_ _ _) | (with_reducible refine blk_alloc ?_ _) | (with_reducible refine blk_drew ?_) | (with_reducible refine blk_other ?_ (by (first | omega | (simp [go_sem]; done) | (simp [go_sem]; omega))) _))), (by have b0 := kp.out; repeat (first | (with_reducible exact b0) | (with_reducible exact set4 b0 _ _ _ _) | (with_reducible refine blk_grow ?_ _ _) | (with_reducible refine blk_alloc ?_ _) | (with_reducible refine blk_drew ?_) | (with_reducible refine blk_other ?_ (by (first | omega | (simp [go_sem]; done) | (simp [go_sem]; omega))) _))), (by have b0 := kq.out; repeat (first | (with_reducible exact b0) | (with_reducible exact set4 b0 _ _ _ _) | (with_reducible refine blk_grow ?_ _ _) | (with_reducible refine blk_alloc ?_ _) | (with_reducible refine blk_drew ?_) | (with_reducible refine blk_other ?_ (by (first | omega | (simp [go_sem]; done) | (simp [go_sem]; omega))) _))), (by have b0 := kr.out; repeat (first | (with_reducible exact b0) | (with_reducible exact set4 b0 _ _ _ _) | (with_reducible refine blk_grow ?_ _ _) | (with_reducible refine blk_alloc ?_ _) | (with_reducible refine blk_drew ?_) | (with_reducible refine blk_other ?_ (by (first | omega | (simp [go_sem]; done) | (simp [go_sem]; omega))) _))), (by have b0 := kL.out; repeat (first | (with_reducible exact b0) | (with_reducible exact set4 b0 _ _ _ _) | (with_reducible refine blk_grow ?_ _ _) | (with_reducible refine blk_alloc ?_ _) | (with_reducible refine blk_drew ?_) | (with_reducible refine blk_other ?_ (by (first | omega | (simp [go_sem]; done) | (simp [go_sem]; omega))) _))), by repeat (first | (with_reducible exact hbj) | ((with_reducible refine below_grow ?_ ?_); rotate_left; focus (first | omega | (simp [go_sem]; done) | (simp [go_sem]; omega))) | ((with_reducible refine Below.alloc ?_ ?_ _); rotate_left; focus (first | omega | (simp [go_sem]; done) | (simp [go_sem]; omega))) | ((with_reducible refine Below.setCell ?_ ?_ _); rotate_left; focus (first | omega | (simp [go_sem]; done) | (simp [go_sem]; omega))) | (with_reducible refine Below.drew ?_) | (with_reducible refine below_drewN _ ?_))⟩
                case measure => simp [intOf]
          · clear hj2
            have c1 := mul_ring.comm A B
            obtain ⟨p1, hp1⟩ : ∃ p1, mulR A B = p1 := ⟨_, rfl⟩
            have ee := mul_ring.err A B
            obtain ⟨ev, hev⟩ : ∃ ev, mulE A B = ev := ⟨_, rfl⟩
            rw [hp1, hev] at c1
            rw [hev] at ee
            have gp1 : isN p1 := by rw [← hp1]; exact mul_ring.good _ _
            obtain ⟨r1, hr1⟩ : ∃ r1, mulR p1 C = r1 := ⟨_, rfl⟩
            obtain ⟨gv, hgv⟩ : ∃ gv, mulE p1 C = gv := ⟨_, rfl⟩
            obtain ⟨s1, hs1⟩ : ∃ s1, mulR B C = s1 := ⟨_, rfl⟩
            obtain ⟨hv, hhv⟩ : ∃ hv, mulE B C = hv := ⟨_, rfl⟩
            have gs1 : isN s1 := by rw [← hs1]; exact mul_ring.good _ _
            obtain ⟨t1, ht1⟩ : ∃ t1, mulR A s1 = t1 := ⟨_, rfl⟩
            obtain ⟨iv, hiv⟩ : ∃ iv, mulE A s1 = iv := ⟨_, rfl⟩
            have eg := mul_ring.err p1 C
            have eh := mul_ring.err B C
            have ei := mul_ring.err A s1
            rw [hgv] at eg
            rw [hhv] at eh
            rw [hiv] at ei
            have H1 := Lib.hid (ring1_op A B p1 ev gA gB hp1 hev)
            have H2 := Lib.hid (ring1_op B A p1 ev gB gA c1.1 c1.2)
            have H3 := Lib.hid (ring1_op p1 C r1 gv gp1 gC hr1 hgv)
            have H4 := Lib.hid (ring1_op B C s1 hv gB gC hs1 hhv)
            have H5 := Lib.hid (ring1_op A s1 t1 iv gA gs1 ht1 hiv)
            have has := mul_ring.assoc A B C
            rw [hp1, hev, hs1, hhv, hgv, hiv, hr1, ht1] at has
            clear c1 hp1 hev hr1 hgv hs1 hhv ht1 hiv
            have hE := eqN
            rcases ee with e0 | e3
            · obtain rfl := e0
              by_cases hsum : gv = 0 ∧ hv = 0 ∧ iv = 0
              · obtain ⟨rfl, rfl, rfl⟩ := hsum
                obtain rfl := has rfl rfl rfl rfl
                as_aux_lemma =>
                  clear eg eh ei has
                  go_upto_region 11 with (first | (go_at_call 18; refine (H1.out _).mono ?_; rintro e w21 ⟨rfl, hbel⟩; obtain ⟨o21, j21, rfl⟩ := grow_of_below hbel; clear hbel))
                  go_upto_region 12 with (first | (go_at_call 18; refine (H2.out _).mono ?_; rintro e w22 ⟨rfl, hbel⟩; obtain ⟨o22, j22, rfl⟩ := grow_of_below hbel; clear hbel))
                  go_upto_region 15 with (first | (go_at_call 18; refine (H3.out _).mono ?_; rintro e w23 ⟨rfl, hbel⟩; obtain ⟨o23, j23, rfl⟩ := grow_of_below hbel; clear hbel))
                  go_upto_region 16 with (first | (go_at_call 18; refine (H4.out _).mono ?_; rintro e w24 ⟨rfl, hbel⟩; obtain ⟨o24, j24, rfl⟩ := grow_of_below hbel; clear hbel))
                  go_upto_region 17 with (first | (go_at_call 18; refine (H5.out _).mono ?_; rintro e w25 ⟨rfl, hbel⟩; obtain ⟨o25, j25, rfl⟩ := grow_of_below hbel; clear hbel))
                  clear H1 H2 H3 H4 H5
                  go_wp2
                  go_roundw
                  case rel => exact ⟨1 + 1, by go_num, by decide, (by have b0 := kF.out; repeat (first | (with_reducible exact b0) | (with_reducible exact set4 b0 _ _ _ _) | (with_reducible refine blk_grow ?_ _ _) | (with_reducible refine blk_alloc ?_ _) | (with_reducible refine blk_drew ?_) | (with_reducible refine blk_other ?_ (by (first | omega | (simp [go_sem]; done) | (simp [go_sem]; omega))) _))), (by have b0 := kp.out; repeat (first | (with_reducible exact b0) | (with_reducible exact set4 b0 _ _ _ _) | (with_reducible refine blk_grow ?_ _ _) | (with_reducible refine blk_alloc ?_ _) | (with_reducible refine blk_drew ?_) | (with_reducible refine blk_other ?_ (by (first | omega | (simp [go_sem]; done) | (simp [go_sem]; omega))) _))), (by have b0 := kq.out; repeat (first | (with_reducible exact b0) | (with_reducible exact set4 b0 _ _ _ _) | (with_reducible refine blk_grow ?_ _ _) | (with_reducible refine blk_alloc ?_ _) | (with_reducible refine blk_drew ?_) | (with_reducible refine blk_other ?_ (by (first | omega | (simp [go_sem]; done) | (simp [go_sem]; omega))) _))), (by have b0 := kr.out; repeat (first | (with_reducible exact b0) | (with_reducible exact set4 b0 _ _ _ _) | (with_reducible refine blk_grow ?_ _ _) | (with_reducible refine blk_alloc ?_ _) | (with_reducible refine blk_drew ?_) | (with_reducible refine blk_other ?_ (by (first | omega | (simp [go_sem]; done) | (simp [go_sem]; omega))) _))), (by have b0 := kL.out; repeat (first | (with_reducible exact b0) | (with_reducible exact set4 b0 _ _ _ _) | (with_reducible refine blk_grow ?_ _ _) | (with_reducible refine blk_alloc ?_ _) | (with_reducible refine blk_drew ?_) | (with_reducible refine blk_other ?_ (by (first | omega | (simp [go_sem]; done) | (simp [go_sem]; omega))) _))), by repeat (first | (with_reducible exact hbj) | ((with_reducible refine below_grow ?_ ?_); rotate_left; focus (first | omega | (simp [go_sem]; done) | (simp [go_sem]; omega))) | ((with_reducible refine Below.alloc ?_ ?_ _); rotate_left; focus (first | omega | (simp [go_sem]; done) | (simp [go_sem]; omega))) | ((with_reducible refine Below.setCell ?_ ?_ _); rotate_left; focus (first | omega | (simp [go_sem]; done) | (simp [go_sem]; omega))) | (with_reducible refine Below.drew ?_) | (with_reducible refine below_drewN _ ?_))⟩
                  case measure => simp [intOf]
              · have z1 : IntKind.i64.wrap gv = gv := IntWalk.i64_in _ (by omega)
                have z2 : IntKind.i64.wrap (gv + hv) = gv + hv := IntWalk.i64_in _ (by omega)
                have z3 : IntKind.i64.wrap (gv + hv + iv) = gv + hv + iv := IntWalk.i64_in _ (by omega)
                have z4 : ¬ gv + hv + iv = 0 := by omega
                as_aux_lemma =>
                  clear eg eh ei has hsum
                  go_upto_region 11 with (first | (go_at_call 18; refine (H1.out _).mono ?_; rintro e w21 ⟨rfl, hbel⟩; obtain ⟨o21, j21, rfl⟩ := grow_of_below hbel; clear hbel))
                  go_upto_region 12 with (first | (go_at_call 18; refine (H2.out _).mono ?_; rintro e w22 ⟨rfl, hbel⟩; obtain ⟨o22, j22, rfl⟩ := grow_of_below hbel; clear hbel))
                  go_upto_region 15 with (first | (go_at_call 18; refine (H3.out _).mono ?_; rintro e w23 ⟨rfl, hbel⟩; obtain ⟨o23, j23, rfl⟩ := grow_of_below hbel; clear hbel))
                  go_upto_region 16 with (first | (go_at_call 18; refine (H4.out _).mono ?_; rintro e w24 ⟨rfl, hbel⟩; obtain ⟨o24, j24, rfl⟩ := grow_of_below hbel; clear hbel))
                  go_upto_region 17 with (first | (go_at_call 18; refine (H5.out _).mono ?_; rintro e w25 ⟨rfl, hbel⟩; obtain ⟨o25, j25, rfl⟩ := grow_of_below hbel; clear hbel))
                  clear H1 H2 H3 H4 H5
                  go_wp2
                  go_roundw
                  case rel => exact ⟨1 + 1, by go_num, by decide, (by have b0 := kF.out; repeat (first | (with_reducible exact b0) | (with_reducible exact set4 b0 _ _ _ _) | (with_reducible refine blk_grow ?_ _ _) | (with_reducible refine blk_alloc ?_ _) | (with_reducible refine blk_drew ?_) | (with_reducible refine blk_other ?_ (by (first | omega | (simp [go_sem]; done) | (simp [go_sem]; omega))) _))), (by have b0 := kp.out; repeat (first | (with_reducible exact b0) | (with_reducible exact set4 b0 _ _ _ _) | (with_reducible refine blk_grow ?_ _ _) | (with_reducible refine blk_alloc ?_ _) | (with_reducible refine blk_drew ?_) | (with_reducible refine blk_other ?_ (by (first | omega | (simp [go_sem]; done) | (simp [go_sem]; omega))) _))), (by have b0 := kq.out; repeat (first | (with_reducible exact b0) | (with_reducible exact set4 b0 _ _ _ _) | (with_reducible refine blk_grow ?_ _ _) | (with_reducible refine blk_alloc ?_ _) | (with_reducible refine blk_drew ?_) | (with_reducible refine blk_other ?_ (by (first | omega | (simp [go_sem]; done) | (simp [go_sem]; omega))) _))), (by have b0 := kr.out; repeat (first | (with_reducible exact b0) | (with_reducible exact set4 b0 _ _ _ _) | (with_reducible refine blk_grow ?_ _ _) | (with_reducible refine blk_alloc ?_ _) | (with_reducible refine blk_drew ?_) | (with_reducible refine blk_other ?_ (by (first | omega | (simp [go_sem]; done) | (simp [go_sem]; omega))) _))), (by have b0 := kL.out; repeat (first | (with_reducible exact b0) | (with_reducible exact set4 b0 _ _ _ _) | (with_reducible refine blk_grow ?_ _ _) | (with_reducible refine blk_alloc ?_ _) | (with_reducible refine blk_drew ?_) | (with_reducible refine blk_other ?_ (by (first | omega | (simp [go_sem]; done) | (simp [go_sem]; omega))) _))), by repeat (first | (with_reducible exact hbj) | ((with_reducible refine below_grow ?_ ?_); rotate_left; focus (first | omega | (simp [go_sem]; done) | (simp [go_sem]; omega))) | ((with_reducible refine Below.alloc ?_ ?_ _); rotate_left; focus (first | omega | (simp [go_sem]; done) | (simp [go_sem]; omega))) | ((with_reducible refine Below.setCell ?_ ?_ _); rotate_left; focus (first | omega | (simp [go_sem]; done) | (simp [go_sem]; omega))) | (with_reducible refine Below.drew ?_) | (with_reducible refine below_drewN _ ?_))⟩
                  case measure => simp [intOf]
            · obtain rfl := e3
              have z1 : IntKind.i64.wrap (3 + gv) = 3 + gv := IntWalk.i64_in _ (by omega)
              have z2 : IntKind.i64.wrap (3 + gv + hv) = 3 + gv + hv := IntWalk.i64_in _ (by omega)
              have z3 : IntKind.i64.wrap (3 + gv + hv + iv) = 3 + gv + hv + iv := IntWalk.i64_in _ (by omega)
              have z4 : ¬ 3 + gv + hv + iv = 0 := by omega
              as_aux_lemma =>
                clear eg eh ei has
                go_upto_region 11 with (first | (go_at_call 18; refine (H1.out _).mono ?_; rintro e w21 ⟨rfl, hbel⟩; obtain ⟨o21, j21, rfl⟩ := grow_of_below hbel; clear hbel))
                go_upto_region 12 with (first | (go_at_call 18; refine (H2.out _).mono ?_; rintro e w22 ⟨rfl, hbel⟩; obtain ⟨o22, j22, rfl⟩ := grow_of_below hbel; clear hbel))
                go_upto_region 15 with (first | (go_at_call 18; refine (H3.out _).mono ?_; rintro e w23 ⟨rfl, hbel⟩; obtain ⟨o23, j23, rfl⟩ := grow_of_below hbel; clear hbel))
                go_upto_region 16 with (first | (go_at_call 18; refine (H4.out _).mono ?_; rintro e w24 ⟨rfl, hbel⟩; obtain ⟨o24, j24, rfl⟩ := grow_of_below hbel; clear hbel))
                go_upto_region 17 with (first | (go_at_call 18; refine (H5.out _).mono ?_; rintro e w25 ⟨rfl, hbel⟩; obtain ⟨o25, j25, rfl⟩ := grow_of_below hbel; clear hbel))
                clear H1 H2 H3 H4 H5
                go_wp2
                go_roundw
                case rel => exact ⟨1 + 1, by go_num, by decide, (by have b0 := kF.out; repeat (first | (with_reducible exact b0) | (with_reducible exact set4 b0 _ _ _ _) | (with_reducible refine blk_grow ?_ _ _) | (with_reducible refine blk_alloc ?_ _) | (with_reducible refine blk_drew ?_) | (with_reducible refine blk_other ?_ (by (first | omega | (simp [go_sem]; done) | (simp [go_sem]; omega))) _))), (by have b0 := kp.out; repeat (first | (with_reducible exact b0) | (with_reducible exact set4 b0 _ _ _ _) | (with_reducible refine blk_grow ?_ _ _) | (with_reducible refine blk_alloc ?_ _) | (with_reducible refine blk_drew ?_) | (with_reducible refine blk_other ?_ (by (first | omega | (simp [go_sem]; done) | (simp [go_sem]; omega))) _))), (by have b0 := kq.out; repeat (first | (with_reducible exact b0) | (with_reducible exact set4 b0 _ _ _ _) | (with_reducible refine blk_grow ?_ _ _) | (with_reducible refine blk_alloc ?_ _) | (with_reducible refine blk_drew ?_) | (with_reducible refine blk_other ?_ (by (first | omega | (simp [go_sem]; done) | (simp [go_sem]; omega))) _))), (by have b0 := kr.out; repeat (first | (with_reducible exact b0) | (with_reducible exact set4 b0 _ _ _ _) | (with_reducible refine blk_grow ?_ _ _) | (with_reducible refine blk_alloc ?_ _) | (with_reducible refine blk_drew ?_) | (with_reducible refine blk_other ?_ (by (first | omega | (simp [go_sem]; done) | (simp [go_sem]; omega))) _))), (by have b0 := kL.out; repeat (first | (with_reducible exact b0) | (with_reducible exact set4 b0 _ _ _ _) | (with_reducible refine blk_grow ?_ _ _) | (with_reducible refine blk_alloc ?_ _) | (with_reducible refine blk_drew ?_) | (with_reducible refine blk_other ?_ (by (first | omega | (simp [go_sem]; done) | (simp [go_sem]; omega))) _))), by repeat (first | (with_reducible exact hbj) | ((with_reducible refine below_grow ?_ ?_); rotate_left; focus (first | omega | (simp [go_sem]; done) | (simp [go_sem]; omega))) | ((with_reducible refine Below.alloc ?_ ?_ _); rotate_left; focus (first | omega | (simp [go_sem]; done) | (simp [go_sem]; omega))) | ((with_reducible refine Below.setCell ?_ ?_ _); rotate_left; focus (first | omega | (simp [go_sem]; done) | (simp [go_sem]; omega))) | (with_reducible refine Below.drew ?_) | (with_reducible refine below_drewN _ ?_))⟩
                case measure => simp [intOf]
        · obtain rfl : j = 2 := by omega
          clear hj2
          obtain ⟨s1, hs1⟩ : ∃ s1, addR B C = s1 := ⟨_, rfl⟩
          obtain ⟨e1, he1⟩ : ∃ e1, addE B C = e1 := ⟨_, rfl⟩
          have gs1 : isN s1 := by rw [← hs1]; exact addR_isN _ _
          obtain ⟨l1, hl1⟩ : ∃ l1, mulR A s1 = l1 := ⟨_, rfl⟩
          obtain ⟨e2, he2⟩ : ∃ e2, mulE A s1 = e2 := ⟨_, rfl⟩
          obtain ⟨p1, hp1⟩ : ∃ p1, mulR A B = p1 := ⟨_, rfl⟩
          obtain ⟨e3, he3⟩ : ∃ e3, mulE A B = e3 := ⟨_, rfl⟩
          have gp1 : isN p1 := by rw [← hp1]; exact mulR_isN _ _
          obtain ⟨q1, hq1⟩ : ∃ q1, mulR A C = q1 := ⟨_, rfl⟩
          obtain ⟨e4, he4⟩ : ∃ e4, mulE A C = e4 := ⟨_, rfl⟩
          have gq1 : isN q1 := by rw [← hq1]; exact mulR_isN _ _
          obtain ⟨r1, hr1⟩ : ∃ r1, addR p1 q1 = r1 := ⟨_, rfl⟩
          obtain ⟨e5, he5⟩ : ∃ e5, addE p1 q1 = e5 := ⟨_, rfl⟩
          have hd := distr A B C
          rw [he1, hs1, he2, he3, he4, hp1, hq1, he5, hl1, hr1] at hd
          have v1 := add_ring.err B C
          have v2 := mul_ring.err A s1
          rw [he1] at v1
          rw [he2] at v2
          have H1 := Lib.hid (add_op B C s1 e1 gB gC hs1 he1)
          have H2 := Lib.hid (mul_at A s1 l1 e2 gA gs1 hl1 he2)
          have H3 := Lib.hid (mul_at A B p1 e3 gA gB hp1 he3)
          have H4 := Lib.hid (mul_at A C q1 e4 gA gC hq1 he4)
          have H5 := Lib.hid (add_op p1 q1 r1 e5 gp1 gq1 hr1 he5)
          clear hs1 he1 hl1 he2 hp1 he3 hq1 he4 hr1 he5
          have hE := eqN
          by_cases h12 : e1 = 0 ∧ e2 = 0
          · obtain ⟨rfl, rfl⟩ := h12
            obtain ⟨rfl, rfl, rfl, rfl⟩ := hd rfl rfl
            clear v1 v2 hd
            go_upto_region 21 with (first | (go_at_call 17; refine (H1.out _).mono ?_; rintro e w31 ⟨rfl, hbel⟩; obtain ⟨o31, j31, rfl⟩ := grow_of_below hbel; clear hbel))
            go_upto_region 22 with (first | (go_at_call 19; refine (H2.out _ _ (by simp [go_sem])).mono ?_; rintro e w32 ⟨rfl, hbel⟩; obtain ⟨o32, j32, rfl⟩ := grow_of_below hbel; clear hbel))
            go_upto_region 23 with (first | (go_at_call 19; refine (H3.out _ _ (by simp [go_sem])).mono ?_; rintro e w33 ⟨rfl, hbel⟩; obtain ⟨o33, j33, rfl⟩ := grow_of_below hbel; clear hbel))
            go_upto_region 24 with (first | (go_at_call 19; refine (H4.out _ _ (by simp [go_sem])).mono ?_; rintro e w34 ⟨rfl, hbel⟩; obtain ⟨o34, j34, rfl⟩ := grow_of_below hbel; clear hbel))
            go_upto_region 25 with (first | (go_at_call 17; refine (H5.out _).mono ?_; rintro e w35 ⟨rfl, hbel⟩; obtain ⟨o35, j35, rfl⟩ := grow_of_below hbel; clear hbel))
            clear H1 H2 H3 H4 H5
            go_wp2
            go_roundw
            case rel => exact ⟨k + 1, by go_num, by omega, (by have b0 := kL.out; repeat (first | (with_reducible exact b0) | (with_reducible exact set4 b0 _ _ _ _) | (with_reducible refine blk_grow ?_ _ _) | (with_reducible refine blk_alloc ?_ _) | (with_reducible refine blk_drew ?_) | (with_reducible refine blk_other ?_ (by (first | omega | (simp [go_sem]; done) | (simp [go_sem]; omega))) _))), by repeat (first | (with_reducible exact hbj) | ((with_reducible refine below_grow ?_ ?_); rotate_left; focus (first | omega | (simp [go_sem]; done) | (simp [go_sem]; omega))) | ((with_reducible refine Below.alloc ?_ ?_ _); rotate_left; focus (first | omega | (simp [go_sem]; done) | (simp [go_sem]; omega))) | ((with_reducible refine Below.setCell ?_ ?_ _); rotate_left; focus (first | omega | (simp [go_sem]; done) | (simp [go_sem]; omega))) | (with_reducible refine Below.drew ?_) | (with_reducible refine below_drewN _ ?_))⟩
            case measure => simp [intOf]; omega
          · have z1 : IntKind.i64.wrap (e1 + e2) = e1 + e2 := IntWalk.i64_in _ (by omega)
            have z2 : ¬ e1 + e2 = 0 := by omega
            clear v1 v2 hd h12
            go_upto_region 21 with (first | (go_at_call 17; refine (H1.out _).mono ?_; rintro e w31 ⟨rfl, hbel⟩; obtain ⟨o31, j31, rfl⟩ := grow_of_below hbel; clear hbel))
            go_upto_region 22 with (first | (go_at_call 19; refine (H2.out _ _ (by simp [go_sem])).mono ?_; rintro e w32 ⟨rfl, hbel⟩; obtain ⟨o32, j32, rfl⟩ := grow_of_below hbel; clear hbel))
            go_upto_region 23 with (first | (go_at_call 19; refine (H3.out _ _ (by simp [go_sem])).mono ?_; rintro e w33 ⟨rfl, hbel⟩; obtain ⟨o33, j33, rfl⟩ := grow_of_below hbel; clear hbel))
            go_upto_region 24 with (first | (go_at_call 19; refine (H4.out _ _ (by simp [go_sem])).mono ?_; rintro e w34 ⟨rfl, hbel⟩; obtain ⟨o34, j34, rfl⟩ := grow_of_below hbel; clear hbel))
            go_upto_region 25 with (first | (go_at_call 17; refine (H5.out _).mono ?_; rintro e w35 ⟨rfl, hbel⟩; obtain ⟨o35, j35, rfl⟩ := grow_of_below hbel; clear hbel))
            clear H1 H2 H3 H4 H5
            go_wp2
            go_roundw
            case rel => exact ⟨k + 1, by go_num, by omega, (by have b0 := kL.out; repeat (first | (with_reducible exact b0) | (with_reducible exact set4 b0 _ _ _ _) | (with_reducible refine blk_grow ?_ _ _) | (with_reducible refine blk_alloc ?_ _) | (with_reducible refine blk_drew ?_) | (with_reducible refine blk_other ?_ (by (first | omega | (simp [go_sem]; done) | (simp [go_sem]; omega))) _))), by repeat (first | (with_reducible exact hbj) | ((with_reducible refine below_grow ?_ ?_); rotate_left; focus (first | omega | (simp [go_sem]; done) | (simp [go_sem]; omega))) | ((with_reducible refine Below.alloc ?_ ?_ _); rotate_left; focus (first | omega | (simp [go_sem]; done) | (simp [go_sem]; omega))) | ((with_reducible refine Below.setCell ?_ ?_ _); rotate_left; focus (first | omega | (simp [go_sem]; done) | (simp [go_sem]; omega))) | (with_reducible refine Below.drew ?_) | (with_reducible refine below_drewN _ ?_))⟩
            case measure => simp [intOf]; omega
    · obtain rfl : k = 2 := by omega
      go_wp2
      go_ret
      exact ⟨rfl, hbr⟩
end Go.Proofs.Ytjaggclfacbkbaa
