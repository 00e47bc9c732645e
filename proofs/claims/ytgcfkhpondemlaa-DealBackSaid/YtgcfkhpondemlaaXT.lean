/- DealBack: the walk. -/
import Derived.Test.YtgcfkhpondemlaaXT0
namespace Go.Proofs.Ytgcfkhpondemlaa.Ca
open Go.RowKit
open Go.Proofs.Ytgcfkhpondemlaa.Ha (SlB od)
open Go.Proofs.DB (Pd Rd)

set_option maxRecDepth 100000 in
set_option maxHeartbeats 16000000 in
theorem dealBack_walk (v : Value) (xs : List Nat) (hx8 : ∀ x ∈ xs, x < 256) (out : Int) (a b : Nat) (ho : 0 ≤ out ∧ out ≤ 18446744073709551615) (ha : isN a) (hb : isN b) (w : World) (hS : SlB w v xs) :
    Calls Try.prog 3 #[v, .int .u64 out, .agg #[.int .u32 (pt a 0), .int .u32 (pt a 1), .int .u32 (pt a 2), .int .u32 (pt a 3)], .agg #[.int .u32 (pt b 0), .int .u32 (pt b 1), .int .u32 (pt b 2), .int .u32 (pt b 3)]] w fun e w' => e = .returned (.bool true) ∧ Below w.heap.size w w' := by
  obtain ⟨o, rfl⟩ := Int.eq_ofNat_of_zero_le ho.1
  have T0 := Lib.hid (fun W hW => torn_calls v xs o (by omega) hx8 W (slb_below hS hW))
  have M0 := Lib.hid (fun W hW => made_calls v xs hx8 W (slb_below hS hW))
  have hp := tD_pd xs o
  have hd := mD_rd xs
  have hin := tD_in xs o
  obtain ⟨p, hpp⟩ : ∃ p, tD xs o = p := ⟨_, rfl⟩
  obtain ⟨d, hdd⟩ : ∃ p, mD xs = p := ⟨_, rfl⟩
  rw [hpp] at T0 hp hin
  rw [hdd] at M0 hd hin
  have WP := Lib.hid (ways_yes p hp)
  have I1 := Lib.hid (index_yes p d hp hd hin)
  have hnl := DB.index_lt pas_bin hp hd hin
  have hcd := DB.complete_index pas_bin hp hd hin
  obtain ⟨n, hn⟩ : ∃ n, DB.index bin p d = n := ⟨_, rfl⟩
  rw [hn] at I1 hnl hcd
  have C1 := Lib.hid (complete_yes p n hp hnl d fun i hi => (hcd i hi).symm)
  have hmN : isN (DB.ways bin p) := Wv_isN p 0
  have hnN : isN n := by unfold isN at *; omega
  have Q1 := Lib.hid (Se.cmp_hyp n (DB.ways bin p) (-1) hnN hmN (if_pos hnl))
  have hm0 : DB.ways bin p ≠ 0 := Wv_pos p 0
  have DA := Lib.hid (Se.div_hyp a (DB.ways bin p) _ _ ha hmN hm0 rfl rfl)
  have DB' := Lib.hid (Se.div_hyp b (DB.ways bin p) _ _ hb hmN hm0 rfl rfl)
  have hal : a % DB.ways bin p < DB.ways bin p := Nat.mod_lt _ (by omega)
  have hbl : b % DB.ways bin p < DB.ways bin p := Nat.mod_lt _ (by omega)
  obtain ⟨a', ha'⟩ : ∃ q, a % DB.ways bin p = q := ⟨_, rfl⟩
  obtain ⟨b', hb'⟩ : ∃ q, b % DB.ways bin p = q := ⟨_, rfl⟩
  rw [ha'] at DA hal
  rw [hb'] at DB' hbl
  obtain ⟨hxr, hxi⟩ := DB.complete_right pas_bin hp hal
  have hix := DB.index_complete pas_bin hp hal
  obtain ⟨x, hx⟩ : ∃ x, DB.complete bin p a' = x := ⟨_, rfl⟩
  obtain ⟨y, hy⟩ : ∃ x, DB.complete bin p b' = x := ⟨_, rfl⟩
  rw [hx] at hxr hxi hix
  have CA := Lib.hid (complete_yes p a' hp hal x fun i _ => congrFun hx.symm i)
  have CB := Lib.hid (complete_yes p b' hp hbl y fun i _ => congrFun hy.symm i)
  have CM := Lib.hid (complete_big p (DB.ways bin p) hp hmN (Nat.lt_irrefl _))
  have I2 := Lib.hid (index_yes p x hp hxr hxi)
  rw [hix] at I2
  have RT := Lib.hid (right_true hxr)
  have AN := Lib.hid (fun i hi => andNot_in hp hxr hxi i hi)
  have OG := Lib.hid (oG_cmp hp hal hbl hx hy)
  obtain ⟨c, hc⟩ : ∃ c, cmpN a' b' = c := ⟨_, rfl⟩
  have QC := Lib.hid (Se.cmp_hyp a' b' c (by unfold isN at *; omega) (by unfold isN at *; omega) hc)
  rw [hc] at OG
  have AW := Lib.hid awake_calls
  obtain ⟨m, hm⟩ : ∃ m, DB.ways bin p = m := ⟨_, rfl⟩
  rw [hm] at WP Q1 DA DB' CM
  obtain ⟨qa, hqa⟩ : ∃ q, a / m = q := ⟨_, rfl⟩
  obtain ⟨qb, hqb⟩ : ∃ q, b / m = q := ⟨_, rfl⟩
  rw [hqa] at DA
  rw [hqb] at DB'
  have eq4 := eqD
  have eqn := eqN
  clear hS hx8 hpp hdd hp hd hin hnl hcd hn hmN hnN hm0 hal hbl ha' hb' hxr hxi hix hx hy hc hm hqa hqb ho ha hb
  go_enter Try.func3, Try.ntmps3
  go_upto_region 7 with (first | (go_at_call 8; refine (M0.out _ (by repeat (first | (with_reducible exact Below.refl _ _) | ((with_reducible refine below_grow ?_ ?_); rotate_left; focus (first | omega | (simp [go_sem]; done) | (simp [go_sem]; omega))) | ((with_reducible refine Below.alloc ?_ ?_ _); rotate_left; focus (first | omega | (simp [go_sem]; done) | (simp [go_sem]; omega))) | ((with_reducible refine Below.setCell ?_ ?_ _); rotate_left; focus (first | omega | (simp [go_sem]; done) | (simp [go_sem]; omega))) | (with_reducible refine Below.drew ?_) | (with_reducible refine below_drewN _ ?_)))).mono ?_; rintro e w9 ⟨rfl, hbel⟩; obtain ⟨o1, j1, rfl⟩ := grow_of_below hbel; clear hbel) | (go_at_call 9; refine (T0.out _ (by repeat (first | (with_reducible exact Below.refl _ _) | ((with_reducible refine below_grow ?_ ?_); rotate_left; focus (first | omega | (simp [go_sem]; done) | (simp [go_sem]; omega))) | ((with_reducible refine Below.alloc ?_ ?_ _); rotate_left; focus (first | omega | (simp [go_sem]; done) | (simp [go_sem]; omega))) | ((with_reducible refine Below.setCell ?_ ?_ _); rotate_left; focus (first | omega | (simp [go_sem]; done) | (simp [go_sem]; omega))) | (with_reducible refine Below.drew ?_) | (with_reducible refine below_drewN _ ?_)))).mono ?_; rintro e w9 ⟨rfl, hbel⟩; obtain ⟨o2, j2, rfl⟩ := grow_of_below hbel; clear hbel) | (go_at_call 10; refine (WP.out _).mono ?_; rintro e w9 ⟨rfl, hbel⟩; obtain ⟨o3, j3, rfl⟩ := grow_of_below hbel; clear hbel) | (go_at_call 11; refine (I1.out _).mono ?_; rintro e w9 ⟨rfl, hbel⟩; obtain ⟨o4, j4, rfl⟩ := grow_of_below hbel; clear hbel) | (go_at_call 12; refine (C1.out _).mono ?_; rintro e w9 ⟨rfl, hbel⟩; obtain ⟨o5, j5, rfl⟩ := grow_of_below hbel; clear hbel) | (go_at_call 13; refine (Q1.out _).mono ?_; rintro e w9 ⟨rfl, hbel⟩; obtain ⟨o6, j6, rfl⟩ := grow_of_below hbel; clear hbel))
  generalize hV : grow _ o6 j6 = V
  generalize hq15 : w.heap.size + 1 + 1 + sz (o1 ++ o2) + 1 + 1 + sz o3 + 1 + sz o4 + 1 + sz o5 = q15 at *
  generalize hq13 : w.heap.size + 1 + 1 + sz (o1 ++ o2) + 1 + 1 + sz o3 + 1 + sz o4 = q13 at *
  generalize hq11 : w.heap.size + 1 + 1 + sz (o1 ++ o2) + 1 + 1 + sz o3 = q11 at *
  generalize hq10 : w.heap.size + 1 + 1 + sz (o1 ++ o2) + 1 = q10 at *
  have v1 : blk V w.heap.size (#[.int .u32 (pt a 0), .int .u32 (pt a 1), .int .u32 (pt a 2), .int .u32 (pt a 3)]) 26 := by rw [← hV]; exact blk_grow (blk_alloc (blk_grow (blk_alloc (blk_grow (blk_alloc (blk_grow (blk_alloc (blk_alloc (blk_grow (blk_alloc (blk_new _ _ _) _) _ _) _) _) _ _) _) _ _) _) _ _) _) _ _
  have v2 : blk V (w.heap.size + 1) (#[.int .u32 (pt b 0), .int .u32 (pt b 1), .int .u32 (pt b 2), .int .u32 (pt b 3)]) 26 := by rw [← hV]; exact blk_grow (blk_alloc (blk_grow (blk_alloc (blk_grow (blk_alloc (blk_grow (blk_alloc (blk_alloc (blk_grow (blk_at _ _ _ (by simp)) _ _) _) _) _ _) _) _ _) _) _ _) _) _ _
  have v3 : blk V q10 (#[.int .u64 (p 0 : Nat), .int .u64 (p 1 : Nat), .int .u64 (p 2 : Nat), .int .u64 (p 3 : Nat)]) 28 := by rw [← hV]; exact blk_grow (blk_alloc (blk_grow (blk_alloc (blk_grow (blk_alloc (blk_grow (blk_at _ _ _ (by rw [← hq10]; simp [go_sem])) _ _) _) _ _) _) _ _) _) _ _
  have v4 : blk V q11 (#[.int .u32 (pt m 0), .int .u32 (pt m 1), .int .u32 (pt m 2), .int .u32 (pt m 3)]) 26 := by rw [← hV]; exact blk_grow (blk_alloc (blk_grow (blk_alloc (blk_grow (blk_at _ _ _ (by rw [← hq11, ← hq10]; simp [go_sem])) _ _) _) _ _) _) _ _
  have v5 : blk V q15 (#[.int .u64 (d 0 : Nat), .int .u64 (d 1 : Nat), .int .u64 (d 2 : Nat), .int .u64 (d 3 : Nat)]) 28 := by rw [← hV]; exact blk_grow (blk_at _ _ _ (by rw [← hq15, ← hq13, ← hq11, ← hq10]; simp [go_sem])) _ _
  have bb : Below w.heap.size w V := by rw [← hV]; repeat (first | (with_reducible exact Below.refl _ _) | ((with_reducible refine below_grow ?_ ?_); rotate_left; focus (first | omega | (simp [go_sem]; done) | (simp [go_sem]; omega))) | ((with_reducible refine Below.alloc ?_ ?_ _); rotate_left; focus (first | omega | (simp [go_sem]; done) | (simp [go_sem]; omega))) | ((with_reducible refine Below.setCell ?_ ?_ _); rotate_left; focus (first | omega | (simp [go_sem]; done) | (simp [go_sem]; omega))) | (with_reducible refine Below.drew ?_) | (with_reducible refine below_drewN _ ?_))
  have ll : w.heap.size + 1 < q10 ∧ q10 < q11 ∧ q11 < q15 := by omega
  have n0 : ¬ w.heap.size = q10 := by omega
  have n0' : ¬ q10 = w.heap.size := by omega
  have n1 : ¬ w.heap.size = q11 := by omega
  have n1' : ¬ q11 = w.heap.size := by omega
  have n2 : ¬ w.heap.size = q15 := by omega
  have n2' : ¬ q15 = w.heap.size := by omega
  have n3 : ¬ w.heap.size + 1 = q10 := by omega
  have n3' : ¬ q10 = w.heap.size + 1 := by omega
  have n4 : ¬ w.heap.size + 1 = q11 := by omega
  have n4' : ¬ q11 = w.heap.size + 1 := by omega
  have n5 : ¬ w.heap.size + 1 = q15 := by omega
  have n5' : ¬ q15 = w.heap.size + 1 := by omega
  have n6 : ¬ q10 = q11 := by omega
  have n6' : ¬ q11 = q10 := by omega
  have n7 : ¬ q10 = q15 := by omega
  have n7' : ¬ q15 = q10 := by omega
  have n8 : ¬ q11 = q15 := by omega
  have n8' : ¬ q15 = q11 := by omega
  clear hV hq15 hq13 hq11 hq10 T0 M0 WP I1 C1 Q1
  have hbs := bb.size
  haveI i1 : NeZero (inW w.heap.size V) := inW_mk (blk_lt v1)
  haveI i2 : NeZero (inW (w.heap.size + 1) V) := inW_mk (blk_lt v2)
  haveI i4 : NeZero (inW q11 V) := inW_mk (blk_lt v4)
  have k10 : V.cell? ⟨w.heap.size, 0, none⟩ = some (.int .u32 (pt a 0)) := blk_cell v1 0
  have k11 : V.cell? ⟨w.heap.size, 1, none⟩ = some (.int .u32 (pt a 1)) := blk_cell v1 1
  have k12 : V.cell? ⟨w.heap.size, 2, none⟩ = some (.int .u32 (pt a 2)) := blk_cell v1 2
  have k13 : V.cell? ⟨w.heap.size, 3, none⟩ = some (.int .u32 (pt a 3)) := blk_cell v1 3
  have k20 : V.cell? ⟨w.heap.size + 1, 0, none⟩ = some (.int .u32 (pt b 0)) := blk_cell v2 0
  have k21 : V.cell? ⟨w.heap.size + 1, 1, none⟩ = some (.int .u32 (pt b 1)) := blk_cell v2 1
  have k22 : V.cell? ⟨w.heap.size + 1, 2, none⟩ = some (.int .u32 (pt b 2)) := blk_cell v2 2
  have k23 : V.cell? ⟨w.heap.size + 1, 3, none⟩ = some (.int .u32 (pt b 3)) := blk_cell v2 3
  have k40 : V.cell? ⟨q11, 0, none⟩ = some (.int .u32 (pt m 0)) := blk_cell v4 0
  have k41 : V.cell? ⟨q11, 1, none⟩ = some (.int .u32 (pt m 1)) := blk_cell v4 1
  have k42 : V.cell? ⟨q11, 2, none⟩ = some (.int .u32 (pt m 2)) := blk_cell v4 2
  have k43 : V.cell? ⟨q11, 3, none⟩ = some (.int .u32 (pt m 3)) := blk_cell v4 3
  have f1 : ∀ j, V.frozen? ⟨w.heap.size, j, none⟩ = false := fun j => blk_free v1 j
  have f2 : ∀ j, V.frozen? ⟨w.heap.size + 1, j, none⟩ = false := fun j => blk_free v2 j
  have V1 := Lib.hid v1; have V2 := Lib.hid v2; have V3 := Lib.hid v3; have V4 := Lib.hid v4; have V5 := Lib.hid v5; have BB := Lib.hid bb; have LLL := Lib.hid ll
  clear v1 v2 v3 v4 v5 bb ll
  go_upto_region 8 with (go_at_call 14; refine (DA.out _).mono ?_; rintro e w9 ⟨rfl, hbel⟩; obtain ⟨o7, j7, rfl⟩ := grow_of_below hbel; clear hbel)
  go_upto_region 9 with (go_at_call 14; refine (DB'.out _).mono ?_; rintro e w9 ⟨rfl, hbel⟩; obtain ⟨o8, j8, rfl⟩ := grow_of_below hbel; clear hbel)
  generalize hZ : grow _ _ j8 = Z
  have ll := LLL.out
  have z1 : blk Z w.heap.size (#[.int .u32 (pt a' 0), .int .u32 (pt a' 1), .int .u32 (pt a' 2), .int .u32 (pt a' 3)]) 26 := by rw [← hZ]; exact blk_grow (blk_other (blk_other (blk_other (blk_other (blk_set (blk_set (blk_set (blk_set V1.out 0 (.int .u32 (pt a' 0))) 1 (.int .u32 (pt a' 1))) 2 (.int .u32 (pt a' 2))) 3 (.int .u32 (pt a' 3))) (by omega) _) (by omega) _) (by omega) _) (by omega) _) _ _
  have z2 : blk Z (w.heap.size + 1) (#[.int .u32 (pt b' 0), .int .u32 (pt b' 1), .int .u32 (pt b' 2), .int .u32 (pt b' 3)]) 26 := by rw [← hZ]; exact blk_grow (blk_set (blk_set (blk_set (blk_set (blk_other (blk_other (blk_other (blk_other V2.out (by omega) _) (by omega) _) (by omega) _) (by omega) _) 0 (.int .u32 (pt b' 0))) 1 (.int .u32 (pt b' 1))) 2 (.int .u32 (pt b' 2))) 3 (.int .u32 (pt b' 3))) _ _
  have z3 : blk Z q10 (#[.int .u64 (p 0 : Nat), .int .u64 (p 1 : Nat), .int .u64 (p 2 : Nat), .int .u64 (p 3 : Nat)]) 28 := by rw [← hZ]; exact blk_grow (blk_other (blk_other (blk_other (blk_other (blk_other (blk_other (blk_other (blk_other V3.out (by omega) _) (by omega) _) (by omega) _) (by omega) _) (by omega) _) (by omega) _) (by omega) _) (by omega) _) _ _
  have z4 : blk Z q11 (#[.int .u32 (pt m 0), .int .u32 (pt m 1), .int .u32 (pt m 2), .int .u32 (pt m 3)]) 26 := by rw [← hZ]; exact blk_grow (blk_other (blk_other (blk_other (blk_other (blk_other (blk_other (blk_other (blk_other V4.out (by omega) _) (by omega) _) (by omega) _) (by omega) _) (by omega) _) (by omega) _) (by omega) _) (by omega) _) _ _
  have z5 : blk Z q15 (#[.int .u64 (d 0 : Nat), .int .u64 (d 1 : Nat), .int .u64 (d 2 : Nat), .int .u64 (d 3 : Nat)]) 28 := by rw [← hZ]; exact blk_grow (blk_other (blk_other (blk_other (blk_other (blk_other (blk_other (blk_other (blk_other V5.out (by omega) _) (by omega) _) (by omega) _) (by omega) _) (by omega) _) (by omega) _) (by omega) _) (by omega) _) _ _
  have zb : Below w.heap.size w Z := by rw [← hZ]; repeat (first | (with_reducible exact BB.out) | ((with_reducible refine below_grow ?_ ?_); rotate_left; focus (first | omega | (simp [go_sem]; done) | (simp [go_sem]; omega))) | ((with_reducible refine Below.alloc ?_ ?_ _); rotate_left; focus (first | omega | (simp [go_sem]; done) | (simp [go_sem]; omega))) | ((with_reducible refine Below.setCell ?_ ?_ _); rotate_left; focus (first | omega | (simp [go_sem]; done) | (simp [go_sem]; omega))) | (with_reducible refine Below.drew ?_) | (with_reducible refine below_drewN _ ?_))
  clear hZ V1 V2 V3 V4 V5 BB i1 i2 i4 k10 k11 k12 k13 k20 k21 k22 k23 k40 k41 k42 k43 f1 f2 DA DB' hbs
  have hbs := zb.size
  haveI i1 : NeZero (inW w.heap.size Z) := inW_mk (blk_lt z1)
  haveI i2 : NeZero (inW (w.heap.size + 1) Z) := inW_mk (blk_lt z2)
  haveI i3 : NeZero (inW q10 Z) := inW_mk (blk_lt z3)
  haveI i5 : NeZero (inW q15 Z) := inW_mk (blk_lt z5)
  have k10 : Z.cell? ⟨w.heap.size, 0, none⟩ = some (.int .u32 (pt a' 0)) := blk_cell z1 0
  have k11 : Z.cell? ⟨w.heap.size, 1, none⟩ = some (.int .u32 (pt a' 1)) := blk_cell z1 1
  have k12 : Z.cell? ⟨w.heap.size, 2, none⟩ = some (.int .u32 (pt a' 2)) := blk_cell z1 2
  have k13 : Z.cell? ⟨w.heap.size, 3, none⟩ = some (.int .u32 (pt a' 3)) := blk_cell z1 3
  have k20 : Z.cell? ⟨w.heap.size + 1, 0, none⟩ = some (.int .u32 (pt b' 0)) := blk_cell z2 0
  have k21 : Z.cell? ⟨w.heap.size + 1, 1, none⟩ = some (.int .u32 (pt b' 1)) := blk_cell z2 1
  have k22 : Z.cell? ⟨w.heap.size + 1, 2, none⟩ = some (.int .u32 (pt b' 2)) := blk_cell z2 2
  have k23 : Z.cell? ⟨w.heap.size + 1, 3, none⟩ = some (.int .u32 (pt b' 3)) := blk_cell z2 3
  have k30 : Z.cell? ⟨q10, 0, none⟩ = some (.int .u64 (p 0 : Nat)) := blk_cell z3 0
  have k31 : Z.cell? ⟨q10, 1, none⟩ = some (.int .u64 (p 1 : Nat)) := blk_cell z3 1
  have k32 : Z.cell? ⟨q10, 2, none⟩ = some (.int .u64 (p 2 : Nat)) := blk_cell z3 2
  have k33 : Z.cell? ⟨q10, 3, none⟩ = some (.int .u64 (p 3 : Nat)) := blk_cell z3 3
  have k50 : Z.cell? ⟨q15, 0, none⟩ = some (.int .u64 (d 0 : Nat)) := blk_cell z5 0
  have k51 : Z.cell? ⟨q15, 1, none⟩ = some (.int .u64 (d 1 : Nat)) := blk_cell z5 1
  have k52 : Z.cell? ⟨q15, 2, none⟩ = some (.int .u64 (d 2 : Nat)) := blk_cell z5 2
  have k53 : Z.cell? ⟨q15, 3, none⟩ = some (.int .u64 (d 3 : Nat)) := blk_cell z5 3
  have f5 : ∀ j, Z.frozen? ⟨q15, j, none⟩ = false := fun j => blk_free z5 j
  have Z1 := Lib.hid z1; have Z2 := Lib.hid z2; have Z3 := Lib.hid z3; have Z4 := Lib.hid z4; have Z5 := Lib.hid z5; have ZB := Lib.hid zb
  have lq15 := blk_lt z5
  clear z1 z2 z3 z4 z5 zb ll
  go_upto_region 10 with (go_at_call 12; refine (CA.out _).mono ?_; rintro e w9 ⟨rfl, hbel⟩; obtain ⟨o9, j9, rfl⟩ := grow_of_below hbel; clear hbel)
  go_upto_region 11 with (go_at_call 12; refine (CB.out _).mono ?_; rintro e w9 ⟨rfl, hbel⟩; obtain ⟨o10, j10, rfl⟩ := grow_of_below hbel; clear hbel)
  go_upto_region 14 with (first | (go_at_call 11; refine (I2.out _).mono ?_; rintro e w9 ⟨rfl, hbel⟩; obtain ⟨o11, j11, rfl⟩ := grow_of_below hbel; clear hbel) | (go_at_call 15; refine (RT.out _).mono ?_; rintro e w9 ⟨rfl, hbel⟩; obtain ⟨o12, j12, rfl⟩ := grow_of_below hbel; clear hbel))
  generalize hU : grow _ o12 j12 = U
  generalize hq17 : Z.heap.size + sz (o9 ++ o10) = q17 at *
  have ll := LLL.out
  have l17 : q15 < q17 := by omega
  have c1 : blk U w.heap.size (#[.int .u32 (pt a' 0), .int .u32 (pt a' 1), .int .u32 (pt a' 2), .int .u32 (pt a' 3)]) 26 := by rw [← hU]; exact blk_grow (blk_alloc (blk_grow (blk_alloc (blk_grow (blk_other (blk_other (blk_other (blk_other Z1.out (by omega) _) (by omega) _) (by omega) _) (by omega) _) _ _) _) _ _) _) _ _
  have c2 : blk U (w.heap.size + 1) (#[.int .u32 (pt b' 0), .int .u32 (pt b' 1), .int .u32 (pt b' 2), .int .u32 (pt b' 3)]) 26 := by rw [← hU]; exact blk_grow (blk_alloc (blk_grow (blk_alloc (blk_grow (blk_other (blk_other (blk_other (blk_other Z2.out (by omega) _) (by omega) _) (by omega) _) (by omega) _) _ _) _) _ _) _) _ _
  have c3 : blk U q10 (#[.int .u64 (p 0 : Nat), .int .u64 (p 1 : Nat), .int .u64 (p 2 : Nat), .int .u64 (p 3 : Nat)]) 28 := by rw [← hU]; exact blk_grow (blk_alloc (blk_grow (blk_alloc (blk_grow (blk_other (blk_other (blk_other (blk_other Z3.out (by omega) _) (by omega) _) (by omega) _) (by omega) _) _ _) _) _ _) _) _ _
  have c4 : blk U q11 (#[.int .u32 (pt m 0), .int .u32 (pt m 1), .int .u32 (pt m 2), .int .u32 (pt m 3)]) 26 := by rw [← hU]; exact blk_grow (blk_alloc (blk_grow (blk_alloc (blk_grow (blk_other (blk_other (blk_other (blk_other Z4.out (by omega) _) (by omega) _) (by omega) _) (by omega) _) _ _) _) _ _) _) _ _
  have c5 : blk U q15 (#[.int .u64 (x 0 : Nat), .int .u64 (x 1 : Nat), .int .u64 (x 2 : Nat), .int .u64 (x 3 : Nat)]) 28 := by rw [← hU]; exact blk_grow (blk_alloc (blk_grow (blk_alloc (blk_grow (blk_set (blk_set (blk_set (blk_set Z5.out 0 (.int .u64 (x 0 : Nat))) 1 (.int .u64 (x 1 : Nat))) 2 (.int .u64 (x 2 : Nat))) 3 (.int .u64 (x 3 : Nat))) _ _) _) _ _) _) _ _
  have c6 : blk U q17 (#[.int .u64 (y 0 : Nat), .int .u64 (y 1 : Nat), .int .u64 (y 2 : Nat), .int .u64 (y 3 : Nat)]) 28 := by rw [← hU]; exact blk_grow (blk_alloc (blk_grow (blk_at _ _ _ (by rw [← hq17]; simp [go_sem])) _ _) _) _ _
  have cb : Below w.heap.size w U := by rw [← hU]; repeat (first | (with_reducible exact ZB.out) | ((with_reducible refine below_grow ?_ ?_); rotate_left; focus (first | omega | (simp [go_sem]; done) | (simp [go_sem]; omega))) | ((with_reducible refine Below.alloc ?_ ?_ _); rotate_left; focus (first | omega | (simp [go_sem]; done) | (simp [go_sem]; omega))) | ((with_reducible refine Below.setCell ?_ ?_ _); rotate_left; focus (first | omega | (simp [go_sem]; done) | (simp [go_sem]; omega))) | (with_reducible refine Below.drew ?_) | (with_reducible refine below_drewN _ ?_))
  clear hU hq17 Z1 Z2 Z3 Z4 Z5 ZB i1 i2 i3 i5 k10 k11 k12 k13 k20 k21 k22 k23 k30 k31 k32 k33 k50 k51 k52 k53 f5 lq15 CA CB I2 RT hbs n0 n0' n1 n1' n2 n2' n3 n3' n4 n4' n5 n5' n6 n6' n7 n7' n8 n8'
  have LLL := Lib.hid (show w.heap.size + 1 < q10 ∧ q10 < q11 ∧ q11 < q15 ∧ q15 < q17 by omega)
  clear ll l17
  go_upto_region 16 with fail
  go_loopw [21, 22] (fun s21 s22 wr => ∃ k : Nat, k ≤ 4 ∧ s22 = .int .i64 (3 - (k : Int)) ∧ s21 = .int .i64 (oG x y k) ∧ blk wr w.heap.size (#[.int .u32 (pt a' 0), .int .u32 (pt a' 1), .int .u32 (pt a' 2), .int .u32 (pt a' 3)]) 26 ∧ blk wr (w.heap.size + 1) (#[.int .u32 (pt b' 0), .int .u32 (pt b' 1), .int .u32 (pt b' 2), .int .u32 (pt b' 3)]) 26 ∧ blk wr q10 (#[.int .u64 (p 0 : Nat), .int .u64 (p 1 : Nat), .int .u64 (p 2 : Nat), .int .u64 (p 3 : Nat)]) 28 ∧ blk wr q11 (#[.int .u32 (pt m 0), .int .u32 (pt m 1), .int .u32 (pt m 2), .int .u32 (pt m 3)]) 26 ∧ blk wr q15 (#[.int .u64 (x 0 : Nat), .int .u64 (x 1 : Nat), .int .u64 (x 2 : Nat), .int .u64 (x 3 : Nat)]) 28 ∧ blk wr q17 (#[.int .u64 (y 0 : Nat), .int .u64 (y 1 : Nat), .int .u64 (y 2 : Nat), .int .u64 (y 3 : Nat)]) 28 ∧ Below w.heap.size w wr) (fun _ s22 _ => (intOf s22 + 1).toNat)
  case atStart => exact ⟨0, by decide, rfl, rfl, c1, c2, c3, c4, c5, c6, cb⟩
  case round =>
    clear c1 c2 c3 c4 c5 c6 cb
    obtain ⟨k, hk, rfl, rfl, c1, c2, c3, c4, c5, c6, cb⟩ := hrel
    by_cases hlt : k < 4
    · obtain ⟨i, hi⟩ : ∃ i : Nat, i = 3 - k := ⟨_, rfl⟩
      have hi4 : i < 4 := by omega
      have hi4' : (i : Int) < 4 := by omega
      have e0 : IntKind.i64.wrap ((i : Int) - 1) = (i : Int) - 1 := IntWalk.i64_in _ (by omega)
      have a0 := AN.out i hi4
      have kp := dcell c3 i hi4
      have kx := dcell c5 i hi4
      have ky := dcell c6 i hi4
      have hg : ∀ j, k = j + 1 → oG x y (k + 1) = if x i = y i then oG x y k else if x i < y i then -1 else 1 := fun j hj => by
        subst hj
        have : i = 2 - j := by omega
        subst this
        rfl
      have hnx : (i : Int) - 1 = 3 - ((k + 1 : Nat) : Int) := by omega
      rw [show 3 - (k : Int) = (i : Int) by omega]
      have C1 := Lib.hid c1; have C2 := Lib.hid c2; have C3 := Lib.hid c3; have C4 := Lib.hid c4; have C5 := Lib.hid c5; have C6 := Lib.hid c6; have CB := Lib.hid cb
      have HL := Lib.hid hlt
      have HNX := Lib.hid hnx
      obtain ⟨X, hX⟩ : ∃ X, x i = X := ⟨_, rfl⟩
      obtain ⟨Y, hY⟩ : ∃ X, y i = X := ⟨_, rfl⟩
      obtain ⟨Pp, hPp⟩ : ∃ X, p i = X := ⟨_, rfl⟩
      rw [hPp] at a0 kp
      rw [hX] at a0 kx
      rw [hY] at ky
      simp only [hX, hY] at hg
      clear hX hY hPp c1 c2 c3 c4 c5 c6 cb hnx
      by_cases h3 : i < 3
      · have h3' : (i : Int) < 3 := by omega
        have hg1 := Lib.hid (hg (k - 1) (by omega))
        clear hg hlt hk hi hi4 h3
        rcases Nat.lt_trichotomy X Y with l | l | l
        · have hne : ¬ (X : Int) = Y := by omega
          have hl : (X : Int) < Y := by omega
          have G := Lib.hid (hg1.out.trans (show _ = (-1 : Int) by rw [if_neg (by omega), if_pos l]))
          clear hg1 l
          go_upto_region 18 with fail
          go_quiet (fail)
          go_upto_region 20 with fail
          go_quiet (fail)
          go_upto_region 22 with fail
          go_quiet (fail)
          go_wp2
          go_roundw
          case rel => exact ⟨k + 1, HL.out, by rw [HNX.out], by rw [G.out], C1.out, C2.out, C3.out, C4.out, C5.out, C6.out, by repeat (first | (with_reducible exact CB.out) | ((with_reducible refine below_grow ?_ ?_); rotate_left; focus (first | omega | (simp [go_sem]; done) | (simp [go_sem]; omega))) | ((with_reducible refine Below.alloc ?_ ?_ _); rotate_left; focus (first | omega | (simp [go_sem]; done) | (simp [go_sem]; omega))) | ((with_reducible refine Below.setCell ?_ ?_ _); rotate_left; focus (first | omega | (simp [go_sem]; done) | (simp [go_sem]; omega))) | (with_reducible refine Below.drew ?_) | (with_reducible refine below_drewN _ ?_))⟩
          case measure => simp [intOf]
        · subst l
          have G := Lib.hid (hg1.out.trans (if_pos rfl))
          clear hg1
          go_upto_region 18 with fail
          go_quiet (fail)
          go_upto_region 20 with fail
          go_quiet (fail)
          go_wp2
          go_roundw
          case rel => exact ⟨k + 1, HL.out, by rw [HNX.out], by rw [G.out], C1.out, C2.out, C3.out, C4.out, C5.out, C6.out, by repeat (first | (with_reducible exact CB.out) | ((with_reducible refine below_grow ?_ ?_); rotate_left; focus (first | omega | (simp [go_sem]; done) | (simp [go_sem]; omega))) | ((with_reducible refine Below.alloc ?_ ?_ _); rotate_left; focus (first | omega | (simp [go_sem]; done) | (simp [go_sem]; omega))) | ((with_reducible refine Below.setCell ?_ ?_ _); rotate_left; focus (first | omega | (simp [go_sem]; done) | (simp [go_sem]; omega))) | (with_reducible refine Below.drew ?_) | (with_reducible refine below_drewN _ ?_))⟩
          case measure => simp [intOf]
        · have hne : ¬ (X : Int) = Y := by omega
          have hl : ¬ (X : Int) < Y := by omega
          have G := Lib.hid (hg1.out.trans (show _ = (1 : Int) by rw [if_neg (by omega), if_neg (by omega)]))
          clear hg1 l
          go_upto_region 18 with fail
          go_quiet (fail)
          go_upto_region 20 with fail
          go_quiet (fail)
          go_upto_region 22 with fail
          go_quiet (fail)
          go_wp2
          go_roundw
          case rel => exact ⟨k + 1, HL.out, by rw [HNX.out], by rw [G.out], C1.out, C2.out, C3.out, C4.out, C5.out, C6.out, by repeat (first | (with_reducible exact CB.out) | ((with_reducible refine below_grow ?_ ?_); rotate_left; focus (first | omega | (simp [go_sem]; done) | (simp [go_sem]; omega))) | ((with_reducible refine Below.alloc ?_ ?_ _); rotate_left; focus (first | omega | (simp [go_sem]; done) | (simp [go_sem]; omega))) | ((with_reducible refine Below.setCell ?_ ?_ _); rotate_left; focus (first | omega | (simp [go_sem]; done) | (simp [go_sem]; omega))) | (with_reducible refine Below.drew ?_) | (with_reducible refine below_drewN _ ?_))⟩
          case measure => simp [intOf]
      · obtain rfl : k = 0 := by omega
        obtain rfl : i = 3 := by omega
        clear hg h3 hlt hk hi hi4 hi4'
        go_upto_region 18 with fail
        go_quiet (fail)
        go_upto_region 20 with fail
        go_quiet (fail)
        go_wp2
        go_roundw
        case rel => exact ⟨1, by decide, rfl, rfl, C1.out, C2.out, C3.out, C4.out, C5.out, C6.out, by repeat (first | (with_reducible exact CB.out) | ((with_reducible refine below_grow ?_ ?_); rotate_left; focus (first | omega | (simp [go_sem]; done) | (simp [go_sem]; omega))) | ((with_reducible refine Below.alloc ?_ ?_ _); rotate_left; focus (first | omega | (simp [go_sem]; done) | (simp [go_sem]; omega))) | ((with_reducible refine Below.setCell ?_ ?_ _); rotate_left; focus (first | omega | (simp [go_sem]; done) | (simp [go_sem]; omega))) | (with_reducible refine Below.drew ?_) | (with_reducible refine below_drewN _ ?_))⟩
        case measure => simp [intOf]
    · obtain rfl : k = 4 := by omega
      rw [OG.out, show 3 - ((4 : Nat) : Int) = -1 from rfl]
      haveI i1 : NeZero (inW w.heap.size wr) := inW_mk (blk_lt c1)
      haveI i2 : NeZero (inW (w.heap.size + 1) wr) := inW_mk (blk_lt c2)
      have k10 : wr.cell? ⟨w.heap.size, 0, none⟩ = some (.int .u32 (pt a' 0)) := blk_cell c1 0
      have k11 : wr.cell? ⟨w.heap.size, 1, none⟩ = some (.int .u32 (pt a' 1)) := blk_cell c1 1
      have k12 : wr.cell? ⟨w.heap.size, 2, none⟩ = some (.int .u32 (pt a' 2)) := blk_cell c1 2
      have k13 : wr.cell? ⟨w.heap.size, 3, none⟩ = some (.int .u32 (pt a' 3)) := blk_cell c1 3
      have k20 : wr.cell? ⟨w.heap.size + 1, 0, none⟩ = some (.int .u32 (pt b' 0)) := blk_cell c2 0
      have k21 : wr.cell? ⟨w.heap.size + 1, 1, none⟩ = some (.int .u32 (pt b' 1)) := blk_cell c2 1
      have k22 : wr.cell? ⟨w.heap.size + 1, 2, none⟩ = some (.int .u32 (pt b' 2)) := blk_cell c2 2
      have k23 : wr.cell? ⟨w.heap.size + 1, 3, none⟩ = some (.int .u32 (pt b' 3)) := blk_cell c2 3
      have k30 : wr.cell? ⟨q10, 0, none⟩ = some (.int .u64 (p 0 : Nat)) := blk_cell c3 0
      have k31 : wr.cell? ⟨q10, 1, none⟩ = some (.int .u64 (p 1 : Nat)) := blk_cell c3 1
      have k32 : wr.cell? ⟨q10, 2, none⟩ = some (.int .u64 (p 2 : Nat)) := blk_cell c3 2
      have k33 : wr.cell? ⟨q10, 3, none⟩ = some (.int .u64 (p 3 : Nat)) := blk_cell c3 3
      have k40 : wr.cell? ⟨q11, 0, none⟩ = some (.int .u32 (pt m 0)) := blk_cell c4 0
      have k41 : wr.cell? ⟨q11, 1, none⟩ = some (.int .u32 (pt m 1)) := blk_cell c4 1
      have k42 : wr.cell? ⟨q11, 2, none⟩ = some (.int .u32 (pt m 2)) := blk_cell c4 2
      have k43 : wr.cell? ⟨q11, 3, none⟩ = some (.int .u32 (pt m 3)) := blk_cell c4 3
      have hbs := cb.size
      clear c1 c2 c3 c4 c5 c6 hlt hk
      go_upto_region 25 with (go_at_call 12; refine (CM.out _).mono ?_; rintro e w9 ⟨rfl, hbel⟩; obtain ⟨o13, j13, rfl⟩ := grow_of_below hbel; clear hbel)
      go_wp2_with (first | (go_at_call 13; refine (QC.out _).mono ?_; rintro e w9 ⟨rfl, hbel⟩; obtain ⟨o14, j14, rfl⟩ := grow_of_below hbel; clear hbel) | (go_at_call 16; refine (AW.out _).mono ?_; rintro e w9 ⟨rfl, hbel⟩; obtain ⟨o15, j15, rfl⟩ := grow_of_below hbel; clear hbel))
      refine bodyPost_ret (by simp [results, Try.results3, go_sem]) rfl ⟨rfl, ?_⟩
      repeat (first | (with_reducible exact cb) | ((with_reducible refine below_grow ?_ ?_); rotate_left; focus (first | omega | (simp [go_sem]; done) | (simp [go_sem]; omega))) | ((with_reducible refine Below.alloc ?_ ?_ _); rotate_left; focus (first | omega | (simp [go_sem]; done) | (simp [go_sem]; omega))) | ((with_reducible refine Below.setCell ?_ ?_ _); rotate_left; focus (first | omega | (simp [go_sem]; done) | (simp [go_sem]; omega))) | (with_reducible refine Below.drew ?_) | (with_reducible refine below_drewN _ ?_))
end Go.Proofs.Ytgcfkhpondemlaa.Ca
