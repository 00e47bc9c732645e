/- The examples of the chapter: awake. -/
import Derived.Test.YtgcfkhpondemlaaXM0
namespace Go.Proofs.Ytgcfkhpondemlaa.Ca
open Go.RowKit

set_option maxRecDepth 100000 in
set_option maxHeartbeats 8000000 in
theorem awake_calls (w : World) : Calls Try.prog 16 #[] w fun e w' => e = .returned (.bool true) ∧ Below w.heap.size w w' := by
  have K1 := Lib.hid kWays
  have K2 := Lib.hid kC0
  have K3 := Lib.hid kC1
  have K4 := Lib.hid kCl
  have K5 := Lib.hid kCa
  have K6 := Lib.hid kNT
  have K7 := Lib.hid kSub
  have K8 := Lib.hid kWp
  have K9 := Lib.hid kRnd
  have KT := Lib.hid kTurn
  have KS := Lib.hid suits_calls
  have KL := Lib.hid kLaw
  have eq4 := eqD
  have eqn := eqN
  obtain ⟨A, hA⟩ : ∃ A, A0 = A := ⟨_, rfl⟩
  rw [hA] at K1 K4 K5 K6 K7
  obtain ⟨B, hB⟩ : ∃ B, A - 1 = B := ⟨_, rfl⟩
  rw [hB] at K4 K7
  clear hA hB
  go_enter Try.func16, Try.ntmps16
  go_upto_region 4 with (first | (go_at_call 10; refine (K1.out _).mono ?_; rintro e w9 ⟨rfl, hbel⟩; obtain ⟨o1, j1, rfl⟩ := grow_of_below hbel; clear hbel) | (go_at_call_of 12 (Value.agg #[.int .u32 0, .int .u32 0, .int .u32 0, .int .u32 0]); refine (K2.out _).mono ?_; rintro e w9 ⟨rfl, hbel⟩; obtain ⟨o2, j2, rfl⟩ := grow_of_below hbel; clear hbel) | (go_at_call_of 12 (Value.agg #[.int .u32 1, .int .u32 0, .int .u32 0, .int .u32 0]); refine (K3.out _).mono ?_; rintro e w9 ⟨rfl, hbel⟩; obtain ⟨o3, j3, rfl⟩ := grow_of_below hbel; clear hbel))
  generalize hV : World.alloc (grow _ o3 j3) _ = V
  generalize hpb : w.heap.size + sz o1 + 1 + sz o2 + 1 + sz o3 = pb at *
  generalize hpc : w.heap.size + sz o1 + 1 + sz o2 = pc at *
  generalize hpa : w.heap.size + sz o1 = pa at *
  have c1 : blk V pa #[.int .u32 (pt A 0), .int .u32 (pt A 1), .int .u32 (pt A 2), .int .u32 (pt A 3)] 26 := by rw [← hV]; exact blk_alloc (blk_grow (blk_alloc (blk_grow (blk_at _ _ _ (by rw [← hpa]; simp [go_sem])) _ _) _) _ _) _
  have c2 : blk V pc #[.int .u64 8191, .int .u64 67100672, .int .u64 549688705024, .int .u64 4503049871556608] 28 := by rw [← hV]; exact blk_alloc (blk_grow (blk_at _ _ _ (by rw [← hpc, ← hpa]; simp [go_sem])) _ _) _
  have c3 : blk V pb #[.int .u64 8191, .int .u64 67100672, .int .u64 824566611968, .int .u64 4502774993649664] 28 := by rw [← hV]; exact blk_at _ _ _ (by rw [← hpb, ← hpc, ← hpa]; simp [go_sem])
  have bb : Below w.heap.size w V := by rw [← hV]; repeat (first | (with_reducible exact Below.refl _ _) | ((with_reducible refine below_grow ?_ ?_); rotate_left; focus (first | omega | (simp [go_sem]; done) | (simp [go_sem]; omega))) | ((with_reducible refine Below.alloc ?_ ?_ _); rotate_left; focus (first | omega | (simp [go_sem]; done) | (simp [go_sem]; omega))) | ((with_reducible refine Below.setCell ?_ ?_ _); rotate_left; focus (first | omega | (simp [go_sem]; done) | (simp [go_sem]; omega))) | (with_reducible refine Below.drew ?_) | (with_reducible refine below_drewN _ ?_))
  clear hV hpb hpc hpa
  haveI i1 : NeZero (inW pa V) := inW_mk (blk_lt c1)
  haveI i2 : NeZero (inW pc V) := inW_mk (blk_lt c2)
  haveI i3 : NeZero (inW pb V) := inW_mk (blk_lt c3)
  have kpa0 : V.cell? ⟨pa, 0, none⟩ = some (.int .u32 (pt A 0)) := blk_cell c1 0
  have kpa1 : V.cell? ⟨pa, 1, none⟩ = some (.int .u32 (pt A 1)) := blk_cell c1 1
  have kpa2 : V.cell? ⟨pa, 2, none⟩ = some (.int .u32 (pt A 2)) := blk_cell c1 2
  have kpa3 : V.cell? ⟨pa, 3, none⟩ = some (.int .u32 (pt A 3)) := blk_cell c1 3
  have kpc0 : V.cell? ⟨pc, 0, none⟩ = some (.int .u64 8191) := blk_cell c2 0
  have kpc1 : V.cell? ⟨pc, 1, none⟩ = some (.int .u64 67100672) := blk_cell c2 1
  have kpc2 : V.cell? ⟨pc, 2, none⟩ = some (.int .u64 549688705024) := blk_cell c2 2
  have kpc3 : V.cell? ⟨pc, 3, none⟩ = some (.int .u64 4503049871556608) := blk_cell c2 3
  have kpb0 : V.cell? ⟨pb, 0, none⟩ = some (.int .u64 8191) := blk_cell c3 0
  have kpb1 : V.cell? ⟨pb, 1, none⟩ = some (.int .u64 67100672) := blk_cell c3 1
  have kpb2 : V.cell? ⟨pb, 2, none⟩ = some (.int .u64 824566611968) := blk_cell c3 2
  have kpb3 : V.cell? ⟨pb, 3, none⟩ = some (.int .u64 4502774993649664) := blk_cell c3 3
  go_region_held3 (fun w' => w'.cell? ⟨pa, 0, none⟩ = some (.int .u32 (pt A 0)) ∧ w'.cell? ⟨pa, 1, none⟩ = some (.int .u32 (pt A 1)) ∧ w'.cell? ⟨pa, 2, none⟩ = some (.int .u32 (pt A 2)) ∧ w'.cell? ⟨pa, 3, none⟩ = some (.int .u32 (pt A 3)) ∧ w'.cell? ⟨pc, 0, none⟩ = some (.int .u64 8191) ∧ w'.cell? ⟨pc, 1, none⟩ = some (.int .u64 67100672) ∧ w'.cell? ⟨pc, 2, none⟩ = some (.int .u64 549688705024) ∧ w'.cell? ⟨pc, 3, none⟩ = some (.int .u64 4503049871556608) ∧ w'.cell? ⟨pb, 0, none⟩ = some (.int .u64 8191) ∧ w'.cell? ⟨pb, 1, none⟩ = some (.int .u64 67100672) ∧ w'.cell? ⟨pb, 2, none⟩ = some (.int .u64 824566611968) ∧ w'.cell? ⟨pb, 3, none⟩ = some (.int .u64 4502774993649664)) (simp [*, go_sem])
    (first | (go_at_call 37; refine (K6.out _).mono ?_; rintro e w9 ⟨rfl, hbel⟩; obtain ⟨o4, j4, rfl⟩ := grow_of_below hbel; clear hbel) | (go_at_call 38; refine (KS.out _).mono ?_; rintro e w9 ⟨rfl, hbel⟩; obtain ⟨o5, j5, rfl⟩ := grow_of_below hbel; clear hbel) | (go_at_call 39; refine (KL.out _).mono ?_; rintro e w9 ⟨rfl, hbel⟩; obtain ⟨o6, j6, rfl⟩ := grow_of_below hbel; clear hbel))
  clear K1 K2 K3 K6 KL KS
  clear c2 c3 i2 i3 kpc0 kpc1 kpc2 kpc3 kpb0 kpb1 kpb2 kpb3
  have hbs := bb.size
  have hal := inW_lt i1
  go_upto_region 9 with (first | (go_at_call 40; refine (K7.out _).mono ?_; rintro e w9 ⟨rfl, hbel⟩; obtain ⟨o7, j7, rfl⟩ := grow_of_below hbel; clear hbel) | (go_at_call_of 12 (Value.int .u32 (pt B 0)); refine (K4.out _).mono ?_; rintro e w9 ⟨rfl, hbel⟩; obtain ⟨o8, j8, rfl⟩ := grow_of_below hbel; clear hbel) | (go_at_call_of 12 (Value.int .u32 (pt A 0)); refine (K5.out _).mono ?_; rintro e w9 ⟨rfl, hbel⟩; obtain ⟨o9, j9, rfl⟩ := grow_of_below hbel; clear hbel))
  clear K4 K5 K7
  go_upto_region 14 with (first | (go_at_call 10; refine (K8.out _).mono ?_; rintro e w9 ⟨rfl, hbel⟩; obtain ⟨o10, j10, rfl⟩ := grow_of_below hbel; clear hbel) | (go_at_call 23; refine (K9.out _).mono ?_; rintro e w9 ⟨rfl, hbel⟩; obtain ⟨o11, j11, rfl⟩ := grow_of_below hbel; clear hbel))
  have hbs2 : V.heap.size ≤ V.heap.size + sz (o4 ++ (o5 ++ (o6 ++ o7))) := by omega
  generalize hX : World.alloc (grow (World.alloc (grow _ o10 j10) _) o11 j11) _ = X
  generalize hp12 : V.heap.size + sz (o4 ++ (o5 ++ (o6 ++ o7))) + 1 + sz o8 + 1 + sz o9 + 1 + sz o10 + 1 + sz o11 = p12 at *
  generalize hp10 : V.heap.size + sz (o4 ++ (o5 ++ (o6 ++ o7))) + 1 + sz o8 + 1 + sz o9 + 1 + sz o10 = p10 at *
  have c10 : blk X p10 #[.int .u32 2, .int .u32 0, .int .u32 0, .int .u32 0] 26 := by rw [← hX]; exact blk_alloc (blk_grow (blk_at _ _ _ (by rw [← hp10]; simp [go_sem])) _ _) _
  have c12 : blk X p12 #[.int .u64 8191, .int .u64 4503049871556608, .int .u64 549688705024, .int .u64 67100672] 28 := by rw [← hX]; exact blk_at _ _ _ (by rw [← hp12, ← hp10]; simp [go_sem])
  have cb : Below w.heap.size w X := by rw [← hX]; repeat (first | (with_reducible exact bb) | ((with_reducible refine below_grow ?_ ?_); rotate_left; focus (first | omega | (simp [go_sem]; done) | (simp [go_sem]; omega))) | ((with_reducible refine Below.alloc ?_ ?_ _); rotate_left; focus (first | omega | (simp [go_sem]; done) | (simp [go_sem]; omega))) | ((with_reducible refine Below.setCell ?_ ?_ _); rotate_left; focus (first | omega | (simp [go_sem]; done) | (simp [go_sem]; omega))) | (with_reducible refine Below.drew ?_) | (with_reducible refine below_drewN _ ?_))
  clear hX hp12 hp10 hbs2 kpa0 kpa1 kpa2 kpa3 c1 bb i1 hbs hal K8 K9
  haveI i10 : NeZero (inW p10 X) := inW_mk (blk_lt c10)
  haveI i12 : NeZero (inW p12 X) := inW_mk (blk_lt c12)
  have kp100 : X.cell? ⟨p10, 0, none⟩ = some (.int .u32 2) := blk_cell c10 0
  have kp101 : X.cell? ⟨p10, 1, none⟩ = some (.int .u32 0) := blk_cell c10 1
  have kp102 : X.cell? ⟨p10, 2, none⟩ = some (.int .u32 0) := blk_cell c10 2
  have kp103 : X.cell? ⟨p10, 3, none⟩ = some (.int .u32 0) := blk_cell c10 3
  have kp120 : X.cell? ⟨p12, 0, none⟩ = some (.int .u64 8191) := blk_cell c12 0
  have kp121 : X.cell? ⟨p12, 1, none⟩ = some (.int .u64 4503049871556608) := blk_cell c12 1
  have kp122 : X.cell? ⟨p12, 2, none⟩ = some (.int .u64 549688705024) := blk_cell c12 2
  have kp123 : X.cell? ⟨p12, 3, none⟩ = some (.int .u64 67100672) := blk_cell c12 3
  go_region_held3 (fun w' => w'.cell? ⟨p10, 0, none⟩ = some (.int .u32 2) ∧ w'.cell? ⟨p10, 1, none⟩ = some (.int .u32 0) ∧ w'.cell? ⟨p10, 2, none⟩ = some (.int .u32 0) ∧ w'.cell? ⟨p10, 3, none⟩ = some (.int .u32 0) ∧ w'.cell? ⟨p12, 0, none⟩ = some (.int .u64 8191) ∧ w'.cell? ⟨p12, 1, none⟩ = some (.int .u64 4503049871556608) ∧ w'.cell? ⟨p12, 2, none⟩ = some (.int .u64 549688705024) ∧ w'.cell? ⟨p12, 3, none⟩ = some (.int .u64 67100672)) (simp [*, go_sem])
    (first | (go_at_call 21; refine (KT.out _).mono ?_; rintro e w9 ⟨rfl, hbel⟩; obtain ⟨o12, j12, rfl⟩ := grow_of_below hbel; clear hbel))
  have hcs := cb.size
  go_wp2
  refine bodyPost_ret (by simp [results, Try.results16, go_sem]) rfl ⟨rfl, ?_⟩
  repeat (first | (with_reducible exact cb) | ((with_reducible refine below_grow ?_ ?_); rotate_left; focus (first | omega | (simp [go_sem]; done) | (simp [go_sem]; omega))) | ((with_reducible refine Below.alloc ?_ ?_ _); rotate_left; focus (first | omega | (simp [go_sem]; done) | (simp [go_sem]; omega))) | ((with_reducible refine Below.setCell ?_ ?_ _); rotate_left; focus (first | omega | (simp [go_sem]; done) | (simp [go_sem]; omega))) | (with_reducible refine Below.drew ?_) | (with_reducible refine below_drewN _ ?_))
end Go.Proofs.Ytgcfkhpondemlaa.Ca
