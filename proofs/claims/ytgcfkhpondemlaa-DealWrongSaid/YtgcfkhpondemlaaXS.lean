/- DealDrawn: the walk. -/
import Derived.Test.YtgcfkhpondemlaaXR
import Derived.Test.YtgcfkhpondemlaaXM
import Derived.Test.YtgcfkhpondemlaaXN
namespace Go.Proofs.Ytgcfkhpondemlaa.Ca
open Go.RowKit
open Go.Proofs.Ytgcfkhpondemlaa.Ha (SlB od)
open Go.Proofs.DB (Pd Rd)
open Go.Proofs.Ytgcfkhpondemlaa.Se (St stp)

theorem andNot_in {p d : Nat → Nat} (hp : Pd p) (hd : Rd d) (h : DB.In p d) (i : Nat) (hi : i < 4) : bits .andNot .u64 (p i : Int) (d i : Int) = 0 := by
  have lp := Nat.lt_trans (hp.lt i hi) (show 2 ^ 52 < 18446744073709551616 by decide)
  have ld := Nat.lt_trans (hd.lt i hi) (show 2 ^ 52 < 18446744073709551616 by decide)
  rw [u64_andNot_nat _ _ lp ld, DB.and_not_wo lp ld]
  have : DB.wo (p i) (d i) = 0 := DB.bt_ext fun j => by
    rw [DB.bt_wo _ lp]
    have := h i hi j
    rw [show DB.bt 0 j = 0 by simp [DB.bt]]
    omega
  rw [this]; rfl
theorem right_true {d : Nat → Nat} (hd : Rd d) (w : World) : Calls Try.prog 15 #[.agg #[.int .u64 (d 0 : Nat), .int .u64 (d 1 : Nat), .int .u64 (d 2 : Nat), .int .u64 (d 3 : Nat)]] w fun e w' => e = .returned (.bool true) ∧ Below w.heap.size w w' := by
  have := dright_yes d hd.toPd w
  rwa [decide_eq_true hd] at this
set_option maxRecDepth 100000 in
set_option maxHeartbeats 8000000 in
theorem dealDrawn_walk (v : Value) (xs : List Nat) (hx8 : ∀ x ∈ xs, x < 256) (out n : Int) (ho : 0 ≤ out ∧ out ≤ 18446744073709551615) (_ : -9223372036854775808 ≤ n ∧ n ≤ 9223372036854775807) (w : World) (hS : SlB w v xs) :
    Calls Try.prog 6 #[v, .int .u64 out, .int .i64 n] w fun e w' => e = .returned (.bool true) ∧ Below w.heap.size w w' := by
  obtain ⟨o, rfl⟩ := Int.eq_ofNat_of_zero_le ho.1
  have T0 := Lib.hid (fun W hW => torn_calls v xs o (by omega) hx8 W (slb_below hS hW))
  have hp := tD_pd xs o
  obtain ⟨p, hpp⟩ : ∃ p, tD xs o = p := ⟨_, rfl⟩
  rw [hpp] at T0 hp
  have OF := Lib.hid (Se.of_calls3 n)
  have hs : St (stp n + 1) := Se.stp_St n
  obtain ⟨s, hse⟩ : ∃ s, stp n + 1 = s := ⟨_, rfl⟩
  rw [hse] at OF hs
  obtain ⟨m, hm⟩ : ∃ m, DB.ways bin p = m := ⟨_, rfl⟩
  obtain ⟨k, hk⟩ : ∃ k, rV s (DB.ways bin p) = k := ⟨_, rfl⟩
  have hkl : k < DB.ways bin p := by rw [← hk]; exact rV_lt s (ways_pos p)
  obtain ⟨hxr, hxi⟩ := DB.complete_right pas_bin hp hkl
  have hix := DB.index_complete pas_bin hp hkl
  obtain ⟨x, hx⟩ : ∃ x, DB.complete bin p k = x := ⟨_, rfl⟩
  rw [hx] at hxr hxi hix
  have RP := Lib.hid (random_yes s p hs hp x fun i _ => by rw [hk, hx])
  have RX := Lib.hid (random_yes s x hs hxr.toPd x fun i hi => by
    rw [DB.ways_right pas_bin hxr]
    show x i = DB.complete bin x (_ % 1) i
    rw [Nat.mod_one]
    exact (DB.complete_self pas_bin hxr i hi).symm)
  have RT := Lib.hid (right_true hxr)
  have SR := Lib.hid (Se.right_yes (rS s (DB.ways bin p)) (rS_St hs _))
  have WP := Lib.hid (ways_yes p hp)
  have BN := Lib.hid (below_ways p s hs)
  have IN := Lib.hid (index_yes p x hp hxr hxi)
  rw [hix] at IN
  have AN := Lib.hid (fun i hi => andNot_in hp hxr hxi i hi)
  have AW := Lib.hid awake_calls
  rw [hk] at BN
  obtain ⟨t, ht⟩ : ∃ t, rS s (DB.ways bin p) = t := ⟨_, rfl⟩
  obtain ⟨t2, ht2⟩ : ∃ t, rS s (DB.ways bin x) = t := ⟨_, rfl⟩
  rw [ht] at RP SR BN
  rw [ht2] at RX
  rw [hm] at WP BN
  have eq4 := eqD
  have eqn := eqN
  clear hS hx8 hpp hp hse hs hm hk hkl hxr hxi hix hx ht ht2 ho
  go_enter Try.func6, Try.ntmps6
  go_upto_region 4 with (first | (go_at_call 9; refine (T0.out _ (by repeat (first | (with_reducible exact Below.refl _ _) | ((with_reducible refine below_grow ?_ ?_); rotate_left; focus (first | omega | (simp [go_sem]; done) | (simp [go_sem]; omega))) | ((with_reducible refine Below.alloc ?_ ?_ _); rotate_left; focus (first | omega | (simp [go_sem]; done) | (simp [go_sem]; omega))) | ((with_reducible refine Below.setCell ?_ ?_ _); rotate_left; focus (first | omega | (simp [go_sem]; done) | (simp [go_sem]; omega))) | (with_reducible refine Below.drew ?_) | (with_reducible refine below_drewN _ ?_)))).mono ?_; rintro e w9 ⟨rfl, hbel⟩; obtain ⟨o1, j1, rfl⟩ := grow_of_below hbel; clear hbel) | (go_at_call 22; refine (OF.out _).mono ?_; rintro e w9 ⟨rfl, hbel⟩; obtain ⟨o2, j2, rfl⟩ := grow_of_below hbel; clear hbel) | (go_at_call 23; refine (RP.out _).mono ?_; rintro e w9 ⟨rfl, hbel⟩; obtain ⟨o3, j3, rfl⟩ := grow_of_below hbel; clear hbel))
  go_upto_region 7 with (first | (go_at_call 23; refine (RP.out _).mono ?_; rintro e w9 ⟨rfl, hbel⟩; obtain ⟨o5, j5, rfl⟩ := grow_of_below hbel; clear hbel) | (go_at_call 15; refine (RT.out _).mono ?_; rintro e w9 ⟨rfl, hbel⟩; obtain ⟨o4, j4, rfl⟩ := grow_of_below hbel; clear hbel) | (go_at_call 24; refine (SR.out _).mono ?_; rintro e w9 ⟨rfl, rfl⟩))
  generalize hV : grow _ o4 j4 = V
  generalize hq2 : w.heap.size + sz o1 + 1 + sz (o2 ++ o3) = q2 at *
  generalize hq1 : w.heap.size + sz o1 = q1 at *
  have b1 : blk V q1 (#[.int .u64 (p 0 : Nat), .int .u64 (p 1 : Nat), .int .u64 (p 2 : Nat), .int .u64 (p 3 : Nat)]) 28 := by rw [← hV]; exact blk_grow (blk_alloc (blk_grow (blk_alloc (blk_grow (blk_at _ _ _ (by rw [← hq1]; simp [go_sem])) _ _) _) _ _) _) _ _
  have b2 : blk V q2 (#[.int .u64 (x 0 : Nat), .int .u64 (x 1 : Nat), .int .u64 (x 2 : Nat), .int .u64 (x 3 : Nat)]) 28 := by rw [← hV]; exact blk_grow (blk_alloc (blk_grow (blk_at _ _ _ (by rw [← hq2, ← hq1]; simp [go_sem])) _ _) _) _ _
  have bb : Below w.heap.size w V := by rw [← hV]; repeat (first | (with_reducible exact Below.refl _ _) | ((with_reducible refine below_grow ?_ ?_); rotate_left; focus (first | omega | (simp [go_sem]; done) | (simp [go_sem]; omega))) | ((with_reducible refine Below.alloc ?_ ?_ _); rotate_left; focus (first | omega | (simp [go_sem]; done) | (simp [go_sem]; omega))) | ((with_reducible refine Below.setCell ?_ ?_ _); rotate_left; focus (first | omega | (simp [go_sem]; done) | (simp [go_sem]; omega))) | (with_reducible refine Below.drew ?_) | (with_reducible refine below_drewN _ ?_))
  have l12 : w.heap.size ≤ q1 ∧ q1 < q2 := by omega
  clear hV hq1 hq2 T0 OF RP SR RT
  go_upto_region 8 with fail
  go_loopw [71, 15] (fun s71 s15 wr => ∃ s : Nat, s ≤ 4 ∧ s71 = .int .i64 s ∧ blk wr q1 (#[.int .u64 (p 0 : Nat), .int .u64 (p 1 : Nat), .int .u64 (p 2 : Nat), .int .u64 (p 3 : Nat)]) 28 ∧ blk wr q2 (#[.int .u64 (x 0 : Nat), .int .u64 (x 1 : Nat), .int .u64 (x 2 : Nat), .int .u64 (x 3 : Nat)]) 28 ∧ Below w.heap.size w wr) (fun s71 _ _ => 4 - (intOf s71).toNat)
  case atStart => exact ⟨0, by decide, rfl, b1, b2, bb⟩
  case round =>
    clear b1 b2 bb
    obtain ⟨i, hi, rfl, b1, b2, bb⟩ := hrel
    by_cases hlt : i < 4
    · have hlt2 : (i : Int) < 4 := by omega
      have e0 : IntKind.i64.wrap ((i : Int) + 1) = (i : Int) + 1 := IntWalk.i64_in _ (by omega)
      have a0 := AN.out i hlt
      have k1 := dcell b1 i hlt
      have k2 := dcell b2 i hlt
      obtain ⟨y, hy⟩ : ∃ y, p i = y := ⟨_, rfl⟩
      obtain ⟨z, hz⟩ : ∃ y, x i = y := ⟨_, rfl⟩
      rw [hy] at a0 k1
      rw [hz] at a0 k2
      have B1 := Lib.hid b1; have B2 := Lib.hid b2; have BB := Lib.hid bb; have HL := Lib.hid hlt
      clear b1 b2 bb hy hz hlt hi
      go_upto_region 10 with fail
      go_quiet (fail)
      go_wp2
      go_roundw
      case rel => exact ⟨i + 1, HL.out, by go_num, B1.out, B2.out, by repeat (first | (with_reducible exact BB.out) | ((with_reducible refine below_grow ?_ ?_); rotate_left; focus (first | omega | (simp [go_sem]; done) | (simp [go_sem]; omega))) | ((with_reducible refine Below.alloc ?_ ?_ _); rotate_left; focus (first | omega | (simp [go_sem]; done) | (simp [go_sem]; omega))) | ((with_reducible refine Below.setCell ?_ ?_ _); rotate_left; focus (first | omega | (simp [go_sem]; done) | (simp [go_sem]; omega))) | (with_reducible refine Below.drew ?_) | (with_reducible refine below_drewN _ ?_))⟩
      case measure => simp [intOf]; have := HL.out; omega
    · obtain rfl : i = 4 := by omega
      clear hlt hi
      haveI i1 : NeZero (inW q1 wr) := inW_mk (blk_lt b1)
      haveI i2 : NeZero (inW q2 wr) := inW_mk (blk_lt b2)
      have kp0 : wr.cell? ⟨q1, 0, none⟩ = some (.int .u64 (p 0 : Nat)) := blk_cell b1 0
      have kp1 : wr.cell? ⟨q1, 1, none⟩ = some (.int .u64 (p 1 : Nat)) := blk_cell b1 1
      have kp2 : wr.cell? ⟨q1, 2, none⟩ = some (.int .u64 (p 2 : Nat)) := blk_cell b1 2
      have kp3 : wr.cell? ⟨q1, 3, none⟩ = some (.int .u64 (p 3 : Nat)) := blk_cell b1 3
      have kx0 : wr.cell? ⟨q2, 0, none⟩ = some (.int .u64 (x 0 : Nat)) := blk_cell b2 0
      have kx1 : wr.cell? ⟨q2, 1, none⟩ = some (.int .u64 (x 1 : Nat)) := blk_cell b2 1
      have kx2 : wr.cell? ⟨q2, 2, none⟩ = some (.int .u64 (x 2 : Nat)) := blk_cell b2 2
      have kx3 : wr.cell? ⟨q2, 3, none⟩ = some (.int .u64 (x 3 : Nat)) := blk_cell b2 3
      have hbs := bb.size
      clear b1 b2
      go_upto_region 17 with (first | (go_at_call 10; refine (WP.out _).mono ?_; rintro e w9 ⟨rfl, hbel⟩; obtain ⟨o6, j6, rfl⟩ := grow_of_below hbel; clear hbel) | (go_at_call 25; refine (BN.out _).mono ?_; rintro e w9 ⟨rfl, hbel⟩; obtain ⟨o7, j7, rfl⟩ := grow_of_below hbel; clear hbel) | (go_at_call 11; refine (IN.out _).mono ?_; rintro e w9 ⟨rfl, hbel⟩; obtain ⟨o8, j8, rfl⟩ := grow_of_below hbel; clear hbel) | (go_at_call 23; refine (RX.out _).mono ?_; rintro e w9 ⟨rfl, hbel⟩; obtain ⟨o9, j9, rfl⟩ := grow_of_below hbel; clear hbel))
      go_wp2_with (go_at_call 16; refine (AW.out _).mono ?_; rintro e w9 ⟨rfl, hbel⟩; obtain ⟨o10, j10, rfl⟩ := grow_of_below hbel; clear hbel)
      refine bodyPost_ret (by simp [results, Try.results6, go_sem]) rfl ⟨rfl, ?_⟩
      repeat (first | (with_reducible exact bb) | ((with_reducible refine below_grow ?_ ?_); rotate_left; focus (first | omega | (simp [go_sem]; done) | (simp [go_sem]; omega))) | ((with_reducible refine Below.alloc ?_ ?_ _); rotate_left; focus (first | omega | (simp [go_sem]; done) | (simp [go_sem]; omega))) | ((with_reducible refine Below.setCell ?_ ?_ _); rotate_left; focus (first | omega | (simp [go_sem]; done) | (simp [go_sem]; omega))) | (with_reducible refine Below.drew ?_) | (with_reducible refine below_drewN _ ?_))
end Go.Proofs.Ytgcfkhpondemlaa.Ca
