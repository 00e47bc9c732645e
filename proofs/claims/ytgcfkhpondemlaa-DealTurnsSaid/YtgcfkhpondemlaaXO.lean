/- DealTurns: the walk. -/
import Derived.Test.YtgcfkhpondemlaaXO0
import Derived.Test.YtgcfkhpondemlaaXM
namespace Go.Proofs.Ytgcfkhpondemlaa.Ca
open Go.RowKit
open Go.Proofs.Ytgcfkhpondemlaa.Ha (SlB od)
open Go.Proofs.DB (Pd)

set_option maxRecDepth 100000 in
set_option maxHeartbeats 8000000 in
theorem dealTurns_walk (v : Value) (xs : List Nat) (hx8 : ∀ x ∈ xs, x < 256) (out a b : Int) (ho : 0 ≤ out ∧ out ≤ 18446744073709551615) (ha : -9223372036854775808 ≤ a ∧ a ≤ 9223372036854775807) (hb : -9223372036854775808 ≤ b ∧ b ≤ 9223372036854775807) (w : World) (hS : SlB w v xs) :
    Calls Try.prog 5 #[v, .int .u64 out, .int .i64 a, .int .i64 b] w fun e w' => e = .returned (.bool true) ∧ Below w.heap.size w w' := by
  obtain ⟨o, rfl⟩ := Int.eq_ofNat_of_zero_le ho.1
  have T0 := Lib.hid (fun W hW => torn_calls v xs o (by omega) hx8 W (slb_below hS hW))
  have hp := tD_pd xs o
  obtain ⟨p, hpp⟩ : ∃ p, tD xs o = p := ⟨_, rfl⟩
  rw [hpp] at T0 hp
  obtain ⟨r, hr⟩ : ∃ r, a.tmod 4 = r := ⟨_, rfl⟩
  obtain ⟨r2, hr2⟩ : ∃ r, b.tmod 4 = r := ⟨_, rfl⟩
  have ra : -4 < r ∧ r < 4 ∧ r % 4 = a % 4 := by
    rw [← hr]
    by_cases h : 0 ≤ a
    · rw [Int.tmod_eq_emod_of_nonneg h]; omega
    · obtain ⟨m, rfl⟩ : ∃ m : Int, a = -m := ⟨-a, by omega⟩
      rw [Int.neg_tmod, Int.tmod_eq_emod_of_nonneg (by omega)]; omega
  have rb : -4 < r2 ∧ r2 < 4 ∧ r2 % 4 = b % 4 := by
    rw [← hr2]
    by_cases h : 0 ≤ b
    · rw [Int.tmod_eq_emod_of_nonneg h]; omega
    · obtain ⟨m, rfl⟩ : ∃ m : Int, b = -m := ⟨-b, by omega⟩
      rw [Int.neg_tmod, Int.tmod_eq_emod_of_nonneg (by omega)]; omega
  obtain ⟨x, hx⟩ : ∃ x, tn p a = x := ⟨_, rfl⟩
  obtain ⟨z, hz⟩ : ∃ z, tn x b = z := ⟨_, rfl⟩
  obtain ⟨y1, hy1⟩ : ∃ y, tn p 1 = y := ⟨_, rfl⟩
  obtain ⟨y2, hy2⟩ : ∃ y, tn y1 1 = y := ⟨_, rfl⟩
  obtain ⟨y3, hy3⟩ : ∃ y, tn y2 1 = y := ⟨_, rfl⟩
  have hxp : Pd x := hx ▸ tn_pd hp a
  have hxw : DB.ways bin x = DB.ways bin p := hx ▸ tn_ways p a
  have TX := Lib.hid (turn_hyp p x a ha.1 ha.2 fun i _ => congrFun hx i)
  have WP := Lib.hid (ways_yes p hp)
  have WX := Lib.hid (ways_yes x hxp)
  rw [hxw] at WX
  have Y1 := Lib.hid (turn_hyp p y1 1 (by decide) (by decide) fun i _ => congrFun hy1 i)
  have Y2 := Lib.hid (turn_hyp y1 y2 1 (by decide) (by decide) fun i _ => congrFun hy2 i)
  have Y3 := Lib.hid (turn_hyp y2 y3 1 (by decide) (by decide) fun i _ => congrFun hy3 i)
  have Y4 := Lib.hid (turn_hyp y3 p 1 (by decide) (by decide) fun i hi => by
    rw [← hy3, ← hy2, ← hy1, tn_tn _ 1 1 2 rfl i hi, tn_tn _ 1 2 3 rfl i hi, tn_tn _ 1 3 4 rfl i hi]
    exact tn_none p 4 rfl i hi)
  have TB := Lib.hid (turn_hyp x z b hb.1 hb.2 fun i _ => congrFun hz i)
  obtain ⟨c, hc⟩ : ∃ c, r + r2 = c := ⟨_, rfl⟩
  have TC := Lib.hid (turn_hyp p z c (by omega) (by omega) fun i hi => by
    rw [← hz, ← hx]; exact (tn_tn p a b c (by omega) i hi).symm)
  obtain ⟨d, hd⟩ : ∃ d, -r = d := ⟨_, rfl⟩
  have TD := Lib.hid (turn_hyp x p d (by omega) (by omega) fun i hi => by
    rw [← hx, tn_tn p a d 0 (by omega) i hi]; exact tn_none p 0 rfl i hi)
  have XI := Lib.hid (fun (s : Nat) (hs : s < 4) (t : Nat) (ht : (t : Int) = ((s : Int) + a) % 4) => show x t = p s by
    rw [← hx]; unfold tn; congr 1; omega)
  have AW := Lib.hid awake_calls
  have w1 : IntKind.i64.wrap (r + r2) = c := by rw [hc]; exact IntWalk.i64_in _ (by omega)
  have w1' : wrap64 (r + r2) = c := by rw [hc]; exact IntWalk.wrap64_in _ (by omega)
  have w2 : IntKind.i64.wrap (-r) = d := by rw [hd]; exact IntWalk.i64_in _ (by omega)
  have w2' : wrap64 (-r) = d := by rw [hd]; exact IntWalk.wrap64_in _ (by omega)
  obtain ⟨m, hm⟩ : ∃ m, DB.ways bin p = m := ⟨_, rfl⟩
  rw [hm] at WP WX
  have eq4 := eqD
  have eqn := eqN
  have HB := Lib.hid hb
  clear hS hx8 hpp hp hx hz hy1 hy2 hy3 hxp hxw hm hc hd ho ha hb rb
  go_enter Try.func5, Try.ntmps5
  go_upto_region 3 with (first | (go_at_call 9; refine (T0.out _ (by repeat (first | (with_reducible exact Below.refl _ _) | ((with_reducible refine below_grow ?_ ?_); rotate_left; focus (first | omega | (simp [go_sem]; done) | (simp [go_sem]; omega))) | ((with_reducible refine Below.alloc ?_ ?_ _); rotate_left; focus (first | omega | (simp [go_sem]; done) | (simp [go_sem]; omega))) | ((with_reducible refine Below.setCell ?_ ?_ _); rotate_left; focus (first | omega | (simp [go_sem]; done) | (simp [go_sem]; omega))) | (with_reducible refine Below.drew ?_) | (with_reducible refine below_drewN _ ?_)))).mono ?_; rintro e w9 ⟨rfl, hbel⟩; obtain ⟨o1, j1, rfl⟩ := grow_of_below hbel; clear hbel) | (go_at_call 21; refine (TX.out _).mono ?_; rintro e w9 ⟨rfl, hbel⟩; obtain ⟨o2, j2, rfl⟩ := grow_of_below hbel; clear hbel))
  generalize hV : World.alloc (grow _ o2 j2) _ = V
  generalize hq2 : w.heap.size + sz o1 + 1 + sz o2 = q2 at *
  generalize hq1 : w.heap.size + sz o1 = q1 at *
  have b1 : blk V q1 (#[.int .u64 (p 0 : Nat), .int .u64 (p 1 : Nat), .int .u64 (p 2 : Nat), .int .u64 (p 3 : Nat)]) 28 := by rw [← hV]; exact blk_alloc (blk_grow (blk_at _ _ _ (by rw [← hq1]; simp [go_sem])) _ _) _
  have b2 : blk V q2 (#[.int .u64 (x 0 : Nat), .int .u64 (x 1 : Nat), .int .u64 (x 2 : Nat), .int .u64 (x 3 : Nat)]) 28 := by rw [← hV]; exact blk_at _ _ _ (by rw [← hq2, ← hq1]; simp [go_sem])
  have bb : Below w.heap.size w V := by rw [← hV]; repeat (first | (with_reducible exact Below.refl _ _) | ((with_reducible refine below_grow ?_ ?_); rotate_left; focus (first | omega | (simp [go_sem]; done) | (simp [go_sem]; omega))) | ((with_reducible refine Below.alloc ?_ ?_ _); rotate_left; focus (first | omega | (simp [go_sem]; done) | (simp [go_sem]; omega))) | ((with_reducible refine Below.setCell ?_ ?_ _); rotate_left; focus (first | omega | (simp [go_sem]; done) | (simp [go_sem]; omega))) | (with_reducible refine Below.drew ?_) | (with_reducible refine below_drewN _ ?_))
  have l12 : q1 < q2 := by omega
  clear hV hq1 hq2 T0 TX
  go_upto_region 4 with fail
  go_loopw [23, 11] (fun s23 s11 wr => ∃ s : Nat, s ≤ 4 ∧ s23 = .int .i64 s ∧ blk wr q1 (#[.int .u64 (p 0 : Nat), .int .u64 (p 1 : Nat), .int .u64 (p 2 : Nat), .int .u64 (p 3 : Nat)]) 28 ∧ blk wr q2 (#[.int .u64 (x 0 : Nat), .int .u64 (x 1 : Nat), .int .u64 (x 2 : Nat), .int .u64 (x 3 : Nat)]) 28 ∧ Below w.heap.size w wr) (fun s23 _ _ => 4 - (intOf s23).toNat)
  case atStart => exact ⟨0, by decide, rfl, b1, b2, bb⟩
  case round =>
    clear b1 b2 bb
    obtain ⟨s, hs, rfl, b1, b2, bb⟩ := hrel
    by_cases hlt : s < 4
    · have hlt2 : (s : Int) < 4 := by omega
      have e0 : IntKind.i64.wrap ((s : Int) + 1) = (s : Int) + 1 := IntWalk.i64_in _ (by omega)
      have e1 : IntKind.i64.wrap ((s : Int) + r) = (s : Int) + r := IntWalk.i64_in _ (by omega)
      have e2 : IntKind.i64.wrap ((s : Int) + r + 4) = (s : Int) + r + 4 := IntWalk.i64_in _ (by omega)
      have hpos : 0 ≤ (s : Int) + r + 4 := by omega
      obtain ⟨t, ht⟩ : ∃ t : Nat, (t : Int) = ((s : Int) + r + 4) % 4 := ⟨(((s : Int) + r + 4) % 4).toNat, by omega⟩
      have e3 : ((s : Int) + r + 4).tmod 4 = (t : Int) := by rw [Int.tmod_eq_emod_of_nonneg hpos, ht]
      have e3' : ((s : Int) + r + 4) % 4 = (t : Int) := ht.symm
      have ht4 : t < 4 := by omega
      have ht4' : (t : Int) < 4 := by omega
      have k1 := dcell b1 s hlt
      have k2 := dcell b2 t ht4
      rw [XI.out s hlt t (by omega)] at k2
      obtain ⟨y, hy⟩ : ∃ y, p s = y := ⟨_, rfl⟩
      rw [hy] at k1 k2
      have B1 := Lib.hid b1; have B2 := Lib.hid b2; have BB := Lib.hid bb; have HL := Lib.hid hlt
      clear b1 b2 bb hy ht hlt hs ht4 hpos
      go_upto_region 6 with fail
      go_quiet (fail)
      go_wp2
      go_roundw
      case rel => exact ⟨s + 1, HL.out, by go_num, B1.out, B2.out, by repeat (first | (with_reducible exact BB.out) | ((with_reducible refine below_grow ?_ ?_); rotate_left; focus (first | omega | (simp [go_sem]; done) | (simp [go_sem]; omega))) | ((with_reducible refine Below.alloc ?_ ?_ _); rotate_left; focus (first | omega | (simp [go_sem]; done) | (simp [go_sem]; omega))) | ((with_reducible refine Below.setCell ?_ ?_ _); rotate_left; focus (first | omega | (simp [go_sem]; done) | (simp [go_sem]; omega))) | (with_reducible refine Below.drew ?_) | (with_reducible refine below_drewN _ ?_))⟩
      case measure => simp [intOf]; have := HL.out; omega
    · obtain rfl : s = 4 := by omega
      clear hlt hs
      haveI i1 : NeZero (inW q1 wr) := inW_mk (blk_lt b1)
      haveI i2 : NeZero (inW q2 wr) := inW_mk (blk_lt b2)
      have kp0 : wr.cell? ⟨q1, 0, none⟩ = some (.int .u64 (p 0 : Nat)) := blk_cell b1 0
      have kp1 : wr.cell? ⟨q1, 1, none⟩ = some (.int .u64 (p 1 : Nat)) := blk_cell b1 1
      have kp2 : wr.cell? ⟨q1, 2, none⟩ = some (.int .u64 (p 2 : Nat)) := blk_cell b1 2
      have kp3 : wr.cell? ⟨q1, 3, none⟩ = some (.int .u64 (p 3 : Nat)) := blk_cell b1 3
      have kx0 : wr.cell? ⟨q2, 0, none⟩ = some (.int .u64 (x 0 : Nat)) := blk_cell b2 0
      have kx1 : wr.cell? ⟨q2, 1, none⟩ = some (.int .u64 (x 1 : Nat)) := blk_cell b2 1
      have kx2 : wr.cell? ⟨q2, 2, none⟩ = some (.int .u64 (x 2 : Nat)) := blk_cell b2 2
      have kx3 : wr.cell? ⟨q2, 3, none⟩ = some (.int .u64 (x 3 : Nat)) := blk_cell b2 3
      go_upto_region 12 with (first | (go_at_call_of 10 (Value.int .u64 (p 0 : Nat)); refine (WP.out _).mono ?_; rintro e w9 ⟨rfl, hbel⟩; obtain ⟨o3, j3, rfl⟩ := grow_of_below hbel; clear hbel) | (go_at_call_of 10 (Value.int .u64 (x 0 : Nat)); refine (WX.out _).mono ?_; rintro e w9 ⟨rfl, hbel⟩; obtain ⟨o4, j4, rfl⟩ := grow_of_below hbel; clear hbel))
      have hbs := bb.size
      have l2 := blk_lt b2
      generalize hX : World.alloc (World.alloc (grow _ o4 j4) _) _ = X
      generalize hqy : wr.heap.size + sz o3 + 1 + sz o4 + 1 = qy at *
      generalize hqb : wr.heap.size + sz o3 + 1 + sz o4 = qb at *
      generalize hqa : wr.heap.size + sz o3 = qa at *
      have c1 : blk X q1 (#[.int .u64 (p 0 : Nat), .int .u64 (p 1 : Nat), .int .u64 (p 2 : Nat), .int .u64 (p 3 : Nat)]) 28 := by rw [← hX]; exact blk_alloc (blk_alloc (blk_grow (blk_alloc (blk_grow b1 _ _) _) _ _) _) _
      have c2 : blk X q2 (#[.int .u64 (x 0 : Nat), .int .u64 (x 1 : Nat), .int .u64 (x 2 : Nat), .int .u64 (x 3 : Nat)]) 28 := by rw [← hX]; exact blk_alloc (blk_alloc (blk_grow (blk_alloc (blk_grow b2 _ _) _) _ _) _) _
      have ca : blk X qa (#[.int .u32 (pt m 0), .int .u32 (pt m 1), .int .u32 (pt m 2), .int .u32 (pt m 3)]) 26 := by rw [← hX]; exact blk_alloc (blk_alloc (blk_grow (blk_at _ _ _ (by rw [← hqa]; simp [go_sem])) _ _) _) _
      have cm : blk X qb (#[.int .u32 (pt m 0), .int .u32 (pt m 1), .int .u32 (pt m 2), .int .u32 (pt m 3)]) 26 := by rw [← hX]; exact blk_alloc (blk_at _ _ _ (by rw [← hqb, ← hqa]; simp [go_sem])) _
      have cy : blk X qy (#[.int .u64 (p 0 : Nat), .int .u64 (p 1 : Nat), .int .u64 (p 2 : Nat), .int .u64 (p 3 : Nat)]) 28 := by rw [← hX]; exact blk_at _ _ _ (by rw [← hqy, ← hqb, ← hqa]; simp [go_sem])
      have cb : Below w.heap.size w X := by rw [← hX]; repeat (first | (with_reducible exact bb) | ((with_reducible refine below_grow ?_ ?_); rotate_left; focus (first | omega | (simp [go_sem]; done) | (simp [go_sem]; omega))) | ((with_reducible refine Below.alloc ?_ ?_ _); rotate_left; focus (first | omega | (simp [go_sem]; done) | (simp [go_sem]; omega))) | ((with_reducible refine Below.setCell ?_ ?_ _); rotate_left; focus (first | omega | (simp [go_sem]; done) | (simp [go_sem]; omega))) | (with_reducible refine Below.drew ?_) | (with_reducible refine below_drewN _ ?_))
      have hl : q1 < q2 ∧ q2 < qa ∧ qa < qb ∧ qb < qy := by omega
      have hlw : w.heap.size ≤ qa := by omega
      clear hX hqy hqb hqa b1 b2 bb i1 i2 kp0 kp1 kp2 kp3 kx0 kx1 kx2 kx3 WP WX
      go_upto_region 13 with fail
      have YC := Lib.hid (fun s => turn_hyp (yS p s) (yS p (s + 1)) 1 (by decide) (by decide) fun i _ => rfl)
      have Y4 := Lib.hid (yS4 p)
      have AWH := Lib.hid hl
      clear l2 l12 hbs
      go_loopw [50] (fun s50 wr => ∃ s : Nat, s ≤ 4 ∧ s50 = .int .i64 s ∧ blk wr q1 (#[.int .u64 (p 0 : Nat), .int .u64 (p 1 : Nat), .int .u64 (p 2 : Nat), .int .u64 (p 3 : Nat)]) 28 ∧ blk wr q2 (#[.int .u64 (x 0 : Nat), .int .u64 (x 1 : Nat), .int .u64 (x 2 : Nat), .int .u64 (x 3 : Nat)]) 28 ∧ blk wr qa (#[.int .u32 (pt m 0), .int .u32 (pt m 1), .int .u32 (pt m 2), .int .u32 (pt m 3)]) 26 ∧ blk wr qb (#[.int .u32 (pt m 0), .int .u32 (pt m 1), .int .u32 (pt m 2), .int .u32 (pt m 3)]) 26 ∧ blk wr qy (#[.int .u64 (yS p s 0 : Nat), .int .u64 (yS p s 1 : Nat), .int .u64 (yS p s 2 : Nat), .int .u64 (yS p s 3 : Nat)]) 28 ∧ Below w.heap.size w wr) (fun s50 _ => 4 - (intOf s50).toNat)
      case atStart => exact ⟨0, by decide, rfl, c1, c2, ca, cm, cy, cb⟩
      case round =>
        clear c1 c2 ca cm cy cb
        obtain ⟨s, hs, rfl, c1, c2, ca, cm, cy, cb⟩ := hrel
        by_cases hlt : s < 4
        · have hlt2 : (s : Int) < 4 := by omega
          have e0 : IntKind.i64.wrap ((s : Int) + 1) = (s : Int) + 1 := IntWalk.i64_in _ (by omega)
          have Y := Lib.hid (YC.out s)
          haveI iy : NeZero (inW qy wr) := inW_mk (blk_lt cy)
          have fy : ∀ j, wr.frozen? ⟨qy, j, none⟩ = false := fun j => blk_free cy j
          have ky0 : wr.cell? ⟨qy, 0, none⟩ = some (.int .u64 (yS p s 0 : Nat)) := blk_cell cy 0
          have ky1 : wr.cell? ⟨qy, 1, none⟩ = some (.int .u64 (yS p s 1 : Nat)) := blk_cell cy 1
          have ky2 : wr.cell? ⟨qy, 2, none⟩ = some (.int .u64 (yS p s 2 : Nat)) := blk_cell cy 2
          have ky3 : wr.cell? ⟨qy, 3, none⟩ = some (.int .u64 (yS p s 3 : Nat)) := blk_cell cy 3
          have C1 := Lib.hid c1; have C2 := Lib.hid c2; have CA := Lib.hid ca; have CM := Lib.hid cm; have CY := Lib.hid cy; have CB := Lib.hid cb
          have HL := Lib.hid hlt
          obtain ⟨f, hf⟩ : ∃ f, yS p s = f := ⟨_, rfl⟩
          obtain ⟨g, hg⟩ : ∃ f, yS p (s + 1) = f := ⟨_, rfl⟩
          rw [hf] at ky0 ky1 ky2 ky3 CY
          rw [hf, hg] at Y
          have HG := Lib.hid hg
          clear c1 c2 ca cm cy cb hf hg hlt hs
          go_wp2_with (go_at_call 21; refine (Y.out _).mono ?_; rintro e w9 ⟨rfl, hbel⟩; obtain ⟨o5, j5, rfl⟩ := grow_of_below hbel; clear hbel)
          go_roundw
          case rel =>
            have hl := AWH.out
            have hbs := CB.out.size
            have o4 : ∀ {b : Nat} {cs : Array Value} {t : TypeId}, blk wr b cs t → qy ≠ b → blk ((((wr.setCell ⟨qy, 0, none⟩ (.int .u64 (g 0 : Nat))).setCell ⟨qy, 1, none⟩ (.int .u64 (g 1 : Nat))).setCell ⟨qy, 2, none⟩ (.int .u64 (g 2 : Nat))).setCell ⟨qy, 3, none⟩ (.int .u64 (g 3 : Nat))) b cs t := fun h hn => blk_other (blk_other (blk_other (blk_other h hn _) hn _) hn _) hn _
            refine ⟨s + 1, HL.out, by go_num, blk_grow (o4 C1.out (by omega)) _ _, blk_grow (o4 C2.out (by omega)) _ _, blk_grow (o4 CA.out (by omega)) _ _, blk_grow (o4 CM.out (by omega)) _ _, ?_, ?_⟩
            · rw [HG.out]; exact blk_grow (blk_set (blk_set (blk_set (blk_set CY.out 0 _) 1 _) 2 _) 3 _) _ _
            · repeat (first | (with_reducible exact CB.out) | ((with_reducible refine below_grow ?_ ?_); rotate_left; focus (first | omega | (simp [go_sem]; done) | (simp [go_sem]; omega))) | ((with_reducible refine Below.alloc ?_ ?_ _); rotate_left; focus (first | omega | (simp [go_sem]; done) | (simp [go_sem]; omega))) | ((with_reducible refine Below.setCell ?_ ?_ _); rotate_left; focus (first | omega | (simp [go_sem]; done) | (simp [go_sem]; omega))) | (with_reducible refine Below.drew ?_) | (with_reducible refine below_drewN _ ?_))
          case measure => simp [intOf]; have := HL.out; omega
        · obtain rfl : s = 4 := by omega
          rw [Y4.out 0 (by decide), Y4.out 1 (by decide), Y4.out 2 (by decide), Y4.out 3 (by decide)] at cy
          haveI i1 : NeZero (inW q1 wr) := inW_mk (blk_lt c1)
          haveI i2 : NeZero (inW q2 wr) := inW_mk (blk_lt c2)
          haveI ia : NeZero (inW qa wr) := inW_mk (blk_lt ca)
          haveI ib : NeZero (inW qb wr) := inW_mk (blk_lt cm)
          haveI iy : NeZero (inW qy wr) := inW_mk (blk_lt cy)
          have kp0 : wr.cell? ⟨q1, 0, none⟩ = some (.int .u64 (p 0 : Nat)) := blk_cell c1 0
          have kp1 : wr.cell? ⟨q1, 1, none⟩ = some (.int .u64 (p 1 : Nat)) := blk_cell c1 1
          have kp2 : wr.cell? ⟨q1, 2, none⟩ = some (.int .u64 (p 2 : Nat)) := blk_cell c1 2
          have kp3 : wr.cell? ⟨q1, 3, none⟩ = some (.int .u64 (p 3 : Nat)) := blk_cell c1 3
          have kx0 : wr.cell? ⟨q2, 0, none⟩ = some (.int .u64 (x 0 : Nat)) := blk_cell c2 0
          have kx1 : wr.cell? ⟨q2, 1, none⟩ = some (.int .u64 (x 1 : Nat)) := blk_cell c2 1
          have kx2 : wr.cell? ⟨q2, 2, none⟩ = some (.int .u64 (x 2 : Nat)) := blk_cell c2 2
          have kx3 : wr.cell? ⟨q2, 3, none⟩ = some (.int .u64 (x 3 : Nat)) := blk_cell c2 3
          have ka0 : wr.cell? ⟨qa, 0, none⟩ = some (.int .u32 (pt m 0)) := blk_cell ca 0
          have ka1 : wr.cell? ⟨qa, 1, none⟩ = some (.int .u32 (pt m 1)) := blk_cell ca 1
          have ka2 : wr.cell? ⟨qa, 2, none⟩ = some (.int .u32 (pt m 2)) := blk_cell ca 2
          have ka3 : wr.cell? ⟨qa, 3, none⟩ = some (.int .u32 (pt m 3)) := blk_cell ca 3
          have kb0 : wr.cell? ⟨qb, 0, none⟩ = some (.int .u32 (pt m 0)) := blk_cell cm 0
          have kb1 : wr.cell? ⟨qb, 1, none⟩ = some (.int .u32 (pt m 1)) := blk_cell cm 1
          have kb2 : wr.cell? ⟨qb, 2, none⟩ = some (.int .u32 (pt m 2)) := blk_cell cm 2
          have kb3 : wr.cell? ⟨qb, 3, none⟩ = some (.int .u32 (pt m 3)) := blk_cell cm 3
          have ky0 : wr.cell? ⟨qy, 0, none⟩ = some (.int .u64 (p 0 : Nat)) := blk_cell cy 0
          have ky1 : wr.cell? ⟨qy, 1, none⟩ = some (.int .u64 (p 1 : Nat)) := blk_cell cy 1
          have ky2 : wr.cell? ⟨qy, 2, none⟩ = some (.int .u64 (p 2 : Nat)) := blk_cell cy 2
          have ky3 : wr.cell? ⟨qy, 3, none⟩ = some (.int .u64 (p 3 : Nat)) := blk_cell cy 3
          clear c1 c2 ca cm cy hlt hs
          go_upto_region 16 with fail
          go_region_held3 (fun w' => w'.cell? ⟨q1, 0, none⟩ = some (.int .u64 (p 0 : Nat)) ∧ w'.cell? ⟨q1, 1, none⟩ = some (.int .u64 (p 1 : Nat)) ∧ w'.cell? ⟨q1, 2, none⟩ = some (.int .u64 (p 2 : Nat)) ∧ w'.cell? ⟨q1, 3, none⟩ = some (.int .u64 (p 3 : Nat)) ∧ w'.cell? ⟨q2, 0, none⟩ = some (.int .u64 (x 0 : Nat)) ∧ w'.cell? ⟨q2, 1, none⟩ = some (.int .u64 (x 1 : Nat)) ∧ w'.cell? ⟨q2, 2, none⟩ = some (.int .u64 (x 2 : Nat)) ∧ w'.cell? ⟨q2, 3, none⟩ = some (.int .u64 (x 3 : Nat)) ∧ w'.cell? ⟨qa, 0, none⟩ = some (.int .u32 (pt m 0)) ∧ w'.cell? ⟨qa, 1, none⟩ = some (.int .u32 (pt m 1)) ∧ w'.cell? ⟨qa, 2, none⟩ = some (.int .u32 (pt m 2)) ∧ w'.cell? ⟨qa, 3, none⟩ = some (.int .u32 (pt m 3)) ∧ w'.cell? ⟨qb, 0, none⟩ = some (.int .u32 (pt m 0)) ∧ w'.cell? ⟨qb, 1, none⟩ = some (.int .u32 (pt m 1)) ∧ w'.cell? ⟨qb, 2, none⟩ = some (.int .u32 (pt m 2)) ∧ w'.cell? ⟨qb, 3, none⟩ = some (.int .u32 (pt m 3)) ∧ w'.cell? ⟨qy, 0, none⟩ = some (.int .u64 (p 0 : Nat)) ∧ w'.cell? ⟨qy, 1, none⟩ = some (.int .u64 (p 1 : Nat)) ∧ w'.cell? ⟨qy, 2, none⟩ = some (.int .u64 (p 2 : Nat)) ∧ w'.cell? ⟨qy, 3, none⟩ = some (.int .u64 (p 3 : Nat))) (simp [*, go_sem])
            (first | (go_at_call_of 21 (Value.int .i64 b); refine (TB.out _).mono ?_; rintro e w9 ⟨rfl, hbel⟩; obtain ⟨o6, j6, rfl⟩ := grow_of_below hbel; clear hbel) | (go_at_call_of 21 (Value.int .i64 c); refine (TC.out _).mono ?_; rintro e w9 ⟨rfl, hbel⟩; obtain ⟨o7, j7, rfl⟩ := grow_of_below hbel; clear hbel) | (go_at_call_of 21 (Value.int .i64 d); refine (TD.out _).mono ?_; rintro e w9 ⟨rfl, hbel⟩; obtain ⟨o8, j8, rfl⟩ := grow_of_below hbel; clear hbel) | (go_at_call 16; refine (AW.out _).mono ?_; rintro e w9 ⟨rfl, hbel⟩; obtain ⟨o9, j9, rfl⟩ := grow_of_below hbel; clear hbel))
          have hcs := cb.size
          go_wp2
          refine bodyPost_ret (by simp [results, Try.results5, go_sem]) rfl ⟨rfl, ?_⟩
          repeat (first | (with_reducible exact cb) | ((with_reducible refine below_grow ?_ ?_); rotate_left; focus (first | omega | (simp [go_sem]; done) | (simp [go_sem]; omega))) | ((with_reducible refine Below.alloc ?_ ?_ _); rotate_left; focus (first | omega | (simp [go_sem]; done) | (simp [go_sem]; omega))) | ((with_reducible refine Below.setCell ?_ ?_ _); rotate_left; focus (first | omega | (simp [go_sem]; done) | (simp [go_sem]; omega))) | (with_reducible refine Below.drew ?_) | (with_reducible refine below_drewN _ ?_))
end Go.Proofs.Ytgcfkhpondemlaa.Ca
