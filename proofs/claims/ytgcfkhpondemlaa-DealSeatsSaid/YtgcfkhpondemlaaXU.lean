/- DealSeats: the walk. -/
import Derived.Test.YtgcfkhpondemlaaXU0
namespace Go.Proofs.Ytgcfkhpondemlaa.Ca
open Go.RowKit
open Go.Proofs.Ytgcfkhpondemlaa.Ha (SlB od)
open Go.Proofs.DB (Pd Rd bt lack put left)

set_option maxRecDepth 100000 in
set_option maxHeartbeats 16000000 in
theorem dealSeats_walk (v : Value) (xs : List Nat) (hx8 : ∀ x ∈ xs, x < 256) (out c0 : Int) (ho : 0 ≤ out ∧ out ≤ 18446744073709551615) (hc0 : 0 ≤ c0 ∧ c0 ≤ 255) (w : World) (hS : SlB w v xs) :
    Calls Try.prog 4 #[v, .int .u64 out, .int .u8 c0] w fun e w' => e = .returned (.bool true) ∧ Below w.heap.size w w' := by
  obtain ⟨o, rfl⟩ := Int.eq_ofNat_of_zero_le ho.1
  obtain ⟨c1, rfl⟩ := Int.eq_ofNat_of_zero_le hc0.1
  obtain ⟨c, hcc⟩ : ∃ c, c1 % 52 = c := ⟨_, rfl⟩
  have hc : c < 52 := by omega
  have e1 : (c1 : Int).tmod 52 = (c : Int) := by rw [Int.tmod_eq_emod_of_nonneg (by omega)]; omega
  have e1' : (c1 : Int) % 52 = (c : Int) := by omega
  have e2 : IntKind.u8.wrap (c : Int) = (c : Int) := u8_wrap (by omega) (by omega)
  have hmn : min c 64 = c := by omega
  have e3 := Ha.wrap_pow c (by omega)
  have hz52 : 2 ^ c < 2 ^ 52 := Nat.pow_lt_pow_right (by decide) hc
  have ho64 : o < 18446744073709551616 := by omega
  have e4 := u64_or_nat o (2 ^ c) ho64 (by omega)
  have hO64 : (o ||| 2 ^ c) < 18446744073709551616 := Nat.or_lt_two_pow (n := 64) ho64 (by omega)
  have T0 := Lib.hid (fun W hW => torn_calls v xs (o ||| 2 ^ c) hO64 hx8 W (slb_below hS hW))
  have M0 := Lib.hid (fun W hW => made_calls v xs hx8 W (slb_below hS hW))
  have hp := tD_pd xs (o ||| 2 ^ c)
  have hd := mD_rd xs
  have hleft := left_torn xs (o ||| 2 ^ c)
  obtain ⟨p, hpp⟩ : ∃ p, tD xs (o ||| 2 ^ c) = p := ⟨_, rfl⟩
  obtain ⟨d, hdd⟩ : ∃ p, mD xs = p := ⟨_, rfl⟩
  rw [hpp] at T0 hp hleft
  rw [hdd] at M0 hd
  have hL : left p = o % 4503599627370496 ||| 2 ^ c := by
    rw [hleft]
    refine DB.bt_ext_lt (Nat.mod_lt _ (by decide)) (Nat.or_lt_two_pow (Nat.mod_lt _ (by decide)) hz52) fun j hj => ?_
    rw [DB.bt_mod _ j hj, DB.bt_or, DB.bt_or, ← DB.bt_mod o j hj]
  have hlb : bt (left p) c = 1 := by
    rw [hL, DB.bt_or, DB.bt_pow, if_pos rfl]
    have := DB.bt_lt2 (o % 4503599627370496) c
    omega
  have e5 : (o : Int).tmod 4503599627370496 = ((o % 4503599627370496 : Nat) : Int) := rfl
  have e5' : (o : Int) % 4503599627370496 = ((o % 4503599627370496 : Nat) : Int) := rfl
  have e6 := u64_or_nat (o % 4503599627370496) (2 ^ c) (by omega) (by omega)
  rw [← hL] at e6
  have e7 : ((left p : Nat) : Int) / (2 : Int) ^ c = ((left p / 2 ^ c : Nat) : Int) := by simp
  have e8 : bits .and .u64 ((left p / 2 ^ c : Nat) : Int) 1 = 1 := by
    have := u64_and_nat (left p / 2 ^ c) 1 (Nat.lt_of_le_of_lt (Nat.div_le_self _ _) (Nat.lt_of_lt_of_le (DB.left_lt p) (by decide))) (by decide)
    rw [Nat.and_one_is_mod, show left p / 2 ^ c % 2 = 1 from hlb] at this
    exact this
  have LF := Lib.hid (left_yes p hp)
  have WP := Lib.hid (ways_yes p hp)
  have S4 := Lib.hid (sS_all hp hc hlb)
  have none := fun i hi => DB.left_none hp hc hlb i hi
  have PL := fun s hs => DB.put_pd hp hc hlb s hs
  have PN := fun s hs => DB.put_no hp hc hlb s hs
  have hq64 : ∀ s, s < 4 → ∀ i, i < 4 → put p s (2 ^ c) i < 18446744073709551616 := fun s hs i hi => by
    have := hp.lt i hi
    unfold put
    split <;> omega
  have PUT := Lib.hid (fun s (hs : s < 4) => show ∀ j, put p s (2 ^ c) j = if j = s then (p s + 2 ^ c) else p j from fun j => by
    by_cases e : j = s
    · subst e; rw [if_pos rfl, DB.put_at]
    · rw [if_neg e, DB.put_other p e])
  have OR := Lib.hid (fun s (hs : s < 4) => show bits .or .u64 (p s : Int) ((2 ^ c : Nat) : Int) = ((p s + 2 ^ c : Nat) : Int) by
    have := hp.lt s hs
    rw [u64_or_nat _ _ (by omega) (by omega), DB.or_eq_add (DB.dj_pow (none s hs))])
  have WN := Lib.hid (fun s (hs : s < 4) (h : lack p s = 0) => ways_no (put p s (2 ^ c)) (hq64 s hs) (PN s hs h))
  have PNO := Lib.hid (fun s (hs : s < 4) (h : lack p s = 0) => partial_no (put p s (2 ^ c)) (hq64 s hs) (PN s hs h))
  have WY := Lib.hid (fun s (hs : s < 4) (h : 0 < lack p s) => ways_yes (put p s (2 ^ c)) (PL s hs h))
  have OW := Lib.hid (fun s (hs : s < 4) => owner_calls (put p s (2 ^ c)) (hq64 s hs) c s hc hs (by
      rw [DB.put_at, DB.bt_add c (DB.dj_pow (none s hs)), none s hs, DB.bt_pow, if_pos rfl]) (fun i hi => by
      rw [DB.put_other p (by omega)]; exact none i (by omega)))
  have SN := Lib.hid (fun s (hs : s ≤ 4) => show isN (sS p (2 ^ c) s) by
    have h1 := sS_le4 p (2 ^ c) s hs
    have h2 := S4.out
    have h3 := ways_le p
    unfold isN; omega)
  have WSN := Lib.hid (fun s => show isN (DB.ways bin (put p s (2 ^ c))) from Wv_isN _ 0)
  have W1 := Lib.hid (ways_yes d hd.toPd)
  rw [DB.ways_right pas_bin hd] at W1
  simp only [show pt 1 0 = 1 from rfl, show pt 1 1 = 0 from rfl, show pt 1 2 = 0 from rfl, show pt 1 3 = 0 from rfl] at W1
  have C0 := Lib.hid (complete_yes d 0 hd.toPd (by rw [DB.ways_right pas_bin hd]; decide) d fun i hi => (DB.complete_self pas_bin hd i hi).symm)
  simp only [pt_zero] at C0
  have AW := Lib.hid awake_calls
  obtain ⟨m, hm⟩ : ∃ m, DB.ways bin p = m := ⟨_, rfl⟩
  rw [hm] at WP S4
  obtain ⟨L, hLL⟩ : ∃ m, left p = m := ⟨_, rfl⟩
  rw [hLL] at e6 e7 e8 LF
  obtain ⟨z, hz⟩ : ∃ m, 2 ^ c = m := ⟨_, rfl⟩
  rw [hz] at e3 e4 e6 e7 e8 S4 PUT OR WN PNO WY OW SN WSN T0
  obtain ⟨O, hO⟩ : ∃ m, o ||| z = m := ⟨_, rfl⟩
  rw [hO] at e4 T0
  obtain ⟨om, hom⟩ : ∃ m, o % 4503599627370496 = m := ⟨_, rfl⟩
  rw [hom] at e5 e5' e6
  obtain ⟨lz, hlz⟩ : ∃ m, L / z = m := ⟨_, rfl⟩
  rw [hlz] at e7 e8
  have eq4 := eqD
  have eqn := eqN
  have HC := Lib.hid hc
  clear hS hx8 hpp hdd hp hd hleft hL hlb none PL PN hq64 hm hLL hz hO hom hlz hz52 ho64 hO64 ho hc0 hcc hc
  go_enter Try.func4, Try.ntmps4
  go_upto_region 7 with (first | (go_at_call 9; refine (T0.out _ (by repeat (first | (with_reducible exact Below.refl _ _) | ((with_reducible refine below_grow ?_ ?_); rotate_left; focus (first | omega | (simp [go_sem]; done) | (simp [go_sem]; omega))) | ((with_reducible refine Below.alloc ?_ ?_ _); rotate_left; focus (first | omega | (simp [go_sem]; done) | (simp [go_sem]; omega))) | ((with_reducible refine Below.setCell ?_ ?_ _); rotate_left; focus (first | omega | (simp [go_sem]; done) | (simp [go_sem]; omega))) | (with_reducible refine Below.drew ?_) | (with_reducible refine below_drewN _ ?_)))).mono ?_; rintro e w9 ⟨rfl, hbel⟩; obtain ⟨o1, j1, rfl⟩ := grow_of_below hbel; clear hbel) | (go_at_call 17; refine (LF.out _).mono ?_; rintro e w9 ⟨rfl, hbel⟩; obtain ⟨o2, j2, rfl⟩ := grow_of_below hbel; clear hbel) | (go_at_call 10; refine (WP.out _).mono ?_; rintro e w9 ⟨rfl, hbel⟩; obtain ⟨o3, j3, rfl⟩ := grow_of_below hbel; clear hbel))
  generalize hV : World.alloc (grow _ (o2 ++ o3) j3) _ = V
  generalize hq2 : w.heap.size + sz o1 + 1 + sz (o2 ++ o3) = q10 at *
  generalize hq1 : w.heap.size + sz o1 = q7 at *
  have b1 : blk V q7 (#[.int .u64 (p 0 : Nat), .int .u64 (p 1 : Nat), .int .u64 (p 2 : Nat), .int .u64 (p 3 : Nat)]) 28 := by rw [← hV]; exact blk_alloc (blk_grow (blk_at _ _ _ (by rw [← hq1]; simp [go_sem])) _ _) _
  have b2 : blk V q10 (#[.int .u32 (pt m 0), .int .u32 (pt m 1), .int .u32 (pt m 2), .int .u32 (pt m 3)]) 26 := by rw [← hV]; exact blk_at _ _ _ (by rw [← hq2, ← hq1]; simp [go_sem])
  have bb : Below w.heap.size w V := by rw [← hV]; repeat (first | (with_reducible exact Below.refl _ _) | ((with_reducible refine below_grow ?_ ?_); rotate_left; focus (first | omega | (simp [go_sem]; done) | (simp [go_sem]; omega))) | ((with_reducible refine Below.alloc ?_ ?_ _); rotate_left; focus (first | omega | (simp [go_sem]; done) | (simp [go_sem]; omega))) | ((with_reducible refine Below.setCell ?_ ?_ _); rotate_left; focus (first | omega | (simp [go_sem]; done) | (simp [go_sem]; omega))) | (with_reducible refine Below.drew ?_) | (with_reducible refine below_drewN _ ?_))
  have l12 : w.heap.size ≤ q7 ∧ q7 < q10 := by omega
  clear hV hq1 hq2 T0 LF WP
  go_upto_region 8 with fail
  generalize hV : World.alloc V _ = X
  have hl10 := blk_lt b2
  generalize hq12 : V.heap.size = q12 at *
  have c1 : blk X q7 (#[.int .u64 (p 0 : Nat), .int .u64 (p 1 : Nat), .int .u64 (p 2 : Nat), .int .u64 (p 3 : Nat)]) 28 := by rw [← hV]; exact blk_alloc b1 _
  have c2 : blk X q10 (#[.int .u32 (pt m 0), .int .u32 (pt m 1), .int .u32 (pt m 2), .int .u32 (pt m 3)]) 26 := by rw [← hV]; exact blk_alloc b2 _
  have c3 : blk X q12 #[.int .u32 0, .int .u32 0, .int .u32 0, .int .u32 0] 26 := by rw [← hV]; exact blk_at _ _ _ (by rw [← hq12])
  have cb : Below w.heap.size w X := by rw [← hV]; repeat (first | (with_reducible exact bb) | ((with_reducible refine below_grow ?_ ?_); rotate_left; focus (first | omega | (simp [go_sem]; done) | (simp [go_sem]; omega))) | ((with_reducible refine Below.alloc ?_ ?_ _); rotate_left; focus (first | omega | (simp [go_sem]; done) | (simp [go_sem]; omega))) | ((with_reducible refine Below.setCell ?_ ?_ _); rotate_left; focus (first | omega | (simp [go_sem]; done) | (simp [go_sem]; omega))) | (with_reducible refine Below.drew ?_) | (with_reducible refine below_drewN _ ?_))
  have n1 : ¬ q7 = q10 ∧ ¬ q7 = q12 ∧ ¬ q10 = q12 := by omega
  have l3 : q10 < q12 := hl10
  clear hV b1 b2 bb hl10 hq12 V
  go_upto_region 9 with fail
  go_loopw [62, 13, 14, 15, 16, 17, 18] (fun s62 _ _ _ _ _ _ wr => ∃ s : Nat, s ≤ 4 ∧ s62 = .int .i64 s ∧ blk wr q7 (#[.int .u64 (p 0 : Nat), .int .u64 (p 1 : Nat), .int .u64 (p 2 : Nat), .int .u64 (p 3 : Nat)]) 28 ∧ blk wr q10 (#[.int .u32 (pt m 0), .int .u32 (pt m 1), .int .u32 (pt m 2), .int .u32 (pt m 3)]) 26 ∧ blk wr q12 (#[.int .u32 (pt (sS p z s) 0), .int .u32 (pt (sS p z s) 1), .int .u32 (pt (sS p z s) 2), .int .u32 (pt (sS p z s) 3)]) 26 ∧ Below w.heap.size w wr) (fun s62 _ _ _ _ _ _ _ => 4 - (intOf s62).toNat)
  case atStart => exact ⟨0, by decide, rfl, c1, c2, (by show blk X q12 (#[.int .u32 (pt 0 0), .int .u32 (pt 0 1), .int .u32 (pt 0 2), .int .u32 (pt 0 3)]) _; simp only [pt_zero]; exact c3), cb⟩
  case round =>
    clear c1 c2 c3 cb
    obtain ⟨s, hs, rfl, c1, c2, c3, cb⟩ := hrel
    by_cases hlt : s < 4
    · have hlt2 : (s : Int) < 4 := by omega
      have e0 : IntKind.i64.wrap ((s : Int) + 1) = (s : Int) + 1 := IntWalk.i64_in _ (by omega)
      haveI i1 : NeZero (inW q7 wr) := inW_mk (blk_lt c1)
      have kp0 : wr.cell? ⟨q7, 0, none⟩ = some (.int .u64 (p 0 : Nat)) := blk_cell c1 0
      have kp1 : wr.cell? ⟨q7, 1, none⟩ = some (.int .u64 (p 1 : Nat)) := blk_cell c1 1
      have kp2 : wr.cell? ⟨q7, 2, none⟩ = some (.int .u64 (p 2 : Nat)) := blk_cell c1 2
      have kp3 : wr.cell? ⟨q7, 3, none⟩ = some (.int .u64 (p 3 : Nat)) := blk_cell c1 3
      go_upto_region 12 with fail
      generalize hV : World.alloc wr _ = V
      have hl12 := blk_lt c3
      generalize hq14 : wr.heap.size = q14 at *
      have d1 : blk V q7 (#[.int .u64 (p 0 : Nat), .int .u64 (p 1 : Nat), .int .u64 (p 2 : Nat), .int .u64 (p 3 : Nat)]) 28 := by rw [← hV]; exact blk_alloc c1 _
      have d2 : blk V q10 (#[.int .u32 (pt m 0), .int .u32 (pt m 1), .int .u32 (pt m 2), .int .u32 (pt m 3)]) 26 := by rw [← hV]; exact blk_alloc c2 _
      have d3 : blk V q12 (#[.int .u32 (pt (sS p z s) 0), .int .u32 (pt (sS p z s) 1), .int .u32 (pt (sS p z s) 2), .int .u32 (pt (sS p z s) 3)]) 26 := by rw [← hV]; exact blk_alloc c3 _
      have d4 : blk V q14 (#[.int .u64 (p 0 : Nat), .int .u64 (p 1 : Nat), .int .u64 (p 2 : Nat), .int .u64 (p 3 : Nat)]) 28 := by rw [← hV]; exact blk_at _ _ _ (by rw [← hq14])
      have db : Below w.heap.size w V := by rw [← hV]; repeat (first | (with_reducible exact cb) | ((with_reducible refine below_grow ?_ ?_); rotate_left; focus (first | omega | (simp [go_sem]; done) | (simp [go_sem]; omega))) | ((with_reducible refine Below.alloc ?_ ?_ _); rotate_left; focus (first | omega | (simp [go_sem]; done) | (simp [go_sem]; omega))) | ((with_reducible refine Below.setCell ?_ ?_ _); rotate_left; focus (first | omega | (simp [go_sem]; done) | (simp [go_sem]; omega))) | (with_reducible refine Below.drew ?_) | (with_reducible refine below_drewN _ ?_))
      clear hV c1 c2 c3 cb i1 kp0 kp1 kp2 kp3
      have kd := dcell d4 s hlt
      have f4 : ∀ j, V.frozen? ⟨q14, j, none⟩ = false := fun j => blk_free d4 j
      haveI i4 : NeZero (inW q14 V) := inW_mk (blk_lt d4)
      have or := OR.out s hlt
      obtain ⟨ps, hps⟩ : ∃ x, p s = x := ⟨_, rfl⟩
      obtain ⟨pz, hpz⟩ : ∃ x, ps + z = x := ⟨_, rfl⟩
      rw [hps] at or kd
      rw [hpz] at or
      have HL := Lib.hid hlt
      have HS := Lib.hid hs
      have HP := Lib.hid hps; have HPZ := Lib.hid hpz
      have D1 := Lib.hid d1; have D2 := Lib.hid d2; have D3 := Lib.hid d3; have D4 := Lib.hid d4; have DB := Lib.hid db; have H14 := Lib.hid hq14; have L12 := Lib.hid hl12
      clear d1 d2 d3 d4 db hps hpz hlt hs hq14 hl12
      go_upto_region 13 with fail
      generalize hX2 : World.setCell V _ _ = Y
      have hlt := HL.out
      have hl12 := L12.out
      have nn : ¬ q14 = q7 ∧ ¬ q14 = q10 ∧ ¬ q14 = q12 := by omega
      have g1 : blk Y q7 (#[.int .u64 (p 0 : Nat), .int .u64 (p 1 : Nat), .int .u64 (p 2 : Nat), .int .u64 (p 3 : Nat)]) 28 := by rw [← hX2]; exact blk_other D1.out nn.1 _
      have g2 : blk Y q10 (#[.int .u32 (pt m 0), .int .u32 (pt m 1), .int .u32 (pt m 2), .int .u32 (pt m 3)]) 26 := by rw [← hX2]; exact blk_other D2.out nn.2.1 _
      have g3 : blk Y q12 (#[.int .u32 (pt (sS p z s) 0), .int .u32 (pt (sS p z s) 1), .int .u32 (pt (sS p z s) 2), .int .u32 (pt (sS p z s) 3)]) 26 := by rw [← hX2]; exact blk_other D3.out nn.2.2 _
      obtain ⟨e, he⟩ : ∃ e, put p s z = e := ⟨_, rfl⟩
      have g4 : blk Y q14 (#[.int .u64 (e 0 : Nat), .int .u64 (e 1 : Nat), .int .u64 (e 2 : Nat), .int .u64 (e 3 : Nat)]) 28 := by
        rw [← hX2]
        have h := blk_set D4.out s (.int .u64 (pz : Nat))
        rwa [dc_set p e s pz hlt (fun j => by rw [← he, PUT.out s hlt j, HP.out, HPZ.out])] at h
      have gb : Below w.heap.size w Y := by rw [← hX2]; repeat (first | (with_reducible exact DB.out) | ((with_reducible refine below_grow ?_ ?_); rotate_left; focus (first | omega | (simp [go_sem]; done) | (simp [go_sem]; omega))) | ((with_reducible refine Below.alloc ?_ ?_ _); rotate_left; focus (first | omega | (simp [go_sem]; done) | (simp [go_sem]; omega))) | ((with_reducible refine Below.setCell ?_ ?_ _); rotate_left; focus (first | omega | (simp [go_sem]; done) | (simp [go_sem]; omega))) | (with_reducible refine Below.drew ?_) | (with_reducible refine below_drewN _ ?_))
      have ow := Lib.hid (OW.out s hlt)
      rw [he] at ow
      clear hX2 D1 D2 D3 D4 DB kd f4 i4 or HP HPZ
      have ke0 : Y.cell? ⟨q14, 0, none⟩ = some (.int .u64 (e 0 : Nat)) := blk_cell g4 0
      have ke1 : Y.cell? ⟨q14, 1, none⟩ = some (.int .u64 (e 1 : Nat)) := blk_cell g4 1
      have ke2 : Y.cell? ⟨q14, 2, none⟩ = some (.int .u64 (e 2 : Nat)) := blk_cell g4 2
      have ke3 : Y.cell? ⟨q14, 3, none⟩ = some (.int .u64 (e 3 : Nat)) := blk_cell g4 3
      have G4 := Lib.hid g4
      haveI i4 : NeZero (inW q14 Y) := inW_mk (blk_lt g4)
      by_cases hz : lack p s = 0
      · have wn := Lib.hid (WN.out s hlt hz)
        have pn := Lib.hid (PNO.out s hlt hz)
        rw [he] at wn pn
        have hsum : sS p z (s + 1) = sS p z s := by show sS p z s + sW p z s = _; unfold sW; rw [if_pos hz]; rfl
        have HSM := Lib.hid hsum
        have G1 := Lib.hid g1; have G2 := Lib.hid g2; have G3 := Lib.hid g3; have GB := Lib.hid gb
        have HH := Lib.hid nn; have HH2 := Lib.hid n1
        clear g1 g2 g3 g4 gb hz he hsum hlt ow hl12
        go_upto_region 14 with (go_at_call 10; refine (wn.out _).mono ?_; rintro e w9 ⟨rfl, hbel⟩; obtain ⟨o4, j4, rfl⟩ := grow_of_below hbel; clear hbel)
        go_wp2_with (go_at_call 18; refine (pn.out _).mono ?_; rintro e w9 ⟨rfl, hbel⟩; obtain ⟨o5, j5, rfl⟩ := grow_of_below hbel; clear hbel)
        go_roundw
        case rel => have hbs := GB.out.size; exact ⟨s + 1, HL.out, by go_num, blk_grow (blk_alloc (blk_grow G1.out _ _) _) _ _, blk_grow (blk_alloc (blk_grow G2.out _ _) _) _ _, by rw [HSM.out]; exact blk_grow (blk_alloc (blk_grow G3.out _ _) _) _ _, by repeat (first | (with_reducible exact GB.out) | ((with_reducible refine below_grow ?_ ?_); rotate_left; focus (first | omega | (simp [go_sem]; done) | (simp [go_sem]; omega))) | ((with_reducible refine Below.alloc ?_ ?_ _); rotate_left; focus (first | omega | (simp [go_sem]; done) | (simp [go_sem]; omega))) | ((with_reducible refine Below.setCell ?_ ?_ _); rotate_left; focus (first | omega | (simp [go_sem]; done) | (simp [go_sem]; omega))) | (with_reducible refine Below.drew ?_) | (with_reducible refine below_drewN _ ?_))⟩
        case measure => simp [intOf]; have := HL.out; omega
      · have wy := Lib.hid (WY.out s hlt (by omega))
        rw [he] at wy
        have hsum : sS p z s + DB.ways bin e = sS p z (s + 1) := by show _ = sS p z s + sW p z s; unfold sW; rw [if_neg hz, he]
        have wn := WSN.out s
        rw [he] at wn
        have AD := Lib.hid (Se.add_hyp _ _ _ (SN.out s HS.out) wn hsum (SN.out (s + 1) hlt))
        obtain ⟨t, ht⟩ : ∃ t, sS p z s = t := ⟨_, rfl⟩
        obtain ⟨t', ht'⟩ : ∃ t, sS p z (s + 1) = t := ⟨_, rfl⟩
        obtain ⟨n, hn⟩ : ∃ t, DB.ways bin e = t := ⟨_, rfl⟩
        rw [ht] at AD g3
        rw [ht', hn] at AD
        rw [hn] at wy
        have HT := Lib.hid ht'
        have e2 : IntKind.i64.wrap (s : Int) = (s : Int) := IntWalk.i64_in _ (by omega)
        clear g4 hz he hsum wn ht ht' hn
        have hl14 := blk_lt G4.out
        go_upto_region 14 with (go_at_call 10; refine (wy.out _).mono ?_; rintro e w9 ⟨rfl, hbel⟩; obtain ⟨o4, j4, rfl⟩ := grow_of_below hbel; clear hbel)
        have hbs := gb.size
        generalize hX3 : World.alloc (grow Y _ _) _ = Z
        generalize hq15 : Y.heap.size + sz o4 = q15 at *
        have u1 : blk Z q7 (#[.int .u64 (p 0 : Nat), .int .u64 (p 1 : Nat), .int .u64 (p 2 : Nat), .int .u64 (p 3 : Nat)]) 28 := by rw [← hX3]; exact blk_alloc (blk_grow g1 _ _) _
        have u2 : blk Z q10 (#[.int .u32 (pt m 0), .int .u32 (pt m 1), .int .u32 (pt m 2), .int .u32 (pt m 3)]) 26 := by rw [← hX3]; exact blk_alloc (blk_grow g2 _ _) _
        have u3 : blk Z q12 (#[.int .u32 (pt t 0), .int .u32 (pt t 1), .int .u32 (pt t 2), .int .u32 (pt t 3)]) 26 := by rw [← hX3]; exact blk_alloc (blk_grow g3 _ _) _
        have u4 : blk Z q14 (#[.int .u64 (e 0 : Nat), .int .u64 (e 1 : Nat), .int .u64 (e 2 : Nat), .int .u64 (e 3 : Nat)]) 28 := by rw [← hX3]; exact blk_alloc (blk_grow G4.out _ _) _
        have u5 : blk Z q15 (#[.int .u32 (pt n 0), .int .u32 (pt n 1), .int .u32 (pt n 2), .int .u32 (pt n 3)]) 26 := by rw [← hX3]; exact blk_at _ _ _ (by rw [← hq15]; simp [go_sem])
        have ub : Below w.heap.size w Z := by rw [← hX3]; repeat (first | (with_reducible exact gb) | ((with_reducible refine below_grow ?_ ?_); rotate_left; focus (first | omega | (simp [go_sem]; done) | (simp [go_sem]; omega))) | ((with_reducible refine Below.alloc ?_ ?_ _); rotate_left; focus (first | omega | (simp [go_sem]; done) | (simp [go_sem]; omega))) | ((with_reducible refine Below.setCell ?_ ?_ _); rotate_left; focus (first | omega | (simp [go_sem]; done) | (simp [go_sem]; omega))) | (with_reducible refine Below.drew ?_) | (with_reducible refine below_drewN _ ?_))
        have l15 : q14 < q15 := by omega
        clear hX3 g1 g2 g3 G4 gb i4 wy hq15 ke0 ke1 ke2 ke3 hl14 hbs hl12 hlt
        have ke0 : Z.cell? ⟨q14, 0, none⟩ = some (.int .u64 (e 0 : Nat)) := blk_cell u4 0
        have ke1 : Z.cell? ⟨q14, 1, none⟩ = some (.int .u64 (e 1 : Nat)) := blk_cell u4 1
        have ke2 : Z.cell? ⟨q14, 2, none⟩ = some (.int .u64 (e 2 : Nat)) := blk_cell u4 2
        have ke3 : Z.cell? ⟨q14, 3, none⟩ = some (.int .u64 (e 3 : Nat)) := blk_cell u4 3
        have kt0 : Z.cell? ⟨q12, 0, none⟩ = some (.int .u32 (pt t 0)) := blk_cell u3 0
        have kt1 : Z.cell? ⟨q12, 1, none⟩ = some (.int .u32 (pt t 1)) := blk_cell u3 1
        have kt2 : Z.cell? ⟨q12, 2, none⟩ = some (.int .u32 (pt t 2)) := blk_cell u3 2
        have kt3 : Z.cell? ⟨q12, 3, none⟩ = some (.int .u32 (pt t 3)) := blk_cell u3 3
        have kn0 : Z.cell? ⟨q15, 0, none⟩ = some (.int .u32 (pt n 0)) := blk_cell u5 0
        have kn1 : Z.cell? ⟨q15, 1, none⟩ = some (.int .u32 (pt n 1)) := blk_cell u5 1
        have kn2 : Z.cell? ⟨q15, 2, none⟩ = some (.int .u32 (pt n 2)) := blk_cell u5 2
        have kn3 : Z.cell? ⟨q15, 3, none⟩ = some (.int .u32 (pt n 3)) := blk_cell u5 3
        have f3 : ∀ j, Z.frozen? ⟨q12, j, none⟩ = false := fun j => blk_free u3 j
        haveI i14 : NeZero (inW q14 Z) := inW_mk (blk_lt u4)
        haveI i12 : NeZero (inW q12 Z) := inW_mk (blk_lt u3)
        haveI i15 : NeZero (inW q15 Z) := inW_mk (blk_lt u5)
        have U1 := Lib.hid u1; have U2 := Lib.hid u2; have U3 := Lib.hid u3; have UB := Lib.hid ub; have L15 := Lib.hid l15; have NN := Lib.hid nn; have N1 := Lib.hid n1; have L3 := Lib.hid l3; have LL := Lib.hid l12
        clear u1 u2 u3 u4 u5 ub nn n1 l15 l3 l12
        go_upto_region 18 with (go_at_call 19; refine (ow.out _).mono ?_; rintro e w9 ⟨rfl, hbel⟩; obtain ⟨o6, j6, rfl⟩ := grow_of_below hbel; clear hbel)
        go_wp2_with (go_at_call 20; refine (AD.out _).mono ?_; rintro e w9 ⟨rfl, hbel⟩; obtain ⟨o7, j7, rfl⟩ := grow_of_below hbel; clear hbel)
        go_roundw
        case rel =>
          have N1 := N1.out
          have hbs := UB.out.size
          have LL := LL.out; have L3 := L3.out
          refine ⟨s + 1, HL.out, by go_num, ?_, ?_, ?_, ?_⟩
          · exact blk_grow (blk_other (blk_other (blk_other (blk_other U1.out (by omega) _) (by omega) _) (by omega) _) (by omega) _) _ _
          · exact blk_grow (blk_other (blk_other (blk_other (blk_other U2.out (by omega) _) (by omega) _) (by omega) _) (by omega) _) _ _
          · rw [HT.out]; exact blk_grow (set4 U3.out _ _ _ _) _ _
          · repeat (first | (with_reducible exact UB.out) | ((with_reducible refine below_grow ?_ ?_); rotate_left; focus (first | omega | (simp [go_sem]; done) | (simp [go_sem]; omega))) | ((with_reducible refine Below.alloc ?_ ?_ _); rotate_left; focus (first | omega | (simp [go_sem]; done) | (simp [go_sem]; omega))) | ((with_reducible refine Below.setCell ?_ ?_ _); rotate_left; focus (first | omega | (simp [go_sem]; done) | (simp [go_sem]; omega))) | (with_reducible refine Below.drew ?_) | (with_reducible refine below_drewN _ ?_))
        case measure => simp [intOf]; have := HL.out; omega
    · obtain rfl : s = 4 := by omega
      rw [S4.out] at c3
      haveI i10 : NeZero (inW q10 wr) := inW_mk (blk_lt c2)
      haveI i12 : NeZero (inW q12 wr) := inW_mk (blk_lt c3)
      have km0 : wr.cell? ⟨q10, 0, none⟩ = some (.int .u32 (pt m 0)) := blk_cell c2 0
      have km1 : wr.cell? ⟨q10, 1, none⟩ = some (.int .u32 (pt m 1)) := blk_cell c2 1
      have km2 : wr.cell? ⟨q10, 2, none⟩ = some (.int .u32 (pt m 2)) := blk_cell c2 2
      have km3 : wr.cell? ⟨q10, 3, none⟩ = some (.int .u32 (pt m 3)) := blk_cell c2 3
      have kt0 : wr.cell? ⟨q12, 0, none⟩ = some (.int .u32 (pt m 0)) := blk_cell c3 0
      have kt1 : wr.cell? ⟨q12, 1, none⟩ = some (.int .u32 (pt m 1)) := blk_cell c3 1
      have kt2 : wr.cell? ⟨q12, 2, none⟩ = some (.int .u32 (pt m 2)) := blk_cell c3 2
      have kt3 : wr.cell? ⟨q12, 3, none⟩ = some (.int .u32 (pt m 3)) := blk_cell c3 3
      have CB := Lib.hid cb; have C2 := Lib.hid c2; have C3 := Lib.hid c3
      have hbs := cb.size
      clear hs hlt c1 c2 c3 cb OW WY PNO WN OR PUT SN WSN
      go_upto_region 23 with (first | (go_at_call 8; refine (M0.out _ (by repeat (first | (with_reducible exact CB.out) | ((with_reducible refine below_grow ?_ ?_); rotate_left; focus (first | omega | (simp [go_sem]; done) | (simp [go_sem]; omega))) | ((with_reducible refine Below.alloc ?_ ?_ _); rotate_left; focus (first | omega | (simp [go_sem]; done) | (simp [go_sem]; omega))) | ((with_reducible refine Below.setCell ?_ ?_ _); rotate_left; focus (first | omega | (simp [go_sem]; done) | (simp [go_sem]; omega))) | (with_reducible refine Below.drew ?_) | (with_reducible refine below_drewN _ ?_)))).mono ?_; rintro e w9 ⟨rfl, hbel⟩; obtain ⟨o4, j4, rfl⟩ := grow_of_below hbel; clear hbel) | (go_at_call 10; refine (W1.out _).mono ?_; rintro e w9 ⟨rfl, hbel⟩; obtain ⟨o5, j5, rfl⟩ := grow_of_below hbel; clear hbel) | (go_at_call 12; refine (C0.out _).mono ?_; rintro e w9 ⟨rfl, hbel⟩; obtain ⟨o6, j6, rfl⟩ := grow_of_below hbel; clear hbel))
      generalize hX : World.alloc (grow _ o6 j6) _ = X2
      generalize hq21 : wr.heap.size + sz o4 + 1 + sz o5 + 1 + sz o6 = q21 at *
      generalize hq20 : wr.heap.size + sz o4 + 1 + sz o5 = q20 at *
      generalize hq19 : wr.heap.size + sz o4 = q19 at *
      have d1 : blk X2 q10 (#[.int .u32 (pt m 0), .int .u32 (pt m 1), .int .u32 (pt m 2), .int .u32 (pt m 3)]) 26 := by rw [← hX]; exact blk_alloc (blk_grow (blk_alloc (blk_grow (blk_alloc (blk_grow C2.out _ _) _) _ _) _) _ _) _
      have d2 : blk X2 q12 (#[.int .u32 (pt m 0), .int .u32 (pt m 1), .int .u32 (pt m 2), .int .u32 (pt m 3)]) 26 := by rw [← hX]; exact blk_alloc (blk_grow (blk_alloc (blk_grow (blk_alloc (blk_grow C3.out _ _) _) _ _) _) _ _) _
      have d3 : blk X2 q19 (#[.int .u64 (d 0 : Nat), .int .u64 (d 1 : Nat), .int .u64 (d 2 : Nat), .int .u64 (d 3 : Nat)]) 28 := by rw [← hX]; exact blk_alloc (blk_grow (blk_alloc (blk_grow (blk_at _ _ _ (by rw [← hq19]; simp [go_sem])) _ _) _) _ _) _
      have d4 : blk X2 q20 #[.int .u32 1, .int .u32 0, .int .u32 0, .int .u32 0] 26 := by rw [← hX]; exact blk_alloc (blk_grow (blk_at _ _ _ (by rw [← hq20, ← hq19]; simp [go_sem])) _ _) _
      have d5 : blk X2 q21 (#[.int .u64 (d 0 : Nat), .int .u64 (d 1 : Nat), .int .u64 (d 2 : Nat), .int .u64 (d 3 : Nat)]) 28 := by rw [← hX]; exact blk_at _ _ _ (by rw [← hq21, ← hq20, ← hq19]; simp [go_sem])
      have db : Below w.heap.size w X2 := by rw [← hX]; repeat (first | (with_reducible exact CB.out) | ((with_reducible refine below_grow ?_ ?_); rotate_left; focus (first | omega | (simp [go_sem]; done) | (simp [go_sem]; omega))) | ((with_reducible refine Below.alloc ?_ ?_ _); rotate_left; focus (first | omega | (simp [go_sem]; done) | (simp [go_sem]; omega))) | ((with_reducible refine Below.setCell ?_ ?_ _); rotate_left; focus (first | omega | (simp [go_sem]; done) | (simp [go_sem]; omega))) | (with_reducible refine Below.drew ?_) | (with_reducible refine below_drewN _ ?_))
      clear hX hq21 hq20 hq19 i10 i12 km0 km1 km2 km3 kt0 kt1 kt2 kt3 CB hbs C2 C3 M0 W1 C0
      haveI i10 : NeZero (inW q10 X2) := inW_mk (blk_lt d1)
      haveI i12 : NeZero (inW q12 X2) := inW_mk (blk_lt d2)
      haveI i19 : NeZero (inW q19 X2) := inW_mk (blk_lt d3)
      haveI i20 : NeZero (inW q20 X2) := inW_mk (blk_lt d4)
      haveI i21 : NeZero (inW q21 X2) := inW_mk (blk_lt d5)
      have km0 : X2.cell? ⟨q10, 0, none⟩ = some (.int .u32 (pt m 0)) := blk_cell d1 0
      have km1 : X2.cell? ⟨q10, 1, none⟩ = some (.int .u32 (pt m 1)) := blk_cell d1 1
      have km2 : X2.cell? ⟨q10, 2, none⟩ = some (.int .u32 (pt m 2)) := blk_cell d1 2
      have km3 : X2.cell? ⟨q10, 3, none⟩ = some (.int .u32 (pt m 3)) := blk_cell d1 3
      have kt0 : X2.cell? ⟨q12, 0, none⟩ = some (.int .u32 (pt m 0)) := blk_cell d2 0
      have kt1 : X2.cell? ⟨q12, 1, none⟩ = some (.int .u32 (pt m 1)) := blk_cell d2 1
      have kt2 : X2.cell? ⟨q12, 2, none⟩ = some (.int .u32 (pt m 2)) := blk_cell d2 2
      have kt3 : X2.cell? ⟨q12, 3, none⟩ = some (.int .u32 (pt m 3)) := blk_cell d2 3
      have kd0 : X2.cell? ⟨q19, 0, none⟩ = some (.int .u64 (d 0 : Nat)) := blk_cell d3 0
      have kd1 : X2.cell? ⟨q19, 1, none⟩ = some (.int .u64 (d 1 : Nat)) := blk_cell d3 1
      have kd2 : X2.cell? ⟨q19, 2, none⟩ = some (.int .u64 (d 2 : Nat)) := blk_cell d3 2
      have kd3 : X2.cell? ⟨q19, 3, none⟩ = some (.int .u64 (d 3 : Nat)) := blk_cell d3 3
      have ko0 : X2.cell? ⟨q20, 0, none⟩ = some (.int .u32 1) := blk_cell d4 0
      have ko1 : X2.cell? ⟨q20, 1, none⟩ = some (.int .u32 0) := blk_cell d4 1
      have ko2 : X2.cell? ⟨q20, 2, none⟩ = some (.int .u32 0) := blk_cell d4 2
      have ko3 : X2.cell? ⟨q20, 3, none⟩ = some (.int .u32 0) := blk_cell d4 3
      have kx0 : X2.cell? ⟨q21, 0, none⟩ = some (.int .u64 (d 0 : Nat)) := blk_cell d5 0
      have kx1 : X2.cell? ⟨q21, 1, none⟩ = some (.int .u64 (d 1 : Nat)) := blk_cell d5 1
      have kx2 : X2.cell? ⟨q21, 2, none⟩ = some (.int .u64 (d 2 : Nat)) := blk_cell d5 2
      have kx3 : X2.cell? ⟨q21, 3, none⟩ = some (.int .u64 (d 3 : Nat)) := blk_cell d5 3
      have DB := Lib.hid db
      have hbs := db.size
      clear d1 d2 d3 d4 d5 db
      go_wp2_with (go_at_call 16; refine (AW.out _).mono ?_; rintro e w9 ⟨rfl, hbel⟩; obtain ⟨o7, j7, rfl⟩ := grow_of_below hbel; clear hbel)
      refine bodyPost_ret (by simp [results, Try.results4, go_sem]) rfl ⟨rfl, ?_⟩
      repeat (first | (with_reducible exact DB.out) | ((with_reducible refine below_grow ?_ ?_); rotate_left; focus (first | omega | (simp [go_sem]; done) | (simp [go_sem]; omega))) | ((with_reducible refine Below.alloc ?_ ?_ _); rotate_left; focus (first | omega | (simp [go_sem]; done) | (simp [go_sem]; omega))) | ((with_reducible refine Below.setCell ?_ ?_ _); rotate_left; focus (first | omega | (simp [go_sem]; done) | (simp [go_sem]; omega))) | (with_reducible refine Below.drew ?_) | (with_reducible refine below_drewN _ ?_))
end Go.Proofs.Ytgcfkhpondemlaa.Ca
