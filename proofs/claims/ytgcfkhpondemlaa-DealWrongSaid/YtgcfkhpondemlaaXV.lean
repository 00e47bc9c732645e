/- DealWrong: the walk. -/
import Derived.Test.YtgcfkhpondemlaaXV1
import Derived.Lib.MinMax
namespace Go.Proofs.Ytgcfkhpondemlaa.Ca
open Go.RowKit
open Go.Proofs.Ytgcfkhpondemlaa.Ha (SlB od)
open Go.Proofs.DB (ct bt Pd Rd lack wo Dj)

theorem tn_rd {d : Nat → Nat} (k : Int) (h : Rd d) : Rd (tn d k) := by
  refine ⟨⟨fun i hi => h.lt _ (by omega), fun i hi => h.few _ (by omega), fun i j hij hj => ?_⟩, fun i hi => h.all _ (by omega)⟩
  obtain ⟨a, ha⟩ : ∃ a, (((i : Int) - k) % 4).toNat = a := ⟨_, rfl⟩
  obtain ⟨b, hb⟩ : ∃ a, (((j : Int) - k) % 4).toNat = a := ⟨_, rfl⟩
  show Dj (d (((i : Int) - k) % 4).toNat) (d (((j : Int) - k) % 4).toNat)
  rw [ha, hb]
  rcases Nat.lt_or_ge a b with l | l
  · exact h.dj a b l (by omega)
  · exact (h.dj b a (by omega) (by omega)).symm
theorem first_out {d : Nat → Nat} (h : Rd d) : ¬ bits .andNot .u64 (d 0 : Int) (tn d 1 0 : Int) = 0 := by
  rw [show tn d 1 0 = d 3 from rfl]
  have l0 := Nat.lt_trans (h.lt 0 (by decide)) (show 2 ^ 52 < 18446744073709551616 by decide)
  have l3 := Nat.lt_trans (h.lt 3 (by decide)) (show 2 ^ 52 < 18446744073709551616 by decide)
  rw [u64_andNot_nat _ _ l0 l3, DB.and_not_wo l0 l3]
  have e : wo (d 0) (d 3) = d 0 := DB.bt_ext fun j => by
    rw [DB.bt_wo _ l0]
    have := h.dj 0 3 (by decide) (by decide) j
    have := DB.bt_lt2 (d 0) j
    omega
  rw [e]
  have a := h.all 0 (by decide)
  intro z
  have z0 : d 0 = 0 := by omega
  rw [z0, DB.ct_end (L := 0) (c := 52) fun t _ => by simp [bt]] at a
  omega
set_option maxRecDepth 100000 in
set_option maxHeartbeats 16000000 in
theorem dealWrong_walk (v : Value) (xs : List Nat) (hx8 : ∀ x ∈ xs, x < 256) (out how0 k0 n : Int) (ho : 0 ≤ out ∧ out ≤ 18446744073709551615) (hh0 : 0 ≤ how0 ∧ how0 ≤ 255) (hk0 : 0 ≤ k0 ∧ k0 ≤ 255) (hn : -9223372036854775808 ≤ n ∧ n ≤ 9223372036854775807) (w : World) (hS : SlB w v xs) :
    Calls Try.prog 7 #[v, .int .u64 out, .int .u8 how0, .int .u8 k0, .int .i64 n] w fun e w' => e = .returned (.bool true) ∧ Below w.heap.size w w' := by
  obtain ⟨o, rfl⟩ := Int.eq_ofNat_of_zero_le ho.1
  obtain ⟨how, rfl⟩ := Int.eq_ofNat_of_zero_le hh0.1
  obtain ⟨k, rfl⟩ := Int.eq_ofNat_of_zero_le hk0.1
  have T0 := Lib.hid (fun W hW => torn_calls v xs o (by omega) hx8 W (slb_below hS hW))
  have M0 := Lib.hid (fun W hW => made_calls v xs hx8 W (slb_below hS hW))
  have hp := tD_pd xs o
  have hd := mD_rd xs
  obtain ⟨p, hpp⟩ : ∃ p, tD xs o = p := ⟨_, rfl⟩
  obtain ⟨d, hdd⟩ : ∃ p, mD xs = p := ⟨_, rfl⟩
  rw [hpp] at T0 hp
  rw [hdd] at M0 hd
  have ek : IntKind.i64.wrap (k : Int) = (k : Int) := IntWalk.i64_in _ (by omega)
  have ek2 : (k : Int).tmod 4 = ((k % 4 : Nat) : Int) := by rw [Int.tmod_eq_emod_of_nonneg (by omega)]; omega
  have ek3 : (k : Int) % 4 = ((k % 4 : Nat) : Int) := by omega
  have eh : (how : Int).tmod 3 = ((how % 3 : Nat) : Int) := by rw [Int.tmod_eq_emod_of_nonneg (by omega)]; omega
  have eh3 : (how : Int) % 3 = ((how % 3 : Nat) : Int) := by omega
  obtain ⟨i, hi⟩ : ∃ i, k % 4 = i := ⟨_, rfl⟩
  obtain ⟨h, hh⟩ : ∃ i, how % 3 = i := ⟨_, rfl⟩
  rw [hi] at ek2 ek3
  rw [hh] at eh eh3
  have hi4 : i < 4 := by omega
  have hh3 : h < 3 := by omega
  have eh4 : IntKind.u8.wrap (h : Int) = (h : Int) := u8_wrap (by omega) (by omega)
  have ei4 : IntKind.i64.wrap (i : Int) = (i : Int) := IntWalk.i64_in _ (by omega)
  have HK := Lib.hid hk0
  have HP := Lib.hid hp
  have HD := Lib.hid hd
  have HN := Lib.hid hn
  have HI := Lib.hid hi4
  have HH := Lib.hid hh3
  clear hS hx8 hpp hdd hp hd hi hh hk0 hh0 ho hn hi4 hh3
  go_enter Try.func7, Try.ntmps7
  go_upto_region 4 with (first | (go_at_call 8; refine (M0.out _ (by repeat (first | (with_reducible exact Below.refl _ _) | ((with_reducible refine below_grow ?_ ?_); rotate_left; focus (first | omega | (simp [go_sem]; done) | (simp [go_sem]; omega))) | ((with_reducible refine Below.alloc ?_ ?_ _); rotate_left; focus (first | omega | (simp [go_sem]; done) | (simp [go_sem]; omega))) | ((with_reducible refine Below.setCell ?_ ?_ _); rotate_left; focus (first | omega | (simp [go_sem]; done) | (simp [go_sem]; omega))) | (with_reducible refine Below.drew ?_) | (with_reducible refine below_drewN _ ?_)))).mono ?_; rintro e w9 ⟨rfl, hbel⟩; obtain ⟨o1, j1, rfl⟩ := grow_of_below hbel; clear hbel) | (go_at_call 9; refine (T0.out _ (by repeat (first | (with_reducible exact Below.refl _ _) | ((with_reducible refine below_grow ?_ ?_); rotate_left; focus (first | omega | (simp [go_sem]; done) | (simp [go_sem]; omega))) | ((with_reducible refine Below.alloc ?_ ?_ _); rotate_left; focus (first | omega | (simp [go_sem]; done) | (simp [go_sem]; omega))) | ((with_reducible refine Below.setCell ?_ ?_ _); rotate_left; focus (first | omega | (simp [go_sem]; done) | (simp [go_sem]; omega))) | (with_reducible refine Below.drew ?_) | (with_reducible refine below_drewN _ ?_)))).mono ?_; rintro e w9 ⟨rfl, hbel⟩; obtain ⟨o2, j2, rfl⟩ := grow_of_below hbel; clear hbel))
  generalize hV : World.alloc _ _ = V
  generalize hq11 : w.heap.size + sz (o1 ++ o2) = q11 at *
  generalize hq12 : q11 + 1 = q12 at *
  generalize hq13 : q12 + 1 = q13 at *
  have b1 : blk V q11 (#[.int .u64 (d 0 : Nat), .int .u64 (d 1 : Nat), .int .u64 (d 2 : Nat), .int .u64 (d 3 : Nat)]) 28 := by rw [← hV]; exact blk_alloc (blk_alloc (blk_at _ _ _ (by rw [← hq11]; simp [go_sem])) _) _
  have b2 : blk V q12 (#[.int .u64 (p 0 : Nat), .int .u64 (p 1 : Nat), .int .u64 (p 2 : Nat), .int .u64 (p 3 : Nat)]) 28 := by rw [← hV]; exact blk_alloc (blk_at _ _ _ (by rw [← hq12, ← hq11]; simp [go_sem])) _
  have b3 : blk V q13 (#[.int .u64 (d 0 : Nat), .int .u64 (d 1 : Nat), .int .u64 (d 2 : Nat), .int .u64 (d 3 : Nat)]) 28 := by rw [← hV]; exact blk_at _ _ _ (by rw [← hq13, ← hq12, ← hq11]; simp [go_sem])
  have bb : Below w.heap.size w V := by rw [← hV]; repeat (first | (with_reducible exact Below.refl _ _) | ((with_reducible refine below_grow ?_ ?_); rotate_left; focus (first | omega | (simp [go_sem]; done) | (simp [go_sem]; omega))) | ((with_reducible refine Below.alloc ?_ ?_ _); rotate_left; focus (first | omega | (simp [go_sem]; done) | (simp [go_sem]; omega))) | ((with_reducible refine Below.setCell ?_ ?_ _); rotate_left; focus (first | omega | (simp [go_sem]; done) | (simp [go_sem]; omega))) | (with_reducible refine Below.drew ?_) | (with_reducible refine below_drewN _ ?_))
  have nn : ¬ q13 = q11 ∧ ¬ q13 = q12 ∧ ¬ q12 = q11 := by omega
  have lw : w.heap.size ≤ q11 ∧ q11 < q12 ∧ q12 < q13 := by omega
  clear hV hq11 hq12 hq13 T0 M0
  go_cut [42] (fun s42 wx => s42 = .int .u8 h ∧ wx = V)
  case first =>
    go_wp2
    go_meet
    exact ⟨rfl, rfl⟩
  case rest =>
  obtain ⟨rfl, rfl⟩ := hcut
  rename World => V
  go_step
  go_cut [15] (fun _ wx => ∃ bad : Nat → Nat, ¬ Pd bad ∧ (∀ j, j < 4 → bad j < 18446744073709551616) ∧ blk wx q11 (#[.int .u64 (d 0 : Nat), .int .u64 (d 1 : Nat), .int .u64 (d 2 : Nat), .int .u64 (d 3 : Nat)]) 28 ∧ blk wx q12 (#[.int .u64 (p 0 : Nat), .int .u64 (p 1 : Nat), .int .u64 (p 2 : Nat), .int .u64 (p 3 : Nat)]) 28 ∧ blk wx q13 (#[.int .u64 (bad 0 : Nat), .int .u64 (bad 1 : Nat), .int .u64 (bad 2 : Nat), .int .u64 (bad 3 : Nat)]) 28 ∧ Below w.heap.size w wx)
  case first =>
    rcases (show h = 0 ∨ h = 1 ∨ h = 2 by have := HH.out; omega) with rfl | rfl | rfl
    · have kd := dcell b3 i HI.out
      have f3 : ∀ j, V.frozen? ⟨q13, j, none⟩ = false := fun j => blk_free b3 j
      haveI i13 : NeZero (inW q13 V) := inW_mk (blk_lt b3)
      have hi4 := HI.out
      have hi4' : (i : Int) < 4 := by omega
      have hdl := HD.out.lt i hi4
      have hk0 := HK.out
      obtain ⟨g, hg⟩ : ∃ g, 52 + k % 12 = g := ⟨_, rfl⟩
      have hgl : 52 ≤ g ∧ g < 64 := by omega
      have e1 : (k : Int).tmod 12 = ((k % 12 : Nat) : Int) := by rw [Int.tmod_eq_emod_of_nonneg (by omega)]; omega
      have e1' : (k : Int) % 12 = ((k % 12 : Nat) : Int) := by omega
      obtain ⟨r, hr⟩ : ∃ r, k % 12 = r := ⟨_, rfl⟩
      rw [hr] at e1 e1' hg
      have e2 : IntKind.u8.wrap (r : Int) = (r : Int) := u8_wrap (by omega) (by omega)
      have e3 : IntKind.u8.wrap (52 + (r : Int)) = (g : Int) := by rw [← hg]; exact u8_wrap (by omega) (by omega)
      have hmn : min g 64 = g := by omega
      have e4 := Ha.wrap_pow g hgl.2
      have hg64 : 2 ^ g < 18446744073709551616 := Nat.pow_lt_pow_right (show 1 < 2 by decide) hgl.2
      have e5 := u64_or_nat (d i) (2 ^ g) (Nat.lt_trans hdl (by decide)) hg64
      have hlt : d i ||| 2 ^ g < 18446744073709551616 := Nat.or_lt_two_pow (n := 64) (Nat.lt_trans hdl (by decide)) hg64
      have df := Lib.hid (defect0 (d := d) i g hi4 hgl.1)
      have dl := Lib.hid (up_lt (d := d) (i := i) (fun j hj => Nat.lt_trans (HD.out.lt j hj) (show 2 ^ 52 < 18446744073709551616 by decide)) hlt)
      have df2 := Lib.hid (fun j => show up d i (d i ||| 2 ^ g) j = if j = i then d i ||| 2 ^ g else d j from rfl)
      obtain ⟨bad, hbad⟩ : ∃ bad, up d i (d i ||| 2 ^ g) = bad := ⟨_, rfl⟩
      rw [hbad] at df dl df2
      obtain ⟨y, hy⟩ : ∃ y, d i ||| 2 ^ g = y := ⟨_, rfl⟩
      obtain ⟨x, hx⟩ : ∃ y, d i = y := ⟨_, rfl⟩
      obtain ⟨z, hz⟩ : ∃ y, 2 ^ g = y := ⟨_, rfl⟩
      rw [hy] at df2
      rw [hy, hx, hz] at e5
      rw [hz] at e4
      rw [hx] at kd
      have B1 := Lib.hid b1; have B2 := Lib.hid b2; have B3 := Lib.hid b3; have BB := Lib.hid bb
      have N := Lib.hid nn; have LW := Lib.hid lw
      clear b1 b2 b3 bb nn lw hi4 hk0 hdl hr hbad hy hx hz hg hgl hg64 hlt
      go_wp2
      go_meet
      have nn := N.out; have lw := LW.out
      refine ⟨bad, df.out, dl.out, blk_other B1.out nn.1 _, blk_other B2.out nn.2.1 _, ?_, ?_⟩
      · have h := blk_set B3.out i (.int .u64 (y : Nat))
        rwa [dc_set d bad i y HI.out df2.out] at h
      · repeat (first | (with_reducible exact BB.out) | ((with_reducible refine below_grow ?_ ?_); rotate_left; focus (first | omega | (simp [go_sem]; done) | (simp [go_sem]; omega))) | ((with_reducible refine Below.alloc ?_ ?_ _); rotate_left; focus (first | omega | (simp [go_sem]; done) | (simp [go_sem]; omega))) | ((with_reducible refine Below.setCell ?_ ?_ _); rotate_left; focus (first | omega | (simp [go_sem]; done) | (simp [go_sem]; omega))) | (with_reducible refine Below.drew ?_) | (with_reducible refine below_drewN _ ?_))
    · have hi4 := HI.out
      obtain ⟨j, hj⟩ : ∃ j, (i + 1) % 4 = j := ⟨_, rfl⟩
      have hj4 : j < 4 := by omega
      have hij : i ≠ j := by omega
      have hi4' : (i : Int) < 4 := by omega
      have hj4' : (j : Int) < 4 := by omega
      have e1 : IntKind.i64.wrap ((i : Int) + 1) = (i : Int) + 1 := IntWalk.i64_in _ (by omega)
      have e2 : ((i : Int) + 1).tmod 4 = (j : Int) := by rw [Int.tmod_eq_emod_of_nonneg (by omega)]; omega
      have e2' : ((i : Int) + 1) % 4 = (j : Int) := by omega
      have e3 : IntKind.i64.wrap (j : Int) = (j : Int) := IntWalk.i64_in _ (by omega)
      have kd := dcell b3 i hi4
      have kj := dcell b3 j hj4
      have f3 : ∀ j, V.frozen? ⟨q13, j, none⟩ = false := fun j => blk_free b3 j
      haveI i13 : NeZero (inW q13 V) := inW_mk (blk_lt b3)
      have d64 : ∀ j, j < 4 → d j < 18446744073709551616 := fun j hj => Nat.lt_trans (HD.out.lt j hj) (by decide)
      have e5 := u64_or_nat (d i) (d j) (d64 i hi4) (d64 j hj4)
      have hlt : d i ||| d j < 18446744073709551616 := Nat.or_lt_two_pow (n := 64) (d64 i hi4) (d64 j hj4)
      have df := Lib.hid (defect1 HD.out i j hi4 hj4 hij)
      have dl := Lib.hid (up_lt (d := up d i (d i ||| d j)) (i := j) (up_lt (d := d) (i := i) d64 hlt) (show 0 < 18446744073709551616 by decide))
      have df1 := Lib.hid (fun t => show up d i (d i ||| d j) t = if t = i then d i ||| d j else d t from rfl)
      have df2 := Lib.hid (fun t => show up (up d i (d i ||| d j)) j 0 t = if t = j then 0 else up d i (d i ||| d j) t from rfl)
      obtain ⟨b0, hb0⟩ : ∃ bad, up d i (d i ||| d j) = bad := ⟨_, rfl⟩
      rw [hb0] at df dl df1 df2
      obtain ⟨bad, hbad⟩ : ∃ bad, up b0 j 0 = bad := ⟨_, rfl⟩
      rw [hbad] at df dl df2
      obtain ⟨y, hy⟩ : ∃ y, d i ||| d j = y := ⟨_, rfl⟩
      obtain ⟨x, hx⟩ : ∃ y, d i = y := ⟨_, rfl⟩
      obtain ⟨z, hz⟩ : ∃ y, d j = y := ⟨_, rfl⟩
      rw [hy] at df1 e5
      rw [hx, hz] at e5
      rw [hx] at kd
      rw [hz] at kj
      have n01 : ¬ ((1 : Nat) : Int) = 0 := by decide
      have HJ := Lib.hid hj4
      have B1 := Lib.hid b1; have B2 := Lib.hid b2; have B3 := Lib.hid b3; have BB := Lib.hid bb
      have N := Lib.hid nn; have LW := Lib.hid lw
      clear b1 b2 b3 bb nn lw hi4 hb0 hbad hy hx hz hlt d64 hj hj4
      go_upto_region 8 with fail
      go_region
      all_goals go_wp2
      all_goals go_meet
      all_goals
        have nn := N.out; have lw := LW.out
        refine ⟨bad, df.out, dl.out, blk_other (blk_other B1.out nn.1 _) nn.1 _, blk_other (blk_other B2.out nn.2.1 _) nn.2.1 _, ?_, ?_⟩
        · have h := blk_set B3.out i (.int .u64 (y : Nat))
          rw [dc_set d b0 i y HI.out df1.out] at h
          have h2 := blk_set h j (.int .u64 (0 : Nat))
          rwa [dc_set b0 bad j 0 HJ.out df2.out] at h2
        · repeat (first | (with_reducible exact BB.out) | ((with_reducible refine below_grow ?_ ?_); rotate_left; focus (first | omega | (simp [go_sem]; done) | (simp [go_sem]; omega))) | ((with_reducible refine Below.alloc ?_ ?_ _); rotate_left; focus (first | omega | (simp [go_sem]; done) | (simp [go_sem]; omega))) | ((with_reducible refine Below.setCell ?_ ?_ _); rotate_left; focus (first | omega | (simp [go_sem]; done) | (simp [go_sem]; omega))) | (with_reducible refine Below.drew ?_) | (with_reducible refine below_drewN _ ?_))
    · have hi4 := HI.out
      obtain ⟨j, hj⟩ : ∃ j, (i + 1) % 4 = j := ⟨_, rfl⟩
      have hj4 : j < 4 := by omega
      have hij : i ≠ j := by omega
      have hi4' : (i : Int) < 4 := by omega
      have hj4' : (j : Int) < 4 := by omega
      have e1 : IntKind.i64.wrap ((i : Int) + 1) = (i : Int) + 1 := IntWalk.i64_in _ (by omega)
      have e2 : ((i : Int) + 1).tmod 4 = (j : Int) := by rw [Int.tmod_eq_emod_of_nonneg (by omega)]; omega
      have e2' : ((i : Int) + 1) % 4 = (j : Int) := by omega
      have e3 : IntKind.i64.wrap (j : Int) = (j : Int) := IntWalk.i64_in _ (by omega)
      have kd := dcell b1 i hi4
      have kj := dcell b3 j hj4
      have f3 : ∀ j, V.frozen? ⟨q13, j, none⟩ = false := fun j => blk_free b3 j
      haveI i13 : NeZero (inW q13 V) := inW_mk (blk_lt b3)
      haveI i11 : NeZero (inW q11 V) := inW_mk (blk_lt b1)
      have d64 : ∀ j, j < 4 → d j < 18446744073709551616 := fun j hj => Nat.lt_trans (HD.out.lt j hj) (by decide)
      have pos : ∀ j, j < 4 → 0 < d j := fun j hj => by
        have := HD.out.all j hj
        rcases Nat.eq_zero_or_pos (d j) with z | z
        · rw [z, DB.ct_end (L := 0) (c := 52) fun t _ => by simp [bt]] at this; omega
        · exact z
      have pi := pos i hi4; have pj := pos j hj4; have li := d64 i hi4; have lj := d64 j hj4
      have df := Lib.hid (defect2 HD.out i j (d j &&& (d j - 1)) hi4 hj4 hij)
      obtain ⟨x, hx⟩ : ∃ y, d i = y := ⟨_, rfl⟩
      obtain ⟨z, hz⟩ : ∃ y, d j = y := ⟨_, rfl⟩
      rw [hx] at df kd pi li
      rw [hz] at df kj pj lj
      have e4 : IntKind.u64.wrap (-(x : Int)) = ((18446744073709551616 - x : Nat) : Int) := by
        have : IntKind.u64.wrap (-(x : Int)) = (-(x : Int)) % 18446744073709551616 := rfl
        rw [this]; omega
      have e5 := u64_and_nat x (18446744073709551616 - x) li (by omega)
      have e6 : IntKind.u64.wrap ((z : Int) - 1) = ((z - 1 : Nat) : Int) := by
        have : IntKind.u64.wrap ((z : Int) - 1) = ((z : Int) - 1) % 18446744073709551616 := rfl
        rw [this]; omega
      have e7 := u64_and_nat z (z - 1) lj (by omega)
      have lc : x &&& (18446744073709551616 - x) < 18446744073709551616 := Nat.lt_of_le_of_lt Nat.and_le_left li
      have ly : z &&& (z - 1) < 18446744073709551616 := Nat.lt_of_le_of_lt Nat.and_le_left lj
      have e8 := u64_or_nat _ _ ly lc
      have dl := Lib.hid (up_lt (d := d) (i := j) d64 (Nat.or_lt_two_pow (n := 64) ly lc))
      have df2 := Lib.hid (fun t => show up d j ((z &&& (z - 1)) ||| (x &&& (18446744073709551616 - x))) t = if t = j then ((z &&& (z - 1)) ||| (x &&& (18446744073709551616 - x))) else d t from rfl)
      obtain ⟨bad, hbad⟩ : ∃ bad, up d j ((z &&& (z - 1)) ||| (x &&& (18446744073709551616 - x))) = bad := ⟨_, rfl⟩
      rw [hbad] at df dl df2
      obtain ⟨c, hc⟩ : ∃ c, x &&& (18446744073709551616 - x) = c := ⟨_, rfl⟩
      obtain ⟨r, hr⟩ : ∃ c, z &&& (z - 1) = c := ⟨_, rfl⟩
      rw [hc] at e5 e8 df2
      rw [hr] at e7 e8 df2
      obtain ⟨y, hy⟩ : ∃ e, r ||| c = e := ⟨_, rfl⟩
      rw [hy] at e8 df2
      obtain ⟨nx, hnx⟩ : ∃ c, 18446744073709551616 - x = c := ⟨_, rfl⟩
      obtain ⟨z1, hz1⟩ : ∃ c, z - 1 = c := ⟨_, rfl⟩
      rw [hnx] at e4 e5
      rw [hz1] at e6 e7
      have n01 : ¬ ((2 : Nat) : Int) = 0 := by decide
      have HJ := Lib.hid hj4
      have B1 := Lib.hid b1; have B2 := Lib.hid b2; have B3 := Lib.hid b3; have BB := Lib.hid bb
      have N := Lib.hid nn; have LW := Lib.hid lw
      clear b1 b2 b3 bb nn lw hi4 hbad hx hz d64 hj hj4 hc hr hy hnx hz1 pos pi pj li lj ly lc
      go_upto_region 10 with fail
      go_region
      all_goals go_upto_region 11 with fail
      all_goals go_region
      all_goals go_wp2
      all_goals go_meet
      all_goals
        have nn := N.out; have lw := LW.out
        refine ⟨bad, df.out, dl.out, blk_other B1.out nn.1 _, blk_other B2.out nn.2.1 _, ?_, ?_⟩
        · have h := blk_set B3.out j (.int .u64 (y : Nat))
          rwa [dc_set d bad j y HJ.out df2.out] at h
        · repeat (first | (with_reducible exact BB.out) | ((with_reducible refine below_grow ?_ ?_); rotate_left; focus (first | omega | (simp [go_sem]; done) | (simp [go_sem]; omega))) | ((with_reducible refine Below.alloc ?_ ?_ _); rotate_left; focus (first | omega | (simp [go_sem]; done) | (simp [go_sem]; omega))) | ((with_reducible refine Below.setCell ?_ ?_ _); rotate_left; focus (first | omega | (simp [go_sem]; done) | (simp [go_sem]; omega))) | (with_reducible refine Below.drew ?_) | (with_reducible refine below_drewN _ ?_))
  case rest =>
    rename World => wx
    clear b1 b2 b3 bb
    obtain ⟨bad, hbad, h64, b1, b2, b3, bb⟩ := hcut
    have hp := HP.out
    have hd := HD.out
    have d64 : ∀ j, j < 4 → d j < 18446744073709551616 := fun j hj => Nat.lt_trans (hd.lt j hj) (by decide)
    have LN := Lib.hid (left_no bad h64 hbad)
    have WN := Lib.hid (ways_no bad h64 hbad)
    have CN := Lib.hid (complete_no bad 0 h64 hbad)
    simp only [pt_zero] at CN
    have IN1 := Lib.hid (index_nol bad d h64 hbad)
    have IN2 := Lib.hid (index_nor p bad hp h64 hbad)
    have RN := Lib.hid (random_no 1 bad (by unfold Se.St; omega) h64 hbad)
    have TN := Lib.hid (text_no bad h64 hbad)
    have RI := Lib.hid (dright_no bad h64 hbad)
    have PN := Lib.hid (partial_no bad h64 hbad)
    have TU := Lib.hid (turn_calls d 1 (by decide) (by decide))
    have AW := Lib.hid awake_calls
    haveI i11 : NeZero (inW q11 wx) := inW_mk (blk_lt b1)
    haveI i12 : NeZero (inW q12 wx) := inW_mk (blk_lt b2)
    haveI i13 : NeZero (inW q13 wx) := inW_mk (blk_lt b3)
    have kd0 : wx.cell? ⟨q11, 0, none⟩ = some (.int .u64 (d 0 : Nat)) := blk_cell b1 0
    have kd1 : wx.cell? ⟨q11, 1, none⟩ = some (.int .u64 (d 1 : Nat)) := blk_cell b1 1
    have kd2 : wx.cell? ⟨q11, 2, none⟩ = some (.int .u64 (d 2 : Nat)) := blk_cell b1 2
    have kd3 : wx.cell? ⟨q11, 3, none⟩ = some (.int .u64 (d 3 : Nat)) := blk_cell b1 3
    have kp0 : wx.cell? ⟨q12, 0, none⟩ = some (.int .u64 (p 0 : Nat)) := blk_cell b2 0
    have kp1 : wx.cell? ⟨q12, 1, none⟩ = some (.int .u64 (p 1 : Nat)) := blk_cell b2 1
    have kp2 : wx.cell? ⟨q12, 2, none⟩ = some (.int .u64 (p 2 : Nat)) := blk_cell b2 2
    have kp3 : wx.cell? ⟨q12, 3, none⟩ = some (.int .u64 (p 3 : Nat)) := blk_cell b2 3
    have kb0 : wx.cell? ⟨q13, 0, none⟩ = some (.int .u64 (bad 0 : Nat)) := blk_cell b3 0
    have kb1 : wx.cell? ⟨q13, 1, none⟩ = some (.int .u64 (bad 1 : Nat)) := blk_cell b3 1
    have kb2 : wx.cell? ⟨q13, 2, none⟩ = some (.int .u64 (bad 2 : Nat)) := blk_cell b3 2
    have kb3 : wx.cell? ⟨q13, 3, none⟩ = some (.int .u64 (bad 3 : Nat)) := blk_cell b3 3
    have B1 := Lib.hid b1; have B2 := Lib.hid b2; have B3 := Lib.hid b3; have BB := Lib.hid bb
    have HB := Lib.hid hbad; have H64 := Lib.hid h64; have D64 := Lib.hid d64
    have hbs := bb.size
    clear b1 b2 b3 bb hp hd hbad h64 d64
    go_upto_region 16 with (first | (go_at_call 17; refine (LN.out _).mono ?_; rintro e w9 ⟨rfl, hbel⟩; obtain ⟨o3, j3, rfl⟩ := grow_of_below hbel; clear hbel) | (go_at_call 10; refine (WN.out _).mono ?_; rintro e w9 ⟨rfl, hbel⟩; obtain ⟨o4, j4, rfl⟩ := grow_of_below hbel; clear hbel) | (go_at_call 12; refine (CN.out _).mono ?_; rintro e w9 ⟨rfl, hbel⟩; obtain ⟨o5, j5, rfl⟩ := grow_of_below hbel; clear hbel) | (go_at_call 11; refine (IN1.out _).mono ?_; rintro e w9 ⟨rfl, hbel⟩; obtain ⟨o6, j6, rfl⟩ := grow_of_below hbel; clear hbel))
    go_upto_region 19 with (first | (go_at_call 11; refine (IN2.out _).mono ?_; rintro e w9 ⟨rfl, hbel⟩; obtain ⟨o7, j7, rfl⟩ := grow_of_below hbel; clear hbel) | (go_at_call 23; refine (RN.out _).mono ?_; rintro e w9 ⟨rfl, hbel⟩; obtain ⟨o8, j8, rfl⟩ := grow_of_below hbel; clear hbel) | (go_at_call 26; refine (TN.out _).mono ?_; rintro e w9 ⟨rfl, hbel⟩; obtain ⟨o9, j9, rfl⟩ := grow_of_below hbel; clear hbel))
    generalize hX : grow _ _ _ = X
    have c1 : blk X q11 (#[.int .u64 (d 0 : Nat), .int .u64 (d 1 : Nat), .int .u64 (d 2 : Nat), .int .u64 (d 3 : Nat)]) 28 := by rw [← hX]; with_reducible repeat (first | (with_reducible exact B1.out) | (with_reducible exact set4 B1.out _ _ _ _) | (with_reducible refine blk_grow ?_ _ _) | (with_reducible refine blk_alloc ?_ _) | (with_reducible refine blk_drew ?_) | (with_reducible refine blk_other ?_ (by (first | omega | (simp [go_sem]; done) | (simp [go_sem]; omega))) _))
    have c2 : blk X q12 (#[.int .u64 (p 0 : Nat), .int .u64 (p 1 : Nat), .int .u64 (p 2 : Nat), .int .u64 (p 3 : Nat)]) 28 := by rw [← hX]; with_reducible repeat (first | (with_reducible exact B2.out) | (with_reducible exact set4 B2.out _ _ _ _) | (with_reducible refine blk_grow ?_ _ _) | (with_reducible refine blk_alloc ?_ _) | (with_reducible refine blk_drew ?_) | (with_reducible refine blk_other ?_ (by (first | omega | (simp [go_sem]; done) | (simp [go_sem]; omega))) _))
    have c3 : blk X q13 (#[.int .u64 (bad 0 : Nat), .int .u64 (bad 1 : Nat), .int .u64 (bad 2 : Nat), .int .u64 (bad 3 : Nat)]) 28 := by rw [← hX]; with_reducible repeat (first | (with_reducible exact B3.out) | (with_reducible exact set4 B3.out _ _ _ _) | (with_reducible refine blk_grow ?_ _ _) | (with_reducible refine blk_alloc ?_ _) | (with_reducible refine blk_drew ?_) | (with_reducible refine blk_other ?_ (by (first | omega | (simp [go_sem]; done) | (simp [go_sem]; omega))) _))
    have cb : Below w.heap.size w X := by rw [← hX]; repeat (first | (with_reducible exact BB.out) | ((with_reducible refine below_grow ?_ ?_); rotate_left; focus (first | omega | (simp [go_sem]; done) | (simp [go_sem]; omega))) | ((with_reducible refine Below.alloc ?_ ?_ _); rotate_left; focus (first | omega | (simp [go_sem]; done) | (simp [go_sem]; omega))) | ((with_reducible refine Below.setCell ?_ ?_ _); rotate_left; focus (first | omega | (simp [go_sem]; done) | (simp [go_sem]; omega))) | (with_reducible refine Below.drew ?_) | (with_reducible refine below_drewN _ ?_))
    clear hX kd0 kd1 kd2 kd3 kp0 kp1 kp2 kp3 kb0 kb1 kb2 kb3 hbs i11 i12 i13 B1 B2 B3 BB LN WN CN IN1 IN2 RN TN
    haveI i11 : NeZero (inW q11 X) := inW_mk (blk_lt c1)
    haveI i12 : NeZero (inW q12 X) := inW_mk (blk_lt c2)
    haveI i13 : NeZero (inW q13 X) := inW_mk (blk_lt c3)
    have kd0 : X.cell? ⟨q11, 0, none⟩ = some (.int .u64 (d 0 : Nat)) := blk_cell c1 0
    have kd1 : X.cell? ⟨q11, 1, none⟩ = some (.int .u64 (d 1 : Nat)) := blk_cell c1 1
    have kd2 : X.cell? ⟨q11, 2, none⟩ = some (.int .u64 (d 2 : Nat)) := blk_cell c1 2
    have kd3 : X.cell? ⟨q11, 3, none⟩ = some (.int .u64 (d 3 : Nat)) := blk_cell c1 3
    have kp0 : X.cell? ⟨q12, 0, none⟩ = some (.int .u64 (p 0 : Nat)) := blk_cell c2 0
    have kp1 : X.cell? ⟨q12, 1, none⟩ = some (.int .u64 (p 1 : Nat)) := blk_cell c2 1
    have kp2 : X.cell? ⟨q12, 2, none⟩ = some (.int .u64 (p 2 : Nat)) := blk_cell c2 2
    have kp3 : X.cell? ⟨q12, 3, none⟩ = some (.int .u64 (p 3 : Nat)) := blk_cell c2 3
    have kb0 : X.cell? ⟨q13, 0, none⟩ = some (.int .u64 (bad 0 : Nat)) := blk_cell c3 0
    have kb1 : X.cell? ⟨q13, 1, none⟩ = some (.int .u64 (bad 1 : Nat)) := blk_cell c3 1
    have kb2 : X.cell? ⟨q13, 2, none⟩ = some (.int .u64 (bad 2 : Nat)) := blk_cell c3 2
    have kb3 : X.cell? ⟨q13, 3, none⟩ = some (.int .u64 (bad 3 : Nat)) := blk_cell c3 3
    have hbs := cb.size
    have CB := Lib.hid cb
    have hn := HN.out
    have TR := tn_rd (d := d) 1 HD.out
    have hx := first_out HD.out
    have XN := Lib.hid (index_none d (tn d 1) HD.out.toPd TR _ rfl hx)
    have R1 := Lib.hid (random_state (min n 0) bad (by omega))
    have R2 := Lib.hid (random_state (max n 2147483647) p (by omega))
    obtain ⟨t, ht⟩ : ∃ t, tn d 1 = t := ⟨_, rfl⟩
    rw [ht] at TU XN
    clear c1 c2 c3 cb hn TR hx ht
    go_upto_region 21 with (first | (go_at_call 15; refine (RI.out _).mono ?_; rintro e w9 ⟨rfl, hbel⟩; obtain ⟨o10, j10, rfl⟩ := grow_of_below hbel; clear hbel) | (go_at_call 18; refine (PN.out _).mono ?_; rintro e w9 ⟨rfl, hbel⟩; obtain ⟨o11, j11, rfl⟩ := grow_of_below hbel; clear hbel))
    go_upto_region 23 with (first | (go_at_call 21; refine (TU.out _).mono ?_; rintro e w9 ⟨rfl, hbel⟩; obtain ⟨o12, j12, rfl⟩ := grow_of_below hbel; clear hbel) | (go_at_call 11; refine (XN.out _).mono ?_; rintro e w9 ⟨rfl, hbel⟩; obtain ⟨o13, j13, rfl⟩ := grow_of_below hbel; clear hbel))
    go_upto_region 24 with (go_at_call 23; refine (R1.out _).mono ?_; rintro e w9 ⟨rfl, hbel⟩; obtain ⟨o14, j14, rfl⟩ := grow_of_below hbel; clear hbel)
    go_upto_region 25 with (go_at_call 23; refine (R2.out _).mono ?_; rintro e w9 ⟨rfl, hbel⟩; obtain ⟨o15, j15, rfl⟩ := grow_of_below hbel; clear hbel)
    go_wp2_with (go_at_call 16; refine (AW.out _).mono ?_; rintro e w9 ⟨rfl, hbel⟩; obtain ⟨o16, j16, rfl⟩ := grow_of_below hbel; clear hbel)
    refine bodyPost_ret (by simp [results, Try.results7, go_sem]) rfl ⟨rfl, ?_⟩
    repeat (first | (with_reducible exact CB.out) | ((with_reducible refine below_grow ?_ ?_); rotate_left; focus (first | omega | (simp [go_sem]; done) | (simp [go_sem]; omega))) | ((with_reducible refine Below.alloc ?_ ?_ _); rotate_left; focus (first | omega | (simp [go_sem]; done) | (simp [go_sem]; omega))) | ((with_reducible refine Below.setCell ?_ ?_ _); rotate_left; focus (first | omega | (simp [go_sem]; done) | (simp [go_sem]; omega))) | (with_reducible refine Below.drew ?_) | (with_reducible refine below_drewN _ ?_))
end Go.Proofs.Ytgcfkhpondemlaa.Ca
