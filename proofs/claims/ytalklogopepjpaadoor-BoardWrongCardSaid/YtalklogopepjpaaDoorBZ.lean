/- BoardWrong: the walk. -/
import Derived.Test.YtalklogopepjpaaDoorBZ0
import Derived.Test.YtalklogopepjpaaDoorBS
import Derived.Test.YtalklogopepjpaaDoorYN
import Derived.Lib.MinMax
import Derived.Deep.RegionHeld3
namespace Go.Proofs.YtalklogopepjpaaDoor.Ca
open Go.RowKit
open Go.Proofs.DB (Rd Same dlr vul wo)
open Go.Proofs.YtalklogopepjpaaDoor.Ha (SlB)

theorem two_sld (X : World) (p q : Nat → Nat) (L : Nat → Nat → Nat) (h0 : L 0 = p) (h1 : L 1 = q) (b : Nat) (hb : b = X.heap.size) : SlD (X.alloc (.cells #[.int .u64 (p 0 : Nat), .int .u64 (p 1 : Nat), .int .u64 (p 2 : Nat), .int .u64 (p 3 : Nat), .int .u64 (q 0 : Nat), .int .u64 (q 1 : Nat), .int .u64 (q 2 : Nat), .int .u64 (q 3 : Nat)] 39)) (.slice (some ⟨b, 0, none⟩) 2 2) L 2 := by
  subst hb h0 h1
  refine ⟨_, _, rfl, .inr ⟨_, rfl, by simp, fun j hj i hi => ?_⟩⟩
  rw [blk_cell (blk_new _ _ _)]
  obtain rfl | rfl : j = 0 ∨ j = 1 := by omega
  all_goals
    obtain rfl | rfl | rfl | rfl : i = 0 ∨ i = 1 ∨ i = 2 ∨ i = 3 := by omega
    all_goals rfl
theorem two_classes (d b : Nat → Nat) (hd : Rd d) (d64 : B64 d) (hb : ¬ Rd b) (b64 : B64 b) (X : World) (t : Nat) (ht : t = X.heap.size) : Calls Tryd.prog 19 #[.slice (some ⟨t, 0, none⟩) 2 2] (X.alloc (.cells #[.int .u64 (d 0 : Nat), .int .u64 (d 1 : Nat), .int .u64 (d 2 : Nat), .int .u64 (d 3 : Nat), .int .u64 (b 0 : Nat), .int .u64 (b 1 : Nat), .int .u64 (b 2 : Nat), .int .u64 (b 3 : Nat)] 39)) fun e w' => e = .returned (.tuple #[.slice none 0 0, .int .i64 60]) ∧ Below (X.alloc (.cells #[.int .u64 (d 0 : Nat), .int .u64 (d 1 : Nat), .int .u64 (d 2 : Nat), .int .u64 (d 3 : Nat), .int .u64 (b 0 : Nat), .int .u64 (b 1 : Nat), .int .u64 (b 2 : Nat), .int .u64 (b 3 : Nat)] 39)).heap.size (X.alloc (.cells #[.int .u64 (d 0 : Nat), .int .u64 (d 1 : Nat), .int .u64 (d 2 : Nat), .int .u64 (d 3 : Nat), .int .u64 (b 0 : Nat), .int .u64 (b 1 : Nat), .int .u64 (b 2 : Nat), .int .u64 (b 3 : Nat)] 39)) w' := by
  obtain ⟨L, h0, h1⟩ : ∃ L : Nat → Nat → Nat, L 0 = d ∧ L 1 = b := ⟨fun j => match j with | 0 => d | _ => b, rfl, rfl⟩
  refine classes_no L 2 (by decide) _ 1 (by decide) (fun j hj => ?_) (by rw [h1]; exact hb) (fun j hj => ?_) _ (two_sld X d b L h0 h1 _ ht)
  · obtain rfl : j = 0 := by omega
    rw [h0]; exact hd
  · obtain rfl | rfl : j = 0 ∨ j = 1 := by omega
    · rw [h0]; exact d64
    · rw [h1]; exact b64
theorem infoDlZ : (Tryd.prog.info? 39).map (fun i => (i.zero, i.size, i.bytes)) = some (some (.agg #[.int .u64 0, .int .u64 0, .int .u64 0, .int .u64 0]), 4, 32) := by kernel_rfl
def zz : Array Value := madeCells #[.int .u64 0, .int .u64 0, .int .u64 0, .int .u64 0] 100
theorem make_many (W : World) : (Instr.makeSlice 47 (.int .i64 25) (.int .i64 25)).run Tryd.prog W = .ok (.slice (some ⟨W.heap.size, 0, none⟩) 25 25) (W.alloc (.cells zz 39)) := by
  obtain ⟨i0, hi, hz0, hz1, hz2⟩ := info_parts infoDlZ
  have h := run_makeSlice (P := Tryd.prog) W 47 39 i0 _ Tryd.underlying47 hi hz0 .i64 .i64 25 25 (by decide) (by decide) (by rw [hz1]; decide) (by rw [hz2]; decide) (by decide)
  rw [h, hz1]
  rfl
theorem slice_take2 (l r : List UInt8) (i : Int) (h : i = l.length) (W : World) : (Instr.slice 9 (strv (l ++ r)) none (some (.int .i64 i)) none).run Tryd.prog W = .ok (strv l) W := by
  subst h
  have := slice_take (l ++ r) l.length (by simp) W
  rwa [List.take_left'  rfl] at this
theorem add_both (l r m : List UInt8) (h : l.length ≤ 8388608) (h' : r.length ≤ 8388608) (e : l ++ r = m) : (∀ W, (Op.stringOp .add ⟨l.toArray⟩ ⟨r.toArray⟩).run Tryd.prog W = .ok (strv m) W) ∧ ∀ W, (binOp .add 9 (strv l) (strv r)).run Tryd.prog W = .ok (strv m) W := by
  subst e
  exact ⟨add_op l r h h', add_strv l r h h'⟩
theorem rbV_if (c : Prop) [Decidable c] (x : Nat × (Nat → Nat)) : ∃ (x0 x1 x2 x3 x4 e : Int), rbV (if c then some x else none) = .tuple #[.agg #[.int .i64 x0, .int .u64 x1, .int .u64 x2, .int .u64 x3, .int .u64 x4], .int .i64 e] ∧ (c ∧ e = 0 ∨ ¬ c ∧ e = 71) := by
  by_cases h : c
  · rw [if_pos h]
    exact ⟨_, _, _, _, _, _, rfl, .inl ⟨h, rfl⟩⟩
  · rw [if_neg h]
    exact ⟨_, _, _, _, _, _, rfl, .inr ⟨h, rfl⟩⟩
theorem neg_num2 {x : Nat} (h0 : 0 < x) (h : x < 18446744073709551616) : IntKind.u64.wrap (-(x : Int)) = ((18446744073709551616 - x : Nat) : Int) := by
  have : IntKind.u64.wrap (-(x : Int)) = (-(x : Int)) % 18446744073709551616 := rfl
  rw [this]; omega
theorem dc_bad (d : Nat → Nat) (k : Nat) (hk : k < 4) : (#[.int .u64 (d 0 : Nat), .int .u64 (d 1 : Nat), .int .u64 (d 2 : Nat), .int .u64 (d 3 : Nat)] : Array Value).setIfInBounds k (.int .u64 (wo (d k) (lw (d k)) : Nat)) = #[.int .u64 ((badD d k) 0 : Nat), .int .u64 ((badD d k) 1 : Nat), .int .u64 ((badD d k) 2 : Nat), .int .u64 ((badD d k) 3 : Nat)] := by
  unfold badD
  obtain rfl | rfl | rfl | rfl : k = 0 ∨ k = 1 ∨ k = 2 ∨ k = 3 := by omega
  all_goals simp
set_option maxRecDepth 100000 in
set_option maxHeartbeats 8000000 in
theorem boardWrong_walk (v1 : Value) (xs : List Nat) (n x y : Int) (hx8 : ∀ x ∈ xs, x < 256) (hn : -9223372036854775808 ≤ n ∧ n ≤ 9223372036854775807) (hx : 0 ≤ x ∧ x ≤ 255) (hy : 0 ≤ y ∧ y ≤ 255) (w : World) (hS1 : SlB w v1 xs) (he : EnvB w) :
    Calls Tryd.prog 8 #[v1, .int .i64 n, .int .u8 x, .int .u8 y] w fun e w' => e = .returned (.bool true) ∧ Below w.heap.size w w' := by
  have A := Lib.hid (fun W (hW : Below w.heap.size w W) => awake_calls W (he.below hW))
  have M1 := Lib.hid (fun W (hW : Below w.heap.size w W) => made_calls v1 xs hx8 W (slb_below hS1 hW))
  have hd := mD_rd xs
  obtain ⟨d, hde⟩ : ∃ p, mD xs = p := ⟨_, rfl⟩
  rw [hde] at hd M1
  have HD := Lib.hid hd
  have HE := Lib.hid he
  obtain ⟨k1, hk1⟩ : ∃ k, min n 0 = k := ⟨_, rfl⟩
  obtain ⟨k2, hk2⟩ : ∃ k, max n 129 = k := ⟨_, rfl⟩
  have hk1' : k1 < 1 ∨ 128 < k1 := by omega
  have hk2' : k2 < 1 ∨ 128 < k2 := by omega
  have HK1 := Lib.hid hk1'
  have HK2 := Lib.hid hk2'
  have HX := Lib.hid hx
  have HY := Lib.hid hy
  clear hx8 hS1 hde hd hk1' hk2' hx hy he
  go_enter Tryd.func8, Tryd.ntmps8
  go_upto_region 2 with (go_at_call 16; refine (M1.out _ (by repeat (first | (with_reducible exact Below.refl _ _) | ((with_reducible refine below_grow ?_ ?_); rotate_left; focus (first | omega | (simp [go_sem]; done) | (simp [go_sem]; omega))) | ((with_reducible refine Below.alloc ?_ ?_ _); rotate_left; focus (first | omega | (simp [go_sem]; done) | (simp [go_sem]; omega))) | ((with_reducible refine Below.setCell ?_ ?_ _); rotate_left; focus (first | omega | (simp [go_sem]; done) | (simp [go_sem]; omega))) | (with_reducible refine Below.drew ?_) | (with_reducible refine below_drewN _ ?_)))).mono ?_; rintro e w9 ⟨rfl, hbel⟩; obtain ⟨o1, j1, rfl⟩ := grow_of_below hbel; clear hbel)
  clear M1
  go_wp2
  generalize hW : World.alloc (World.alloc (grow w _ j1) _) _ = W
  generalize hda : w.heap.size + sz o1 = da at *
  have b0 : blk W da (#[.int .u64 (d 0 : Nat), .int .u64 (d 1 : Nat), .int .u64 (d 2 : Nat), .int .u64 (d 3 : Nat)]) 39 := by rw [← hW]; exact blk_alloc (blk_at _ _ _ (by rw [← hda]; simp [go_sem])) _
  have b1 : blk W (da + 1) #[.int .i64 k1, .int .i64 k2] 3 := by rw [← hW]; exact blk_at _ _ _ (by rw [← hda]; simp [go_sem])
  have bb : Below w.heap.size w W := by rw [← hW]; repeat (first | (with_reducible exact Below.refl _ _) | ((with_reducible refine below_grow ?_ ?_); rotate_left; focus (first | omega | (simp [go_sem]; done) | (simp [go_sem]; omega))) | ((with_reducible refine Below.alloc ?_ ?_ _); rotate_left; focus (first | omega | (simp [go_sem]; done) | (simp [go_sem]; omega))) | ((with_reducible refine Below.setCell ?_ ?_ _); rotate_left; focus (first | omega | (simp [go_sem]; done) | (simp [go_sem]; omega))) | (with_reducible refine Below.drew ?_) | (with_reducible refine below_drewN _ ?_))
  have hwd : w.heap.size ≤ da := by omega
  clear hW hda hk1 hk2
  have hZ : ∀ X, (Op.equalIn 10000 53 (.agg #[.int .i64 0, .int .u64 0, .int .u64 0, .int .u64 0, .int .u64 0]) (.agg #[.int .i64 0, .int .u64 0, .int .u64 0, .int .u64 0, .int .u64 0])).run Tryd.prog X = .ok true X := fun X => by rw [eqRc]; rfl
  go_loopw [11, 12, 13, 14, 15, 16, 17, 18, 19, 60] (fun _ _ _ _ _ _ _ _ _ s60 wr => ∃ i : Nat, i ≤ 2 ∧ s60 = .int .i64 i ∧ blk wr da (#[.int .u64 (d 0 : Nat), .int .u64 (d 1 : Nat), .int .u64 (d 2 : Nat), .int .u64 (d 3 : Nat)]) 39 ∧ blk wr (da + 1) #[.int .i64 k1, .int .i64 k2] 3 ∧ Below w.heap.size w wr) (fun _ _ _ _ _ _ _ _ _ s60 _ => 2 - (intOf s60).toNat)
  case atStart => exact ⟨0, by decide, rfl, b0, b1, bb⟩
  case round =>
    obtain ⟨i, hi, rfl, c0, c1, cb⟩ := hrel
    clear b0 b1 bb
    have q0 : wr.cell? ⟨da, 0, none⟩ = some (.int .u64 (d 0 : Nat)) := blk_cell c0 0
    have q1 : wr.cell? ⟨da, 1, none⟩ = some (.int .u64 (d 1 : Nat)) := blk_cell c0 1
    have q2 : wr.cell? ⟨da, 2, none⟩ = some (.int .u64 (d 2 : Nat)) := blk_cell c0 2
    have q3 : wr.cell? ⟨da, 3, none⟩ = some (.int .u64 (d 3 : Nat)) := blk_cell c0 3
    haveI i0 : NeZero (inW da wr) := inW_mk (blk_lt c0)
    have hbs := cb.size
    have C0 := Lib.hid c0
    have C1 := Lib.hid c1
    have CB := Lib.hid cb
    by_cases hi2 : i < 2
    · obtain ⟨k, hk, kc⟩ : ∃ k : Int, (k < 1 ∨ 128 < k) ∧ wr.cell? ⟨da + 1, i, none⟩ = some (.int .i64 k) := by
        obtain rfl | rfl : i = 0 ∨ i = 1 := by omega
        · exact ⟨k1, HK1.out, blk_cell c1 0⟩
        · exact ⟨k2, HK2.out, blk_cell c1 1⟩
      have D := Lib.hid (dealer_no k hk)
      have V := Lib.hid (vul_no k hk)
      have T := Lib.hid (show ∀ w, Calls Tryd.prog 20 #[.agg #[.int .i64 k, .int .u64 0, .int .u64 0, .int .u64 0, .int .u64 0]] w fun e w' => e = .returned (.tuple #[.string ⟨#[]⟩, .int .i64 70]) ∧ Below w.heap.size w w' from btext_bad k zerD 70 (by decide) (fault_board k hk zerD))
      have U := Lib.hid (bturn_bad k d 70 (by decide) (fault_board k hk d))
      have t1 : (i : Int) < 2 := by omega
      have t2 : IntKind.i64.wrap ((i : Int) + 1) = (i : Int) + 1 := IntWalk.i64_in _ (by omega)
      have HI := Lib.hid hi2
      clear c0 c1 cb hi hi2 hk HK1 HK2
      go_wp2_with (first | (go_at_call 9; refine (D.out _).mono ?_; rintro e w9 ⟨rfl, rfl⟩) | (go_at_call 11; refine (V.out _).mono ?_; rintro e w9 ⟨rfl, rfl⟩) | (go_at_call 20; refine (T.out _).mono ?_; rintro e w9 ⟨rfl, hbel⟩; obtain ⟨o2, j2, rfl⟩ := grow_of_below hbel; clear hbel) | (go_at_call 22; refine (U.out _).mono ?_; rintro e w9 ⟨rfl, hbel⟩; obtain ⟨o3, j3, rfl⟩ := grow_of_below hbel; clear hbel))
      go_roundw
      case rel => exact ⟨i + 1, HI.out, by go_num, by repeat (first | (with_reducible exact C0.out) | (with_reducible exact set4 C0.out _ _ _ _) | (with_reducible refine blk_grow ?_ _ _) | (with_reducible refine blk_alloc ?_ _) | (with_reducible refine blk_drew ?_) | (with_reducible refine blk_other ?_ (by (first | omega | (simp [go_sem]; done) | (simp [go_sem]; omega))) _)), by repeat (first | (with_reducible exact C1.out) | (with_reducible exact set4 C1.out _ _ _ _) | (with_reducible refine blk_grow ?_ _ _) | (with_reducible refine blk_alloc ?_ _) | (with_reducible refine blk_drew ?_) | (with_reducible refine blk_other ?_ (by (first | omega | (simp [go_sem]; done) | (simp [go_sem]; omega))) _)), by repeat (first | (with_reducible exact CB.out) | ((with_reducible refine below_grow ?_ ?_); rotate_left; focus (first | omega | (simp [go_sem]; done) | (simp [go_sem]; omega))) | ((with_reducible refine Below.alloc ?_ ?_ _); rotate_left; focus (first | omega | (simp [go_sem]; done) | (simp [go_sem]; omega))) | ((with_reducible refine Below.setCell ?_ ?_ _); rotate_left; focus (first | omega | (simp [go_sem]; done) | (simp [go_sem]; omega))) | (with_reducible refine Below.drew ?_) | (with_reducible refine below_drewN _ ?_))⟩
      case measure => simp [intOf]; have := HI.out; omega
    · obtain rfl : i = 2 := by omega
      clear c0 c1 cb hi hi2 C1 HK1 HK2
      obtain ⟨xn, rfl⟩ : ∃ m : Nat, x = m := ⟨x.toNat, by have := HX.out; omega⟩
      obtain ⟨yn, rfl⟩ : ∃ m : Nat, y = m := ⟨y.toNat, by have := HY.out; omega⟩
      have hx255 := HX.out.2
      obtain ⟨X4, hX4, hX4'⟩ : ∃ m : Nat, 4 ≤ m ∧ max (xn : Int) 4 = m := ⟨max xn 4, by omega, by omega⟩
      obtain ⟨Y4, hY4, hY4'⟩ : ∃ m : Nat, 4 ≤ m ∧ max (yn : Int) 4 = m := ⟨max yn 4, by omega, by omega⟩
      have F1 := Lib.hid (find_no X4 yn (.inl hX4))
      have F2 := Lib.hid (find_no xn Y4 (.inr hY4))
      obtain ⟨k, hk⟩ : ∃ k, xn % 4 = k := ⟨_, rfl⟩
      have hk4 : k < 4 := by omega
      have e2 : (xn : Int).tmod 4 = (k : Int) := by rw [Int.tmod_eq_emod_of_nonneg (by omega)]; omega
      have e4 : IntKind.u8.wrap (k : Int) = (k : Int) := u8_wrap (by omega) (by omega)
      have e5 : (k : Int) < 4 := by omega
      have hd := HD.out
      have lt := Nat.lt_trans (hd.lt k hk4) (show 2 ^ 52 < 18446744073709551616 by decide)
      have po := hand_pos hd k hk4
      have N0 := neg_num2 po lt
      have a0 := u64_and_nat (d k) (18446744073709551616 - d k) lt (by omega)
      have w0 : d k &&& (18446744073709551616 - d k) = lw (d k) := rfl
      rw [w0] at a0
      have lwl : lw (d k) < 18446744073709551616 := Nat.lt_of_le_of_lt Nat.and_le_left lt
      have an := u64_andNot_nat (d k) (lw (d k)) lt lwl
      rw [DB.and_not_wo lt lwl] at an
      have hdc := dc_bad d k hk4
      have hbn := badD_not hd hk4
      have hb64 := badD_64 hd k
      obtain ⟨nk, hnk⟩ : ∃ t, 18446744073709551616 - d k = t := ⟨_, rfl⟩
      rw [hnk] at N0 a0
      obtain ⟨lk, hlk⟩ : ∃ t, lw (d k) = t := ⟨_, rfl⟩
      rw [hlk] at a0 an hdc
      obtain ⟨wk, hwk⟩ : ∃ t, wo (d k) lk = t := ⟨_, rfl⟩
      rw [hwk] at an hdc
      obtain ⟨b, hbe⟩ : ∃ b, badD d k = b := ⟨_, rfl⟩
      rw [hbe] at hdc hbn hb64
      have kd := dcell C0.out k hk4
      have HDC := Lib.hid hdc
      have HBN := Lib.hid hbn
      have HB64 := Lib.hid hb64
      have HKK := Lib.hid hk
      clear hdc hbn hb64 hnk hlk hwk hbe lwl w0 po lt hd hX4 hY4 hk
      go_upto_region 13 with (go_at_call 13; refine (F1.out _).mono ?_; rintro e w9 ⟨rfl, rfl⟩)
      go_upto_region 14 with (go_at_call 13; refine (F2.out _).mono ?_; rintro e w9 ⟨rfl, rfl⟩)
      clear F1 F2
      go_upto_region 15 with fail
      generalize hV0 : World.alloc wr _ = V0
      have f0 : blk V0 wr.heap.size (#[.int .u64 (d 0 : Nat), .int .u64 (d 1 : Nat), .int .u64 (d 2 : Nat), .int .u64 (d 3 : Nat)]) 39 := by rw [← hV0]; exact blk_new _ _ _
      have f1 : blk V0 da (#[.int .u64 (d 0 : Nat), .int .u64 (d 1 : Nat), .int .u64 (d 2 : Nat), .int .u64 (d 3 : Nat)]) 39 := by rw [← hV0]; exact blk_alloc C0.out _
      have fb : Below w.heap.size w V0 := by rw [← hV0]; repeat (first | (with_reducible exact CB.out) | ((with_reducible refine below_grow ?_ ?_); rotate_left; focus (first | omega | (simp [go_sem]; done) | (simp [go_sem]; omega))) | ((with_reducible refine Below.alloc ?_ ?_ _); rotate_left; focus (first | omega | (simp [go_sem]; done) | (simp [go_sem]; omega))) | ((with_reducible refine Below.setCell ?_ ?_ _); rotate_left; focus (first | omega | (simp [go_sem]; done) | (simp [go_sem]; omega))) | (with_reducible refine Below.drew ?_) | (with_reducible refine below_drewN _ ?_))
      have hda := blk_lt C0.out
      clear hV0 C0 CB q0 q1 q2 q3 kd i0
      generalize hba : wr.heap.size = ba at *
      have kb := dcell f0 k hk4
      have fz : ∀ j, V0.frozen? ⟨ba, j, none⟩ = false := fun j => blk_free f0 j
      go_upto_region 15 with fail
      go_region
      generalize hV : World.drew _ = V
      have c0 : blk V ba (#[.int .u64 (b 0 : Nat), .int .u64 (b 1 : Nat), .int .u64 (b 2 : Nat), .int .u64 (b 3 : Nat)]) 39 := by
        rw [← hV, ← HDC.out]
        exact blk_set f0 k _
      have c1 : blk V da (#[.int .u64 (d 0 : Nat), .int .u64 (d 1 : Nat), .int .u64 (d 2 : Nat), .int .u64 (d 3 : Nat)]) 39 := by
        rw [← hV]
        exact blk_other f1 (by omega) _
      have cb : Below w.heap.size w V := by
        rw [← hV]
        exact below_drewN 1 (fb.setCell (p := ⟨ba, k, none⟩) (by omega) _)
      clear hV f0 f1 fb kb fz HDC N0 a0 an e2 e4 e5 hX4' hY4'
      have p0 : V.cell? ⟨ba, 0, none⟩ = some (.int .u64 (b 0 : Nat)) := blk_cell c0 0
      have p1 : V.cell? ⟨ba, 1, none⟩ = some (.int .u64 (b 1 : Nat)) := blk_cell c0 1
      have p2 : V.cell? ⟨ba, 2, none⟩ = some (.int .u64 (b 2 : Nat)) := blk_cell c0 2
      have p3 : V.cell? ⟨ba, 3, none⟩ = some (.int .u64 (b 3 : Nat)) := blk_cell c0 3
      have q0 : V.cell? ⟨da, 0, none⟩ = some (.int .u64 (d 0 : Nat)) := blk_cell c1 0
      have q1 : V.cell? ⟨da, 1, none⟩ = some (.int .u64 (d 1 : Nat)) := blk_cell c1 1
      have q2 : V.cell? ⟨da, 2, none⟩ = some (.int .u64 (d 2 : Nat)) := blk_cell c1 2
      have q3 : V.cell? ⟨da, 3, none⟩ = some (.int .u64 (d 3 : Nat)) := blk_cell c1 3
      have hbV := blk_lt c0
      haveI i0 : NeZero (inW da V) := inW_mk (blk_lt c1)
      haveI i1 : NeZero (inW ba V) := inW_mk hbV
      have hd := HD.out
      have d64 : B64 d := fun i hi => Nat.lt_trans (hd.lt i hi) (show 2 ^ 52 < 18446744073709551616 by decide)
      have CH1 := Lib.hid (changes_no b d HB64.out d64 (fun g => HBN.out g.1))
      have CH2 := Lib.hid (changes_no d b d64 HB64.out (fun g => HBN.out g.2))
      have F5 : ∀ w, Calls Tryd.prog 31 #[.agg #[.int .i64 5, .int .u64 (b 0 : Nat), .int .u64 (b 1 : Nat), .int .u64 (b 2 : Nat), .int .u64 (b 3 : Nat)]] w fun e w' => e = .returned (.int .i64 60) ∧ Below w.heap.size w w' := fault_deal 5 (by decide) (by decide) b HB64.out HBN.out
      have TB := Lib.hid (btext_bad 5 b 60 (by decide) F5)
      have UB := Lib.hid (bturn_bad 5 b 60 (by decide) F5)
      have CL := Lib.hid (two_classes d b hd d64 HBN.out HB64.out)
      have CM := Lib.hid (classes_many (fun _ => d) 25 (by decide))
      have HB := Lib.hid hbs
      clear F5 d64 hd
      go_upto_region 17 with (go_at_call 17; refine (CH1.out _).mono ?_; rintro e w9 ⟨rfl, hbel⟩; obtain ⟨o2, j2, rfl⟩ := grow_of_below hbel; clear hbel)
      go_upto_region 18 with (go_at_call 17; refine (CH2.out _).mono ?_; rintro e w9 ⟨rfl, hbel⟩; obtain ⟨o3, j3, rfl⟩ := grow_of_below hbel; clear hbel)
      go_upto_region 19 with (go_at_call 19; refine (CL.out _ _ ?hsz).mono ?_; (case hsz => simp [go_sem]); rintro e w9 ⟨rfl, hbel⟩; obtain ⟨o4, j4, rfl⟩ := grow_of_below hbel; clear hbel)
      clear CH1 CH2 CL
      go_upto_region 20 with (go_at_call 20; refine (TB.out _).mono ?_; rintro e w9 ⟨rfl, hbel⟩; obtain ⟨o5, j5, rfl⟩ := grow_of_below hbel; clear hbel)
      go_upto_region 21 with (go_at_call 22; refine (UB.out _).mono ?_; rintro e w9 ⟨rfl, hbel⟩; obtain ⟨o6, j6, rfl⟩ := grow_of_below hbel; clear hbel)
      clear TB UB
      go_upto_region 23 with fail
      generalize hV2 : World.alloc (grow (World.alloc _ _) _ j6) _ = V2
      have e0 : blk V2 ba (#[.int .u64 (b 0 : Nat), .int .u64 (b 1 : Nat), .int .u64 (b 2 : Nat), .int .u64 (b 3 : Nat)]) 39 := by rw [← hV2]; exact blk_alloc (blk_grow (blk_alloc (blk_grow c0 _ _) _) _ _) _
      have e1 : blk V2 da (#[.int .u64 (d 0 : Nat), .int .u64 (d 1 : Nat), .int .u64 (d 2 : Nat), .int .u64 (d 3 : Nat)]) 39 := by rw [← hV2]; exact blk_alloc (blk_grow (blk_alloc (blk_grow c1 _ _) _) _ _) _
      have hwV := cb.size
      have eb : Below w.heap.size w V2 := by rw [← hV2]; repeat (first | (with_reducible exact cb) | ((with_reducible refine below_grow ?_ ?_); rotate_left; focus (first | omega | (simp [go_sem]; done) | (simp [go_sem]; omega))) | ((with_reducible refine Below.alloc ?_ ?_ _); rotate_left; focus (first | omega | (simp [go_sem]; done) | (simp [go_sem]; omega))) | ((with_reducible refine Below.setCell ?_ ?_ _); rotate_left; focus (first | omega | (simp [go_sem]; done) | (simp [go_sem]; omega))) | (with_reducible refine Below.drew ?_) | (with_reducible refine below_drewN _ ?_))
      have hbV2 := blk_lt e0
      have p0 : V2.cell? ⟨ba, 0, none⟩ = some (.int .u64 (b 0 : Nat)) := blk_cell e0 0
      have p1 : V2.cell? ⟨ba, 1, none⟩ = some (.int .u64 (b 1 : Nat)) := blk_cell e0 1
      have p2 : V2.cell? ⟨ba, 2, none⟩ = some (.int .u64 (b 2 : Nat)) := blk_cell e0 2
      have p3 : V2.cell? ⟨ba, 3, none⟩ = some (.int .u64 (b 3 : Nat)) := blk_cell e0 3
      clear hV2 c0 c1 cb i0 i1 hbV
      haveI i1 : NeZero (inW ba V2) := inW_mk hbV2
      have MK := make_many
      have E1 := Lib.hid e1
      have EB := Lib.hid eb
      clear e0 e1 eb
      go_upto_region 24 with fail
      clear MK
      have hbm := hbV2
      generalize hV3 : World.alloc V2 _ = V3
      generalize hma : V2.heap.size = ma at *
      have hwma : w.heap.size ≤ ma := by have := HB.out; omega
      have g0 : blk V3 ma zz 39 := by rw [← hV3]; exact blk_at _ _ _ hma.symm
      have g1 : blk V3 da (#[.int .u64 (d 0 : Nat), .int .u64 (d 1 : Nat), .int .u64 (d 2 : Nat), .int .u64 (d 3 : Nat)]) 39 := by rw [← hV3]; exact blk_alloc E1.out _
      have gb : Below w.heap.size w V3 := by rw [← hV3]; repeat (first | (with_reducible exact EB.out) | ((with_reducible refine below_grow ?_ ?_); rotate_left; focus (first | omega | (simp [go_sem]; done) | (simp [go_sem]; omega))) | ((with_reducible refine Below.alloc ?_ ?_ _); rotate_left; focus (first | omega | (simp [go_sem]; done) | (simp [go_sem]; omega))) | ((with_reducible refine Below.setCell ?_ ?_ _); rotate_left; focus (first | omega | (simp [go_sem]; done) | (simp [go_sem]; omega))) | (with_reducible refine Below.drew ?_) | (with_reducible refine below_drewN _ ?_))
      have p0' : V3.cell? ⟨ba, 0, none⟩ = some (.int .u64 (b 0 : Nat)) := by rw [← hV3]; simp [go_sem, p0]
      have p1' : V3.cell? ⟨ba, 1, none⟩ = some (.int .u64 (b 1 : Nat)) := by rw [← hV3]; simp [go_sem, p1]
      have p2' : V3.cell? ⟨ba, 2, none⟩ = some (.int .u64 (b 2 : Nat)) := by rw [← hV3]; simp [go_sem, p2]
      have p3' : V3.cell? ⟨ba, 3, none⟩ = some (.int .u64 (b 3 : Nat)) := by rw [← hV3]; simp [go_sem, p3]
      have fz : ∀ j, V3.frozen? ⟨ma, j, none⟩ = false := fun j => blk_free g0 j
      have m0 : V3.cell? ⟨ma, 0, none⟩ = some (.int .u64 0) := (blk_cell g0 0).trans (by kernel_rfl)
      have m1 : V3.cell? ⟨ma, 1, none⟩ = some (.int .u64 0) := (blk_cell g0 1).trans (by kernel_rfl)
      have m2 : V3.cell? ⟨ma, 2, none⟩ = some (.int .u64 0) := (blk_cell g0 2).trans (by kernel_rfl)
      have m3 : V3.cell? ⟨ma, 3, none⟩ = some (.int .u64 0) := (blk_cell g0 3).trans (by kernel_rfl)
      haveI im : NeZero (inW ma V3) := inW_mk (blk_lt g0)
      have G1 := Lib.hid g1
      have GB := Lib.hid gb
      clear g0 g1 gb hV3 p0 p1 p2 p3 E1 EB i1
      go_upto_region 25 with fail
      generalize hV4 : World.setCell (World.setCell (World.setCell (World.setCell V3 _ _) _ _) _ _) _ _ = X
      have g1 : blk X da (#[.int .u64 (d 0 : Nat), .int .u64 (d 1 : Nat), .int .u64 (d 2 : Nat), .int .u64 (d 3 : Nat)]) 39 := by
        rw [← hV4]
        exact blk_other (blk_other (blk_other (blk_other G1.out (by omega) _) (by omega) _) (by omega) _) (by omega) _
      have gb : Below w.heap.size w X := by
        rw [← hV4]
        exact (((GB.out.setCell (p := ⟨ma, 0, none⟩) hwma _).setCell (p := ⟨ma, 1, none⟩) hwma _).setCell (p := ⟨ma, 2, none⟩) hwma _).setCell (p := ⟨ma, 3, none⟩) hwma _
      have hXs : da < X.heap.size := blk_lt g1
      have hwX := gb.size
      clear hV4 G1 GB m0 m1 m2 m3 im fz q0 q1 q2 q3 p0' p1' p2' p3' hba hda HBN HB64
      have q0 : X.cell? ⟨da, 0, none⟩ = some (.int .u64 (d 0 : Nat)) := blk_cell g1 0
      have q1 : X.cell? ⟨da, 1, none⟩ = some (.int .u64 (d 1 : Nat)) := blk_cell g1 1
      have q2 : X.cell? ⟨da, 2, none⟩ = some (.int .u64 (d 2 : Nat)) := blk_cell g1 2
      have q3 : X.cell? ⟨da, 3, none⟩ = some (.int .u64 (d 3 : Nat)) := blk_cell g1 3
      haveI i0 : NeZero (inW da X) := inW_mk hXs
      have GB := Lib.hid gb
      have G1 := Lib.hid g1
      clear gb g1
      obtain ⟨N, hN1, hN2, hN⟩ : ∃ N : Nat, 1 ≤ N ∧ N ≤ 128 ∧ 1 + (xn : Int).tmod 128 = N := ⟨1 + xn % 128, by omega, by omega, by rw [Int.tmod_eq_emod_of_nonneg (by omega)]; omega⟩
      have n0 : IntKind.i64.wrap (xn : Int) = xn := IntWalk.i64_in _ (by omega)
      have n1 : IntKind.i64.wrap ((xn : Int).tmod 128) = (xn : Int).tmod 128 := by rw [Int.tmod_eq_emod_of_nonneg (by omega)]; exact IntWalk.i64_in _ (by omega)
      have hN3 : 1 + (xn : Int) % 128 = N := by rw [← hN, Int.tmod_eq_emod_of_nonneg (by omega)]
      have n2 : IntKind.i64.wrap ((N : Nat) : Int) = N := IntWalk.i64_in _ (by omega)
      have TX := Lib.hid (text_yes d HD.out.toPd)
      have DY := Lib.hid (dealer_yes N hN1 hN2)
      have VY := Lib.hid (vul_yes N hN1 hN2)
      have TY := Lib.hid (fun W (hW : Below w.heap.size w W) => btext_yes N hN1 hN2 d HD.out W (HE.out.below hW))
      have RA := Lib.hid (fun (a v : Nat) (ha : a < 4) (hv : v < 4) W (hW : Below w.heap.size w W) => rdB_alt hN1 hN2 HD.out ha hv ▸ bread_calls (alt N d a v) (by have := alt_len hN2 d a v; omega) W (HE.out.below hW))
      have hvl := DB.vul_lt N
      have hdl := DB.dlr_lt N
      have HN2 := Lib.hid hN2
      go_upto_region 26 with (go_at_call 19; refine (CM.out _ _ _).mono ?_; rintro e w9 ⟨rfl, hbel⟩; obtain ⟨o2, j2, rfl⟩ := grow_of_below hbel; clear hbel)
      clear CM
      go_upto_region 28 with fail
      go_upto_region 29 with (go_at_call 23; refine (TX.out _).mono ?_; rintro e w9 ⟨rfl, hbel⟩; obtain ⟨o3, j3, rfl⟩ := grow_of_below hbel; clear hbel)
      clear TX
      go_upto_region 30 with fail
      go_upto_region 31 with (go_at_call 9; refine (DY.out _).mono ?_; rintro e w9 ⟨rfl, rfl⟩)
      go_upto_region 32 with (go_at_call 11; refine (VY.out _).mono ?_; rintro e w9 ⟨rfl, rfl⟩)
      clear DY VY
      go_upto_region 33 with (go_at_call 20; refine (TY.out _ (by repeat (first | (with_reducible exact GB.out) | ((with_reducible refine below_grow ?_ ?_); rotate_left; focus (first | omega | (simp [go_sem]; done) | (simp [go_sem]; omega))) | ((with_reducible refine Below.alloc ?_ ?_ _); rotate_left; focus (first | omega | (simp [go_sem]; done) | (simp [go_sem]; omega))) | ((with_reducible refine Below.setCell ?_ ?_ _); rotate_left; focus (first | omega | (simp [go_sem]; done) | (simp [go_sem]; omega))) | (with_reducible refine Below.drew ?_) | (with_reducible refine below_drewN _ ?_)))).mono ?_; rintro e w9 ⟨rfl, hbel⟩; obtain ⟨o4, j4, rfl⟩ := grow_of_below hbel; clear hbel)
      clear TY n0 n1 hN hN3 q0 q1 q2 q3 i0
      go_upto_region 34 with fail
      generalize hY : World.alloc (grow X _ _) _ = Y
      generalize hwa : X.heap.size + sz (o2 ++ (o3 ++ o4)) = wa at *
      have b0 : blk Y wa #[strv (side 0), strv (side 1), strv (side 2), strv (side 3)] 61 := by rw [← hY]; exact blk_at _ _ _ (by rw [← hwa]; simp [go_sem])
      have bb : Below w.heap.size w Y := by rw [← hY]; repeat (first | (with_reducible exact GB.out) | ((with_reducible refine below_grow ?_ ?_); rotate_left; focus (first | omega | (simp [go_sem]; done) | (simp [go_sem]; omega))) | ((with_reducible refine Below.alloc ?_ ?_ _); rotate_left; focus (first | omega | (simp [go_sem]; done) | (simp [go_sem]; omega))) | ((with_reducible refine Below.setCell ?_ ?_ _); rotate_left; focus (first | omega | (simp [go_sem]; done) | (simp [go_sem]; omega))) | (with_reducible refine Below.drew ?_) | (with_reducible refine below_drewN _ ?_))
      have hwwa : w.heap.size ≤ wa := by omega
      clear hY hwa GB G1
      have wcell : ∀ i, i < 4 → Y.cell? ⟨wa, i, none⟩ = some (strv (side i)) := fun i hi => by
        obtain rfl | rfl | rfl | rfl : i = 0 ∨ i = 1 ∨ i = 2 ∨ i = 3 := by omega
        all_goals exact blk_cell b0 _
      obtain ⟨D, hD⟩ : ∃ D, Lib.itoa (N : Int) = D := ⟨_, rfl⟩
      obtain ⟨R, hR⟩ : ∃ R, rtx N d = R := ⟨_, rfl⟩
      have hRl := rtx_length HN2.out d
      have hR2 : R = D ++ 32 :: ([dltr (dlr N)] ++ 32 :: (side (vul N) ++ 32 :: (78 :: 58 :: dtx d))) := by rw [← hR, ← hD]; rfl
      have RA2 := Lib.hid (show ∀ (a v : Nat), alt N d a v = D ++ 32 :: ([dltr a] ++ 32 :: (side v ++ 32 :: (78 :: 58 :: dtx d))) from fun a v => by rw [← hD]; rfl)
      have hTl := dtx_length d
      obtain ⟨T, hT⟩ : ∃ T, 78 :: 58 :: dtx d = T := ⟨_, rfl⟩
      have hTl2 : T.length ≤ 240 := by rw [← hT]; simp only [List.length_cons]; omega
      have kv := wcell (vul N) hvl
      have hv2 : ((vul N : Nat) : Int) < 4 := by omega
      rw [hT] at hR2 RA2 ⊢
      rw [hR] at hRl ⊢
      obtain ⟨v, hv⟩ : ∃ v, vul N = v := ⟨_, rfl⟩
      obtain ⟨dl, hdl2⟩ : ∃ v, dlr N = v := ⟨_, rfl⟩
      rw [hv] at hR2 kv hv2 hvl ⊢
      rw [hdl2] at hR2 hdl ⊢
      simp only [hv, hdl2] at RA
      have hsl := side_len v
      have lR : R.length = D.length + (side v).length + T.length + 4 := by
        rw [hR2]
        simp only [List.length_append, List.length_cons, List.length_nil]
        omega
      have w1 : IntKind.i64.wrap ((R.length : Int) - T.length) = (R.length : Int) - T.length := IntWalk.i64_in _ (by omega)
      have w2 : IntKind.i64.wrap ((R.length : Int) - T.length - (side v).length) = (R.length : Int) - T.length - (side v).length := IntWalk.i64_in _ (by omega)
      have w3 : IntKind.i64.wrap ((R.length : Int) - T.length - (side v).length - 4) = (D.length : Int) := by rw [IntWalk.i64_in _ (by omega)]; omega
      have sl : ∀ W, (Instr.slice 9 (strv R) none (some (.int .i64 (D.length : Int))) none).run Tryd.prog W = .ok (strv D) W := fun W => by rw [hR2]; exact slice_take2 D _ _ rfl W
      have LR := Lib.hid lR
      have LD := Lib.hid (show D.length ≤ 240 by omega)
      have LT := Lib.hid hTl2
      haveI iw : NeZero (inW wa Y) := inW_mk (blk_lt b0)
      have B0 := Lib.hid b0
      have BBY := Lib.hid bb
      have WC := Lib.hid wcell
      clear lR hTl hTl2 hRl hsl hR2 b0 bb wcell hT hD hR
      go_upto_region 35 with fail
      clear sl w1 w2 w3 kv iw hZ hx255 hk4 HX HY HKK HB
      try clear hbm hwma hXs hwX hbV2 hwV
      clear p0 p1 p2 p3 hma n2 hv hdl2
      go_wp2
      go_loopw [49, 50, 51, 275] (fun _ _ _ s275 wy => ∃ i : Nat, i ≤ 16 ∧ s275 = .int .u8 i ∧ blk wy wa #[strv (side 0), strv (side 1), strv (side 2), strv (side 3)] 61 ∧ Below w.heap.size w wy) (fun _ _ _ s275 _ => 16 - (intOf s275).toNat)
      case atStart => exact ⟨0, by decide, rfl, B0.out, BBY.out⟩
      case round =>
        obtain ⟨i, hi, rfl, b0, cb⟩ := hrel
        clear B0 BBY WC
        have hbs := cb.size
        have CB := Lib.hid cb
        have B0 := Lib.hid b0
        by_cases hi16 : i < 16
        · obtain ⟨a, ha⟩ : ∃ a, i % 4 = a := ⟨_, rfl⟩
          obtain ⟨q, hq⟩ : ∃ a, i / 4 = a := ⟨_, rfl⟩
          have ha4 : a < 4 := by omega
          have hq4 : q < 4 := by omega
          have t1 : (i : Int) < 16 := by omega
          have t2 : IntKind.u8.wrap ((i : Int) + 1) = (i : Int) + 1 := u8_wrap (by omega) (by omega)
          have t3 : (i : Int).tmod 4 = (a : Int) := by rw [Int.tmod_eq_emod_of_nonneg (by omega)]; omega
          have t4 : (i : Int) % 4 = (a : Int) := by omega
          have t5 : (i : Int).tdiv 4 = (q : Int) := by rw [Int.tdiv_eq_ediv_of_nonneg (by omega)]; omega
          have t6 : (i : Int) / 4 = (q : Int) := by omega
          have t7 : IntKind.u8.wrap (a : Int) = (a : Int) := u8_wrap (by omega) (by omega)
          have t8 : IntKind.u8.wrap (q : Int) = (q : Int) := u8_wrap (by omega) (by omega)
          have t9 : (q : Int) < 4 := by omega
          have sd : (∀ i, i < 4 → wr.cell? ⟨wa, i, none⟩ = some (strv (side i))) := fun i hi => by
            obtain rfl | rfl | rfl | rfl : i = 0 ∨ i = 1 ∨ i = 2 ∨ i = 3 := by omega
            all_goals exact blk_cell b0 _
          have kq := sd q hq4
          haveI iw : NeZero (inW wa wr) := inW_mk (blk_lt b0)
          have sl := slice_ltr a ha4
          have RQ := Lib.hid (fun X (hX : Below w.heap.size wr X) => RA.out a q ha4 hq4 X (cb.trans hX))
          have e0 := RA2.out a q
          obtain ⟨F, hF⟩ : ∃ F, alt N d a q = F := ⟨_, rfl⟩
          rw [hF] at e0 RQ
          have hsl := side_len q
          obtain ⟨S2, hS2⟩ : ∃ S, [dltr a] = S := ⟨_, rfl⟩
          have l2 : S2.length = 1 := by rw [← hS2]; rfl
          obtain ⟨S4, hS4⟩ : ∃ S, side q = S := ⟨_, rfl⟩
          rw [hS2] at sl e0
          rw [hS4] at kq e0 hsl
          obtain ⟨L1, h1⟩ : ∃ L, D ++ [32] = L := ⟨_, rfl⟩
          obtain ⟨L2, h2⟩ : ∃ L, L1 ++ S2 = L := ⟨_, rfl⟩
          obtain ⟨L3, h3⟩ : ∃ L, L2 ++ [32] = L := ⟨_, rfl⟩
          obtain ⟨L4, h4⟩ : ∃ L, L3 ++ S4 = L := ⟨_, rfl⟩
          obtain ⟨L5, h5⟩ : ∃ L, L4 ++ [32] = L := ⟨_, rfl⟩
          have h6 : L5 ++ T = F := by
            rw [← h5, ← h4, ← h3, ← h2, ← h1, e0]
            simp only [List.append_assoc, List.cons_append, List.nil_append]
          have ld := LD.out
          have lt := LT.out
          have m1 : L1.length ≤ 1000 := by rw [← h1]; simp only [List.length_append, List.length_cons, List.length_nil]; omega
          have m2 : L2.length ≤ 1001 := by rw [← h2]; simp only [List.length_append]; omega
          have m3 : L3.length ≤ 1002 := by rw [← h3]; simp only [List.length_append, List.length_cons, List.length_nil]; omega
          have m4 : L4.length ≤ 1010 := by rw [← h4]; simp only [List.length_append]; omega
          have m5 : L5.length ≤ 1011 := by rw [← h5]; simp only [List.length_append, List.length_cons, List.length_nil]; omega
          obtain ⟨a1, b1⟩ := add_both D [32] L1 (by omega) (by decide) h1
          obtain ⟨a2, b2⟩ := add_both L1 S2 L2 (by omega) (by omega) h2
          obtain ⟨a3, b3⟩ := add_both L2 [32] L3 (by omega) (by decide) h3
          obtain ⟨a4, b4⟩ := add_both L3 S4 L4 (by omega) (by omega) h4
          obtain ⟨a5, b5⟩ := add_both L4 [32] L5 (by omega) (by decide) h5
          obtain ⟨a6, b6⟩ := add_both L5 T F (by omega) (by omega) h6
          have HI := Lib.hid hi16
          clear h1 h2 h3 h4 h5 h6 m1 m2 m3 m4 m5 ld lt l2 hsl e0 hF hS2 hS4 b0 cb hi hi16 ha hq sd ha4 hq4
          obtain ⟨x0, x1, x2, x3, x4, eE, hr, he⟩ := rbV_if (a = dl ∧ q = v) (N, quad (d 0) (d 1) (d 2) (d 3))
          rw [hr] at RQ
          have HEE := Lib.hid he
          clear hr he
          go_upto_region 38 with fail
          go_region_held3 (fun w' => w'.cell? ⟨wa, q, none⟩ = some (strv S4)) (first | exact kq | simp [go_sem, kq])
            (first | (go_at_call 21; refine (RQ.out _ (by repeat (first | (with_reducible exact Below.refl _ _) | ((with_reducible refine below_grow ?_ ?_); rotate_left; focus (first | omega | (simp [go_sem]; done) | (simp [go_sem]; omega))) | ((with_reducible refine Below.alloc ?_ ?_ _); rotate_left; focus (first | omega | (simp [go_sem]; done) | (simp [go_sem]; omega))) | ((with_reducible refine Below.setCell ?_ ?_ _); rotate_left; focus (first | omega | (simp [go_sem]; done) | (simp [go_sem]; omega))) | (with_reducible refine Below.drew ?_) | (with_reducible refine below_drewN _ ?_)))).mono ?_; rintro e w9 ⟨rfl, hbel⟩; obtain ⟨o7, j7, rfl⟩ := grow_of_below hbel; clear hbel))
          all_goals
            clear RQ a1 b1 a2 b2 a3 b3 a4 b4 a5 b5 a6 b6 sl kq iw
            by_cases h1 : a = dl
            · subst h1
              by_cases h2 : q = v
              · subst h2
                obtain rfl : eE = 0 := by
                  rcases HEE.out with h | h
                  · exact h.2
                  · exact absurd ⟨rfl, rfl⟩ h.1
                go_wp2
                go_roundw
                case rel => exact ⟨i + 1, HI.out, by go_num, by repeat (first | (with_reducible exact B0.out) | (with_reducible exact set4 B0.out _ _ _ _) | (with_reducible refine blk_grow ?_ _ _) | (with_reducible refine blk_alloc ?_ _) | (with_reducible refine blk_drew ?_) | (with_reducible refine blk_other ?_ (by (first | omega | (simp [go_sem]; done) | (simp [go_sem]; omega))) _)), by repeat (first | (with_reducible exact CB.out) | ((with_reducible refine below_grow ?_ ?_); rotate_left; focus (first | omega | (simp [go_sem]; done) | (simp [go_sem]; omega))) | ((with_reducible refine Below.alloc ?_ ?_ _); rotate_left; focus (first | omega | (simp [go_sem]; done) | (simp [go_sem]; omega))) | ((with_reducible refine Below.setCell ?_ ?_ _); rotate_left; focus (first | omega | (simp [go_sem]; done) | (simp [go_sem]; omega))) | (with_reducible refine Below.drew ?_) | (with_reducible refine below_drewN _ ?_))⟩
                case measure => simp [intOf]; have := HI.out; omega
              · have n1 : ¬ (q : Int) = v := by omega
                obtain rfl : eE = 71 := by
                  rcases HEE.out with h | h
                  · exact absurd h.1.2 h2
                  · exact h.2
                go_wp2
                go_roundw
                case rel => exact ⟨i + 1, HI.out, by go_num, by repeat (first | (with_reducible exact B0.out) | (with_reducible exact set4 B0.out _ _ _ _) | (with_reducible refine blk_grow ?_ _ _) | (with_reducible refine blk_alloc ?_ _) | (with_reducible refine blk_drew ?_) | (with_reducible refine blk_other ?_ (by (first | omega | (simp [go_sem]; done) | (simp [go_sem]; omega))) _)), by repeat (first | (with_reducible exact CB.out) | ((with_reducible refine below_grow ?_ ?_); rotate_left; focus (first | omega | (simp [go_sem]; done) | (simp [go_sem]; omega))) | ((with_reducible refine Below.alloc ?_ ?_ _); rotate_left; focus (first | omega | (simp [go_sem]; done) | (simp [go_sem]; omega))) | ((with_reducible refine Below.setCell ?_ ?_ _); rotate_left; focus (first | omega | (simp [go_sem]; done) | (simp [go_sem]; omega))) | (with_reducible refine Below.drew ?_) | (with_reducible refine below_drewN _ ?_))⟩
                case measure => simp [intOf]; have := HI.out; omega
            · have n1 : ¬ (a : Int) = dl := by omega
              obtain rfl : eE = 71 := by
                rcases HEE.out with h | h
                · exact absurd h.1.1 h1
                · exact h.2
              go_wp2
              go_roundw
              case rel => exact ⟨i + 1, HI.out, by go_num, by repeat (first | (with_reducible exact B0.out) | (with_reducible exact set4 B0.out _ _ _ _) | (with_reducible refine blk_grow ?_ _ _) | (with_reducible refine blk_alloc ?_ _) | (with_reducible refine blk_drew ?_) | (with_reducible refine blk_other ?_ (by (first | omega | (simp [go_sem]; done) | (simp [go_sem]; omega))) _)), by repeat (first | (with_reducible exact CB.out) | ((with_reducible refine below_grow ?_ ?_); rotate_left; focus (first | omega | (simp [go_sem]; done) | (simp [go_sem]; omega))) | ((with_reducible refine Below.alloc ?_ ?_ _); rotate_left; focus (first | omega | (simp [go_sem]; done) | (simp [go_sem]; omega))) | ((with_reducible refine Below.setCell ?_ ?_ _); rotate_left; focus (first | omega | (simp [go_sem]; done) | (simp [go_sem]; omega))) | (with_reducible refine Below.drew ?_) | (with_reducible refine below_drewN _ ?_))⟩
              case measure => simp [intOf]; have := HI.out; omega
        · obtain rfl : i = 16 := by omega
          clear RA RA2 b0 hi hi16
          go_wp2_with (go_at_call 15; refine (A.out _ cb).mono ?_; rintro e w9 ⟨rfl, hbel⟩; obtain ⟨o7, j7, rfl⟩ := grow_of_below hbel; clear hbel)
          refine bodyPost_ret (by simp [results, Tryd.results8, go_sem]) rfl ⟨rfl, ?_⟩
          repeat (first | (with_reducible exact CB.out) | ((with_reducible refine below_grow ?_ ?_); rotate_left; focus (first | omega | (simp [go_sem]; done) | (simp [go_sem]; omega))) | ((with_reducible refine Below.alloc ?_ ?_ _); rotate_left; focus (first | omega | (simp [go_sem]; done) | (simp [go_sem]; omega))) | ((with_reducible refine Below.setCell ?_ ?_ _); rotate_left; focus (first | omega | (simp [go_sem]; done) | (simp [go_sem]; omega))) | (with_reducible refine Below.drew ?_) | (with_reducible refine below_drewN _ ?_))
end Go.Proofs.YtalklogopepjpaaDoor.Ca
