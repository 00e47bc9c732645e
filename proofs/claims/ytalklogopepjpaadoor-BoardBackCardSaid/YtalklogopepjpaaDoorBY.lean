/- BoardBack: the walk. -/
import Derived.Test.YtalklogopepjpaaDoorBY0
import Derived.Test.YtalklogopepjpaaDoorBS
import Derived.Test.YtalklogopepjpaaDoorYN
namespace Go.Proofs.YtalklogopepjpaaDoor.Ca
open Go.RowKit
open Go.Proofs.DB (Rd Same)
open Go.Proofs.YtalklogopepjpaaDoor.Ha (SlB)

/-- The deal turned k times. -/
def tk (p : Nat → Nat) : Nat → Nat → Nat
  | 0 => p
  | k + 1 => tn (tk p k) 1
theorem tk_rd {p : Nat → Nat} (h : Rd p) : ∀ k, Rd (tk p k)
  | 0 => h
  | k + 1 => tn1_rd (tk_rd h k)
theorem tk_four (p : Nat → Nat) : Same (tk p 4) p := ⟨rfl, rfl, rfl, rfl⟩
set_option maxRecDepth 100000 in
set_option maxHeartbeats 8000000 in
theorem boardBack_walk (v1 : Value) (xs : List Nat) (v2 : Value) (ys : List Nat) (n m : Int) (sb : ByteArray) (hx8 : ∀ x ∈ xs, x < 256) (hy8 : ∀ x ∈ ys, x < 256) (hn : 0 ≤ n ∧ n ≤ 255) (hm : 0 ≤ m ∧ m ≤ 255) (hsb : sb.size ≤ 140737488355328) (w : World) (hS1 : SlB w v1 xs) (hS2 : SlB w v2 ys) (he : EnvB w) :
    Calls Tryd.prog 7 #[v1, v2, .int .u8 n, .int .u8 m, .string sb] w fun e w' => e = .returned (.bool true) ∧ Below w.heap.size w w' := by
  obtain ⟨s, rfl⟩ : ∃ s : List UInt8, sb = ⟨s.toArray⟩ := ⟨sb.data.toList, by simp⟩
  have hs : s.length ≤ 140737488355328 := by simpa [ByteArray.size] using hsb
  obtain ⟨N, hN1, hN2, hN⟩ : ∃ N : Nat, 1 ≤ N ∧ N ≤ 128 ∧ 1 + n.tmod 128 = N := ⟨(1 + n % 128).toNat, by omega, by omega, by rw [Int.tmod_eq_emod_of_nonneg (by omega)]; omega⟩
  obtain ⟨M, hM1, hM2, hM⟩ : ∃ N : Nat, 1 ≤ N ∧ N ≤ 128 ∧ 1 + m.tmod 128 = N := ⟨(1 + m % 128).toNat, by omega, by omega, by rw [Int.tmod_eq_emod_of_nonneg (by omega)]; omega⟩
  have e0 : IntKind.i64.wrap n = n := IntWalk.i64_in _ (by omega)
  have e1 : IntKind.i64.wrap (n.tmod 128) = n.tmod 128 := by rw [Int.tmod_eq_emod_of_nonneg (by omega)]; exact IntWalk.i64_in _ (by omega)
  have e2 : IntKind.i64.wrap ((N : Nat) : Int) = N := IntWalk.i64_in _ (by omega)
  have e3 : IntKind.i64.wrap m = m := IntWalk.i64_in _ (by omega)
  have e4 : IntKind.i64.wrap (m.tmod 128) = m.tmod 128 := by rw [Int.tmod_eq_emod_of_nonneg (by omega)]; exact IntWalk.i64_in _ (by omega)
  have e5 : IntKind.i64.wrap ((M : Nat) : Int) = M := IntWalk.i64_in _ (by omega)
  have A := Lib.hid (fun W (hW : Below w.heap.size w W) => awake_calls W (he.below hW))
  have M1 := Lib.hid (fun W (hW : Below w.heap.size w W) => made_calls v1 xs hx8 W (slb_below hS1 hW))
  have M2 := Lib.hid (fun W (hW : Below w.heap.size w W) => made_calls v2 ys hy8 W (slb_below hS2 hW))
  have hp := mD_rd xs
  have hq := mD_rd ys
  obtain ⟨p, hpe⟩ : ∃ p, mD xs = p := ⟨_, rfl⟩
  obtain ⟨q, hqe⟩ : ∃ p, mD ys = p := ⟨_, rfl⟩
  rw [hpe] at hp M1
  rw [hqe] at hq M2
  have T1 := Lib.hid (fun W (hW : Below w.heap.size w W) => btext_yes N hN1 hN2 p hp W (he.below hW))
  have T2 := Lib.hid (fun W (hW : Below w.heap.size w W) => btext_yes M hM1 hM2 q hq W (he.below hW))
  have RD := Lib.hid (fun W (hW : Below w.heap.size w W) => bread_calls (rtx N p) (by have := rtx_length hN2 p; omega) W (he.below hW))
  rw [rdB_rtx hN1 hN2 hp] at RD
  have hv : rbV (some (N, quad (p 0) (p 1) (p 2) (p 3))) = .tuple #[.agg #[.int .i64 N, .int .u64 (p 0 : Nat), .int .u64 (p 1 : Nat), .int .u64 (p 2 : Nat), .int .u64 (p 3 : Nat)], .int .i64 0] := rfl
  rw [hv] at RD
  have RS := Lib.hid (fun W (hW : Below w.heap.size w W) => bread_calls s hs W (he.below hW))
  have TS := Lib.hid (fun (n : Nat) (p : Nat → Nat) (h : rdB s = some (n, p)) W (hW : Below w.heap.size w W) => (show rtx n p = s from (rdB_text h).2.2.2) ▸ btext_yes n (rdB_text h).1 (rdB_text h).2.1 p (rdB_text h).2.2.1 W (he.below hW))
  have BT := Lib.hid (fun k => bturn_yes N hN1 hN2 (tk p k) (tk_rd hp k))
  have hSelf : ∀ X, (Op.equalIn 10000 53 (.agg #[.int .i64 N, .int .u64 (p 0 : Nat), .int .u64 (p 1 : Nat), .int .u64 (p 2 : Nat), .int .u64 (p 3 : Nat)]) (.agg #[.int .i64 N, .int .u64 (p 0 : Nat), .int .u64 (p 1 : Nat), .int .u64 (p 2 : Nat), .int .u64 (p 3 : Nat)])).run Tryd.prog X = .ok true X := fun X => by rw [eqRc]; simp
  have hE : ∀ X, (Op.equalIn 10000 53 (.agg #[.int .i64 N, .int .u64 (p 0 : Nat), .int .u64 (p 1 : Nat), .int .u64 (p 2 : Nat), .int .u64 (p 3 : Nat)]) (.agg #[.int .i64 M, .int .u64 (q 0 : Nat), .int .u64 (q 1 : Nat), .int .u64 (q 2 : Nat), .int .u64 (q 3 : Nat)])).run Tryd.prog X = .ok (rtx N p == rtx M q) X := fun X => by
    rw [eqRc]
    congr 1
    have := rtx_inj hN1 hN2 hM1 hM2 hp hq
    rw [show (rtx N p == rtx M q) = decide (rtx N p = rtx M q) from by rw [Bool.eq_iff_iff]; simp, decide_eq_decide, this]
    unfold DB.Same
    omega
  obtain ⟨R1, hR1⟩ : ∃ R, rtx N p = R := ⟨_, rfl⟩
  obtain ⟨R2, hR2⟩ : ∃ R, rtx M q = R := ⟨_, rfl⟩
  rw [hR1] at T1 RD
  rw [hR2] at T2
  simp only [hR1, hR2] at hE
  have HNN := Lib.hid hN
  clear hR1 hR2 hpe hqe hx8 hy8 hS1 hS2 he hv hn hm hsb hN1 hN2 hM1 hM2 hp hq hs
  go_enter Tryd.func7, Tryd.ntmps7
  go_upto_region 2 with (go_at_call 16; refine (M1.out _ (by repeat (first | (with_reducible exact Below.refl _ _) | ((with_reducible refine below_grow ?_ ?_); rotate_left; focus (first | omega | (simp [go_sem]; done) | (simp [go_sem]; omega))) | ((with_reducible refine Below.alloc ?_ ?_ _); rotate_left; focus (first | omega | (simp [go_sem]; done) | (simp [go_sem]; omega))) | ((with_reducible refine Below.setCell ?_ ?_ _); rotate_left; focus (first | omega | (simp [go_sem]; done) | (simp [go_sem]; omega))) | (with_reducible refine Below.drew ?_) | (with_reducible refine below_drewN _ ?_)))).mono ?_; rintro e w9 ⟨rfl, hbel⟩; obtain ⟨o1, j1, rfl⟩ := grow_of_below hbel; clear hbel)
  go_upto_region 3 with (go_at_call 16; refine (M2.out _ (by repeat (first | (with_reducible exact Below.refl _ _) | ((with_reducible refine below_grow ?_ ?_); rotate_left; focus (first | omega | (simp [go_sem]; done) | (simp [go_sem]; omega))) | ((with_reducible refine Below.alloc ?_ ?_ _); rotate_left; focus (first | omega | (simp [go_sem]; done) | (simp [go_sem]; omega))) | ((with_reducible refine Below.setCell ?_ ?_ _); rotate_left; focus (first | omega | (simp [go_sem]; done) | (simp [go_sem]; omega))) | (with_reducible refine Below.drew ?_) | (with_reducible refine below_drewN _ ?_)))).mono ?_; rintro e w9 ⟨rfl, hbel⟩; obtain ⟨o2, j2, rfl⟩ := grow_of_below hbel; clear hbel)
  clear M1 M2
  generalize hW : World.alloc (grow (World.alloc (grow w _ j1) _) o2 j2) _ = W
  generalize hra : w.heap.size + sz o1 = ra at *
  generalize hoa : ra + 1 + sz o2 = oa at *
  have b0 : blk W ra #[.int .i64 N, .int .u64 (p 0 : Nat), .int .u64 (p 1 : Nat), .int .u64 (p 2 : Nat), .int .u64 (p 3 : Nat)] 53 := by rw [← hW]; exact blk_alloc (blk_grow (blk_at _ _ _ (by rw [← hra]; simp [go_sem])) _ _) _
  have b1 : blk W oa #[.int .i64 M, .int .u64 (q 0 : Nat), .int .u64 (q 1 : Nat), .int .u64 (q 2 : Nat), .int .u64 (q 3 : Nat)] 53 := by rw [← hW]; exact blk_at _ _ _ (by rw [← hoa, ← hra]; simp [go_sem])
  have bb : Below w.heap.size w W := by rw [← hW]; repeat (first | (with_reducible exact Below.refl _ _) | ((with_reducible refine below_grow ?_ ?_); rotate_left; focus (first | omega | (simp [go_sem]; done) | (simp [go_sem]; omega))) | ((with_reducible refine Below.alloc ?_ ?_ _); rotate_left; focus (first | omega | (simp [go_sem]; done) | (simp [go_sem]; omega))) | ((with_reducible refine Below.setCell ?_ ?_ _); rotate_left; focus (first | omega | (simp [go_sem]; done) | (simp [go_sem]; omega))) | (with_reducible refine Below.drew ?_) | (with_reducible refine below_drewN _ ?_))
  have hwr : w.heap.size ≤ ra := by omega
  have hro : ra < oa := by omega
  clear hW hra hoa
  have k0 : W.cell? ⟨ra, 0, none⟩ = some (.int .i64 N) := blk_cell b0 0
  have k1 : W.cell? ⟨ra, 1, none⟩ = some (.int .u64 (p 0 : Nat)) := blk_cell b0 1
  have k2 : W.cell? ⟨ra, 2, none⟩ = some (.int .u64 (p 1 : Nat)) := blk_cell b0 2
  have k3 : W.cell? ⟨ra, 3, none⟩ = some (.int .u64 (p 2 : Nat)) := blk_cell b0 3
  have k4 : W.cell? ⟨ra, 4, none⟩ = some (.int .u64 (p 3 : Nat)) := blk_cell b0 4
  have m0 : W.cell? ⟨oa, 0, none⟩ = some (.int .i64 M) := blk_cell b1 0
  have m1 : W.cell? ⟨oa, 1, none⟩ = some (.int .u64 (q 0 : Nat)) := blk_cell b1 1
  have m2 : W.cell? ⟨oa, 2, none⟩ = some (.int .u64 (q 1 : Nat)) := blk_cell b1 2
  have m3 : W.cell? ⟨oa, 3, none⟩ = some (.int .u64 (q 2 : Nat)) := blk_cell b1 3
  have m4 : W.cell? ⟨oa, 4, none⟩ = some (.int .u64 (q 3 : Nat)) := blk_cell b1 4
  haveI i0 : NeZero (inW ra W) := inW_mk (blk_lt b0)
  haveI i1 : NeZero (inW oa W) := inW_mk (blk_lt b1)
  have hbs := bb.size
  have BB' := Lib.hid bb
  have B0 := Lib.hid b0
  clear b0 b1 bb
  go_upto_region 4 with (go_at_call 20; refine (T1.out _ (by repeat (first | (with_reducible exact BB'.out) | ((with_reducible refine below_grow ?_ ?_); rotate_left; focus (first | omega | (simp [go_sem]; done) | (simp [go_sem]; omega))) | ((with_reducible refine Below.alloc ?_ ?_ _); rotate_left; focus (first | omega | (simp [go_sem]; done) | (simp [go_sem]; omega))) | ((with_reducible refine Below.setCell ?_ ?_ _); rotate_left; focus (first | omega | (simp [go_sem]; done) | (simp [go_sem]; omega))) | (with_reducible refine Below.drew ?_) | (with_reducible refine below_drewN _ ?_)))).mono ?_; rintro e w9 ⟨rfl, hbel⟩; obtain ⟨o3, j3, rfl⟩ := grow_of_below hbel; clear hbel)
  go_upto_region 5 with (go_at_call 20; refine (T2.out _ (by repeat (first | (with_reducible exact BB'.out) | ((with_reducible refine below_grow ?_ ?_); rotate_left; focus (first | omega | (simp [go_sem]; done) | (simp [go_sem]; omega))) | ((with_reducible refine Below.alloc ?_ ?_ _); rotate_left; focus (first | omega | (simp [go_sem]; done) | (simp [go_sem]; omega))) | ((with_reducible refine Below.setCell ?_ ?_ _); rotate_left; focus (first | omega | (simp [go_sem]; done) | (simp [go_sem]; omega))) | (with_reducible refine Below.drew ?_) | (with_reducible refine below_drewN _ ?_)))).mono ?_; rintro e w9 ⟨rfl, hbel⟩; obtain ⟨o4, j4, rfl⟩ := grow_of_below hbel; clear hbel)
  go_upto_region 6 with (go_at_call 21; refine (RD.out _ (by repeat (first | (with_reducible exact BB'.out) | ((with_reducible refine below_grow ?_ ?_); rotate_left; focus (first | omega | (simp [go_sem]; done) | (simp [go_sem]; omega))) | ((with_reducible refine Below.alloc ?_ ?_ _); rotate_left; focus (first | omega | (simp [go_sem]; done) | (simp [go_sem]; omega))) | ((with_reducible refine Below.setCell ?_ ?_ _); rotate_left; focus (first | omega | (simp [go_sem]; done) | (simp [go_sem]; omega))) | (with_reducible refine Below.drew ?_) | (with_reducible refine below_drewN _ ?_)))).mono ?_; rintro e w9 ⟨rfl, hbel⟩; obtain ⟨o5, j5, rfl⟩ := grow_of_below hbel; clear hbel)
  clear T1 T2 RD
  go_upto_region 9 with fail
  generalize hV : World.alloc (World.alloc (grow W _ j5) _) _ = V
  generalize hyb : W.heap.size + sz (o3 ++ (o4 ++ o5)) + 1 = yb at *
  have c0 : blk V ra #[.int .i64 N, .int .u64 (p 0 : Nat), .int .u64 (p 1 : Nat), .int .u64 (p 2 : Nat), .int .u64 (p 3 : Nat)] 53 := by rw [← hV]; exact blk_alloc (blk_alloc (blk_grow B0.out _ _) _) _
  have c1 : blk V yb #[.int .i64 N, .int .u64 ((tk p 0) 0 : Nat), .int .u64 ((tk p 0) 1 : Nat), .int .u64 ((tk p 0) 2 : Nat), .int .u64 ((tk p 0) 3 : Nat)] 53 := by rw [← hV]; exact blk_at _ _ _ (by rw [← hyb]; simp [go_sem])
  have cb : Below w.heap.size w V := by rw [← hV]; repeat (first | (with_reducible exact BB'.out) | ((with_reducible refine below_grow ?_ ?_); rotate_left; focus (first | omega | (simp [go_sem]; done) | (simp [go_sem]; omega))) | ((with_reducible refine Below.alloc ?_ ?_ _); rotate_left; focus (first | omega | (simp [go_sem]; done) | (simp [go_sem]; omega))) | ((with_reducible refine Below.setCell ?_ ?_ _); rotate_left; focus (first | omega | (simp [go_sem]; done) | (simp [go_sem]; omega))) | (with_reducible refine Below.drew ?_) | (with_reducible refine below_drewN _ ?_))
  have hry : ra < yb := by have := blk_lt B0.out; omega
  clear hV hyb k0 k1 k2 k3 k4 m0 m1 m2 m3 m4 i0 i1 BB' B0 hE hbs
  go_wp2
  go_loopw [14, 78] (fun _ s78 wr => ∃ k : Nat, k ≤ 4 ∧ s78 = .int .i64 k ∧ blk wr ra #[.int .i64 N, .int .u64 (p 0 : Nat), .int .u64 (p 1 : Nat), .int .u64 (p 2 : Nat), .int .u64 (p 3 : Nat)] 53 ∧ blk wr yb #[.int .i64 N, .int .u64 ((tk p k) 0 : Nat), .int .u64 ((tk p k) 1 : Nat), .int .u64 ((tk p k) 2 : Nat), .int .u64 ((tk p k) 3 : Nat)] 53 ∧ Below w.heap.size w wr) (fun _ s78 _ => 4 - (intOf s78).toNat)
  case atStart => exact ⟨0, by decide, rfl, c0, c1, cb⟩
  case round =>
    obtain ⟨k, hk, rfl, d0, d1, db⟩ := hrel
    clear c0 c1 cb
    have k0 : wr.cell? ⟨ra, 0, none⟩ = some (.int .i64 N) := blk_cell d0 0
    have k1 : wr.cell? ⟨ra, 1, none⟩ = some (.int .u64 (p 0 : Nat)) := blk_cell d0 1
    have k2 : wr.cell? ⟨ra, 2, none⟩ = some (.int .u64 (p 1 : Nat)) := blk_cell d0 2
    have k3 : wr.cell? ⟨ra, 3, none⟩ = some (.int .u64 (p 2 : Nat)) := blk_cell d0 3
    have k4 : wr.cell? ⟨ra, 4, none⟩ = some (.int .u64 (p 3 : Nat)) := blk_cell d0 4
    have m0 : wr.cell? ⟨yb, 0, none⟩ = some (.int .i64 N) := blk_cell d1 0
    have m1 : wr.cell? ⟨yb, 1, none⟩ = some (.int .u64 (tk p k 0 : Nat)) := blk_cell d1 1
    have m2 : wr.cell? ⟨yb, 2, none⟩ = some (.int .u64 (tk p k 1 : Nat)) := blk_cell d1 2
    have m3 : wr.cell? ⟨yb, 3, none⟩ = some (.int .u64 (tk p k 2 : Nat)) := blk_cell d1 3
    have m4 : wr.cell? ⟨yb, 4, none⟩ = some (.int .u64 (tk p k 3 : Nat)) := blk_cell d1 4
    have fy : ∀ j, wr.frozen? ⟨yb, j, none⟩ = false := fun j => blk_free d1 j
    haveI i0 : NeZero (inW ra wr) := inW_mk (blk_lt d0)
    haveI i1 : NeZero (inW yb wr) := inW_mk (blk_lt d1)
    have n1 : ¬ yb = ra := by omega
    have n2 : ¬ ra = yb := by omega
    have hbs := db.size
    by_cases hk4 : k < 4
    · have t1 : (k : Int) < 4 := by omega
      have t2 : IntKind.i64.wrap ((k : Int) + 1) = (k : Int) + 1 := IntWalk.i64_in _ (by omega)
      have B := Lib.hid (BT.out k)
      obtain ⟨y', hy'⟩ : ∃ y, tn (tk p k) 1 = y := ⟨_, rfl⟩
      rw [hy'] at B
      have hn1 : tk p (k + 1) = y' := hy'
      obtain ⟨y, hy⟩ : ∃ y, tk p k = y := ⟨_, rfl⟩
      rw [hy] at B d1 m1 m2 m3 m4
      obtain ⟨b, hb⟩ : ∃ b, decide (((y' 0 : Nat) : Int) = (p 0 : Nat) ∧ ((y' 1 : Nat) : Int) = (p 1 : Nat) ∧ ((y' 2 : Nat) : Int) = (p 2 : Nat) ∧ ((y' 3 : Nat) : Int) = (p 3 : Nat)) = b := ⟨_, rfl⟩
      have hA : ∀ X, (Op.equalIn 10000 39 (.agg #[.int .u64 (y' 0 : Nat), .int .u64 (y' 1 : Nat), .int .u64 (y' 2 : Nat), .int .u64 (y' 3 : Nat)]) (.agg #[.int .u64 (p 0 : Nat), .int .u64 (p 1 : Nat), .int .u64 (p 2 : Nat), .int .u64 (p 3 : Nat)])).run Tryd.prog X = .ok b X := fun X => by rw [eqDl, hb]
      have hB : ∀ X, (Op.equalIn 10000 53 (.agg #[.int .i64 N, .int .u64 (y' 0 : Nat), .int .u64 (y' 1 : Nat), .int .u64 (y' 2 : Nat), .int .u64 (y' 3 : Nat)]) (.agg #[.int .i64 N, .int .u64 (p 0 : Nat), .int .u64 (p 1 : Nat), .int .u64 (p 2 : Nat), .int .u64 (p 3 : Nat)])).run Tryd.prog X = .ok b X := fun X => by
        rw [eqRc, ← hb]
        simp
      have D0 := Lib.hid d0
      have D1 := Lib.hid d1
      have DB' := Lib.hid db
      have HK := Lib.hid hk4
      have HN1 := Lib.hid hn1
      clear d0 d1 db hk hk4 hy hy' hn1 hb RS TS A BT hSelf
      cases b
      all_goals
        go_wp2_with (go_at_call 22; refine (B.out _).mono ?_; rintro e w9 ⟨rfl, hbel⟩; obtain ⟨o6, j6, rfl⟩ := grow_of_below hbel; clear hbel)
        go_roundw
        case rel =>
          refine ⟨k + 1, HK.out, by go_num, ?_, ?_, ?_⟩
          · repeat (first | (with_reducible exact D0.out) | (with_reducible refine blk_grow ?_ _ _) | (with_reducible refine blk_other ?_ n1 _))
          · rw [HN1.out]
            exact blk_grow (blk_set (blk_set (blk_set (blk_set (blk_set D1.out 0 _) 1 _) 2 _) 3 _) 4 _) _ _
          · have hw1 : w.heap.size ≤ yb := by omega
            repeat (first | (with_reducible exact DB'.out) | ((with_reducible refine below_grow ?_ ?_); rotate_left; focus (first | omega | (simp [go_sem]; done) | (simp [go_sem]; omega))) | ((with_reducible refine Below.alloc ?_ ?_ _); rotate_left; focus (first | omega | (simp [go_sem]; done) | (simp [go_sem]; omega))) | ((with_reducible refine Below.setCell ?_ ?_ _); rotate_left; focus (first | omega | (simp [go_sem]; done) | (simp [go_sem]; omega))) | (with_reducible refine Below.drew ?_) | (with_reducible refine below_drewN _ ?_))
        case measure => simp [intOf]; have := HK.out; omega
    · obtain rfl : k = 4 := by omega
      obtain ⟨q0, q1, q2, q3⟩ := tk_four p
      rw [q0] at m1
      rw [q1] at m2
      rw [q2] at m3
      rw [q3] at m4
      have CB := Lib.hid db
      clear d0 d1 q0 q1 q2 q3 hk hk4 BT db
      cases hr : rdB s with
      | none =>
        have hz : rbV none = .tuple #[.agg #[.int .i64 0, .int .u64 0, .int .u64 0, .int .u64 0, .int .u64 0], .int .i64 71] := rfl
        rw [hr, hz] at RS
        clear hr hz TS
        go_wp2_with (first | (go_at_call 21; refine (RS.out _ (by repeat (first | (with_reducible exact CB.out) | ((with_reducible refine below_grow ?_ ?_); rotate_left; focus (first | omega | (simp [go_sem]; done) | (simp [go_sem]; omega))) | ((with_reducible refine Below.alloc ?_ ?_ _); rotate_left; focus (first | omega | (simp [go_sem]; done) | (simp [go_sem]; omega))) | ((with_reducible refine Below.setCell ?_ ?_ _); rotate_left; focus (first | omega | (simp [go_sem]; done) | (simp [go_sem]; omega))) | (with_reducible refine Below.drew ?_) | (with_reducible refine below_drewN _ ?_)))).mono ?_; rintro e w9 ⟨rfl, hbel⟩; obtain ⟨o6, j6, rfl⟩ := grow_of_below hbel; clear hbel) | (go_at_call 15; refine (A.out _ (by repeat (first | (with_reducible exact CB.out) | ((with_reducible refine below_grow ?_ ?_); rotate_left; focus (first | omega | (simp [go_sem]; done) | (simp [go_sem]; omega))) | ((with_reducible refine Below.alloc ?_ ?_ _); rotate_left; focus (first | omega | (simp [go_sem]; done) | (simp [go_sem]; omega))) | ((with_reducible refine Below.setCell ?_ ?_ _); rotate_left; focus (first | omega | (simp [go_sem]; done) | (simp [go_sem]; omega))) | (with_reducible refine Below.drew ?_) | (with_reducible refine below_drewN _ ?_)))).mono ?_; rintro e w9 ⟨rfl, hbel⟩; obtain ⟨o7, j7, rfl⟩ := grow_of_below hbel; clear hbel))
        refine bodyPost_ret (by simp [results, Tryd.results7, go_sem]) rfl ⟨rfl, ?_⟩
        repeat (first | (with_reducible exact CB.out) | ((with_reducible refine below_grow ?_ ?_); rotate_left; focus (first | omega | (simp [go_sem]; done) | (simp [go_sem]; omega))) | ((with_reducible refine Below.alloc ?_ ?_ _); rotate_left; focus (first | omega | (simp [go_sem]; done) | (simp [go_sem]; omega))) | ((with_reducible refine Below.setCell ?_ ?_ _); rotate_left; focus (first | omega | (simp [go_sem]; done) | (simp [go_sem]; omega))) | (with_reducible refine Below.drew ?_) | (with_reducible refine below_drewN _ ?_))
      | some x =>
        obtain ⟨N2, p2⟩ := x
        have hz : rbV (some (N2, p2)) = .tuple #[.agg #[.int .i64 N2, .int .u64 (p2 0 : Nat), .int .u64 (p2 1 : Nat), .int .u64 (p2 2 : Nat), .int .u64 (p2 3 : Nat)], .int .i64 0] := rfl
        have T := Lib.hid (TS.out N2 p2 hr)
        rw [hr, hz] at RS
        clear hr hz TS
        go_wp2_with (first | (go_at_call 21; refine (RS.out _ (by repeat (first | (with_reducible exact CB.out) | ((with_reducible refine below_grow ?_ ?_); rotate_left; focus (first | omega | (simp [go_sem]; done) | (simp [go_sem]; omega))) | ((with_reducible refine Below.alloc ?_ ?_ _); rotate_left; focus (first | omega | (simp [go_sem]; done) | (simp [go_sem]; omega))) | ((with_reducible refine Below.setCell ?_ ?_ _); rotate_left; focus (first | omega | (simp [go_sem]; done) | (simp [go_sem]; omega))) | (with_reducible refine Below.drew ?_) | (with_reducible refine below_drewN _ ?_)))).mono ?_; rintro e w9 ⟨rfl, hbel⟩; obtain ⟨o6, j6, rfl⟩ := grow_of_below hbel; clear hbel) | (go_at_call 20; refine (T.out _ (by repeat (first | (with_reducible exact CB.out) | ((with_reducible refine below_grow ?_ ?_); rotate_left; focus (first | omega | (simp [go_sem]; done) | (simp [go_sem]; omega))) | ((with_reducible refine Below.alloc ?_ ?_ _); rotate_left; focus (first | omega | (simp [go_sem]; done) | (simp [go_sem]; omega))) | ((with_reducible refine Below.setCell ?_ ?_ _); rotate_left; focus (first | omega | (simp [go_sem]; done) | (simp [go_sem]; omega))) | (with_reducible refine Below.drew ?_) | (with_reducible refine below_drewN _ ?_)))).mono ?_; rintro e w9 ⟨rfl, hbel⟩; obtain ⟨o8, j8, rfl⟩ := grow_of_below hbel; clear hbel) | (go_at_call 15; refine (A.out _ (by repeat (first | (with_reducible exact CB.out) | ((with_reducible refine below_grow ?_ ?_); rotate_left; focus (first | omega | (simp [go_sem]; done) | (simp [go_sem]; omega))) | ((with_reducible refine Below.alloc ?_ ?_ _); rotate_left; focus (first | omega | (simp [go_sem]; done) | (simp [go_sem]; omega))) | ((with_reducible refine Below.setCell ?_ ?_ _); rotate_left; focus (first | omega | (simp [go_sem]; done) | (simp [go_sem]; omega))) | (with_reducible refine Below.drew ?_) | (with_reducible refine below_drewN _ ?_)))).mono ?_; rintro e w9 ⟨rfl, hbel⟩; obtain ⟨o7, j7, rfl⟩ := grow_of_below hbel; clear hbel))
        refine bodyPost_ret (by simp [results, Tryd.results7, go_sem]) rfl ⟨rfl, ?_⟩
        repeat (first | (with_reducible exact CB.out) | ((with_reducible refine below_grow ?_ ?_); rotate_left; focus (first | omega | (simp [go_sem]; done) | (simp [go_sem]; omega))) | ((with_reducible refine Below.alloc ?_ ?_ _); rotate_left; focus (first | omega | (simp [go_sem]; done) | (simp [go_sem]; omega))) | ((with_reducible refine Below.setCell ?_ ?_ _); rotate_left; focus (first | omega | (simp [go_sem]; done) | (simp [go_sem]; omega))) | (with_reducible refine Below.drew ?_) | (with_reducible refine below_drewN _ ?_))
end Go.Proofs.YtalklogopepjpaaDoor.Ca
