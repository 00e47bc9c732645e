/- FracWrong. -/
import Derived.Test.YtignphcnjgbikaaDoorT
import Derived.Test.YtignphcnjgbikaaDoorS
namespace Go.Proofs.YtignphcnjgbikaaDoor
open Go.RowKit

/-- what FracWrong takes as a fraction that is not right -/
def BadOf (bn bd : Int) : Prop := I64 bn ∧ I64 bd ∧ rightB bn bd = false

theorem ix6_0 (c0 c1 c2 c3 c4 c5 c6 c7 c8 c9 c10 c11 : Value) (w : World) : Sem.run Tryd.prog (Instr.index 58 (.agg #[c0, c1, c2, c3, c4, c5, c6, c7, c8, c9, c10, c11]) (.int .u8 0)) w = .ok (.agg #[c0, c1]) w := by kernel_rfl
theorem ix6_1 (c0 c1 c2 c3 c4 c5 c6 c7 c8 c9 c10 c11 : Value) (w : World) : Sem.run Tryd.prog (Instr.index 58 (.agg #[c0, c1, c2, c3, c4, c5, c6, c7, c8, c9, c10, c11]) (.int .u8 1)) w = .ok (.agg #[c2, c3]) w := by kernel_rfl
theorem ix6_2 (c0 c1 c2 c3 c4 c5 c6 c7 c8 c9 c10 c11 : Value) (w : World) : Sem.run Tryd.prog (Instr.index 58 (.agg #[c0, c1, c2, c3, c4, c5, c6, c7, c8, c9, c10, c11]) (.int .u8 2)) w = .ok (.agg #[c4, c5]) w := by kernel_rfl
theorem ix6_3 (c0 c1 c2 c3 c4 c5 c6 c7 c8 c9 c10 c11 : Value) (w : World) : Sem.run Tryd.prog (Instr.index 58 (.agg #[c0, c1, c2, c3, c4, c5, c6, c7, c8, c9, c10, c11]) (.int .u8 3)) w = .ok (.agg #[c6, c7]) w := by kernel_rfl
theorem ix6_4 (c0 c1 c2 c3 c4 c5 c6 c7 c8 c9 c10 c11 : Value) (w : World) : Sem.run Tryd.prog (Instr.index 58 (.agg #[c0, c1, c2, c3, c4, c5, c6, c7, c8, c9, c10, c11]) (.int .u8 4)) w = .ok (.agg #[c8, c9]) w := by kernel_rfl
theorem ix6_5 (c0 c1 c2 c3 c4 c5 c6 c7 c8 c9 c10 c11 : Value) (w : World) : Sem.run Tryd.prog (Instr.index 58 (.agg #[c0, c1, c2, c3, c4, c5, c6, c7, c8, c9, c10, c11]) (.int .u8 5)) w = .ok (.agg #[c10, c11]) w := by kernel_rfl

theorem right_zero (n : Int) : rightB n 0 = false := by unfold rightB; simp
theorem right_neg (n d : Int) (h : d < 0) : rightB n d = false := by unfold rightB; simp; omega
theorem right_even (n d : Int) : rightB (2 * n) (2 * d) = false := by
  unfold rightB
  have : (2 : Int) ∣ (Int.gcd (2 * n) (2 * d) : Int) := Int.dvd_coe_gcd (Int.dvd_mul_right _ _) (Int.dvd_mul_right _ _)
  simp only [decide_eq_false_iff_not]
  omega
theorem right_none (d : Int) (h : 2 ≤ d) : rightB 0 d = false := by
  unfold rightB
  have : (Int.gcd 0 d : Int) = d.natAbs := by simp
  simp only [decide_eq_false_iff_not]
  omega
theorem bad2 (a b : Int) (ha : I64 a) : BadOf (wrap64 (2 * (a / 4))) (wrap64 (2 * wrap64 (1 + bits BinOp.and IntKind.i64 b 65535))) := by
  have hb : bits BinOp.and IntKind.i64 b 65535 = b % 65536 := and_mask_i64 b 65535 16 (by decide) (by decide)
  obtain ⟨a1, a2⟩ := ha
  have e1 : wrap64 (2 * (a / 4)) = 2 * (a / 4) := by unfold wrap64; omega
  have e2 : wrap64 (2 * wrap64 (1 + b % 65536)) = 2 * (1 + b % 65536) := by unfold wrap64; omega
  rw [hb, e1, e2]
  exact ⟨by unfold I64; omega, by unfold I64; omega, right_even _ _⟩
theorem bad3 (b : Int) : BadOf 0 (wrap64 (2 + bits BinOp.and IntKind.i64 b 65535)) := by
  have hb : bits BinOp.and IntKind.i64 b 65535 = b % 65536 := and_mask_i64 b 65535 16 (by decide) (by decide)
  have e1 : wrap64 (2 + b % 65536) = 2 + b % 65536 := by unfold wrap64; omega
  rw [hb, e1]
  exact ⟨by unfold I64; omega, by unfold I64; omega, right_none _ (by omega)⟩
theorem bad1 (a b : Int) (ha : I64 a) (hb : I64 b) : BadOf a (min b (-1)) := by
  obtain ⟨b1, b2⟩ := hb
  exact ⟨ha, by unfold I64; omega, right_neg _ _ (by omega)⟩
theorem bad0 (a : Int) (ha : I64 a) : BadOf a 0 := ⟨ha, by unfold I64; omega, right_zero _⟩
theorem bad4 : BadOf 0 0 := ⟨by unfold I64; omega, by unfold I64; omega, right_zero _⟩
theorem bad5 : BadOf 1 (-1) := ⟨by unfold I64; omega, by unfold I64; omega, right_neg _ _ (by omega)⟩

set_option maxRecDepth 100000 in
set_option maxHeartbeats 4000000 in
theorem wrong_walk (a b n way : Int) (ha : I64 a) (hb : I64 b) (hn : -32768 ≤ n ∧ n ≤ 32767) (hw0 : 0 ≤ way) (hw1 : way ≤ 255) (w : World) (he : EnvE w) :
    Calls Tryd.prog 9 #[.int .i64 a, .int .i64 b, .int .i16 n, .int .u8 way] w fun e w' => e = .returned (.bool true) ∧ Below w.heap.size w w' := by
  obtain ⟨f1, _, _⟩ := someR_fits n 5 hn
  have hS := fun w => some_calls n 5 hn (by omega) w
  obtain ⟨N, hN⟩ : ∃ N, (someR n 5).num = N := ⟨_, rfl⟩
  obtain ⟨D, hD⟩ : ∃ D : Int, ((someR n 5).den : Int) = D := ⟨_, rfl⟩
  have hgood : rightB N D = true := by rw [← hN, ← hD]; exact right_rat _
  have iN : I64 N := by rw [← hN]; exact (fits64 f1).1
  have iD : I64 D := by rw [← hD]; exact (fits64 f1).2.1
  rw [hN, hD] at hS
  have HS := Lib.hid hS
  clear hS hN hD f1
  go_enter Tryd.func9, Tryd.ntmps9
  go_upto_region 3 with (first | (go_at_call 11; refine (awake_calls _ he).mono ?_; rintro e w0 ⟨rfl, hb⟩; obtain ⟨o0, j0, rfl⟩ := grow_of_below hb; clear hb))
  go_cut [9] (fun s9 wx => ∃ p : Nat, s9 = .pointer (some ⟨p, 0, none⟩) ∧ Below w.heap.size w wx ∧ NeZero (inW p wx) ∧ wx.cell? ⟨p, 0, none⟩ = some (.int .i64 N) ∧ wx.cell? ⟨p, 1, none⟩ = some (.int .i64 D))
  case first =>
    go_wp2_with (first | (go_at_call 12; refine (HS.out _).mono ?_; rintro e w0 ⟨rfl, hb⟩; obtain ⟨o1, j1, rfl⟩ := grow_of_below hb; clear hb))
    go_meet
    exact ⟨_, rfl, by repeat (first | (with_reducible exact Below.refl _ _) | ((with_reducible refine below_grow ?_ ?_); rotate_left; focus (first | omega | (simp [go_sem]; done) | (simp [go_sem]; omega))) | ((with_reducible refine Below.alloc ?_ ?_ _); rotate_left; focus (first | omega | (simp [go_sem]; done) | (simp [go_sem]; omega))) | ((with_reducible refine Below.setCell ?_ ?_ _); rotate_left; focus (first | omega | (simp [go_sem]; done) | (simp [go_sem]; omega))) | (with_reducible refine Below.drew ?_) | (with_reducible refine below_drewN _ ?_)), inferInstance, by simp [go_sem], by simp [go_sem]⟩
  case rest =>
    obtain ⟨p, rfl, hbx, ip, p0, p1⟩ := hcut
    go_upto_region 4 with fail
    go_cut [10] (fun s10 wy => ∃ (q : Nat) (bn bd : Int), s10 = .pointer (some ⟨q, 0, none⟩) ∧ Below w.heap.size w wy ∧ NeZero (inW p wy) ∧ NeZero (inW q wy) ∧ wy.cell? ⟨p, 0, none⟩ = some (.int .i64 N) ∧ wy.cell? ⟨p, 1, none⟩ = some (.int .i64 D) ∧ wy.cell? ⟨q, 0, none⟩ = some (.int .i64 bn) ∧ wy.cell? ⟨q, 1, none⟩ = some (.int .i64 bd) ∧ BadOf bn bd)
    case first =>
      have h6 : way % 6 = 0 ∨ way % 6 = 1 ∨ way % 6 = 2 ∨ way % 6 = 3 ∨ way % 6 = 4 ∨ way % 6 = 5 := by omega
      rcases h6 with h6 | h6 | h6 | h6 | h6 | h6
      · have hix := ix6_0
        go_wp2
        go_meet
        have hs := hbx.size
        exact ⟨_, _, _, rfl, by repeat (first | (with_reducible exact hbx) | ((with_reducible refine below_grow ?_ ?_); rotate_left; focus (first | omega | (simp [go_sem]; done) | (simp [go_sem]; omega))) | ((with_reducible refine Below.alloc ?_ ?_ _); rotate_left; focus (first | omega | (simp [go_sem]; done) | (simp [go_sem]; omega))) | ((with_reducible refine Below.setCell ?_ ?_ _); rotate_left; focus (first | omega | (simp [go_sem]; done) | (simp [go_sem]; omega))) | (with_reducible refine Below.drew ?_) | (with_reducible refine below_drewN _ ?_)), inferInstance, inferInstance, by simp [go_sem, *], by simp [go_sem, *], by simp [go_sem], by simp [go_sem], bad0 a ha⟩
      · have hix := ix6_1
        go_wp2
        go_meet
        have hs := hbx.size
        exact ⟨_, _, _, rfl, by repeat (first | (with_reducible exact hbx) | ((with_reducible refine below_grow ?_ ?_); rotate_left; focus (first | omega | (simp [go_sem]; done) | (simp [go_sem]; omega))) | ((with_reducible refine Below.alloc ?_ ?_ _); rotate_left; focus (first | omega | (simp [go_sem]; done) | (simp [go_sem]; omega))) | ((with_reducible refine Below.setCell ?_ ?_ _); rotate_left; focus (first | omega | (simp [go_sem]; done) | (simp [go_sem]; omega))) | (with_reducible refine Below.drew ?_) | (with_reducible refine below_drewN _ ?_)), inferInstance, inferInstance, by simp [go_sem, *], by simp [go_sem, *], by simp [go_sem], by simp [go_sem], bad1 a b ha hb⟩
      · have hix := ix6_2
        go_wp2
        go_meet
        have hs := hbx.size
        exact ⟨_, _, _, rfl, by repeat (first | (with_reducible exact hbx) | ((with_reducible refine below_grow ?_ ?_); rotate_left; focus (first | omega | (simp [go_sem]; done) | (simp [go_sem]; omega))) | ((with_reducible refine Below.alloc ?_ ?_ _); rotate_left; focus (first | omega | (simp [go_sem]; done) | (simp [go_sem]; omega))) | ((with_reducible refine Below.setCell ?_ ?_ _); rotate_left; focus (first | omega | (simp [go_sem]; done) | (simp [go_sem]; omega))) | (with_reducible refine Below.drew ?_) | (with_reducible refine below_drewN _ ?_)), inferInstance, inferInstance, by simp [go_sem, *], by simp [go_sem, *], by simp [go_sem], by simp [go_sem], bad2 a b ha⟩
      · have hix := ix6_3
        go_wp2
        go_meet
        have hs := hbx.size
        exact ⟨_, _, _, rfl, by repeat (first | (with_reducible exact hbx) | ((with_reducible refine below_grow ?_ ?_); rotate_left; focus (first | omega | (simp [go_sem]; done) | (simp [go_sem]; omega))) | ((with_reducible refine Below.alloc ?_ ?_ _); rotate_left; focus (first | omega | (simp [go_sem]; done) | (simp [go_sem]; omega))) | ((with_reducible refine Below.setCell ?_ ?_ _); rotate_left; focus (first | omega | (simp [go_sem]; done) | (simp [go_sem]; omega))) | (with_reducible refine Below.drew ?_) | (with_reducible refine below_drewN _ ?_)), inferInstance, inferInstance, by simp [go_sem, *], by simp [go_sem, *], by simp [go_sem], by simp [go_sem], bad3 b⟩
      · have hix := ix6_4
        go_wp2
        go_meet
        have hs := hbx.size
        exact ⟨_, _, _, rfl, by repeat (first | (with_reducible exact hbx) | ((with_reducible refine below_grow ?_ ?_); rotate_left; focus (first | omega | (simp [go_sem]; done) | (simp [go_sem]; omega))) | ((with_reducible refine Below.alloc ?_ ?_ _); rotate_left; focus (first | omega | (simp [go_sem]; done) | (simp [go_sem]; omega))) | ((with_reducible refine Below.setCell ?_ ?_ _); rotate_left; focus (first | omega | (simp [go_sem]; done) | (simp [go_sem]; omega))) | (with_reducible refine Below.drew ?_) | (with_reducible refine below_drewN _ ?_)), inferInstance, inferInstance, by simp [go_sem, *], by simp [go_sem, *], by simp [go_sem], by simp [go_sem], bad4⟩
      · have hix := ix6_5
        go_wp2
        go_meet
        have hs := hbx.size
        exact ⟨_, _, _, rfl, by repeat (first | (with_reducible exact hbx) | ((with_reducible refine below_grow ?_ ?_); rotate_left; focus (first | omega | (simp [go_sem]; done) | (simp [go_sem]; omega))) | ((with_reducible refine Below.alloc ?_ ?_ _); rotate_left; focus (first | omega | (simp [go_sem]; done) | (simp [go_sem]; omega))) | ((with_reducible refine Below.setCell ?_ ?_ _); rotate_left; focus (first | omega | (simp [go_sem]; done) | (simp [go_sem]; omega))) | (with_reducible refine Below.drew ?_) | (with_reducible refine below_drewN _ ?_)), inferInstance, inferInstance, by simp [go_sem, *], by simp [go_sem, *], by simp [go_sem], by simp [go_sem], bad5⟩
    case rest =>
      obtain ⟨q, bn, bd, rfl, hby, ip', iq, p0', p1', q0, q1, b1, b2, b3⟩ := hcut
      have hsy := hby.size
      have b3 := Lib.hid b3
      have hg := Lib.hid hgood
      have gb : Hid ((rightB N D && rightB bn bd) = false) := Lib.hid (by rw [hg.out, b3.out]; rfl)
      have bg : Hid ((rightB bn bd && rightB N D) = false) := Lib.hid (by rw [hg.out, b3.out]; rfl)
      have b1l : Hid ((rightB bn bd && rightB 1 1) = false) := Lib.hid (by rw [b3.out]; rfl)
      have gbg : Hid ((rightB N D && rightB bn bd && rightB N D) = false) := Lib.hid (by rw [hg.out, b3.out]; rfl)
      clear hgood
      go_upto_region 5 with fail
      go_upto_region 6 with (go_at_call 14; refine (add_bad N D bn bd gb.out iN iD b1 b2 _).mono ?_; rintro e w0 ⟨rfl, hb⟩; obtain ⟨o0, j0, rfl⟩ := grow_of_below hb; clear hb)
      go_upto_region 7 with (go_at_call 16; refine (sub_bad bn bd N D bg.out b1 b2 iN iD _).mono ?_; rintro e w0 ⟨rfl, hb⟩; obtain ⟨o0, j0, rfl⟩ := grow_of_below hb; clear hb)
      go_upto_region 8 with (go_at_call 15; refine (mul_bad N D bn bd gb.out iN iD b1 b2 _).mono ?_; rintro e w0 ⟨rfl, hb⟩; obtain ⟨o0, j0, rfl⟩ := grow_of_below hb; clear hb)
      go_upto_region 9 with (go_at_call 17; refine (div_bad bn bd 1 1 b1l.out b1 b2 (by unfold I64; omega) (by unfold I64; omega) _).mono ?_; rintro e w0 ⟨rfl, hb⟩; obtain ⟨o0, j0, rfl⟩ := grow_of_below hb; clear hb)
      go_upto_region 10 with (go_at_call 19; refine (sum_bad _ N D bn bd N D gbg.out iN iD b1 b2 iN iD _ (by simp [go_sem]) (by simp [go_sem]) (by simp [go_sem]) (by simp [go_sem]) (by simp [go_sem]) (by simp [go_sem])).mono ?_; rintro e w0 ⟨rfl, hb⟩; obtain ⟨o0, j0, rfl⟩ := grow_of_below hb; clear hb)
      go_upto_region 11 with (go_at_call 21; refine (cmp_bad bn bd N D bg.out b1 b2 iN iD _).mono ?_; rintro e w0 ⟨rfl, hb⟩; obtain ⟨o0, j0, rfl⟩ := grow_of_below hb; clear hb)
      go_upto_region 12 with (go_at_call 23; refine (near_bad bn bd b3.out b1 b2 _).mono ?_; rintro e w0 ⟨rfl, hb⟩; obtain ⟨o0, j0, rfl⟩ := grow_of_below hb; clear hb)
      go_upto_region 13 with (go_at_call 24; refine (round_bad bn bd 2 b3.out b1 b2 _).mono ?_; rintro e w0 ⟨rfl, hb⟩; obtain ⟨o0, j0, rfl⟩ := grow_of_below hb; clear hb)
      go_upto_region 14 with (go_at_call 30; refine (text_bad bn bd b3.out b1 b2 _).mono ?_; rintro e w0 ⟨rfl, hb⟩; obtain ⟨o0, j0, rfl⟩ := grow_of_below hb; clear hb)
      go_upto_region 15 with (go_at_call 18; refine (neg_bad bn bd b3.out b1 b2 _).mono ?_; rintro e w0 ⟨rfl, hb⟩; obtain ⟨o0, j0, rfl⟩ := grow_of_below hb; clear hb)
      go_upto_region 16 with (go_at_call 24; refine (round_low N D (min a (-1)) (by omega) hg.out iN iD _).mono ?_; rintro e w0 ⟨rfl, hb⟩; obtain ⟨o0, j0, rfl⟩ := grow_of_below hb; clear hb)
      go_upto_region 17 with (go_at_call 24; refine (round_high N D (max a 10) (by omega) hg.out iN iD _).mono ?_; rintro e w0 ⟨rfl, hb⟩; obtain ⟨o0, j0, rfl⟩ := grow_of_below hb; clear hb)
      go_upto_region 18 with (go_at_call 22; refine (make_zero a _).mono ?_; rintro e w0 ⟨rfl, hb⟩; obtain ⟨o0, j0, rfl⟩ := grow_of_below hb; clear hb)
      go_upto_region 19 with (go_at_call 17; refine (div_zero N D hg.out iN iD _).mono ?_; rintro e w0 ⟨rfl, hb⟩; obtain ⟨o0, j0, rfl⟩ := grow_of_below hb; clear hb)
      go_cut [168, 169, 170] (fun s168 s169 s170 wz => ∃ s : Nat, s168 = .slice (some ⟨s, 0, none⟩) 14 14 ∧ s169 = .int .i64 14 ∧ s170 = .int .i64 0 ∧ Below w.heap.size w wz ∧ NeZero (inW p wz) ∧ NeZero (inW q wz) ∧ NeZero (inW s wz) ∧ wz.cell? ⟨p, 0, none⟩ = some (.int .i64 N) ∧ wz.cell? ⟨p, 1, none⟩ = some (.int .i64 D) ∧ wz.cell? ⟨q, 0, none⟩ = some (.int .i64 bn) ∧ wz.cell? ⟨q, 1, none⟩ = some (.int .i64 bd)
        ∧ (∀ k : Nat, k < 14 → wz.cell? ⟨s, k, none⟩ = some (.int .i64 2)))
      case first =>
        go_wp2
        go_meet
        refine ⟨_, rfl, rfl, rfl, by repeat (first | (with_reducible exact hby) | ((with_reducible refine below_grow ?_ ?_); rotate_left; focus (first | omega | (simp [go_sem]; done) | (simp [go_sem]; omega))) | ((with_reducible refine Below.alloc ?_ ?_ _); rotate_left; focus (first | omega | (simp [go_sem]; done) | (simp [go_sem]; omega))) | ((with_reducible refine Below.setCell ?_ ?_ _); rotate_left; focus (first | omega | (simp [go_sem]; done) | (simp [go_sem]; omega))) | (with_reducible refine Below.drew ?_) | (with_reducible refine below_drewN _ ?_)), inferInstance, inferInstance, inferInstance, by simp [go_sem, *], by simp [go_sem, *], by simp [go_sem, *], by simp [go_sem, *], ?_⟩
        intro k hk
        match k, hk with
        | 0, _ | 1, _ | 2, _ | 3, _ | 4, _ | 5, _ | 6, _ | 7, _ | 8, _ | 9, _ | 10, _ | 11, _ | 12, _ | 13, _ => simp [go_sem]
      case rest =>
        obtain ⟨s, rfl, rfl, rfl, hbz, ipz, iqz, isz, pz0, pz1, qz0, qz1, hz⟩ := hcut
        go_wp2
        have hsz := hbz.size
        go_loopw [170] (fun i wr => wr = wc ∧ ∃ k : Nat, k ≤ 14 ∧ i = .int .i64 k) (fun i _ => 14 - (intOf i).toNat)
        case atStart => exact ⟨rfl, 0, by omega, rfl⟩
        case round =>
          obtain ⟨rfl, k, hk, rfl⟩ := hrel
          by_cases hlt : k < 14
          · have hzk := hz k hlt
            clear hz
            go_wp2
            go_roundw
            case rel => exact ⟨trivial, k + 1, by omega, by go_num⟩
            case measure => simp [intOf]; omega
          · have hk2 : k = 14 := by omega
            subst hk2
            clear hz
            go_wp2_with (first | (go_at_call 19; refine (sum_none _).mono ?_; rintro e w0 ⟨rfl, hb⟩; obtain ⟨o0, j0, rfl⟩ := grow_of_below hb; clear hb) | (go_at_call_of 20 (bn); refine (right_callsB bn bd false b3 b1 b2 _).mono ?_; rintro e w0 ⟨rfl, hb⟩; obtain ⟨o1, j1, rfl⟩ := grow_of_below hb; clear hb) | (go_at_call_of 20 (N); refine (right_callsB N D true hg iN iD _).mono ?_; rintro e w0 ⟨rfl, hb⟩; obtain ⟨o2, j2, rfl⟩ := grow_of_below hb; clear hb))
            go_ret
            exact ⟨rfl, by repeat (first | (with_reducible exact hbz) | ((with_reducible refine below_grow ?_ ?_); rotate_left; focus (first | omega | (simp [go_sem]; done) | (simp [go_sem]; omega))) | ((with_reducible refine Below.alloc ?_ ?_ _); rotate_left; focus (first | omega | (simp [go_sem]; done) | (simp [go_sem]; omega))) | ((with_reducible refine Below.setCell ?_ ?_ _); rotate_left; focus (first | omega | (simp [go_sem]; done) | (simp [go_sem]; omega))) | (with_reducible refine Below.drew ?_) | (with_reducible refine below_drewN _ ?_))⟩
end Go.Proofs.YtignphcnjgbikaaDoor
