/- HandLosers: the walk. -/
import Derived.Test.YtgndhdcnofblaaaDoorHP0
import Derived.Deep.LoopGhost
namespace Go.Proofs.YtgndhdcnofblaaaDoor
open Go.RowKit

theorem shp_ix0 (n0 n1 n2 n3 : Int) (W : World) : (Instr.index 34 (.agg #[.int .i64 n0, .int .i64 n1, .int .i64 n2, .int .i64 n3]) (.int .i64 0)).run Tryd.prog W = .ok (.int .i64 n0) W := by kernel_rfl
theorem shp_ix1 (n0 n1 n2 n3 : Int) (W : World) : (Instr.index 34 (.agg #[.int .i64 n0, .int .i64 n1, .int .i64 n2, .int .i64 n3]) (.int .i64 1)).run Tryd.prog W = .ok (.int .i64 n1) W := by kernel_rfl
theorem shp_ix2 (n0 n1 n2 n3 : Int) (W : World) : (Instr.index 34 (.agg #[.int .i64 n0, .int .i64 n1, .int .i64 n2, .int .i64 n3]) (.int .i64 2)).run Tryd.prog W = .ok (.int .i64 n2) W := by kernel_rfl
theorem shp_ix3 (n0 n1 n2 n3 : Int) (W : World) : (Instr.index 34 (.agg #[.int .i64 n0, .int .i64 n1, .int .i64 n2, .int .i64 n3]) (.int .i64 3)).run Tryd.prog W = .ok (.int .i64 n3) W := by kernel_rfl
theorem shp_ix (n0 n1 n2 n3 : Nat) (l : Nat → Nat) (h0 : l 0 = n0) (h1 : l 1 = n1) (h2 : l 2 = n2) (h3 : l 3 = n3) (i : Nat) (hi : i < 4) (W : World) : (Instr.index 34 (.agg #[.int .i64 n0, .int .i64 n1, .int .i64 n2, .int .i64 n3]) (.int .i64 i)).run Tryd.prog W = .ok (.int .i64 (l i : Nat)) W := by
  subst h0 h1 h2 h3
  match i, hi with
  | 0, _ => exact shp_ix0 _ _ _ _ W
  | 1, _ => exact shp_ix1 _ _ _ _ W
  | 2, _ => exact shp_ix2 _ _ _ _ W
  | 3, _ => exact shp_ix3 _ _ _ _ W
theorem shift_num (m s : Nat) (hm : m < 4503599627370496) (hs : s < 4) : IntKind.i64.wrap ((13 : Int) * s) = ((13 * s : Nat) : Int) ∧ IntKind.u64.wrap ((8191 : Int) * 2 ^ (13 * s)) = ((8191 * 2 ^ (13 * s) : Nat) : Int) ∧ bits .and .u64 (m : Int) ((8191 * 2 ^ (13 * s) : Nat) : Int) = (one m s : Int) := by
  have hp : 2 ^ (13 * s) ≤ 2 ^ 39 := Nat.pow_le_pow_right (by decide) (by omega)
  have e : (8191 * 2 ^ (13 * s) : Int) = ((8191 * 2 ^ (13 * s) : Nat) : Int) := by simp
  refine ⟨by rw [IntWalk.i64_in _ (by omega)]; omega, ?_, u64_and_nat m (8191 * 2 ^ (13 * s)) (by omega) (by omega)⟩
  rw [e, IntKind.wrap_u64]
  omega
theorem top_num (h k : Nat) (hh : h < 8192) : bits .and .u16 ((h : Int) / (k : Nat)) 1 = ((h / k % 2 : Nat) : Int) := by
  have e : (h : Int) / (k : Int) = ((h / k : Nat) : Int) := by simp
  rw [e]
  have h2 : h / k ≤ h := Nat.div_le_self _ _
  have := u16_and_nat (h / k) 1 (by omega) (by decide)
  rw [Nat.and_one_is_mod] at this
  exact this
set_option maxRecDepth 100000 in
set_option maxHeartbeats 8000000 in
theorem handLosers_nat (a0 : Int) (M : Nat) (hM : M < 4503599627370496) (h0 : a0.tmod 4503599627370496 = (M : Int)) (w : World) :
    Calls Tryd.prog 8 #[.int .u64 a0] w fun e w' => e = .returned (.bool true) ∧ Below w.heap.size w w' := by
  have S := Lib.hid (shape_calls M (by omega))
  have T := Lib.hid (losersT M (by omega))
  have A := Lib.hid awake_calls
  have HM := Lib.hid hM
  unfold shp at S
  have IX := shp_ix (len (hol M 0)) (len (hol M 1)) (len (hol M 2)) (len (hol M 3)) (fun i => len (hol M i)) rfl rfl rfl rfl
  obtain ⟨n0, hn0⟩ : ∃ n, len (hol M 0) = n := ⟨_, rfl⟩
  obtain ⟨n1, hn1⟩ : ∃ n, len (hol M 1) = n := ⟨_, rfl⟩
  obtain ⟨n2, hn2⟩ : ∃ n, len (hol M 2) = n := ⟨_, rfl⟩
  obtain ⟨n3, hn3⟩ : ∃ n, len (hol M 3) = n := ⟨_, rfl⟩
  rw [hn0, hn1, hn2, hn3] at S IX
  have IX := Lib.hid IX
  clear hn0 hn1 hn2 hn3 hM
  go_enter Tryd.func8, Tryd.ntmps8
  go_upto_region 4 with (go_at_call 26; refine (S.out _).mono ?_; rintro e w1 ⟨rfl, hbel⟩; obtain ⟨o1, j1, rfl⟩ := grow_of_below hbel; clear hbel)
  go_loopw [3, 14] (fun s3 s14 wr => ∃ i : Nat, s3 = .int .i64 (part los M i) ∧ s14 = .int .i64 i ∧ i ≤ 4 ∧ Below w.heap.size w wr) (fun _ s14 _ => 4 - (intOf s14).toNat)
  case atStart => exact ⟨0, rfl, rfl, by decide, by repeat (first | (with_reducible exact Below.refl _ _) | ((with_reducible refine below_grow ?_ ?_); rotate_left; focus (first | omega | (simp [go_sem]; done) | (simp [go_sem]; omega))) | ((with_reducible refine Below.alloc ?_ ?_ _); rotate_left; focus (first | omega | (simp [go_sem]; done) | (simp [go_sem]; omega))) | ((with_reducible refine Below.setCell ?_ ?_ _); rotate_left; focus (first | omega | (simp [go_sem]; done) | (simp [go_sem]; omega))) | (with_reducible refine Below.drew ?_) | (with_reducible refine below_drewN _ ?_))⟩
  case round =>
    obtain ⟨i, rfl, rfl, hi, hb⟩ := hrel
    have hsz := hb.size
    by_cases hlt : i < 4
    · have hlt2 : (i : Int) < 4 := by omega
      have ix := IX.out i hlt
      obtain ⟨d1, d2, d3⟩ := shift_num M i HM.out hlt
      have hmn : min (13 * i) 64 = 13 * i := by omega
      have e1 : IntKind.i64.wrap ((i : Int) + 1) = (i : Int) + 1 := IntWalk.i64_in _ (by omega)
      have e2 : IntKind.u8.wrap (i : Int) = i := by rw [IntKind.wrap_u8', Int.emod_eq_of_lt (by omega) (by omega)]
      have LO := Lib.hid (losersT (one M i) (by have := one_le M i; have := HM.out; omega))
      have HO := Lib.hid (holding_yes M i (by have := HM.out; omega) hlt)
      rw [tot_one los los_zero M i hlt] at LO
      have f1 := los_le (hol M i)
      have f2 := los_len (hol M i)
      have f3 := @los_tops (hol M i)
      have f4 := @los_one (hol M i)
      have f5 := hol_lt M i
      have f6 := part_le los 3 M los_le i
      have hn : part los M (i + 1) = part los M i + los (hol M i) := rfl
      have HL := Lib.hid hlt
      obtain ⟨p, hp⟩ : ∃ p, part los M i = p := ⟨_, rfl⟩
      rw [hp] at hn f6 ⊢
      obtain ⟨L, hL⟩ : ∃ L, los (hol M i) = L := ⟨_, rfl⟩
      rw [hL] at f1 f2 f3 f4 hn LO
      obtain ⟨n, hnn⟩ : ∃ n, len (hol M i) = n := ⟨_, rfl⟩
      rw [hnn] at f2 f3 f4 ix
      obtain ⟨h, hh⟩ : ∃ h, hol M i = h := ⟨_, rfl⟩
      rw [hh] at f3 f4 f5 HO
      obtain ⟨o, ho⟩ : ∃ o, one M i = o := ⟨_, rfl⟩
      rw [ho] at d3 LO
      obtain ⟨tt, htt⟩ : ∃ x, 13 * i = x := ⟨_, rfl⟩
      rw [htt] at d1 d2 d3 hmn
      obtain ⟨pp, hpp⟩ : ∃ x, 8191 * 2 ^ tt = x := ⟨_, rfl⟩
      rw [hpp] at d2 d3
      clear htt hpp
      have t1 : bits .and .u16 ((h : Int) / 4096) 1 = ((h / 4096 % 2 : Nat) : Int) := top_num h 4096 f5
      have t2 : bits .and .u16 ((h : Int) / 2048) 1 = ((h / 2048 % 2 : Nat) : Int) := top_num h 2048 f5
      have t3 : bits .and .u16 ((h : Int) / 1024) 1 = ((h / 1024 % 2 : Nat) : Int) := top_num h 1024 f5
      have z4 : ((h : Int) / 4096 == 0) = decide (h / 4096 % 2 = 0) := by
        have : (h : Int) / 4096 = ((h / 4096 : Nat) : Int) := by simp
        rw [this]
        by_cases hq : h / 4096 % 2 = 0
        · rw [decide_eq_true hq, show h / 4096 = 0 by omega]; rfl
        · rw [decide_eq_false hq, beq_eq_false_iff_ne]; omega
      have x1 : h / 4096 % 2 < 2 := Nat.mod_lt _ (by decide)
      have x2 : h / 2048 % 2 < 2 := Nat.mod_lt _ (by decide)
      have x3 : h / 1024 % 2 < 2 := Nat.mod_lt _ (by decide)
      obtain ⟨y1, hy1⟩ : ∃ y, h / 4096 % 2 = y := ⟨_, rfl⟩
      obtain ⟨y2, hy2⟩ : ∃ y, h / 2048 % 2 = y := ⟨_, rfl⟩
      obtain ⟨y3, hy3⟩ : ∃ y, h / 1024 % 2 = y := ⟨_, rfl⟩
      rw [hy1] at t1 f3 f4 x1 z4
      rw [hy2] at t2 f3 x2
      rw [hy3] at t3 f3 x3
      have w1 : IntKind.u16.wrap ((y1 : Int) + y2) = ((y1 + y2 : Nat) : Int) := by rw [IntKind.wrap_u16]; omega
      have w2 : IntKind.u16.wrap (((y1 + y2 : Nat) : Int) + y3) = ((y1 + y2 + y3 : Nat) : Int) := by rw [IntKind.wrap_u16]; omega
      have w3 : IntKind.i64.wrap ((y1 + y2 + y3 : Nat) : Int) = ((y1 + y2 + y3 : Nat) : Int) := IntWalk.i64_in _ (by omega)
      have w4 : IntKind.i64.wrap ((L : Int) + ((y1 + y2 + y3 : Nat) : Int)) = ((L + (y1 + y2 + y3) : Nat) : Int) := by rw [IntWalk.i64_in _ (by omega)]; omega
      have w5 : IntKind.i64.wrap ((p : Int) + L) = ((p + L : Nat) : Int) := by rw [IntWalk.i64_in _ (by omega)]; omega
      have g0 : decide ((L : Int) < 0) = false := decide_eq_false (by omega)
      have g1 : min (n : Int) 3 = ((min n 3 : Nat) : Int) := by omega
      have g2n : L ≤ min n 3 := by omega
      have g2 : decide ((L : Int) > ((min n 3 : Nat) : Int)) = false := decide_eq_false (by omega)
      obtain ⟨y12, hy12⟩ : ∃ y, y1 + y2 = y := ⟨_, rfl⟩
      rw [hy12] at w1 w2 w3 w4 f3
      obtain ⟨y, hy⟩ : ∃ y, y12 + y3 = y := ⟨_, rfl⟩
      rw [hy] at w2 w3 w4 f3
      obtain ⟨mn, hmn3⟩ : ∃ y, min n 3 = y := ⟨_, rfl⟩
      rw [hmn3] at g1 g2 g2n
      have HN := Lib.hid hn
      have fin : ∀ w5' : World, w5' = wr → True := fun _ _ => trivial
      clear hp hL hnn hh ho hy1 hy2 hy3 hy12 hy hmn3 hn f1 f2 f5 f6 hlt hi x1 x2 x3 fin
      by_cases c3 : 3 ≤ n
      · have f3 := f3 c3
        rw [f3] at w4
        have g3 : decide ((n : Int) ≥ 3) = true := decide_eq_true (by omega)
        have g3' : (3 : Int) ≤ n := by omega
        have g4 : ((n : Int) == 1) = false := by rw [beq_eq_false_iff_ne]; omega
        have g4' : ¬ (n : Int) = 1 := by omega
        clear f3 f4 c3 z4
        go_wp2_with (first | (go_at_call 21; refine (LO.out _).mono ?_; rintro e w1 ⟨rfl, hbel⟩; obtain ⟨o2, j2, rfl⟩ := grow_of_below hbel; clear hbel) | (go_at_call 12; refine (HO.out _).mono ?_; rintro e w1 ⟨rfl, rfl⟩))
        go_roundw
        case rel => exact ⟨i + 1, by rw [HN.out]; first | done | rfl | simp, by go_num, by have := HL.out; omega, by repeat (first | (with_reducible exact hb) | ((with_reducible refine below_grow ?_ ?_); rotate_left; focus (first | omega | (simp [go_sem]; done) | (simp [go_sem]; omega))) | ((with_reducible refine Below.alloc ?_ ?_ _); rotate_left; focus (first | omega | (simp [go_sem]; done) | (simp [go_sem]; omega))) | ((with_reducible refine Below.setCell ?_ ?_ _); rotate_left; focus (first | omega | (simp [go_sem]; done) | (simp [go_sem]; omega))) | (with_reducible refine Below.drew ?_) | (with_reducible refine below_drewN _ ?_))⟩
        case measure => simp [intOf]; have := HL.out; omega
      · have g3 : decide ((n : Int) ≥ 3) = false := decide_eq_false (by omega)
        have g3' : ¬ (3 : Int) ≤ n := by omega
        by_cases c1 : n = 1
        · have g4 : ((n : Int) == 1) = true := by rw [c1]; rfl
          have g4' : (n : Int) = 1 := by omega
          by_cases ca : y1 = 0
          · have f4 := (f4 c1).2 ca
            have g5 : ((L : Int) == 1) = true := by rw [f4]; rfl
            rw [decide_eq_true ca] at z4
            clear f3 c3 c1 ca f4
            go_wp2_with (first | (go_at_call 21; refine (LO.out _).mono ?_; rintro e w1 ⟨rfl, hbel⟩; obtain ⟨o2, j2, rfl⟩ := grow_of_below hbel; clear hbel) | (go_at_call 12; refine (HO.out _).mono ?_; rintro e w1 ⟨rfl, rfl⟩))
            go_roundw
            case rel => exact ⟨i + 1, by rw [HN.out]; first | done | rfl | simp, by go_num, by have := HL.out; omega, by repeat (first | (with_reducible exact hb) | ((with_reducible refine below_grow ?_ ?_); rotate_left; focus (first | omega | (simp [go_sem]; done) | (simp [go_sem]; omega))) | ((with_reducible refine Below.alloc ?_ ?_ _); rotate_left; focus (first | omega | (simp [go_sem]; done) | (simp [go_sem]; omega))) | ((with_reducible refine Below.setCell ?_ ?_ _); rotate_left; focus (first | omega | (simp [go_sem]; done) | (simp [go_sem]; omega))) | (with_reducible refine Below.drew ?_) | (with_reducible refine below_drewN _ ?_))⟩
            case measure => simp [intOf]; have := HL.out; omega
          · have f4 := fun e => ca ((f4 c1).1 e)
            have g5 : ((L : Int) == 1) = false := by rw [beq_eq_false_iff_ne]; omega
            rw [decide_eq_false ca] at z4
            clear f3 c3 c1 ca f4
            go_wp2_with (first | (go_at_call 21; refine (LO.out _).mono ?_; rintro e w1 ⟨rfl, hbel⟩; obtain ⟨o2, j2, rfl⟩ := grow_of_below hbel; clear hbel) | (go_at_call 12; refine (HO.out _).mono ?_; rintro e w1 ⟨rfl, rfl⟩))
            go_roundw
            case rel => exact ⟨i + 1, by rw [HN.out]; first | done | rfl | simp, by go_num, by have := HL.out; omega, by repeat (first | (with_reducible exact hb) | ((with_reducible refine below_grow ?_ ?_); rotate_left; focus (first | omega | (simp [go_sem]; done) | (simp [go_sem]; omega))) | ((with_reducible refine Below.alloc ?_ ?_ _); rotate_left; focus (first | omega | (simp [go_sem]; done) | (simp [go_sem]; omega))) | ((with_reducible refine Below.setCell ?_ ?_ _); rotate_left; focus (first | omega | (simp [go_sem]; done) | (simp [go_sem]; omega))) | (with_reducible refine Below.drew ?_) | (with_reducible refine below_drewN _ ?_))⟩
            case measure => simp [intOf]; have := HL.out; omega
        · have g4 : ((n : Int) == 1) = false := by rw [beq_eq_false_iff_ne]; omega
          have g4' : ¬ (n : Int) = 1 := by omega
          clear f3 f4 c3 c1 z4
          go_wp2_with (first | (go_at_call 21; refine (LO.out _).mono ?_; rintro e w1 ⟨rfl, hbel⟩; obtain ⟨o2, j2, rfl⟩ := grow_of_below hbel; clear hbel) | (go_at_call 12; refine (HO.out _).mono ?_; rintro e w1 ⟨rfl, rfl⟩))
          go_roundw
          case rel => exact ⟨i + 1, by rw [HN.out]; first | done | rfl | simp, by go_num, by have := HL.out; omega, by repeat (first | (with_reducible exact hb) | ((with_reducible refine below_grow ?_ ?_); rotate_left; focus (first | omega | (simp [go_sem]; done) | (simp [go_sem]; omega))) | ((with_reducible refine Below.alloc ?_ ?_ _); rotate_left; focus (first | omega | (simp [go_sem]; done) | (simp [go_sem]; omega))) | ((with_reducible refine Below.setCell ?_ ?_ _); rotate_left; focus (first | omega | (simp [go_sem]; done) | (simp [go_sem]; omega))) | (with_reducible refine Below.drew ?_) | (with_reducible refine below_drewN _ ?_))⟩
          case measure => simp [intOf]; have := HL.out; omega
    · obtain rfl : i = 4 := by omega
      rw [part_4]
      have k := part_le los 3 M los_le 4
      rw [part_4] at k
      obtain ⟨x, hx⟩ : ∃ x, tot los M = x := ⟨_, rfl⟩
      rw [hx] at T k ⊢
      have k2 : decide ((x : Int) ≤ 12) = true := decide_eq_true (by omega)
      have k3 : (x : Int) ≤ 12 := by omega
      clear hx
      go_wp2_with (first | (go_at_call 21; refine (T.out _).mono ?_; rintro e w1 ⟨rfl, hbel⟩; obtain ⟨o2, j2, rfl⟩ := grow_of_below hbel; clear hbel) | (go_at_call 14; refine (A.out _).mono ?_; rintro e w1 ⟨rfl, hbel⟩; obtain ⟨o3, j3, rfl⟩ := grow_of_below hbel; clear hbel))
      go_ret
      exact ⟨rfl, by repeat (first | (with_reducible exact hb) | ((with_reducible refine below_grow ?_ ?_); rotate_left; focus (first | omega | (simp [go_sem]; done) | (simp [go_sem]; omega))) | ((with_reducible refine Below.alloc ?_ ?_ _); rotate_left; focus (first | omega | (simp [go_sem]; done) | (simp [go_sem]; omega))) | ((with_reducible refine Below.setCell ?_ ?_ _); rotate_left; focus (first | omega | (simp [go_sem]; done) | (simp [go_sem]; omega))) | (with_reducible refine Below.drew ?_) | (with_reducible refine below_drewN _ ?_))⟩
theorem handLosers_walk (a0 : Int) (b0 : 0 ≤ a0 ∧ a0 ≤ 18446744073709551615) (w : World) :
    Calls Tryd.prog 8 #[.int .u64 a0] w fun e w' => e = .returned (.bool true) ∧ Below w.heap.size w w' := by
  obtain ⟨n, rfl⟩ : ∃ n : Nat, a0 = n := ⟨a0.toNat, by omega⟩
  refine handLosers_nat _ (n % 4503599627370496) (Nat.mod_lt _ (by decide)) ?_ w
  rw [Int.tmod_eq_emod_of_nonneg (by omega)]; omega
end Go.Proofs.YtgndhdcnofblaaaDoor
