/- SeedWrong: the walk. -/
import Derived.Test.YtcgecgagecobeaaSK
import Derived.Deep.DeepCutAuto
namespace Go.Proofs.Ytcgecgagecobeaa
open Go.RowKit Go.Shelf

theorem five_pt : pt 5 0 = 5 ∧ pt 5 1 = 0 ∧ pt 5 2 = 0 ∧ pt 5 3 = 0 := by decide
theorem belowNat_five (s : Int) (h : ¬ (1 ≤ s ∧ s ≤ 2147483646)) (w : World) :
    Calls Try.prog 19 #[.int .i64 s, .agg #[.int .u32 5, .int .u32 0, .int .u32 0, .int .u32 0]] w fun e w' => e = .returned (.tuple #[.int .i64 0, .agg #[.int .u32 0, .int .u32 0, .int .u32 0, .int .u32 0], .int .i64 2]) ∧ Below w.heap.size w w' := by
  have H := belowNat_no s 5 (by decide) (.inl h) w
  obtain ⟨h0, h1, h2, h3⟩ := five_pt
  simp only [h0, h1, h2, h3] at H
  exact H
theorem belowNat_zero (w : World) :
    Calls Try.prog 19 #[.int .i64 1, .agg #[.int .u32 0, .int .u32 0, .int .u32 0, .int .u32 0]] w fun e w' => e = .returned (.tuple #[.int .i64 0, .agg #[.int .u32 0, .int .u32 0, .int .u32 0, .int .u32 0], .int .i64 2]) ∧ Below w.heap.size w w' := by
  have H := belowNat_no 1 0 (by decide) (.inr (.inl rfl)) w
  simp only [pt_zero] at H
  exact H
theorem top_bit (a : Nat) : ∃ x : Int, bits .or .u32 (pt a 3) 2147483648 = x ∧ 2147483648 ≤ x ∧ x ≤ 4294967295 := by
  have h := pt_bd a 3
  obtain ⟨n, hn⟩ : ∃ n : Nat, pt a 3 = (n : Int) := ⟨(pt a 3).toNat, by omega⟩
  rw [hn] at h ⊢
  refine ⟨_, orN n 2147483648 (by omega) (by decide), ?_, ?_⟩
  · have := @Nat.right_le_or n 2147483648
    omega
  · have := @Nat.or_lt_two_pow n 2147483648 32 (by omega) (by decide)
    omega
theorem belowNat_top (a : Nat) (x : Int) (h1 : 2147483648 ≤ x) (h2 : x ≤ 4294967295) (w : World) :
    Calls Try.prog 19 #[.int .i64 1, .agg #[.int .u32 (pt a 0), .int .u32 (pt a 1), .int .u32 (pt a 2), .int .u32 x]] w fun e w' => e = .returned (.tuple #[.int .i64 0, .agg #[.int .u32 0, .int .u32 0, .int .u32 0, .int .u32 0], .int .i64 2]) ∧ Below w.heap.size w w' := by
  have b0 := pt_bd a 0
  have b1 := pt_bd a 1
  have b2 := pt_bd a 2
  obtain ⟨n, hn⟩ : ∃ n : Nat, (n : Int) = pt a 0 + 4294967296 * pt a 1 + 18446744073709551616 * pt a 2 + 79228162514264337593543950336 * x := ⟨(pt a 0 + 4294967296 * pt a 1 + 18446744073709551616 * pt a 2 + 79228162514264337593543950336 * x).toNat, by omega⟩
  obtain ⟨k, k0, k1, k2, k3⟩ := pt_mk (pt a 0) (pt a 1) (pt a 2) x b0 b1 b2 ⟨by omega, h2⟩ n hn
  rw [k0, k1, k2, k3]
  exact belowNat_no 1 n k (.inr (.inr (by unfold k120; omega))) w
set_option maxRecDepth 100000 in
set_option maxHeartbeats 8000000 in
theorem wrong_t (a : Nat) (s0 s n : Int) (h0 : 1 ≤ s0 ∧ s0 ≤ 2147483646) (he : IntKind.i64.wrap (-s0) = s) (h : ¬ (1 ≤ s ∧ s ≤ 2147483646)) (w : World) :
    Calls Try.prog 9 #[.int .i64 s0, .int .i64 n, .agg #[.int .u32 (pt a 0), .int .u32 (pt a 1), .int .u32 (pt a 2), .int .u32 (pt a 3)]] w fun e w' => e = .returned (.bool true) ∧ Below w.heap.size w w' := by
  have R0 := Lib.hid (fun w => (decide_eq_true h0) ▸ right_calls s0 w)
  clear h0
  obtain ⟨x, hx, hx1, hx2⟩ := top_bit a
  have H1 := Lib.hid (next_no s h)
  have H2 := Lib.hid (jump_no s h n)
  have H3 := Lib.hid (below_no s 5 (.inl h))
  have H4 := Lib.hid (belowNat_five s h)
  have H5 := Lib.hid (shuffle_no s h)
  have H6 := Lib.hid (below_no 1 (min n 0) (.inr (.inl (by omega))))
  have H7 := Lib.hid (below_no 1 (max n 2147483647) (.inr (.inr (by omega))))
  have H8 := Lib.hid (belowNat_top a x hx1 hx2)
  have R1 := Lib.hid (right_no s h)
  obtain ⟨o, ho⟩ : ∃ o, stp n + 1 = o := ⟨_, rfl⟩
  have hO : St o := by rw [← ho]; exact stp_St n
  have O1 := Lib.hid (of_hyp n o ho)
  have R2 := Lib.hid (right_yes o hO)
  clear h ho
  go_enter Try.func9, Try.ntmps9
  go_upto_region 3 with (first | (go_at_call 11; refine (awake_calls _).mono ?_; rintro e w3 ⟨rfl, hbel⟩; obtain ⟨o3, j3, rfl⟩ := grow_of_below hbel; clear hbel))
  go_upto_region 5 with (first | (go_at_call 16; refine (R0.out _).mono ?_; rintro e w2 ⟨rfl, rfl⟩))
  clear R0
  go_upto_region 6 with (first | (go_at_call 15; refine (H1.out _).mono ?_; rintro e w6 ⟨rfl, hbel⟩; obtain ⟨o6, j6, rfl⟩ := grow_of_below hbel; clear hbel))
  go_upto_region 7 with (first | (go_at_call 14; refine (H2.out _).mono ?_; rintro e w7 ⟨rfl, hbel⟩; obtain ⟨o7, j7, rfl⟩ := grow_of_below hbel; clear hbel))
  go_upto_region 8 with (first | (go_at_call 18; refine (H3.out _).mono ?_; rintro e w8 ⟨rfl, hbel⟩; obtain ⟨o8, j8, rfl⟩ := grow_of_below hbel; clear hbel))
  go_upto_region 9 with (first | (go_at_call 19; refine (H4.out _).mono ?_; rintro e w9 ⟨rfl, hbel⟩; obtain ⟨o9, j9, rfl⟩ := grow_of_below hbel; clear hbel))
  go_upto_region 10 with (first | (go_at_call 25; refine (H5.out _ _).mono ?_; rintro e w10 ⟨rfl, hbel⟩; obtain ⟨o10, j10, rfl⟩ := grow_of_below hbel; clear hbel))
  go_upto_region 11 with (first | (go_at_call 18; refine (H6.out _).mono ?_; rintro e w11 ⟨rfl, hbel⟩; obtain ⟨o11, j11, rfl⟩ := grow_of_below hbel; clear hbel))
  go_upto_region 12 with (first | (go_at_call 18; refine (H7.out _).mono ?_; rintro e w12 ⟨rfl, hbel⟩; obtain ⟨o12, j12, rfl⟩ := grow_of_below hbel; clear hbel))
  go_upto_region 13 with (first | (go_at_call 19; refine (belowNat_zero _).mono ?_; rintro e w13 ⟨rfl, hbel⟩; obtain ⟨o13, j13, rfl⟩ := grow_of_below hbel; clear hbel))
  go_upto_region 14 with fail
  go_upto_region 15 with (first | (go_at_call 19; refine (H8.out _).mono ?_; rintro e w15 ⟨rfl, hbel⟩; obtain ⟨o15, j15, rfl⟩ := grow_of_below hbel; clear hbel))
  go_cut [113, 114, 115] (fun s113 s114 s115 wx => ∃ q : Nat, s113 = .slice (some ⟨q, 0, none⟩) 9 9 ∧ s114 = .int .i64 9 ∧ s115 = .int .i64 0 ∧ blk wx q #[.int .i64 2, .int .i64 2, .int .i64 2, .int .i64 2, .int .i64 2, .int .i64 2, .int .i64 2, .int .i64 2, .int .i64 2] 31 ∧ Below w.heap.size w wx)
  case first =>
    go_wp2
    go_meet
    exact ⟨_, rfl, rfl, rfl, blk_at _ _ _ (by simp [go_sem]), by repeat (first | (with_reducible exact Below.refl _ _) | ((with_reducible refine below_grow ?_ ?_); rotate_left; focus (first | omega | (simp [go_sem]; done) | (simp [go_sem]; omega))) | ((with_reducible refine Below.alloc ?_ ?_ _); rotate_left; focus (first | omega | (simp [go_sem]; done) | (simp [go_sem]; omega))) | ((with_reducible refine Below.setCell ?_ ?_ _); rotate_left; focus (first | omega | (simp [go_sem]; done) | (simp [go_sem]; omega))) | (with_reducible refine Below.drew ?_) | (with_reducible refine below_drewN _ ?_))⟩
  case rest =>
    obtain ⟨q, rfl, rfl, rfl, hq, hbq⟩ := hcut
    go_wp2
    go_loopw [115] (fun s115 wr => ∃ i : Nat, s115 = .int .i64 i ∧ i ≤ 9 ∧ blk wr q #[.int .i64 2, .int .i64 2, .int .i64 2, .int .i64 2, .int .i64 2, .int .i64 2, .int .i64 2, .int .i64 2, .int .i64 2] 31 ∧ Below w.heap.size w wr) (fun s115 _ => 9 - (intOf s115).toNat)
    case atStart => exact ⟨0, rfl, by decide, hq, hbq⟩
    case round =>
      obtain ⟨i, rfl, hi, hqr, hbr⟩ := hrel
      by_cases hlt : i < 9
      · have c0 : wr.cell? ⟨q, i, none⟩ = some (.int .i64 2) := by
          rw [blk_cell hqr i]
          match i, hlt with
          | 0, _ => rfl
          | 1, _ => rfl
          | 2, _ => rfl
          | 3, _ => rfl
          | 4, _ => rfl
          | 5, _ => rfl
          | 6, _ => rfl
          | 7, _ => rfl
          | 8, _ => rfl
        have b1 : (i : Int) < 9 := by omega
        go_wp2
        go_roundw
        case rel => exact ⟨i + 1, by go_num, by omega, hqr, hbr⟩
        case measure => simp [intOf]; omega
      · obtain rfl : i = 9 := by omega
        have hbs := hbr.size
        go_wp2_with (first | (go_at_call_of 16 (o : Int); refine (R2.out _).mono ?_; rintro e w17 ⟨rfl, rfl⟩) | (go_at_call 16; refine (R1.out _).mono ?_; rintro e w16 ⟨rfl, rfl⟩) | (go_at_call 13; refine (O1.out _).mono ?_; rintro e w18 ⟨rfl, hbel⟩; obtain ⟨o18, j18, rfl⟩ := grow_of_below hbel; clear hbel))
        go_ret
        exact ⟨rfl, by repeat (first | (with_reducible exact hbr) | ((with_reducible refine below_grow ?_ ?_); rotate_left; focus (first | omega | (simp [go_sem]; done) | (simp [go_sem]; omega))) | ((with_reducible refine Below.alloc ?_ ?_ _); rotate_left; focus (first | omega | (simp [go_sem]; done) | (simp [go_sem]; omega))) | ((with_reducible refine Below.setCell ?_ ?_ _); rotate_left; focus (first | omega | (simp [go_sem]; done) | (simp [go_sem]; omega))) | (with_reducible refine Below.drew ?_) | (with_reducible refine below_drewN _ ?_))⟩
set_option maxRecDepth 100000 in
set_option maxHeartbeats 8000000 in
theorem wrong_f (a : Nat) (s0 s n : Int) (he : s0 = s) (h : ¬ (1 ≤ s ∧ s ≤ 2147483646)) (w : World) :
    Calls Try.prog 9 #[.int .i64 s0, .int .i64 n, .agg #[.int .u32 (pt a 0), .int .u32 (pt a 1), .int .u32 (pt a 2), .int .u32 (pt a 3)]] w fun e w' => e = .returned (.bool true) ∧ Below w.heap.size w w' := by
  subst he
  have R0 := Lib.hid (right_no s0 h)
  obtain ⟨x, hx, hx1, hx2⟩ := top_bit a
  have H1 := Lib.hid (next_no s0 h)
  have H2 := Lib.hid (jump_no s0 h n)
  have H3 := Lib.hid (below_no s0 5 (.inl h))
  have H4 := Lib.hid (belowNat_five s0 h)
  have H5 := Lib.hid (shuffle_no s0 h)
  have H6 := Lib.hid (below_no 1 (min n 0) (.inr (.inl (by omega))))
  have H7 := Lib.hid (below_no 1 (max n 2147483647) (.inr (.inr (by omega))))
  have H8 := Lib.hid (belowNat_top a x hx1 hx2)
  have R1 := Lib.hid (right_no s0 h)
  obtain ⟨o, ho⟩ : ∃ o, stp n + 1 = o := ⟨_, rfl⟩
  have hO : St o := by rw [← ho]; exact stp_St n
  have O1 := Lib.hid (of_hyp n o ho)
  have R2 := Lib.hid (right_yes o hO)
  clear h ho
  go_enter Try.func9, Try.ntmps9
  go_upto_region 3 with (first | (go_at_call 11; refine (awake_calls _).mono ?_; rintro e w3 ⟨rfl, hbel⟩; obtain ⟨o3, j3, rfl⟩ := grow_of_below hbel; clear hbel))
  go_upto_region 5 with (first | (go_at_call 16; refine (R0.out _).mono ?_; rintro e w2 ⟨rfl, rfl⟩))
  clear R0
  go_upto_region 6 with (first | (go_at_call 15; refine (H1.out _).mono ?_; rintro e w6 ⟨rfl, hbel⟩; obtain ⟨o6, j6, rfl⟩ := grow_of_below hbel; clear hbel))
  go_upto_region 7 with (first | (go_at_call 14; refine (H2.out _).mono ?_; rintro e w7 ⟨rfl, hbel⟩; obtain ⟨o7, j7, rfl⟩ := grow_of_below hbel; clear hbel))
  go_upto_region 8 with (first | (go_at_call 18; refine (H3.out _).mono ?_; rintro e w8 ⟨rfl, hbel⟩; obtain ⟨o8, j8, rfl⟩ := grow_of_below hbel; clear hbel))
  go_upto_region 9 with (first | (go_at_call 19; refine (H4.out _).mono ?_; rintro e w9 ⟨rfl, hbel⟩; obtain ⟨o9, j9, rfl⟩ := grow_of_below hbel; clear hbel))
  go_upto_region 10 with (first | (go_at_call 25; refine (H5.out _ _).mono ?_; rintro e w10 ⟨rfl, hbel⟩; obtain ⟨o10, j10, rfl⟩ := grow_of_below hbel; clear hbel))
  go_upto_region 11 with (first | (go_at_call 18; refine (H6.out _).mono ?_; rintro e w11 ⟨rfl, hbel⟩; obtain ⟨o11, j11, rfl⟩ := grow_of_below hbel; clear hbel))
  go_upto_region 12 with (first | (go_at_call 18; refine (H7.out _).mono ?_; rintro e w12 ⟨rfl, hbel⟩; obtain ⟨o12, j12, rfl⟩ := grow_of_below hbel; clear hbel))
  go_upto_region 13 with (first | (go_at_call 19; refine (belowNat_zero _).mono ?_; rintro e w13 ⟨rfl, hbel⟩; obtain ⟨o13, j13, rfl⟩ := grow_of_below hbel; clear hbel))
  go_upto_region 14 with fail
  go_upto_region 15 with (first | (go_at_call 19; refine (H8.out _).mono ?_; rintro e w15 ⟨rfl, hbel⟩; obtain ⟨o15, j15, rfl⟩ := grow_of_below hbel; clear hbel))
  go_cut [113, 114, 115] (fun s113 s114 s115 wx => ∃ q : Nat, s113 = .slice (some ⟨q, 0, none⟩) 9 9 ∧ s114 = .int .i64 9 ∧ s115 = .int .i64 0 ∧ blk wx q #[.int .i64 2, .int .i64 2, .int .i64 2, .int .i64 2, .int .i64 2, .int .i64 2, .int .i64 2, .int .i64 2, .int .i64 2] 31 ∧ Below w.heap.size w wx)
  case first =>
    go_wp2
    go_meet
    exact ⟨_, rfl, rfl, rfl, blk_at _ _ _ (by simp [go_sem]), by repeat (first | (with_reducible exact Below.refl _ _) | ((with_reducible refine below_grow ?_ ?_); rotate_left; focus (first | omega | (simp [go_sem]; done) | (simp [go_sem]; omega))) | ((with_reducible refine Below.alloc ?_ ?_ _); rotate_left; focus (first | omega | (simp [go_sem]; done) | (simp [go_sem]; omega))) | ((with_reducible refine Below.setCell ?_ ?_ _); rotate_left; focus (first | omega | (simp [go_sem]; done) | (simp [go_sem]; omega))) | (with_reducible refine Below.drew ?_) | (with_reducible refine below_drewN _ ?_))⟩
  case rest =>
    obtain ⟨q, rfl, rfl, rfl, hq, hbq⟩ := hcut
    go_wp2
    go_loopw [115] (fun s115 wr => ∃ i : Nat, s115 = .int .i64 i ∧ i ≤ 9 ∧ blk wr q #[.int .i64 2, .int .i64 2, .int .i64 2, .int .i64 2, .int .i64 2, .int .i64 2, .int .i64 2, .int .i64 2, .int .i64 2] 31 ∧ Below w.heap.size w wr) (fun s115 _ => 9 - (intOf s115).toNat)
    case atStart => exact ⟨0, rfl, by decide, hq, hbq⟩
    case round =>
      obtain ⟨i, rfl, hi, hqr, hbr⟩ := hrel
      by_cases hlt : i < 9
      · have c0 : wr.cell? ⟨q, i, none⟩ = some (.int .i64 2) := by
          rw [blk_cell hqr i]
          match i, hlt with
          | 0, _ => rfl
          | 1, _ => rfl
          | 2, _ => rfl
          | 3, _ => rfl
          | 4, _ => rfl
          | 5, _ => rfl
          | 6, _ => rfl
          | 7, _ => rfl
          | 8, _ => rfl
        have b1 : (i : Int) < 9 := by omega
        go_wp2
        go_roundw
        case rel => exact ⟨i + 1, by go_num, by omega, hqr, hbr⟩
        case measure => simp [intOf]; omega
      · obtain rfl : i = 9 := by omega
        have hbs := hbr.size
        go_wp2_with (first | (go_at_call_of 16 (o : Int); refine (R2.out _).mono ?_; rintro e w17 ⟨rfl, rfl⟩) | (go_at_call 16; refine (R1.out _).mono ?_; rintro e w16 ⟨rfl, rfl⟩) | (go_at_call 13; refine (O1.out _).mono ?_; rintro e w18 ⟨rfl, hbel⟩; obtain ⟨o18, j18, rfl⟩ := grow_of_below hbel; clear hbel))
        go_ret
        exact ⟨rfl, by repeat (first | (with_reducible exact hbr) | ((with_reducible refine below_grow ?_ ?_); rotate_left; focus (first | omega | (simp [go_sem]; done) | (simp [go_sem]; omega))) | ((with_reducible refine Below.alloc ?_ ?_ _); rotate_left; focus (first | omega | (simp [go_sem]; done) | (simp [go_sem]; omega))) | ((with_reducible refine Below.setCell ?_ ?_ _); rotate_left; focus (first | omega | (simp [go_sem]; done) | (simp [go_sem]; omega))) | (with_reducible refine Below.drew ?_) | (with_reducible refine below_drewN _ ?_))⟩
theorem wrong_walk (s0 n : Int) (a : Nat) (hs : -9223372036854775808 ≤ s0 ∧ s0 ≤ 9223372036854775807) (_ : -9223372036854775808 ≤ n ∧ n ≤ 9223372036854775807) (_ : isN a) (w : World) :
    Calls Try.prog 9 #[.int .i64 s0, .int .i64 n, .agg #[.int .u32 (pt a 0), .int .u32 (pt a 1), .int .u32 (pt a 2), .int .u32 (pt a 3)]] w fun e w' => e = .returned (.bool true) ∧ Below w.heap.size w w' := by
  by_cases h : 1 ≤ s0 ∧ s0 ≤ 2147483646
  · exact wrong_t a s0 (-s0) n h (IntWalk.i64_in _ (by omega)) (by omega) w
  · exact wrong_f a s0 s0 n rfl h w
end Go.Proofs.Ytcgecgagecobeaa
