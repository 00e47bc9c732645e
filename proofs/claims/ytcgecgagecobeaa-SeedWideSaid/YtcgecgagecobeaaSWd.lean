/- SeedWide: the walk. -/
import Derived.Test.YtcgecgagecobeaaSWa
namespace Go.Proofs.Ytcgecgagecobeaa
open Go.RowKit Go.Shelf

theorem belowNat_less (s m : Nat) (hs : St s) (hm : isN m) (h0 : m ≠ 0) (hk : m ≤ k120) (w : World) :
    Calls Try.prog 19 #[.int .i64 s, .agg #[.int .u32 (pt m 0), .int .u32 (pt m 1), .int .u32 (pt m 2), .int .u32 (pt m 3)]] w fun e w' => ∃ t x : Nat, isN x ∧ x < m ∧ e = .returned (.tuple #[.int .i64 t, .agg #[.int .u32 (pt x 0), .int .u32 (pt x 1), .int .u32 (pt x 2), .int .u32 (pt x 3)], .int .i64 0]) ∧ Below w.heap.size w w' := by
  refine (belowNat_yes s m hs hm h0 hk w).mono ?_
  rintro e w' ⟨d, hd, rfl, hb⟩
  have hl : (fsN (limV m d) d 100 s).2 % m < m := Nat.mod_lt _ (by omega)
  exact ⟨_, _, by unfold isN at *; omega, hl, rfl, hb⟩
theorem belowNat_lit1 (s : Nat) (hs : St s) (w : World) :
    Calls Try.prog 19 #[.int .i64 s, .agg #[.int .u32 1, .int .u32 0, .int .u32 0, .int .u32 0]] w fun e w' => ∃ t x : Nat, isN x ∧ x < 1 ∧ e = .returned (.tuple #[.int .i64 t, .agg #[.int .u32 (pt x 0), .int .u32 (pt x 1), .int .u32 (pt x 2), .int .u32 (pt x 3)], .int .i64 0]) ∧ Below w.heap.size w w' := by
  have h := belowNat_less s 1 hs (by decide) (by decide) (by decide) w
  simp only [one_pt.1, one_pt.2.1, one_pt.2.2.1, one_pt.2.2.2] at h
  exact h
set_option maxRecDepth 100000 in
set_option maxHeartbeats 8000000 in
theorem wide_zero (a m : Nat) (n small : Int) (ha : isN a) (hm : a % k120 = m) (h0 : m = 0) (w : World) :
    Calls Try.prog 7 #[.int .i64 n, .agg #[.int .u32 (pt a 0), .int .u32 (pt a 1), .int .u32 (pt a 2), .int .u32 (pt a 3)], .int .i64 small] w fun e w' => e = .returned (.bool true) ∧ Below w.heap.size w w' := by
  obtain ⟨s, hs⟩ : ∃ s, stp n + 1 = s := ⟨_, rfl⟩
  have hS : St s := by rw [← hs]; exact stp_St n
  have H0 := Lib.hid (of_hyp n s hs)
  obtain ⟨l0, l1, l2, l3⟩ := low_pt a
  rw [hm] at l0 l1 l2 l3
  have hmk : m < k120 := by rw [← hm]; exact low_k a
  have hmN : isN m := by unfold isN k120 at *; omega
  clear hm hs
  obtain rfl := h0
  rw [pt_zero] at l0 l1 l2 l3
  have hz : decide ((0 : Nat) = 0) = true := rfl
  have hE := eqZZ
  have l0' := l0.symm
  have l1' := l1.symm
  have l2' := l2.symm
  have l3' := l3.symm
  clear l0 l1 l2 l3
  have H1 := Lib.hid (belowNat_lit1 s hS)
  obtain ⟨M, hM⟩ : ∃ M : Nat, M = 1 := ⟨1, rfl⟩
  have hMN : isN M := by subst hM; decide
  go_enter Try.func7, Try.ntmps7
  go_upto_region 3 with (first | (go_at_call 11; refine (awake_calls _).mono ?_; rintro e w1 ⟨rfl, hbel⟩; obtain ⟨o1, j1, rfl⟩ := grow_of_below hbel; clear hbel))
  go_upto_region 4 with (first | (go_at_call 13; refine (H0.out _).mono ?_; rintro e w2 ⟨rfl, hbel⟩; obtain ⟨o2, j2, rfl⟩ := grow_of_below hbel; clear hbel))
  go_upto_region 7 with fail
  go_cut [9, 10] (fun s9 s10 wx => ∃ p x : Nat, s9 = .pointer (some ⟨p, 0, none⟩) ∧ s10 = .int .i64 0 ∧ blk wx p #[.int .u32 (pt x 0), .int .u32 (pt x 1), .int .u32 (pt x 2), .int .u32 (pt x 3)] 25 ∧ blk wx w.heap.size #[.int .u32 (pt M 0), .int .u32 (pt M 1), .int .u32 (pt M 2), .int .u32 (pt M 3)] 25 ∧ x < M ∧ isN x ∧ Below w.heap.size w wx)
  case first =>
    go_wp2_with (first | (go_at_call 19; refine (H1.out _).mono ?_; rintro e w3 ⟨t, x, hxN, hx, rfl, hbel⟩; obtain ⟨o3, j3, rfl⟩ := grow_of_below hbel; clear hbel))
    go_meet
    exact ⟨_, x, rfl, rfl, blk_at _ _ _ (by simp [go_sem]), (by
      subst hM
      simp only [one_pt.1, one_pt.2.1, one_pt.2.2.1, one_pt.2.2.2]
      exact blk_alloc (blk_grow (blk_new _ _ _) _ _) _), by omega, hxN, by repeat (first | (with_reducible exact Below.refl _ _) | ((with_reducible refine below_grow ?_ ?_); rotate_left; focus (first | omega | (simp [go_sem]; done) | (simp [go_sem]; omega))) | ((with_reducible refine Below.alloc ?_ ?_ _); rotate_left; focus (first | omega | (simp [go_sem]; done) | (simp [go_sem]; omega))) | ((with_reducible refine Below.setCell ?_ ?_ _); rotate_left; focus (first | omega | (simp [go_sem]; done) | (simp [go_sem]; omega))) | (with_reducible refine Below.drew ?_) | (with_reducible refine below_drewN _ ?_))⟩
  case rest =>
    obtain ⟨p, x, rfl, rfl, bp, b0, hx, hxN, hb⟩ := hcut
    have H2 := Lib.hid (cmp_hyp x M (-1) hxN hMN (by unfold cmpN; rw [if_pos hx]))
    clear H1 H0 hz hE hM l0' l1' l2' l3'
    have p0 := blk_cell bp 0
    have p1 := blk_cell bp 1
    have p2 := blk_cell bp 2
    have p3 := blk_cell bp 3
    have q0 := blk_cell b0 0
    have q1 := blk_cell b0 1
    have q2 := blk_cell b0 2
    have q3 := blk_cell b0 3
    simp only [List.getElem?_toArray, List.getElem?_cons_zero, List.getElem?_cons_succ] at p0 p1 p2 p3 q0 q1 q2 q3
    have iP : NeZero (inW p wc) := inW_mk (blk_lt bp)
    have i0 : NeZero (inW w.heap.size wc) := inW_mk (blk_lt b0)
    have hbs := hb.size
    go_upto_region 10 with (first | (go_at_call 20; refine (H2.out _).mono ?_; rintro e w4 ⟨rfl, hbel⟩; obtain ⟨o4, j4, rfl⟩ := grow_of_below hbel; clear hbel))
    clear H2
    obtain ⟨k, hk⟩ : ∃ k, stp small + 1 = k := ⟨_, rfl⟩
    have hkl := stp_lt small
    have P1 := Lib.hid (pick_calls small)
    obtain ⟨sm, hsm⟩ : ∃ sm, stp small = sm := ⟨_, rfl⟩
    rw [hsm] at P1 hk hkl
    have hk1 : 1 ≤ k := by omega
    have hk2 : k ≤ 2147483646 := by omega
    have e1 : IntKind.i64.wrap (1 + (sm : Int)) = (k : Int) := by rw [IntWalk.i64_in _ (by omega)]; omega
    obtain ⟨A, hA⟩ : ∃ A, blwS s k = A := ⟨_, rfl⟩
    obtain ⟨y, hy⟩ : ∃ y, (A - 1) % k = y := ⟨_, rfl⟩
    have hyl : y < k := by rw [← hy]; exact Nat.mod_lt _ (by omega)
    have hyN : isN y := by unfold isN; omega
    have H3 := Lib.hid (of_lo k (by omega))
    have H4 := Lib.hid (below_yes s k hS hk1 hk2)
    have H5 := Lib.hid (belowNat_one s k hS hk1 hk2)
    have H6 := Lib.hid (of_lo y (by omega))
    rw [hA, hy] at H4 H5
    clear hsm hk hA hy hkl
    have hE := eqN
    go_upto_region 11 with (first | (go_at_call 17; refine (P1.out _).mono ?_; rintro e w5 ⟨rfl, hbel⟩; obtain ⟨o5, j5, rfl⟩ := grow_of_below hbel; clear hbel))
    go_upto_region 12 with (first | (go_at_call 21; refine (H3.out _).mono ?_; rintro e w6 ⟨rfl, hbel⟩; obtain ⟨o6, j6, rfl⟩ := grow_of_below hbel; clear hbel))
    clear H3
    go_upto_region 13 with (first | (go_at_call 18; refine (H4.out _).mono ?_; rintro e w7 ⟨rfl, hbel⟩; obtain ⟨o7, j7, rfl⟩ := grow_of_below hbel; clear hbel))
    go_upto_region 14 with (first | (go_at_call 19; refine (H5.out _).mono ?_; rintro e w8 ⟨rfl, hbel⟩; obtain ⟨o8, j8, rfl⟩ := grow_of_below hbel; clear hbel))
    go_upto_region 15 with (first | (go_at_call 21; refine (H6.out _).mono ?_; rintro e w9 ⟨rfl, hbel⟩; obtain ⟨o9, j9, rfl⟩ := grow_of_below hbel; clear hbel))
    clear P1 H4 H5 H6
    go_upto_region 17 with fail
    clear p0 p1 p2 p3 q0 q1 q2 q3 hE e1
    go_cut [13, 22] (fun s13 s22 wx => ∃ p : Nat, s13 = .int .i64 0 ∧ s22 = .pointer (some ⟨p, 0, none⟩) ∧ blk wx p #[.int .u32 (pt sq 0), .int .u32 (pt sq 1), .int .u32 (pt sq 2), .int .u32 (pt sq 3)] 25 ∧ Below w.heap.size w wx)
    case first =>
      go_wp2_with (first | (go_at_call 22; refine (mulVV _ _ (by simp [go_sem]) (by simp [go_sem]) (by simp [go_sem]) (by simp [go_sem]) (by simp [go_sem]) (by simp [go_sem]) (by simp [go_sem]) (by simp [go_sem])).mono ?_; rintro e w10 ⟨rfl, hbel⟩; obtain ⟨o10, j10, rfl⟩ := grow_of_below hbel; clear hbel))
      go_meet
      exact ⟨_, rfl, rfl, blk_at _ _ _ (by simp [go_sem]), by repeat (first | (with_reducible exact hb) | ((with_reducible refine below_grow ?_ ?_); rotate_left; focus (first | omega | (simp [go_sem]; done) | (simp [go_sem]; omega))) | ((with_reducible refine Below.alloc ?_ ?_ _); rotate_left; focus (first | omega | (simp [go_sem]; done) | (simp [go_sem]; omega))) | ((with_reducible refine Below.setCell ?_ ?_ _); rotate_left; focus (first | omega | (simp [go_sem]; done) | (simp [go_sem]; omega))) | (with_reducible refine Below.drew ?_) | (with_reducible refine below_drewN _ ?_))⟩
    case rest =>
      clear bp b0 hb iP i0 hbs
      obtain ⟨p, rfl, rfl, bp, hb⟩ := hcut
      obtain ⟨t2, v, u, N, hF, g1, g2, g3, g4, g5, hNN, g6, g7, g8, g9⟩ := two_values s hS
      obtain ⟨f, hf⟩ : ∃ f, nxt s = f := ⟨_, rfl⟩
      rw [hf] at hF g2 g3
      have hvN : isN v := by unfold isN; omega
      have huN : isN u := by unfold isN; omega
      have H1 := Lib.hid (belowNat_sq s hS)
      rw [g1, g5] at H1
      have H2 := Lib.hid (div_V N u v hNN g6 g7)
      have H3 := Lib.hid (next_hyp s f v hS hf g3)
      have H4 := Lib.hid (next_hyp f t2 u hF g2 g4)
      have H5 := Lib.hid (int_lo v hvN g8)
      have H6 := Lib.hid (int_lo u huN g9)
      clear g1 g2 g3 g4 g5 g6 g7 g8 g9 hf
      have p0 := blk_cell bp 0
      have p1 := blk_cell bp 1
      have p2 := blk_cell bp 2
      have p3 := blk_cell bp 3
      simp only [List.getElem?_toArray, List.getElem?_cons_zero, List.getElem?_cons_succ] at p0 p1 p2 p3
      have iP : NeZero (inW p wc) := inW_mk (blk_lt bp)
      have hbs := hb.size
      go_upto_region 19 with (first | (go_at_call 19; refine (H1.out _).mono ?_; rintro e w11 ⟨rfl, hbel⟩; obtain ⟨o11, j11, rfl⟩ := grow_of_below hbel; clear hbel))
      go_upto_region 20 with (first | (go_at_call 23; refine (H2.out _).mono ?_; rintro e w12 ⟨rfl, hbel⟩; obtain ⟨o12, j12, rfl⟩ := grow_of_below hbel; clear hbel))
      go_upto_region 21 with (first | (go_at_call 15; refine (H3.out _).mono ?_; rintro e w13 ⟨rfl, hbel⟩; obtain ⟨o13, j13, rfl⟩ := grow_of_below hbel; clear hbel))
      go_upto_region 22 with (first | (go_at_call 15; refine (H4.out _).mono ?_; rintro e w14 ⟨rfl, hbel⟩; obtain ⟨o14, j14, rfl⟩ := grow_of_below hbel; clear hbel))
      go_upto_region 23 with (first | (go_at_call 24; refine (H5.out _).mono ?_; rintro e w15 ⟨rfl, hbel⟩; obtain ⟨o15, j15, rfl⟩ := grow_of_below hbel; clear hbel))
      go_upto_region 24 with (first | (go_at_call 24; refine (H6.out _).mono ?_; rintro e w16 ⟨rfl, hbel⟩; obtain ⟨o16, j16, rfl⟩ := grow_of_below hbel; clear hbel))
      clear H1 H2 H3 H4 H5 H6
      go_wp2
      go_ret
      exact ⟨rfl, by repeat (first | (with_reducible exact hb) | ((with_reducible refine below_grow ?_ ?_); rotate_left; focus (first | omega | (simp [go_sem]; done) | (simp [go_sem]; omega))) | ((with_reducible refine Below.alloc ?_ ?_ _); rotate_left; focus (first | omega | (simp [go_sem]; done) | (simp [go_sem]; omega))) | ((with_reducible refine Below.setCell ?_ ?_ _); rotate_left; focus (first | omega | (simp [go_sem]; done) | (simp [go_sem]; omega))) | (with_reducible refine Below.drew ?_) | (with_reducible refine below_drewN _ ?_))⟩
set_option maxRecDepth 100000 in
set_option maxHeartbeats 8000000 in
theorem wide_more (a m : Nat) (n small : Int) (ha : isN a) (hm : a % k120 = m) (h0 : m ≠ 0) (w : World) :
    Calls Try.prog 7 #[.int .i64 n, .agg #[.int .u32 (pt a 0), .int .u32 (pt a 1), .int .u32 (pt a 2), .int .u32 (pt a 3)], .int .i64 small] w fun e w' => e = .returned (.bool true) ∧ Below w.heap.size w w' := by
  obtain ⟨s, hs⟩ : ∃ s, stp n + 1 = s := ⟨_, rfl⟩
  have hS : St s := by rw [← hs]; exact stp_St n
  have H0 := Lib.hid (of_hyp n s hs)
  obtain ⟨l0, l1, l2, l3⟩ := low_pt a
  rw [hm] at l0 l1 l2 l3
  have hmk : m < k120 := by rw [← hm]; exact low_k a
  have hmN : isN m := by unfold isN k120 at *; omega
  clear hm hs
  have hz : decide (m = 0) = false := decide_eq_false h0
  have l0' := l0.symm
  have l1' := l1.symm
  have l2' := l2.symm
  have l3' := l3.symm
  clear l0 l1 l2 l3
  have H1 := Lib.hid (belowNat_less s m hS hmN h0 (by omega))
  go_enter Try.func7, Try.ntmps7
  go_upto_region 3 with (first | (go_at_call 11; refine (awake_calls _).mono ?_; rintro e w1 ⟨rfl, hbel⟩; obtain ⟨o1, j1, rfl⟩ := grow_of_below hbel; clear hbel))
  go_upto_region 4 with (first | (go_at_call 13; refine (H0.out _).mono ?_; rintro e w2 ⟨rfl, hbel⟩; obtain ⟨o2, j2, rfl⟩ := grow_of_below hbel; clear hbel))
  go_upto_region 7 with fail
  go_cut [9, 10] (fun s9 s10 wx => ∃ p x : Nat, s9 = .pointer (some ⟨p, 0, none⟩) ∧ s10 = .int .i64 0 ∧ blk wx p #[.int .u32 (pt x 0), .int .u32 (pt x 1), .int .u32 (pt x 2), .int .u32 (pt x 3)] 25 ∧ blk wx w.heap.size #[.int .u32 (pt m 0), .int .u32 (pt m 1), .int .u32 (pt m 2), .int .u32 (pt m 3)] 25 ∧ x < m ∧ isN x ∧ Below w.heap.size w wx)
  case first =>
    go_wp2_with (first | (go_at_call 19; refine (H1.out _).mono ?_; rintro e w3 ⟨t, x, hxN, hx, rfl, hbel⟩; obtain ⟨o3, j3, rfl⟩ := grow_of_below hbel; clear hbel))
    go_meet
    exact ⟨_, x, rfl, rfl, blk_at _ _ _ (by simp [go_sem]), blk_alloc (blk_grow (blk_new _ _ _) _ _) _, hx, hxN, by repeat (first | (with_reducible exact Below.refl _ _) | ((with_reducible refine below_grow ?_ ?_); rotate_left; focus (first | omega | (simp [go_sem]; done) | (simp [go_sem]; omega))) | ((with_reducible refine Below.alloc ?_ ?_ _); rotate_left; focus (first | omega | (simp [go_sem]; done) | (simp [go_sem]; omega))) | ((with_reducible refine Below.setCell ?_ ?_ _); rotate_left; focus (first | omega | (simp [go_sem]; done) | (simp [go_sem]; omega))) | (with_reducible refine Below.drew ?_) | (with_reducible refine below_drewN _ ?_))⟩
  case rest =>
    obtain ⟨p, x, rfl, rfl, bp, b0, hx, hxN, hb⟩ := hcut
    have H2 := Lib.hid (cmp_hyp x m (-1) hxN hmN (by unfold cmpN; rw [if_pos hx]))
    clear H1 H0 hz h0 l0' l1' l2' l3'
    have p0 := blk_cell bp 0
    have p1 := blk_cell bp 1
    have p2 := blk_cell bp 2
    have p3 := blk_cell bp 3
    have q0 := blk_cell b0 0
    have q1 := blk_cell b0 1
    have q2 := blk_cell b0 2
    have q3 := blk_cell b0 3
    simp only [List.getElem?_toArray, List.getElem?_cons_zero, List.getElem?_cons_succ] at p0 p1 p2 p3 q0 q1 q2 q3
    have iP : NeZero (inW p wc) := inW_mk (blk_lt bp)
    have i0 : NeZero (inW w.heap.size wc) := inW_mk (blk_lt b0)
    have hbs := hb.size
    go_upto_region 10 with (first | (go_at_call 20; refine (H2.out _).mono ?_; rintro e w4 ⟨rfl, hbel⟩; obtain ⟨o4, j4, rfl⟩ := grow_of_below hbel; clear hbel))
    clear H2
    obtain ⟨k, hk⟩ : ∃ k, stp small + 1 = k := ⟨_, rfl⟩
    have hkl := stp_lt small
    have P1 := Lib.hid (pick_calls small)
    obtain ⟨sm, hsm⟩ : ∃ sm, stp small = sm := ⟨_, rfl⟩
    rw [hsm] at P1 hk hkl
    have hk1 : 1 ≤ k := by omega
    have hk2 : k ≤ 2147483646 := by omega
    have e1 : IntKind.i64.wrap (1 + (sm : Int)) = (k : Int) := by rw [IntWalk.i64_in _ (by omega)]; omega
    obtain ⟨A, hA⟩ : ∃ A, blwS s k = A := ⟨_, rfl⟩
    obtain ⟨y, hy⟩ : ∃ y, (A - 1) % k = y := ⟨_, rfl⟩
    have hyl : y < k := by rw [← hy]; exact Nat.mod_lt _ (by omega)
    have hyN : isN y := by unfold isN; omega
    have H3 := Lib.hid (of_lo k (by omega))
    have H4 := Lib.hid (below_yes s k hS hk1 hk2)
    have H5 := Lib.hid (belowNat_one s k hS hk1 hk2)
    have H6 := Lib.hid (of_lo y (by omega))
    rw [hA, hy] at H4 H5
    clear hsm hk hA hy hkl
    have hE := eqN
    go_upto_region 11 with (first | (go_at_call 17; refine (P1.out _).mono ?_; rintro e w5 ⟨rfl, hbel⟩; obtain ⟨o5, j5, rfl⟩ := grow_of_below hbel; clear hbel))
    go_upto_region 12 with (first | (go_at_call 21; refine (H3.out _).mono ?_; rintro e w6 ⟨rfl, hbel⟩; obtain ⟨o6, j6, rfl⟩ := grow_of_below hbel; clear hbel))
    clear H3
    go_upto_region 13 with (first | (go_at_call 18; refine (H4.out _).mono ?_; rintro e w7 ⟨rfl, hbel⟩; obtain ⟨o7, j7, rfl⟩ := grow_of_below hbel; clear hbel))
    go_upto_region 14 with (first | (go_at_call 19; refine (H5.out _).mono ?_; rintro e w8 ⟨rfl, hbel⟩; obtain ⟨o8, j8, rfl⟩ := grow_of_below hbel; clear hbel))
    go_upto_region 15 with (first | (go_at_call 21; refine (H6.out _).mono ?_; rintro e w9 ⟨rfl, hbel⟩; obtain ⟨o9, j9, rfl⟩ := grow_of_below hbel; clear hbel))
    clear P1 H4 H5 H6
    go_upto_region 17 with fail
    clear p0 p1 p2 p3 q0 q1 q2 q3 hE e1
    go_cut [13, 22] (fun s13 s22 wx => ∃ p : Nat, s13 = .int .i64 0 ∧ s22 = .pointer (some ⟨p, 0, none⟩) ∧ blk wx p #[.int .u32 (pt sq 0), .int .u32 (pt sq 1), .int .u32 (pt sq 2), .int .u32 (pt sq 3)] 25 ∧ Below w.heap.size w wx)
    case first =>
      go_wp2_with (first | (go_at_call 22; refine (mulVV _ _ (by simp [go_sem]) (by simp [go_sem]) (by simp [go_sem]) (by simp [go_sem]) (by simp [go_sem]) (by simp [go_sem]) (by simp [go_sem]) (by simp [go_sem])).mono ?_; rintro e w10 ⟨rfl, hbel⟩; obtain ⟨o10, j10, rfl⟩ := grow_of_below hbel; clear hbel))
      go_meet
      exact ⟨_, rfl, rfl, blk_at _ _ _ (by simp [go_sem]), by repeat (first | (with_reducible exact hb) | ((with_reducible refine below_grow ?_ ?_); rotate_left; focus (first | omega | (simp [go_sem]; done) | (simp [go_sem]; omega))) | ((with_reducible refine Below.alloc ?_ ?_ _); rotate_left; focus (first | omega | (simp [go_sem]; done) | (simp [go_sem]; omega))) | ((with_reducible refine Below.setCell ?_ ?_ _); rotate_left; focus (first | omega | (simp [go_sem]; done) | (simp [go_sem]; omega))) | (with_reducible refine Below.drew ?_) | (with_reducible refine below_drewN _ ?_))⟩
    case rest =>
      clear bp b0 hb iP i0 hbs
      obtain ⟨p, rfl, rfl, bp, hb⟩ := hcut
      obtain ⟨t2, v, u, N, hF, g1, g2, g3, g4, g5, hNN, g6, g7, g8, g9⟩ := two_values s hS
      obtain ⟨f, hf⟩ : ∃ f, nxt s = f := ⟨_, rfl⟩
      rw [hf] at hF g2 g3
      have hvN : isN v := by unfold isN; omega
      have huN : isN u := by unfold isN; omega
      have H1 := Lib.hid (belowNat_sq s hS)
      rw [g1, g5] at H1
      have H2 := Lib.hid (div_V N u v hNN g6 g7)
      have H3 := Lib.hid (next_hyp s f v hS hf g3)
      have H4 := Lib.hid (next_hyp f t2 u hF g2 g4)
      have H5 := Lib.hid (int_lo v hvN g8)
      have H6 := Lib.hid (int_lo u huN g9)
      clear g1 g2 g3 g4 g5 g6 g7 g8 g9 hf
      have p0 := blk_cell bp 0
      have p1 := blk_cell bp 1
      have p2 := blk_cell bp 2
      have p3 := blk_cell bp 3
      simp only [List.getElem?_toArray, List.getElem?_cons_zero, List.getElem?_cons_succ] at p0 p1 p2 p3
      have iP : NeZero (inW p wc) := inW_mk (blk_lt bp)
      have hbs := hb.size
      go_upto_region 19 with (first | (go_at_call 19; refine (H1.out _).mono ?_; rintro e w11 ⟨rfl, hbel⟩; obtain ⟨o11, j11, rfl⟩ := grow_of_below hbel; clear hbel))
      go_upto_region 20 with (first | (go_at_call 23; refine (H2.out _).mono ?_; rintro e w12 ⟨rfl, hbel⟩; obtain ⟨o12, j12, rfl⟩ := grow_of_below hbel; clear hbel))
      go_upto_region 21 with (first | (go_at_call 15; refine (H3.out _).mono ?_; rintro e w13 ⟨rfl, hbel⟩; obtain ⟨o13, j13, rfl⟩ := grow_of_below hbel; clear hbel))
      go_upto_region 22 with (first | (go_at_call 15; refine (H4.out _).mono ?_; rintro e w14 ⟨rfl, hbel⟩; obtain ⟨o14, j14, rfl⟩ := grow_of_below hbel; clear hbel))
      go_upto_region 23 with (first | (go_at_call 24; refine (H5.out _).mono ?_; rintro e w15 ⟨rfl, hbel⟩; obtain ⟨o15, j15, rfl⟩ := grow_of_below hbel; clear hbel))
      go_upto_region 24 with (first | (go_at_call 24; refine (H6.out _).mono ?_; rintro e w16 ⟨rfl, hbel⟩; obtain ⟨o16, j16, rfl⟩ := grow_of_below hbel; clear hbel))
      clear H1 H2 H3 H4 H5 H6
      go_wp2
      go_ret
      exact ⟨rfl, by repeat (first | (with_reducible exact hb) | ((with_reducible refine below_grow ?_ ?_); rotate_left; focus (first | omega | (simp [go_sem]; done) | (simp [go_sem]; omega))) | ((with_reducible refine Below.alloc ?_ ?_ _); rotate_left; focus (first | omega | (simp [go_sem]; done) | (simp [go_sem]; omega))) | ((with_reducible refine Below.setCell ?_ ?_ _); rotate_left; focus (first | omega | (simp [go_sem]; done) | (simp [go_sem]; omega))) | (with_reducible refine Below.drew ?_) | (with_reducible refine below_drewN _ ?_))⟩
theorem wide_walk (n : Int) (a : Nat) (small : Int) (_ : -9223372036854775808 ≤ n ∧ n ≤ 9223372036854775807) (ha : isN a) (_ : -9223372036854775808 ≤ small ∧ small ≤ 9223372036854775807) (w : World) :
    Calls Try.prog 7 #[.int .i64 n, .agg #[.int .u32 (pt a 0), .int .u32 (pt a 1), .int .u32 (pt a 2), .int .u32 (pt a 3)], .int .i64 small] w fun e w' => e = .returned (.bool true) ∧ Below w.heap.size w w' := by
  by_cases h : a % k120 = 0
  · exact wide_zero a _ n small ha rfl h w
  · exact wide_more a _ n small ha rfl h w
end Go.Proofs.Ytcgecgagecobeaa
