/- NatChooses. -/
import Derived.Test.YtjhocgeoangbdaaNW
namespace Go.Proofs.Ytjhocgeoangbdaa
open Go.RowKit

theorem choose_hyp (n : Nat) (k : Int) (r : Nat) (hn : n ≤ 128) (hk0 : -9223372036854775808 ≤ k) (hk1 : k ≤ 9223372036854775807) (hr : chN n k = r) (w : World) :
    Calls Try.prog 24 #[.int .i64 n, .int .i64 k] w fun e w' => e = .returned (.tuple #[.agg #[.int .u32 (pt r 0), .int .u32 (pt r 1), .int .u32 (pt r 2), .int .u32 (pt r 3)], .int .i64 0]) ∧ Below w.heap.size w w' := by
  have h := choose_calls n k hn hk0 hk1 w
  rw [hr] at h
  exact h
set_option maxRecDepth 100000 in
set_option maxHeartbeats 8000000 in
theorem chooses_walk (a0 k : Int) (ha : 0 ≤ a0 ∧ a0 ≤ 255) (hk : -9223372036854775808 ≤ k ∧ k ≤ 9223372036854775807) (w : World) :
    Calls Try.prog 9 #[.int .u8 a0, .int .i64 k] w fun e w' => e = .returned (.bool true) ∧ Below w.heap.size w w' := by
  obtain ⟨M, hM⟩ : ∃ M : Nat, a0 % 128 = (M : Int) := ⟨(a0 % 128).toNat, by omega⟩
  have hM7 : M ≤ 127 := by omega
  have hp := chN_pascal M k hM7 hk.1 hk.2
  have hw : -9223372036854775808 ≤ wrap64 (k - 1) ∧ wrap64 (k - 1) ≤ 9223372036854775807 := by unfold wrap64; omega
  obtain ⟨A, hA⟩ : ∃ r, chN (M + 1) k = r := ⟨_, rfl⟩
  obtain ⟨B, hB⟩ : ∃ r, chN M k = r := ⟨_, rfl⟩
  obtain ⟨C, hC⟩ : ∃ r, chN M (wrap64 (k - 1)) = r := ⟨_, rfl⟩
  have hAN : isN A := by rw [← hA]; exact chN_isN _ _ (by omega)
  have hBN : isN B := by rw [← hB]; exact chN_isN _ _ (by omega)
  have hCN : isN C := by rw [← hC]; exact chN_isN _ _ (by omega)
  rw [hA, hB, hC] at hp
  have H1 := Lib.hid (choose_hyp (M + 1) k A (by omega) hk.1 hk.2 hA)
  have H2 := Lib.hid (choose_hyp M k B (by omega) hk.1 hk.2 hB)
  have H3 := Lib.hid (choose_hyp M (wrap64 (k - 1)) C (by omega) hw.1 hw.2 hC)
  have H4 := Lib.hid (add_hyp B C A hBN hCN hp hAN)
  have H5 : Hid (0 ≤ k ∧ k ≤ M → ∀ w, Calls Try.prog 24 #[.int .i64 M, .int .i64 ((M : Int) - k)] w fun e w' => e = .returned (.tuple #[.agg #[.int .u32 (pt B 0), .int .u32 (pt B 1), .int .u32 (pt B 2), .int .u32 (pt B 3)], .int .i64 0]) ∧ Below w.heap.size w w') := Lib.hid (by
    intro ⟨h0, h1⟩ w
    obtain ⟨j, rfl⟩ := Int.eq_ofNat_of_zero_le h0
    refine choose_hyp M ((M : Int) - j) B (by omega) (by omega) (by omega) ?_ w
    rw [← hB]
    unfold chN
    rw [if_neg (by omega), if_neg (by omega)]
    have e1 : ((M : Int) - j).toNat = M - j := by omega
    have e2 : ((j : Int)).toNat = j := rfl
    rw [e1, e2]
    exact bin_symm M j (by omega))
  have e1 : IntKind.i64.wrap ((M : Int) + 1) = (M : Int) + 1 := IntWalk.i64_in _ (by omega)
  clear hA hB hC hp hw
  have hM1 : (0 : Int) ≤ M ∧ (M : Int) ≤ 127 := by omega
  go_enter Try.func9, Try.ntmps9
  go_upto_region 4 with (first | (go_at_call 13; refine (awake_calls _).mono ?_; rintro e w1 ⟨rfl, hbel⟩; obtain ⟨o1, j1, rfl⟩ := grow_of_below hbel; clear hbel))
  go_upto_region 5 with (first | (go_at_call 24; refine (H1.out _).mono ?_; rintro e w2 ⟨rfl, hbel⟩; obtain ⟨o2, j2, rfl⟩ := grow_of_below hbel; clear hbel))
  go_upto_region 6 with (first | (go_at_call 24; refine (H2.out _).mono ?_; rintro e w3 ⟨rfl, hbel⟩; obtain ⟨o3, j3, rfl⟩ := grow_of_below hbel; clear hbel))
  go_upto_region 7 with (first | (go_at_call 24; refine (H3.out _).mono ?_; rintro e w4 ⟨rfl, hbel⟩; obtain ⟨o4, j4, rfl⟩ := grow_of_below hbel; clear hbel))
  go_upto_region 10 with (first | (go_at_call 17; refine (H4.out _).mono ?_; rintro e w5 ⟨rfl, hbel⟩; obtain ⟨o5, j5, rfl⟩ := grow_of_below hbel; clear hbel))
  by_cases hkm : 0 ≤ k ∧ k ≤ M
  · obtain ⟨k0, k1⟩ := hkm
    have H6 := Lib.hid (H5.out ⟨k0, k1⟩)
    go_upto_region 14 with (first | (go_at_call 24; refine (H6.out _).mono ?_; rintro e w6 ⟨rfl, hbel⟩; obtain ⟨o6, j6, rfl⟩ := grow_of_below hbel; clear hbel))
    clear H1 H2 H3 H4 H5 H6
    go_cut [16] (fun s16 wx => ∃ q : Nat, s16 = .pointer (some ⟨q, 0, none⟩) ∧ blk wx q #[.int .u32 0, .int .u32 0, .int .u32 0, .int .u32 0] 24 ∧ w.heap.size ≤ q ∧ Below w.heap.size w wx)
    case first =>
      go_wp2
      go_meet
      exact ⟨_, rfl, blk_at _ _ _ (by simp [go_sem]), by omega, by repeat (first | (with_reducible exact Below.refl _ _) | ((with_reducible refine below_grow ?_ ?_); rotate_left; focus (first | omega | (simp [go_sem]; done) | (simp [go_sem]; omega))) | ((with_reducible refine Below.alloc ?_ ?_ _); rotate_left; focus (first | omega | (simp [go_sem]; done) | (simp [go_sem]; omega))) | ((with_reducible refine Below.setCell ?_ ?_ _); rotate_left; focus (first | omega | (simp [go_sem]; done) | (simp [go_sem]; omega))) | (with_reducible refine Below.drew ?_) | (with_reducible refine below_drewN _ ?_))⟩
    case rest =>
      obtain ⟨q, rfl, hq, hwq, hbq⟩ := hcut
      go_wp2
      go_loopw [17] (fun s17 wr => ∃ i : Nat, i ≤ M + 1 ∧ s17 = .int .i64 i ∧ blk wr q #[.int .u32 (pt (sumB M i) 0), .int .u32 (pt (sumB M i) 1), .int .u32 (pt (sumB M i) 2), .int .u32 (pt (sumB M i) 3)] 24 ∧ Below w.heap.size w wr) (fun s17 _ => M + 1 - (intOf s17).toNat)
      case atStart => exact ⟨0, by omega, rfl, by simp only [sumB, pt_zero]; exact hq, hbq⟩
      case round =>
        obtain ⟨i, hi, rfl, hqi, hbi⟩ := hrel
        have c0 := blk_cell hqi 0
        have c1 := blk_cell hqi 1
        have c2 := blk_cell hqi 2
        have c3 := blk_cell hqi 3
        simp only [List.getElem?_toArray, List.getElem?_cons_zero, List.getElem?_cons_succ] at c0 c1 c2 c3
        have f0 := blk_free hqi 0
        have f1 := blk_free hqi 1
        have f2 := blk_free hqi 2
        have f3 := blk_free hqi 3
        have iQ : NeZero (inW q wr) := inW_mk (blk_lt hqi); have hbs := hbi.size; have hql := blk_lt hqi
        by_cases hlt : i ≤ M
        · have hs1 := sumB_isN M i hM7 (by omega)
          have hs2 := sumB_isN M (i + 1) hM7 (by omega)
          have H1 := Lib.hid (choose_hyp M (i : Int) (bin M i) (by omega) (by omega) (by omega) (if_neg (by omega)))
          have H2 := Lib.hid (add_hyp (sumB M i) (bin M i) (sumB M (i + 1)) hs1 (bin_le M i (by omega)) rfl hs2)
          go_wp2_with (first | (go_at_call 24; refine (H1.out _).mono ?_; rintro e w11 ⟨rfl, hbel⟩; obtain ⟨o11, j11, rfl⟩ := grow_of_below hbel; clear hbel) | (go_at_call 17; refine (H2.out _).mono ?_; rintro e w12 ⟨rfl, hbel⟩; obtain ⟨o12, j12, rfl⟩ := grow_of_below hbel; clear hbel))
          go_roundw
          case rel => exact ⟨i + 1, by omega, by go_num, blk_alloc (blk_grow (blk_alloc (blk_grow (set4 hqi _ _ _ _) _ _) _) _ _) _, by repeat (first | (with_reducible exact hbi) | ((with_reducible refine below_grow ?_ ?_); rotate_left; focus (first | omega | (simp [go_sem]; done) | (simp [go_sem]; omega))) | ((with_reducible refine Below.alloc ?_ ?_ _); rotate_left; focus (first | omega | (simp [go_sem]; done) | (simp [go_sem]; omega))) | ((with_reducible refine Below.setCell ?_ ?_ _); rotate_left; focus (first | omega | (simp [go_sem]; done) | (simp [go_sem]; omega))) | (with_reducible refine Below.drew ?_) | (with_reducible refine below_drewN _ ?_))⟩
          case measure => simp [intOf]; omega
        · obtain rfl : i = M + 1 := by omega
          rw [sumB_all] at c0 c1 c2 c3
          have hE := eqN
          clear hlt
          have hq4 : M / 32 = 0 ∨ M / 32 = 1 ∨ M / 32 = 2 ∨ M / 32 = 3 := by omega
          obtain ⟨r, hr⟩ : ∃ r : Int, (M : Int) % 32 = r := ⟨_, rfl⟩
          have hr0 : 0 ≤ r := by omega
          have hr1 : r < 32 := by omega
          have hr2 : r ≤ 32 := by omega
          have k3 := pow_wrap r hr0 hr1
          have er : ((2 ^ (M % 32) : Nat) : Int) = 2 ^ r.toNat := by
            have : r.toNat = M % 32 := by omega
            rw [this, Int.natCast_pow]; rfl
          have k1 : (M : Int).tmod 32 = r := by rw [Int.tmod_eq_emod_of_nonneg (by omega)]; exact hr
          rcases hq4 with hq4 | hq4 | hq4 | hq4
          · have P := pow_parts M 0 hM7 hq4
            have P0 : pt (2 ^ M) 0 = 2 ^ r.toNat := by rw [P 0 (by decide), if_pos rfl, er]
            have P1 : pt (2 ^ M) 1 = 0 := by rw [P 1 (by decide), if_neg (by decide)]
            have P2 : pt (2 ^ M) 2 = 0 := by rw [P 2 (by decide), if_neg (by decide)]
            have P3 : pt (2 ^ M) 3 = 0 := by rw [P 3 (by decide), if_neg (by decide)]
            have k4 : (M : Int) / 32 = 0 := by omega
            clear P hq4
            go_wp2
            go_ret
            exact ⟨rfl, by repeat (first | (with_reducible exact hbi) | ((with_reducible refine below_grow ?_ ?_); rotate_left; focus (first | omega | (simp [go_sem]; done) | (simp [go_sem]; omega))) | ((with_reducible refine Below.alloc ?_ ?_ _); rotate_left; focus (first | omega | (simp [go_sem]; done) | (simp [go_sem]; omega))) | ((with_reducible refine Below.setCell ?_ ?_ _); rotate_left; focus (first | omega | (simp [go_sem]; done) | (simp [go_sem]; omega))) | (with_reducible refine Below.drew ?_) | (with_reducible refine below_drewN _ ?_))⟩
          · have P := pow_parts M 1 hM7 hq4
            have P0 : pt (2 ^ M) 0 = 0 := by rw [P 0 (by decide), if_neg (by decide)]
            have P1 : pt (2 ^ M) 1 = 2 ^ r.toNat := by rw [P 1 (by decide), if_pos rfl, er]
            have P2 : pt (2 ^ M) 2 = 0 := by rw [P 2 (by decide), if_neg (by decide)]
            have P3 : pt (2 ^ M) 3 = 0 := by rw [P 3 (by decide), if_neg (by decide)]
            have k4 : (M : Int) / 32 = 1 := by omega
            clear P hq4
            go_wp2
            go_ret
            exact ⟨rfl, by repeat (first | (with_reducible exact hbi) | ((with_reducible refine below_grow ?_ ?_); rotate_left; focus (first | omega | (simp [go_sem]; done) | (simp [go_sem]; omega))) | ((with_reducible refine Below.alloc ?_ ?_ _); rotate_left; focus (first | omega | (simp [go_sem]; done) | (simp [go_sem]; omega))) | ((with_reducible refine Below.setCell ?_ ?_ _); rotate_left; focus (first | omega | (simp [go_sem]; done) | (simp [go_sem]; omega))) | (with_reducible refine Below.drew ?_) | (with_reducible refine below_drewN _ ?_))⟩
          · have P := pow_parts M 2 hM7 hq4
            have P0 : pt (2 ^ M) 0 = 0 := by rw [P 0 (by decide), if_neg (by decide)]
            have P1 : pt (2 ^ M) 1 = 0 := by rw [P 1 (by decide), if_neg (by decide)]
            have P2 : pt (2 ^ M) 2 = 2 ^ r.toNat := by rw [P 2 (by decide), if_pos rfl, er]
            have P3 : pt (2 ^ M) 3 = 0 := by rw [P 3 (by decide), if_neg (by decide)]
            have k4 : (M : Int) / 32 = 2 := by omega
            clear P hq4
            go_wp2
            go_ret
            exact ⟨rfl, by repeat (first | (with_reducible exact hbi) | ((with_reducible refine below_grow ?_ ?_); rotate_left; focus (first | omega | (simp [go_sem]; done) | (simp [go_sem]; omega))) | ((with_reducible refine Below.alloc ?_ ?_ _); rotate_left; focus (first | omega | (simp [go_sem]; done) | (simp [go_sem]; omega))) | ((with_reducible refine Below.setCell ?_ ?_ _); rotate_left; focus (first | omega | (simp [go_sem]; done) | (simp [go_sem]; omega))) | (with_reducible refine Below.drew ?_) | (with_reducible refine below_drewN _ ?_))⟩
          · have P := pow_parts M 3 hM7 hq4
            have P0 : pt (2 ^ M) 0 = 0 := by rw [P 0 (by decide), if_neg (by decide)]
            have P1 : pt (2 ^ M) 1 = 0 := by rw [P 1 (by decide), if_neg (by decide)]
            have P2 : pt (2 ^ M) 2 = 0 := by rw [P 2 (by decide), if_neg (by decide)]
            have P3 : pt (2 ^ M) 3 = 2 ^ r.toNat := by rw [P 3 (by decide), if_pos rfl, er]
            have k4 : (M : Int) / 32 = 3 := by omega
            clear P hq4
            go_wp2
            go_ret
            exact ⟨rfl, by repeat (first | (with_reducible exact hbi) | ((with_reducible refine below_grow ?_ ?_); rotate_left; focus (first | omega | (simp [go_sem]; done) | (simp [go_sem]; omega))) | ((with_reducible refine Below.alloc ?_ ?_ _); rotate_left; focus (first | omega | (simp [go_sem]; done) | (simp [go_sem]; omega))) | ((with_reducible refine Below.setCell ?_ ?_ _); rotate_left; focus (first | omega | (simp [go_sem]; done) | (simp [go_sem]; omega))) | (with_reducible refine Below.drew ?_) | (with_reducible refine below_drewN _ ?_))⟩
  · have hk2 : k < 0 ∨ (M : Int) < k := by omega
    rcases hk2 with hk2 | hk2
    · clear hkm
      go_upto_region 14 with fail
      clear H1 H2 H3 H4 H5
      go_cut [16] (fun s16 wx => ∃ q : Nat, s16 = .pointer (some ⟨q, 0, none⟩) ∧ blk wx q #[.int .u32 0, .int .u32 0, .int .u32 0, .int .u32 0] 24 ∧ w.heap.size ≤ q ∧ Below w.heap.size w wx)
      case first =>
        go_wp2
        go_meet
        exact ⟨_, rfl, blk_at _ _ _ (by simp [go_sem]), by omega, by repeat (first | (with_reducible exact Below.refl _ _) | ((with_reducible refine below_grow ?_ ?_); rotate_left; focus (first | omega | (simp [go_sem]; done) | (simp [go_sem]; omega))) | ((with_reducible refine Below.alloc ?_ ?_ _); rotate_left; focus (first | omega | (simp [go_sem]; done) | (simp [go_sem]; omega))) | ((with_reducible refine Below.setCell ?_ ?_ _); rotate_left; focus (first | omega | (simp [go_sem]; done) | (simp [go_sem]; omega))) | (with_reducible refine Below.drew ?_) | (with_reducible refine below_drewN _ ?_))⟩
      case rest =>
        obtain ⟨q, rfl, hq, hwq, hbq⟩ := hcut
        go_wp2
        go_loopw [17] (fun s17 wr => ∃ i : Nat, i ≤ M + 1 ∧ s17 = .int .i64 i ∧ blk wr q #[.int .u32 (pt (sumB M i) 0), .int .u32 (pt (sumB M i) 1), .int .u32 (pt (sumB M i) 2), .int .u32 (pt (sumB M i) 3)] 24 ∧ Below w.heap.size w wr) (fun s17 _ => M + 1 - (intOf s17).toNat)
        case atStart => exact ⟨0, by omega, rfl, by simp only [sumB, pt_zero]; exact hq, hbq⟩
        case round =>
          obtain ⟨i, hi, rfl, hqi, hbi⟩ := hrel
          have c0 := blk_cell hqi 0
          have c1 := blk_cell hqi 1
          have c2 := blk_cell hqi 2
          have c3 := blk_cell hqi 3
          simp only [List.getElem?_toArray, List.getElem?_cons_zero, List.getElem?_cons_succ] at c0 c1 c2 c3
          have f0 := blk_free hqi 0
          have f1 := blk_free hqi 1
          have f2 := blk_free hqi 2
          have f3 := blk_free hqi 3
          have iQ : NeZero (inW q wr) := inW_mk (blk_lt hqi); have hbs := hbi.size; have hql := blk_lt hqi
          by_cases hlt : i ≤ M
          · have hs1 := sumB_isN M i hM7 (by omega)
            have hs2 := sumB_isN M (i + 1) hM7 (by omega)
            have H1 := Lib.hid (choose_hyp M (i : Int) (bin M i) (by omega) (by omega) (by omega) (if_neg (by omega)))
            have H2 := Lib.hid (add_hyp (sumB M i) (bin M i) (sumB M (i + 1)) hs1 (bin_le M i (by omega)) rfl hs2)
            go_wp2_with (first | (go_at_call 24; refine (H1.out _).mono ?_; rintro e w11 ⟨rfl, hbel⟩; obtain ⟨o11, j11, rfl⟩ := grow_of_below hbel; clear hbel) | (go_at_call 17; refine (H2.out _).mono ?_; rintro e w12 ⟨rfl, hbel⟩; obtain ⟨o12, j12, rfl⟩ := grow_of_below hbel; clear hbel))
            go_roundw
            case rel => exact ⟨i + 1, by omega, by go_num, blk_alloc (blk_grow (blk_alloc (blk_grow (set4 hqi _ _ _ _) _ _) _) _ _) _, by repeat (first | (with_reducible exact hbi) | ((with_reducible refine below_grow ?_ ?_); rotate_left; focus (first | omega | (simp [go_sem]; done) | (simp [go_sem]; omega))) | ((with_reducible refine Below.alloc ?_ ?_ _); rotate_left; focus (first | omega | (simp [go_sem]; done) | (simp [go_sem]; omega))) | ((with_reducible refine Below.setCell ?_ ?_ _); rotate_left; focus (first | omega | (simp [go_sem]; done) | (simp [go_sem]; omega))) | (with_reducible refine Below.drew ?_) | (with_reducible refine below_drewN _ ?_))⟩
            case measure => simp [intOf]; omega
          · obtain rfl : i = M + 1 := by omega
            rw [sumB_all] at c0 c1 c2 c3
            have hE := eqN
            clear hlt
            have hq4 : M / 32 = 0 ∨ M / 32 = 1 ∨ M / 32 = 2 ∨ M / 32 = 3 := by omega
            obtain ⟨r, hr⟩ : ∃ r : Int, (M : Int) % 32 = r := ⟨_, rfl⟩
            have hr0 : 0 ≤ r := by omega
            have hr1 : r < 32 := by omega
            have hr2 : r ≤ 32 := by omega
            have k3 := pow_wrap r hr0 hr1
            have er : ((2 ^ (M % 32) : Nat) : Int) = 2 ^ r.toNat := by
              have : r.toNat = M % 32 := by omega
              rw [this, Int.natCast_pow]; rfl
            have k1 : (M : Int).tmod 32 = r := by rw [Int.tmod_eq_emod_of_nonneg (by omega)]; exact hr
            rcases hq4 with hq4 | hq4 | hq4 | hq4
            · have P := pow_parts M 0 hM7 hq4
              have P0 : pt (2 ^ M) 0 = 2 ^ r.toNat := by rw [P 0 (by decide), if_pos rfl, er]
              have P1 : pt (2 ^ M) 1 = 0 := by rw [P 1 (by decide), if_neg (by decide)]
              have P2 : pt (2 ^ M) 2 = 0 := by rw [P 2 (by decide), if_neg (by decide)]
              have P3 : pt (2 ^ M) 3 = 0 := by rw [P 3 (by decide), if_neg (by decide)]
              have k4 : (M : Int) / 32 = 0 := by omega
              clear P hq4
              go_wp2
              go_ret
              exact ⟨rfl, by repeat (first | (with_reducible exact hbi) | ((with_reducible refine below_grow ?_ ?_); rotate_left; focus (first | omega | (simp [go_sem]; done) | (simp [go_sem]; omega))) | ((with_reducible refine Below.alloc ?_ ?_ _); rotate_left; focus (first | omega | (simp [go_sem]; done) | (simp [go_sem]; omega))) | ((with_reducible refine Below.setCell ?_ ?_ _); rotate_left; focus (first | omega | (simp [go_sem]; done) | (simp [go_sem]; omega))) | (with_reducible refine Below.drew ?_) | (with_reducible refine below_drewN _ ?_))⟩
            · have P := pow_parts M 1 hM7 hq4
              have P0 : pt (2 ^ M) 0 = 0 := by rw [P 0 (by decide), if_neg (by decide)]
              have P1 : pt (2 ^ M) 1 = 2 ^ r.toNat := by rw [P 1 (by decide), if_pos rfl, er]
              have P2 : pt (2 ^ M) 2 = 0 := by rw [P 2 (by decide), if_neg (by decide)]
              have P3 : pt (2 ^ M) 3 = 0 := by rw [P 3 (by decide), if_neg (by decide)]
              have k4 : (M : Int) / 32 = 1 := by omega
              clear P hq4
              go_wp2
              go_ret
              exact ⟨rfl, by repeat (first | (with_reducible exact hbi) | ((with_reducible refine below_grow ?_ ?_); rotate_left; focus (first | omega | (simp [go_sem]; done) | (simp [go_sem]; omega))) | ((with_reducible refine Below.alloc ?_ ?_ _); rotate_left; focus (first | omega | (simp [go_sem]; done) | (simp [go_sem]; omega))) | ((with_reducible refine Below.setCell ?_ ?_ _); rotate_left; focus (first | omega | (simp [go_sem]; done) | (simp [go_sem]; omega))) | (with_reducible refine Below.drew ?_) | (with_reducible refine below_drewN _ ?_))⟩
            · have P := pow_parts M 2 hM7 hq4
              have P0 : pt (2 ^ M) 0 = 0 := by rw [P 0 (by decide), if_neg (by decide)]
              have P1 : pt (2 ^ M) 1 = 0 := by rw [P 1 (by decide), if_neg (by decide)]
              have P2 : pt (2 ^ M) 2 = 2 ^ r.toNat := by rw [P 2 (by decide), if_pos rfl, er]
              have P3 : pt (2 ^ M) 3 = 0 := by rw [P 3 (by decide), if_neg (by decide)]
              have k4 : (M : Int) / 32 = 2 := by omega
              clear P hq4
              go_wp2
              go_ret
              exact ⟨rfl, by repeat (first | (with_reducible exact hbi) | ((with_reducible refine below_grow ?_ ?_); rotate_left; focus (first | omega | (simp [go_sem]; done) | (simp [go_sem]; omega))) | ((with_reducible refine Below.alloc ?_ ?_ _); rotate_left; focus (first | omega | (simp [go_sem]; done) | (simp [go_sem]; omega))) | ((with_reducible refine Below.setCell ?_ ?_ _); rotate_left; focus (first | omega | (simp [go_sem]; done) | (simp [go_sem]; omega))) | (with_reducible refine Below.drew ?_) | (with_reducible refine below_drewN _ ?_))⟩
            · have P := pow_parts M 3 hM7 hq4
              have P0 : pt (2 ^ M) 0 = 0 := by rw [P 0 (by decide), if_neg (by decide)]
              have P1 : pt (2 ^ M) 1 = 0 := by rw [P 1 (by decide), if_neg (by decide)]
              have P2 : pt (2 ^ M) 2 = 0 := by rw [P 2 (by decide), if_neg (by decide)]
              have P3 : pt (2 ^ M) 3 = 2 ^ r.toNat := by rw [P 3 (by decide), if_pos rfl, er]
              have k4 : (M : Int) / 32 = 3 := by omega
              clear P hq4
              go_wp2
              go_ret
              exact ⟨rfl, by repeat (first | (with_reducible exact hbi) | ((with_reducible refine below_grow ?_ ?_); rotate_left; focus (first | omega | (simp [go_sem]; done) | (simp [go_sem]; omega))) | ((with_reducible refine Below.alloc ?_ ?_ _); rotate_left; focus (first | omega | (simp [go_sem]; done) | (simp [go_sem]; omega))) | ((with_reducible refine Below.setCell ?_ ?_ _); rotate_left; focus (first | omega | (simp [go_sem]; done) | (simp [go_sem]; omega))) | (with_reducible refine Below.drew ?_) | (with_reducible refine below_drewN _ ?_))⟩
    · have hk3 : 0 ≤ k := by omega
      clear hkm
      go_upto_region 14 with fail
      clear H1 H2 H3 H4 H5
      go_cut [16] (fun s16 wx => ∃ q : Nat, s16 = .pointer (some ⟨q, 0, none⟩) ∧ blk wx q #[.int .u32 0, .int .u32 0, .int .u32 0, .int .u32 0] 24 ∧ w.heap.size ≤ q ∧ Below w.heap.size w wx)
      case first =>
        go_wp2
        go_meet
        exact ⟨_, rfl, blk_at _ _ _ (by simp [go_sem]), by omega, by repeat (first | (with_reducible exact Below.refl _ _) | ((with_reducible refine below_grow ?_ ?_); rotate_left; focus (first | omega | (simp [go_sem]; done) | (simp [go_sem]; omega))) | ((with_reducible refine Below.alloc ?_ ?_ _); rotate_left; focus (first | omega | (simp [go_sem]; done) | (simp [go_sem]; omega))) | ((with_reducible refine Below.setCell ?_ ?_ _); rotate_left; focus (first | omega | (simp [go_sem]; done) | (simp [go_sem]; omega))) | (with_reducible refine Below.drew ?_) | (with_reducible refine below_drewN _ ?_))⟩
      case rest =>
        obtain ⟨q, rfl, hq, hwq, hbq⟩ := hcut
        go_wp2
        go_loopw [17] (fun s17 wr => ∃ i : Nat, i ≤ M + 1 ∧ s17 = .int .i64 i ∧ blk wr q #[.int .u32 (pt (sumB M i) 0), .int .u32 (pt (sumB M i) 1), .int .u32 (pt (sumB M i) 2), .int .u32 (pt (sumB M i) 3)] 24 ∧ Below w.heap.size w wr) (fun s17 _ => M + 1 - (intOf s17).toNat)
        case atStart => exact ⟨0, by omega, rfl, by simp only [sumB, pt_zero]; exact hq, hbq⟩
        case round =>
          obtain ⟨i, hi, rfl, hqi, hbi⟩ := hrel
          have c0 := blk_cell hqi 0
          have c1 := blk_cell hqi 1
          have c2 := blk_cell hqi 2
          have c3 := blk_cell hqi 3
          simp only [List.getElem?_toArray, List.getElem?_cons_zero, List.getElem?_cons_succ] at c0 c1 c2 c3
          have f0 := blk_free hqi 0
          have f1 := blk_free hqi 1
          have f2 := blk_free hqi 2
          have f3 := blk_free hqi 3
          have iQ : NeZero (inW q wr) := inW_mk (blk_lt hqi); have hbs := hbi.size; have hql := blk_lt hqi
          by_cases hlt : i ≤ M
          · have hs1 := sumB_isN M i hM7 (by omega)
            have hs2 := sumB_isN M (i + 1) hM7 (by omega)
            have H1 := Lib.hid (choose_hyp M (i : Int) (bin M i) (by omega) (by omega) (by omega) (if_neg (by omega)))
            have H2 := Lib.hid (add_hyp (sumB M i) (bin M i) (sumB M (i + 1)) hs1 (bin_le M i (by omega)) rfl hs2)
            go_wp2_with (first | (go_at_call 24; refine (H1.out _).mono ?_; rintro e w11 ⟨rfl, hbel⟩; obtain ⟨o11, j11, rfl⟩ := grow_of_below hbel; clear hbel) | (go_at_call 17; refine (H2.out _).mono ?_; rintro e w12 ⟨rfl, hbel⟩; obtain ⟨o12, j12, rfl⟩ := grow_of_below hbel; clear hbel))
            go_roundw
            case rel => exact ⟨i + 1, by omega, by go_num, blk_alloc (blk_grow (blk_alloc (blk_grow (set4 hqi _ _ _ _) _ _) _) _ _) _, by repeat (first | (with_reducible exact hbi) | ((with_reducible refine below_grow ?_ ?_); rotate_left; focus (first | omega | (simp [go_sem]; done) | (simp [go_sem]; omega))) | ((with_reducible refine Below.alloc ?_ ?_ _); rotate_left; focus (first | omega | (simp [go_sem]; done) | (simp [go_sem]; omega))) | ((with_reducible refine Below.setCell ?_ ?_ _); rotate_left; focus (first | omega | (simp [go_sem]; done) | (simp [go_sem]; omega))) | (with_reducible refine Below.drew ?_) | (with_reducible refine below_drewN _ ?_))⟩
            case measure => simp [intOf]; omega
          · obtain rfl : i = M + 1 := by omega
            rw [sumB_all] at c0 c1 c2 c3
            have hE := eqN
            clear hlt
            have hq4 : M / 32 = 0 ∨ M / 32 = 1 ∨ M / 32 = 2 ∨ M / 32 = 3 := by omega
            obtain ⟨r, hr⟩ : ∃ r : Int, (M : Int) % 32 = r := ⟨_, rfl⟩
            have hr0 : 0 ≤ r := by omega
            have hr1 : r < 32 := by omega
            have hr2 : r ≤ 32 := by omega
            have k3 := pow_wrap r hr0 hr1
            have er : ((2 ^ (M % 32) : Nat) : Int) = 2 ^ r.toNat := by
              have : r.toNat = M % 32 := by omega
              rw [this, Int.natCast_pow]; rfl
            have k1 : (M : Int).tmod 32 = r := by rw [Int.tmod_eq_emod_of_nonneg (by omega)]; exact hr
            rcases hq4 with hq4 | hq4 | hq4 | hq4
            · have P := pow_parts M 0 hM7 hq4
              have P0 : pt (2 ^ M) 0 = 2 ^ r.toNat := by rw [P 0 (by decide), if_pos rfl, er]
              have P1 : pt (2 ^ M) 1 = 0 := by rw [P 1 (by decide), if_neg (by decide)]
              have P2 : pt (2 ^ M) 2 = 0 := by rw [P 2 (by decide), if_neg (by decide)]
              have P3 : pt (2 ^ M) 3 = 0 := by rw [P 3 (by decide), if_neg (by decide)]
              have k4 : (M : Int) / 32 = 0 := by omega
              clear P hq4
              go_wp2
              go_ret
              exact ⟨rfl, by repeat (first | (with_reducible exact hbi) | ((with_reducible refine below_grow ?_ ?_); rotate_left; focus (first | omega | (simp [go_sem]; done) | (simp [go_sem]; omega))) | ((with_reducible refine Below.alloc ?_ ?_ _); rotate_left; focus (first | omega | (simp [go_sem]; done) | (simp [go_sem]; omega))) | ((with_reducible refine Below.setCell ?_ ?_ _); rotate_left; focus (first | omega | (simp [go_sem]; done) | (simp [go_sem]; omega))) | (with_reducible refine Below.drew ?_) | (with_reducible refine below_drewN _ ?_))⟩
            · have P := pow_parts M 1 hM7 hq4
              have P0 : pt (2 ^ M) 0 = 0 := by rw [P 0 (by decide), if_neg (by decide)]
              have P1 : pt (2 ^ M) 1 = 2 ^ r.toNat := by rw [P 1 (by decide), if_pos rfl, er]
              have P2 : pt (2 ^ M) 2 = 0 := by rw [P 2 (by decide), if_neg (by decide)]
              have P3 : pt (2 ^ M) 3 = 0 := by rw [P 3 (by decide), if_neg (by decide)]
              have k4 : (M : Int) / 32 = 1 := by omega
              clear P hq4
              go_wp2
              go_ret
              exact ⟨rfl, by repeat (first | (with_reducible exact hbi) | ((with_reducible refine below_grow ?_ ?_); rotate_left; focus (first | omega | (simp [go_sem]; done) | (simp [go_sem]; omega))) | ((with_reducible refine Below.alloc ?_ ?_ _); rotate_left; focus (first | omega | (simp [go_sem]; done) | (simp [go_sem]; omega))) | ((with_reducible refine Below.setCell ?_ ?_ _); rotate_left; focus (first | omega | (simp [go_sem]; done) | (simp [go_sem]; omega))) | (with_reducible refine Below.drew ?_) | (with_reducible refine below_drewN _ ?_))⟩
            · have P := pow_parts M 2 hM7 hq4
              have P0 : pt (2 ^ M) 0 = 0 := by rw [P 0 (by decide), if_neg (by decide)]
              have P1 : pt (2 ^ M) 1 = 0 := by rw [P 1 (by decide), if_neg (by decide)]
              have P2 : pt (2 ^ M) 2 = 2 ^ r.toNat := by rw [P 2 (by decide), if_pos rfl, er]
              have P3 : pt (2 ^ M) 3 = 0 := by rw [P 3 (by decide), if_neg (by decide)]
              have k4 : (M : Int) / 32 = 2 := by omega
              clear P hq4
              go_wp2
              go_ret
              exact ⟨rfl, by repeat (first | (with_reducible exact hbi) | ((with_reducible refine below_grow ?_ ?_); rotate_left; focus (first | omega | (simp [go_sem]; done) | (simp [go_sem]; omega))) | ((with_reducible refine Below.alloc ?_ ?_ _); rotate_left; focus (first | omega | (simp [go_sem]; done) | (simp [go_sem]; omega))) | ((with_reducible refine Below.setCell ?_ ?_ _); rotate_left; focus (first | omega | (simp [go_sem]; done) | (simp [go_sem]; omega))) | (with_reducible refine Below.drew ?_) | (with_reducible refine below_drewN _ ?_))⟩
            · have P := pow_parts M 3 hM7 hq4
              have P0 : pt (2 ^ M) 0 = 0 := by rw [P 0 (by decide), if_neg (by decide)]
              have P1 : pt (2 ^ M) 1 = 0 := by rw [P 1 (by decide), if_neg (by decide)]
              have P2 : pt (2 ^ M) 2 = 0 := by rw [P 2 (by decide), if_neg (by decide)]
              have P3 : pt (2 ^ M) 3 = 2 ^ r.toNat := by rw [P 3 (by decide), if_pos rfl, er]
              have k4 : (M : Int) / 32 = 3 := by omega
              clear P hq4
              go_wp2
              go_ret
              exact ⟨rfl, by repeat (first | (with_reducible exact hbi) | ((with_reducible refine below_grow ?_ ?_); rotate_left; focus (first | omega | (simp [go_sem]; done) | (simp [go_sem]; omega))) | ((with_reducible refine Below.alloc ?_ ?_ _); rotate_left; focus (first | omega | (simp [go_sem]; done) | (simp [go_sem]; omega))) | ((with_reducible refine Below.setCell ?_ ?_ _); rotate_left; focus (first | omega | (simp [go_sem]; done) | (simp [go_sem]; omega))) | (with_reducible refine Below.drew ?_) | (with_reducible refine below_drewN _ ?_))⟩
end Go.Proofs.Ytjhocgeoangbdaa
