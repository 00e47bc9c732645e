/- BelowNat: number. -/
import Derived.Test.YtcgecgagecobeaaSL
namespace Go.Proofs.Ytcgecgagecobeaa
open Go.RowKit Go.Shelf

/-- The number of k values. -/
def numb (s : Nat) : Nat → Nat
  | 0 => 0
  | k + 1 => numb s k + (jmp s (k + 1) - 1) * vp k
theorem numb_lt {s : Nat} (h : St s) : ∀ k, numb s k < vp k
  | 0 => Nat.zero_lt_one
  | k + 1 => by
    have h1 := numb_lt h k
    have h2 := jmp_St h (k + 1)
    unfold St at h2
    have h3 : (jmp s (k + 1) - 1) * vp k ≤ 2147483645 * vp k := Nat.mul_le_mul_right _ (by omega)
    rw [vp_succ]
    unfold numb
    omega
theorem step_hyp (s r m : Nat) (hs : St s) (hr : nxt s = r) (hm : r - 1 = m) (w : World) :
    Calls Try.prog 39 #[.int .i64 s] w fun e w' => e = .returned (.tuple #[.int .i64 r, .int .i64 m]) ∧ Below w.heap.size w w' := by
  have h := step_calls s hs w
  rw [hr, hm] at h
  exact h
theorem one_pt : pt 1 0 = 1 ∧ pt 1 1 = 0 ∧ pt 1 2 = 0 ∧ pt 1 3 = 0 := by decide
set_option maxRecDepth 100000 in
set_option maxHeartbeats 8000000 in
theorem number_calls (s d : Nat) (hs : St s) (hd : d ≤ 4) (w : World) :
    Calls Try.prog 46 #[.int .i64 s, .int .i64 d] w fun e w' => e = .returned (.tuple #[.int .i64 (jmp s d), .agg #[.int .u32 (pt (numb s d) 0), .int .u32 (pt (numb s d) 1), .int .u32 (pt (numb s d) 2), .int .u32 (pt (numb s d) 3)]]) ∧ Below w.heap.size w w' := by
  go_enter Try.func46, Try.ntmps46
  go_upto_region 2 with fail
  go_wp2
  go_loopw [16, 0] (fun s16 s0 wr => ∃ i t : Nat, s16 = .int .i64 i ∧ s0 = .int .i64 t ∧ jmp s i = t ∧ i ≤ d ∧ blk wr w.heap.size #[.int .u32 0, .int .u32 0, .int .u32 0, .int .u32 0] 25 ∧ blk wr (w.heap.size + 1) #[.int .u32 (pt (numb s i) 0), .int .u32 (pt (numb s i) 1), .int .u32 (pt (numb s i) 2), .int .u32 (pt (numb s i) 3)] 25 ∧ blk wr (w.heap.size + 1 + 1) #[.int .u32 (pt (vp i) 0), .int .u32 (pt (vp i) 1), .int .u32 (pt (vp i) 2), .int .u32 (pt (vp i) 3)] 25 ∧ Below w.heap.size w wr) (fun s16 _ _ => d - (intOf s16).toNat)
  case atStart => exact ⟨0, s, rfl, rfl, jmp_zero hs, Nat.zero_le _, blk_alloc (blk_alloc (blk_new _ _ _) _) _, (by
    simp only [numb, pt_zero]
    exact blk_alloc (blk_at _ _ _ (by simp)) _), (by
    simp only [vp_zero, one_pt.1, one_pt.2.1, one_pt.2.2.1, one_pt.2.2.2]
    exact blk_at _ _ _ (by simp)), by repeat (first | (with_reducible exact Below.refl _ _) | ((with_reducible refine below_grow ?_ ?_); rotate_left; focus (first | omega | (simp [go_sem]; done) | (simp [go_sem]; omega))) | ((with_reducible refine Below.alloc ?_ ?_ _); rotate_left; focus (first | omega | (simp [go_sem]; done) | (simp [go_sem]; omega))) | ((with_reducible refine Below.setCell ?_ ?_ _); rotate_left; focus (first | omega | (simp [go_sem]; done) | (simp [go_sem]; omega))) | (with_reducible refine Below.drew ?_) | (with_reducible refine below_drewN _ ?_))⟩
  case round =>
    obtain ⟨i, t, rfl, rfl, ht, hi, b0, b1, b2, hb⟩ := hrel
    have hvN := vp_isN i (by omega)
    have hvs := vp_succ i
    have hnl := numb_lt hs i
    have hnN : isN (numb s i) := by unfold isN at *; omega
    have hti := jmp_St hs i
    have hns : numb s (i + 1) = numb s i + (jmp s (i + 1) - 1) * vp i := rfl
    rw [jmp_succ] at hns
    obtain ⟨v, hv⟩ : ∃ v, vp i = v := ⟨_, rfl⟩
    obtain ⟨n, hn⟩ : ∃ n, numb s i = n := ⟨_, rfl⟩
    rw [hv] at b2 hvN hvs hns
    rw [hn] at b1 hnN hns
    rw [ht] at hti hns
    have p0 := blk_cell b0 0
    have p1 := blk_cell b0 1
    have p2 := blk_cell b0 2
    have p3 := blk_cell b0 3
    have q0 := blk_cell b1 0
    have q1 := blk_cell b1 1
    have q2 := blk_cell b1 2
    have q3 := blk_cell b1 3
    have r0 := blk_cell b2 0
    have r1 := blk_cell b2 1
    have r2 := blk_cell b2 2
    have r3 := blk_cell b2 3
    simp only [List.getElem?_toArray, List.getElem?_cons_zero, List.getElem?_cons_succ] at p0 p1 p2 p3 q0 q1 q2 q3 r0 r1 r2 r3
    have e0 := blk_free b0 0
    have e1 := blk_free b0 1
    have e2 := blk_free b0 2
    have e3 := blk_free b0 3
    have f0 := blk_free b1 0
    have f1 := blk_free b1 1
    have f2 := blk_free b1 2
    have f3 := blk_free b1 3
    have g0 := blk_free b2 0
    have g1 := blk_free b2 1
    have g2 := blk_free b2 2
    have g3 := blk_free b2 3
    have i0 : NeZero (inW w.heap.size wr) := inW_mk (blk_lt b0)
    have i1 : NeZero (inW (w.heap.size + 1) wr) := inW_mk (blk_lt b1)
    have i2 : NeZero (inW (w.heap.size + 1 + 1) wr) := inW_mk (blk_lt b2)
    have hbs := hb.size
    have hls := blk_lt b2
    by_cases hlt : i < d
    · have h1 : (i : Int) < d := by omega
      have hvN2 := vp_isN (i + 1) (by omega)
      have hnl2 := numb_lt hs (i + 1)
      have hnN2 : isN (numb s (i + 1)) := by unfold isN at *; omega
      have hts := nxt_St hti
      obtain ⟨v2, hv2⟩ : ∃ v2, vp (i + 1) = v2 := ⟨_, rfl⟩
      obtain ⟨n2, hn2⟩ : ∃ n2, numb s (i + 1) = n2 := ⟨_, rfl⟩
      obtain ⟨t2, ht2⟩ : ∃ t2, nxt t = t2 := ⟨_, rfl⟩
      obtain ⟨m, hm⟩ : ∃ m, t2 - 1 = m := ⟨_, rfl⟩
      rw [hv2] at hvs hvN2
      rw [hn2] at hns hnN2
      rw [ht2] at hns hts
      rw [hm] at hns
      have hmN : isN m := by unfold isN St at *; omega
      obtain ⟨x, hx⟩ : ∃ x, m * v = x := ⟨_, rfl⟩
      rw [hx] at hns
      have hxN : isN x := by unfold isN at *; omega
      have H1 := Lib.hid (step_hyp t t2 m hti ht2 hm)
      have H2 := Lib.hid (of_lo m (by unfold St at hts; omega))
      have H3 := Lib.hid (mul_hyp m v x hmN hvN hx hxN)
      have H4 := Lib.hid (add_hyp n x n2 hnN hxN hns.symm hnN2)
      have H5 := Lib.hid (mulV v v2 hvN hvs.symm hvN2)
      have K1 := Lib.hid (show jmp s (i + 1) = t2 by rw [jmp_succ, ht, ht2])
      have K2 := Lib.hid hn2
      have K3 := Lib.hid hv2
      clear hv hn ht hv2 hn2 ht2 hm hns hvs hx hnl hnl2 hlt
      go_upto_region 7 with (first | (go_at_call 39; refine (H1.out _).mono ?_; rintro e w1 ⟨rfl, hbel⟩; obtain ⟨o1, j1, rfl⟩ := grow_of_below hbel; clear hbel) | (go_at_call 21; refine (H2.out _).mono ?_; rintro e w2 ⟨rfl, hbel⟩; obtain ⟨o2, j2, rfl⟩ := grow_of_below hbel; clear hbel))
      go_upto_region 8 with (first | (go_at_call 22; refine (H3.out _ _ (by simp [go_sem, *]) (by simp [go_sem, *]) (by simp [go_sem, *]) (by simp [go_sem, *]) (by simp [go_sem, *]) (by simp [go_sem, *]) (by simp [go_sem, *]) (by simp [go_sem, *])).mono ?_; rintro e w3 ⟨rfl, hbel⟩; obtain ⟨o3, j3, rfl⟩ := grow_of_below hbel; clear hbel))
      go_upto_region 9 with (first | (go_at_call 66; refine (H4.out _).mono ?_; rintro e w4 ⟨rfl, hbel⟩; obtain ⟨o4, j4, rfl⟩ := grow_of_below hbel; clear hbel))
      go_wp2_with (first | (go_at_call 22; refine (H5.out _ _ (by simp [go_sem, *]) (by simp [go_sem, *]) (by simp [go_sem, *]) (by simp [go_sem, *]) (by simp [go_sem, *]) (by simp [go_sem, *]) (by simp [go_sem, *]) (by simp [go_sem, *])).mono ?_; rintro e w5 ⟨rfl, hbel⟩; obtain ⟨o5, j5, rfl⟩ := grow_of_below hbel; clear hbel))
      go_roundw
      case rel =>
        refine ⟨i + 1, t2, by go_num, rfl, K1.out, by omega, ?_, ?_, ?_, ?_⟩
        · repeat (first | (with_reducible exact b0) | (with_reducible exact set4 b0 _ _ _ _) | (with_reducible refine blk_grow ?_ _ _) | (with_reducible refine blk_alloc ?_ _) | (with_reducible refine blk_drew ?_) | (with_reducible refine blk_other ?_ (by (first | omega | (simp [go_sem]; done) | (simp [go_sem]; omega))) _))
        · rw [K2.out]
          repeat (first | (with_reducible exact b1) | (with_reducible exact set4 b1 _ _ _ _) | (with_reducible refine blk_grow ?_ _ _) | (with_reducible refine blk_alloc ?_ _) | (with_reducible refine blk_drew ?_) | (with_reducible refine blk_other ?_ (by (first | omega | (simp [go_sem]; done) | (simp [go_sem]; omega))) _))
        · rw [K3.out]
          have hne : w.heap.size + 1 + 1 ≠ w.heap.size + 1 := by omega
          have b2' := fun x0 x1 x2 x3 y0 y1 y2 y3 => set4 (blk_other (i := 3) (blk_other (i := 2) (blk_other (i := 1) (blk_other (i := 0) b2 hne x0) hne x1) hne x2) hne x3) y0 y1 y2 y3
          repeat (first | (with_reducible refine blk_grow ?_ _ _) | (with_reducible refine blk_alloc ?_ _))
          exact b2' _ _ _ _ _ _ _ _
        · repeat (first | (with_reducible exact hb) | ((with_reducible refine below_grow ?_ ?_); rotate_left; focus (first | omega | (simp [go_sem]; done) | (simp [go_sem]; omega))) | ((with_reducible refine Below.alloc ?_ ?_ _); rotate_left; focus (first | omega | (simp [go_sem]; done) | (simp [go_sem]; omega))) | ((with_reducible refine Below.setCell ?_ ?_ _); rotate_left; focus (first | omega | (simp [go_sem]; done) | (simp [go_sem]; omega))) | (with_reducible refine Below.drew ?_) | (with_reducible refine below_drewN _ ?_))
      case measure => simp [intOf]; omega
    · obtain rfl : i = d := by omega
      obtain rfl := hv
      obtain rfl := hn
      obtain rfl := ht
      clear hns hvs hvN hnN hti hnl
      go_wp2
      go_region
      all_goals go_wp2
      refine bodyPost_ret (by simp [results, Try.results46, go_sem, p0, p1, p2, p3]) rfl ⟨rfl, ?_⟩
      repeat (first | (with_reducible exact hb) | ((with_reducible refine below_grow ?_ ?_); rotate_left; focus (first | omega | (simp [go_sem]; done) | (simp [go_sem]; omega))) | ((with_reducible refine Below.alloc ?_ ?_ _); rotate_left; focus (first | omega | (simp [go_sem]; done) | (simp [go_sem]; omega))) | ((with_reducible refine Below.setCell ?_ ?_ _); rotate_left; focus (first | omega | (simp [go_sem]; done) | (simp [go_sem]; omega))) | (with_reducible refine Below.drew ?_) | (with_reducible refine below_drewN _ ?_))
end Go.Proofs.Ytcgecgagecobeaa
