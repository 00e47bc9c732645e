/- BelowNat. -/
import Derived.Test.YtcgecgagecobeaaSM
namespace Go.Proofs.Ytcgecgagecobeaa
open Go.RowKit Go.Shelf

theorem numb_isN {s : Nat} (h : St s) (d : Nat) (hd : d ≤ 4) : isN (numb s d) := by
  have h1 := numb_lt h d
  have h2 := vp_isN d hd
  unfold isN at *
  omega
set_option maxRecDepth 100000 in
theorem draw_calls (s d b : Nat) (hs : St s) (hd : d ≤ 4) (w : World) (hc : w.cell? ⟨b, 0, none⟩ = some (.int .i64 d)) (hb : b < w.heap.size) :
    Calls Try.prog 45 #[.int .i64 s, .pointer (some ⟨b, 0, none⟩)] w fun e w' => e = .returned (.tuple #[.int .i64 (jmp s d), .agg #[.int .u32 (pt (numb s d) 0), .int .u32 (pt (numb s d) 1), .int .u32 (pt (numb s d) 2), .int .u32 (pt (numb s d) 3)]]) ∧ Below w.heap.size w w' := by
  have iB : NeZero (inW b w) := inW_mk hb
  obtain ⟨t, ht⟩ : ∃ t, jmp s d = t := ⟨_, rfl⟩
  obtain ⟨n, hn⟩ : ∃ n, numb s d = n := ⟨_, rfl⟩
  have H := Lib.hid (number_calls s d hs hd)
  rw [ht, hn] at H ⊢
  clear ht hn
  go_enter Try.func45, Try.ntmps45
  go_wp2_with (first | (go_at_call 46; refine (H.out _).mono ?_; rintro e w1 ⟨rfl, hbel⟩; obtain ⟨o1, j1, rfl⟩ := grow_of_below hbel; clear hbel))
  refine bodyPost_ret (by simp [results, Try.results45, go_sem]) rfl ⟨rfl, ?_⟩
  repeat (first | (with_reducible exact Below.refl _ _) | ((with_reducible refine below_grow ?_ ?_); rotate_left; focus (first | omega | (simp [go_sem]; done) | (simp [go_sem]; omega))) | ((with_reducible refine Below.alloc ?_ ?_ _); rotate_left; focus (first | omega | (simp [go_sem]; done) | (simp [go_sem]; omega))) | ((with_reducible refine Below.setCell ?_ ?_ _); rotate_left; focus (first | omega | (simp [go_sem]; done) | (simp [go_sem]; omega))) | (with_reducible refine Below.drew ?_) | (with_reducible refine below_drewN _ ?_))
set_option maxRecDepth 100000 in
theorem small_calls (x L b : Nat) (hx : isN x) (hL : isN L) (w : World) (l0 : w.cell? ⟨b, 0, none⟩ = some (.int .u32 (pt L 0))) (l1 : w.cell? ⟨b, 1, none⟩ = some (.int .u32 (pt L 1))) (l2 : w.cell? ⟨b, 2, none⟩ = some (.int .u32 (pt L 2))) (l3 : w.cell? ⟨b, 3, none⟩ = some (.int .u32 (pt L 3))) (hb : b < w.heap.size) :
    Calls Try.prog 48 #[.agg #[.int .u32 (pt x 0), .int .u32 (pt x 1), .int .u32 (pt x 2), .int .u32 (pt x 3)], .pointer (some ⟨b, 0, none⟩)] w fun e w' => e = .returned (.bool (decide (x < L))) ∧ Below w.heap.size w w' := by
  have iB : NeZero (inW b w) := inW_mk hb
  obtain ⟨c, hc⟩ : ∃ c, cmpN x L = c := ⟨_, rfl⟩
  have H := Lib.hid (cmp_hyp x L c hx hL hc)
  have hd : decide (x < L) = decide (c < 0) := by
    rw [← hc]
    unfold cmpN
    by_cases h : x < L
    · rw [if_pos h, decide_eq_true h]; rfl
    · rw [if_neg h, decide_eq_false h]; split <;> rfl
  rw [hd]
  clear hd hc
  go_enter Try.func48, Try.ntmps48
  go_wp2_with (first | (go_at_call 20; refine (H.out _).mono ?_; rintro e w1 ⟨rfl, hbel⟩; obtain ⟨o1, j1, rfl⟩ := grow_of_below hbel; clear hbel))
  refine bodyPost_ret (by simp [results, Try.results48, go_sem]) rfl ⟨rfl, ?_⟩
  repeat (first | (with_reducible exact Below.refl _ _) | ((with_reducible refine below_grow ?_ ?_); rotate_left; focus (first | omega | (simp [go_sem]; done) | (simp [go_sem]; omega))) | ((with_reducible refine Below.alloc ?_ ?_ _); rotate_left; focus (first | omega | (simp [go_sem]; done) | (simp [go_sem]; omega))) | ((with_reducible refine Below.setCell ?_ ?_ _); rotate_left; focus (first | omega | (simp [go_sem]; done) | (simp [go_sem]; omega))) | (with_reducible refine Below.drew ?_) | (with_reducible refine below_drewN _ ?_))
/-- The state of the first number of d values that is less than L, and the number; after k that are not, the next one. -/
def fsN (L d : Nat) : Nat → Nat → Nat × Nat
  | 0, s => (jmp s d, numb s d)
  | k + 1, s => if numb s d < L then (jmp s d, numb s d) else fsN L d k (jmp s d)
theorem fsN_good (L d : Nat) (hd : d ≤ 4) : ∀ (k s : Nat), St s → St (fsN L d k s).1 ∧ isN (fsN L d k s).2
  | 0, s, h => ⟨jmp_St h d, numb_isN h d hd⟩
  | k + 1, s, h => by
    unfold fsN
    split
    · exact ⟨jmp_St h d, numb_isN h d hd⟩
    · exact fsN_good L d hd k _ (jmp_St h d)
set_option maxRecDepth 100000 in
set_option maxHeartbeats 8000000 in
theorem firstN_calls (s L d b c : Nat) (hs : St s) (hL : isN L) (hd : d ≤ 4) (w : World) (hc : w.cell? ⟨b, 0, none⟩ = some (.int .i64 d)) (hb : b < w.heap.size) (l0 : w.cell? ⟨c, 0, none⟩ = some (.int .u32 (pt L 0))) (l1 : w.cell? ⟨c, 1, none⟩ = some (.int .u32 (pt L 1))) (l2 : w.cell? ⟨c, 2, none⟩ = some (.int .u32 (pt L 2))) (l3 : w.cell? ⟨c, 3, none⟩ = some (.int .u32 (pt L 3))) (hcl : c < w.heap.size) :
    Calls Try.prog 47 #[.int .i64 s, .func (.func 45) #[] #[.pointer (some ⟨b, 0, none⟩)], .func (.func 48) #[] #[.pointer (some ⟨c, 0, none⟩)]] w fun e w' => e = .returned (.tuple #[.int .i64 (fsN L d 100 s).1, .agg #[.int .u32 (pt ((fsN L d 100 s).2) 0), .int .u32 (pt ((fsN L d 100 s).2) 1), .int .u32 (pt ((fsN L d 100 s).2) 2), .int .u32 (pt ((fsN L d 100 s).2) 3)]]) ∧ Below w.heap.size w w' := by
  obtain ⟨T, N, hT⟩ : ∃ T N, fsN L d 100 s = (T, N) := ⟨_, _, rfl⟩
  rw [hT]
  go_enter Try.func47, Try.ntmps47
  go_wp2
  go_loopw [9, 0] (fun s9 s0 wr => ∃ i t : Nat, s9 = .int .i64 i ∧ s0 = .int .i64 t ∧ i ≤ 100 ∧ St t ∧ fsN L d (100 - i) t = (T, N) ∧ blk wr w.heap.size #[.int .u32 0, .int .u32 0, .int .u32 0, .int .u32 0] 25 ∧ Below w.heap.size w wr) (fun s9 _ _ => 100 - (intOf s9).toNat)
  case atStart => exact ⟨0, s, rfl, rfl, by decide, hs, hT, blk_new _ _ _, by repeat (first | (with_reducible exact Below.refl _ _) | ((with_reducible refine below_grow ?_ ?_); rotate_left; focus (first | omega | (simp [go_sem]; done) | (simp [go_sem]; omega))) | ((with_reducible refine Below.alloc ?_ ?_ _); rotate_left; focus (first | omega | (simp [go_sem]; done) | (simp [go_sem]; omega))) | ((with_reducible refine Below.setCell ?_ ?_ _); rotate_left; focus (first | omega | (simp [go_sem]; done) | (simp [go_sem]; omega))) | (with_reducible refine Below.drew ?_) | (with_reducible refine below_drewN _ ?_))⟩
  case round =>
    obtain ⟨i, t, rfl, rfl, hi, ht, hTt, b0, hbw⟩ := hrel
    obtain ⟨t2, ht2⟩ : ∃ t2, jmp t d = t2 := ⟨_, rfl⟩
    obtain ⟨n, hn⟩ : ∃ n, numb t d = n := ⟨_, rfl⟩
    have hnN := numb_isN ht d hd
    have ht2S := jmp_St ht d
    have R := Lib.hid (fun w hc hb => draw_calls t d b ht hd w hc hb)
    rw [ht2, hn] at R
    rw [hn] at hnN
    rw [ht2] at ht2S
    have hcr : wr.cell? ⟨b, 0, none⟩ = some (.int .i64 d) := (hbw.cell (p := ⟨b, 0, none⟩) hb).trans hc
    have m0 : wr.cell? ⟨c, 0, none⟩ = some (.int .u32 (pt L 0)) := (hbw.cell (p := ⟨c, 0, none⟩) hcl).trans l0
    have m1 : wr.cell? ⟨c, 1, none⟩ = some (.int .u32 (pt L 1)) := (hbw.cell (p := ⟨c, 1, none⟩) hcl).trans l1
    have m2 : wr.cell? ⟨c, 2, none⟩ = some (.int .u32 (pt L 2)) := (hbw.cell (p := ⟨c, 2, none⟩) hcl).trans l2
    have m3 : wr.cell? ⟨c, 3, none⟩ = some (.int .u32 (pt L 3)) := (hbw.cell (p := ⟨c, 3, none⟩) hcl).trans l3
    have hbs := hbw.size
    have iB : NeZero (inW b wr) := inW_mk (by omega)
    have iC : NeZero (inW c wr) := inW_mk (by omega)
    have iR : NeZero (inW w.heap.size wr) := inW_mk (blk_lt b0)
    have hls := blk_lt b0
    have hbl : b < wr.heap.size := by omega
    have hcl2 : c < wr.heap.size := by omega
    have p0 := blk_cell b0 0
    have p1 := blk_cell b0 1
    have p2 := blk_cell b0 2
    have p3 := blk_cell b0 3
    simp only [List.getElem?_toArray, List.getElem?_cons_zero, List.getElem?_cons_succ] at p0 p1 p2 p3
    have f0 := blk_free b0 0
    have f1 := blk_free b0 1
    have f2 := blk_free b0 2
    have f3 := blk_free b0 3
    by_cases hlt : i < 100
    · have h1 : (i : Int) < 100 := by omega
      obtain ⟨k, hk⟩ : ∃ k, 100 - i = k + 1 := ⟨99 - i, by omega⟩
      rw [hk] at hTt
      by_cases hv : n < L
      · have hT2 : (t2, n) = (T, N) := by rw [← hTt, ← ht2, ← hn]; exact (if_pos (by rw [hn]; exact hv)).symm
        obtain ⟨e1, e2⟩ := Prod.mk.inj hT2
        obtain rfl := e1
        obtain rfl := e2
        have R2 := Lib.hid (fun w h0 h1 h2 h3 hb => small_calls n L c hnN hL w h0 h1 h2 h3 hb)
        rw [decide_eq_true hv] at R2
        clear ht2 hn hTt hT2 hT hv hk
        go_upto_region 6 with (first | (go_at_call 45; refine (R.out _ (by simp [go_sem, hcr]) (by simp [go_sem]; omega)).mono ?_; rintro e w1 ⟨rfl, hbel⟩; obtain ⟨o1, j1, rfl⟩ := grow_of_below hbel; clear hbel) | (go_at_call 48; refine (R2.out _ (by simp [go_sem, m0]) (by simp [go_sem, m1]) (by simp [go_sem, m2]) (by simp [go_sem, m3]) (by simp [go_sem]; omega)).mono ?_; rintro e w2 ⟨rfl, hbel⟩; obtain ⟨o2, j2, rfl⟩ := grow_of_below hbel; clear hbel))
        go_region
        all_goals go_wp2
        refine bodyPost_ret (by simp [results, Try.results47, go_sem, p0, p1, p2, p3]) rfl ⟨rfl, ?_⟩
        repeat (first | (with_reducible exact hbw) | ((with_reducible refine below_grow ?_ ?_); rotate_left; focus (first | omega | (simp [go_sem]; done) | (simp [go_sem]; omega))) | ((with_reducible refine Below.alloc ?_ ?_ _); rotate_left; focus (first | omega | (simp [go_sem]; done) | (simp [go_sem]; omega))) | ((with_reducible refine Below.setCell ?_ ?_ _); rotate_left; focus (first | omega | (simp [go_sem]; done) | (simp [go_sem]; omega))) | (with_reducible refine Below.drew ?_) | (with_reducible refine below_drewN _ ?_))
      · have hT2 : fsN L d k t2 = (T, N) := by rw [← hTt, ← ht2]; exact (if_neg (by rw [hn]; exact hv)).symm
        have R2 := Lib.hid (fun w h0 h1 h2 h3 hb => small_calls n L c hnN hL w h0 h1 h2 h3 hb)
        rw [decide_eq_false hv] at R2
        have HT := Lib.hid hT2
        have HK := Lib.hid hk
        clear ht2 hn hTt hT2 hT hv hk
        go_wp2_with (first | (go_at_call 45; refine (R.out _ (by simp [go_sem, hcr]) (by simp [go_sem]; omega)).mono ?_; rintro e w1 ⟨rfl, hbel⟩; obtain ⟨o1, j1, rfl⟩ := grow_of_below hbel; clear hbel) | (go_at_call 48; refine (R2.out _ (by simp [go_sem, m0]) (by simp [go_sem, m1]) (by simp [go_sem, m2]) (by simp [go_sem, m3]) (by simp [go_sem]; omega)).mono ?_; rintro e w2 ⟨rfl, hbel⟩; obtain ⟨o2, j2, rfl⟩ := grow_of_below hbel; clear hbel))
        go_roundw
        case rel =>
          refine ⟨i + 1, t2, by go_num, rfl, by omega, ht2S, ?_, ?_, ?_⟩
          · have := HK.out
            rw [show 100 - (i + 1) = k from by omega]
            exact HT.out
          · repeat (first | (with_reducible exact b0) | (with_reducible exact set4 b0 _ _ _ _) | (with_reducible refine blk_grow ?_ _ _) | (with_reducible refine blk_alloc ?_ _) | (with_reducible refine blk_drew ?_) | (with_reducible refine blk_other ?_ (by (first | omega | (simp [go_sem]; done) | (simp [go_sem]; omega))) _))
          · repeat (first | (with_reducible exact hbw) | ((with_reducible refine below_grow ?_ ?_); rotate_left; focus (first | omega | (simp [go_sem]; done) | (simp [go_sem]; omega))) | ((with_reducible refine Below.alloc ?_ ?_ _); rotate_left; focus (first | omega | (simp [go_sem]; done) | (simp [go_sem]; omega))) | ((with_reducible refine Below.setCell ?_ ?_ _); rotate_left; focus (first | omega | (simp [go_sem]; done) | (simp [go_sem]; omega))) | (with_reducible refine Below.drew ?_) | (with_reducible refine below_drewN _ ?_))
        case measure => simp [intOf]; omega
    · obtain rfl : i = 100 := by omega
      have hT2 : (t2, n) = (T, N) := by rw [← hTt, ← ht2, ← hn]; rfl
      obtain ⟨e1, e2⟩ := Prod.mk.inj hT2
      obtain rfl := e1
      obtain rfl := e2
      clear ht2 hn hTt hT2 hT hlt
      go_wp2_with (first | (go_at_call 45; refine (R.out _ hcr hbl).mono ?_; rintro e w1 ⟨rfl, hbel⟩; obtain ⟨o1, j1, rfl⟩ := grow_of_below hbel; clear hbel))
      refine bodyPost_ret (by simp [results, Try.results47, go_sem, p0, p1, p2, p3]) rfl ⟨rfl, ?_⟩
      repeat (first | (with_reducible exact hbw) | ((with_reducible refine below_grow ?_ ?_); rotate_left; focus (first | omega | (simp [go_sem]; done) | (simp [go_sem]; omega))) | ((with_reducible refine Below.alloc ?_ ?_ _); rotate_left; focus (first | omega | (simp [go_sem]; done) | (simp [go_sem]; omega))) | ((with_reducible refine Below.setCell ?_ ?_ _); rotate_left; focus (first | omega | (simp [go_sem]; done) | (simp [go_sem]; omega))) | (with_reducible refine Below.drew ?_) | (with_reducible refine below_drewN _ ?_))
end Go.Proofs.Ytcgecgagecobeaa
