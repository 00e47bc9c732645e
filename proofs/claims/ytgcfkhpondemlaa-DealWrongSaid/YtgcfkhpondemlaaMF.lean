/- SK, SL, SM, SN, SO, SPk. -/
import Derived.Test.YtgcfkhpondemlaaME
import Derived.Test.YtgcfkhpondemlaaMC
import Derived.Deep.DeepCutAuto
/-! SK -/
namespace Go.Proofs.Ytgcfkhpondemlaa.Se
open Go.RowKit Go.Shelf

theorem mul_hyp (a b m : Nat) (ha : isN a) (hb : isN b) (hm : a * b = m) (hf : isN m) : ∀ (w : World) (p : Nat) [NeZero (inW p w)] (_ : w.cell? ⟨p, 0, none⟩ = some (.int .u32 (pt a 0))) (_ : w.cell? ⟨p, 1, none⟩ = some (.int .u32 (pt a 1))) (_ : w.cell? ⟨p, 2, none⟩ = some (.int .u32 (pt a 2))) (_ : w.cell? ⟨p, 3, none⟩ = some (.int .u32 (pt a 3))) (_ : w.cell? ⟨p, 4, none⟩ = some (.int .u32 (pt b 0))) (_ : w.cell? ⟨p, 5, none⟩ = some (.int .u32 (pt b 1))) (_ : w.cell? ⟨p, 6, none⟩ = some (.int .u32 (pt b 2))) (_ : w.cell? ⟨p, 7, none⟩ = some (.int .u32 (pt b 3))), Calls Try.prog 30 #[.slice (some ⟨p, 0, none⟩) 2 2] w fun e w' => e = .returned (.tuple #[.agg #[.int .u32 (pt m 0), .int .u32 (pt m 1), .int .u32 (pt m 2), .int .u32 (pt m 3)], .int .i64 0]) ∧ Below w.heap.size w w' := by
  intro w p iP h0 h1 h2 h3 h4 h5 h6 h7
  have h := mul_calls a b p ha hb w h0 h1 h2 h3 h4 h5 h6 h7
  obtain ⟨-, -, e3, e4⟩ := mul_yes (show isN (a * b) by rw [hm]; exact hf)
  rw [e3, e4, hm] at h
  exact h
theorem add_hyp (a b m : Nat) (ha : isN a) (hb : isN b) (hm : a + b = m) (hf : isN m) (w : World) : Calls Try.prog 20 #[.agg #[.int .u32 (pt a 0), .int .u32 (pt a 1), .int .u32 (pt a 2), .int .u32 (pt a 3)], .agg #[.int .u32 (pt b 0), .int .u32 (pt b 1), .int .u32 (pt b 2), .int .u32 (pt b 3)]] w fun e w' => e = .returned (.tuple #[.agg #[.int .u32 (pt m 0), .int .u32 (pt m 1), .int .u32 (pt m 2), .int .u32 (pt m 3)], .int .i64 0]) ∧ Below w.heap.size w w' := by
  have h := add_calls a b ha hb w
  obtain ⟨-, -, e3, e4⟩ := add_yes (show isN (a + b) by rw [hm]; exact hf)
  rw [e3, e4, hm] at h
  exact h
theorem sub_hyp (a b m : Nat) (ha : isN a) (hb : isN b) (hm : a - b = m) (hle : b ≤ a) (w : World) : Calls Try.prog 40 #[.agg #[.int .u32 (pt a 0), .int .u32 (pt a 1), .int .u32 (pt a 2), .int .u32 (pt a 3)], .agg #[.int .u32 (pt b 0), .int .u32 (pt b 1), .int .u32 (pt b 2), .int .u32 (pt b 3)]] w fun e w' => e = .returned (.tuple #[.agg #[.int .u32 (pt m 0), .int .u32 (pt m 1), .int .u32 (pt m 2), .int .u32 (pt m 3)], .int .i64 0]) ∧ Below w.heap.size w w' := by
  have h := sub_calls a b ha hb w
  obtain ⟨-, -, e3, e4⟩ := sub_yes ha (show ¬ a < b by omega)
  rw [e3, e4, hm] at h
  exact h
theorem div_hyp (a b q r : Nat) (ha : isN a) (hb : isN b) (hb0 : b ≠ 0) (hq : a / b = q) (hr : a % b = r) (w : World) : Calls Try.prog 14 #[.agg #[.int .u32 (pt a 0), .int .u32 (pt a 1), .int .u32 (pt a 2), .int .u32 (pt a 3)], .agg #[.int .u32 (pt b 0), .int .u32 (pt b 1), .int .u32 (pt b 2), .int .u32 (pt b 3)]] w fun e w' => e = .returned (.tuple #[.agg #[.int .u32 (pt q 0), .int .u32 (pt q 1), .int .u32 (pt q 2), .int .u32 (pt q 3)], .agg #[.int .u32 (pt r 0), .int .u32 (pt r 1), .int .u32 (pt r 2), .int .u32 (pt r 3)], .int .i64 0]) ∧ Below w.heap.size w w' := by
  have h := div_calls a b ha hb hb0 w
  rw [hq, hr] at h
  exact h
theorem cmp_hyp (a b : Nat) (c : Int) (ha : isN a) (hb : isN b) (hc : cmpN a b = c) (w : World) : Calls Try.prog 13 #[.agg #[.int .u32 (pt a 0), .int .u32 (pt a 1), .int .u32 (pt a 2), .int .u32 (pt a 3)], .agg #[.int .u32 (pt b 0), .int .u32 (pt b 1), .int .u32 (pt b 2), .int .u32 (pt b 3)]] w fun e w' => e = .returned (.int .i64 c) ∧ Below w.heap.size w w' := by
  have h := cmp_calls a b ha hb w
  rw [hc] at h
  exact h
def k120 : Nat := 1329227995784915872903807060280344576
theorem k120_isN : isN k120 := by decide
theorem k120_pt : pt k120 0 = 0 ∧ pt k120 1 = 0 ∧ pt k120 2 = 0 ∧ pt k120 3 = 16777216 := by decide +kernel
theorem cmp_k120 (a : Nat) (c : Int) (ha : isN a) (hc : cmpN a k120 = c) (w : World) : Calls Try.prog 13 #[.agg #[.int .u32 (pt a 0), .int .u32 (pt a 1), .int .u32 (pt a 2), .int .u32 (pt a 3)], .agg #[.int .u32 0, .int .u32 0, .int .u32 0, .int .u32 16777216]] w fun e w' => e = .returned (.int .i64 c) ∧ Below w.heap.size w w' := by
  obtain ⟨h0, h1, h2, h3⟩ := k120_pt
  have h := cmp_hyp a k120 c ha k120_isN hc w
  simp only [h0, h1, h2, h3] at h
  exact h
set_option maxRecDepth 100000 in
theorem belowNat_no (s : Int) (a : Nat) (ha : isN a) (h : ¬ (1 ≤ s ∧ s ≤ 2147483646) ∨ a = 0 ∨ k120 < a) (w : World) :
    Calls Try.prog 25 #[.int .i64 s, .agg #[.int .u32 (pt a 0), .int .u32 (pt a 1), .int .u32 (pt a 2), .int .u32 (pt a 3)]] w fun e w' => e = .returned (.tuple #[.int .i64 0, .agg #[.int .u32 0, .int .u32 0, .int .u32 0, .int .u32 0], .int .i64 2]) ∧ Below w.heap.size w w' := by
  by_cases h0 : 1 ≤ s ∧ s ≤ 2147483646
  · have R1 := Lib.hid (right_calls s)
    rw [decide_eq_true h0] at R1
    by_cases h1 : a = 0
    · clear h
      have hd : decide (a = 0) = true := decide_eq_true h1
      have hx := Lib.hid h1
      clear h1
      go_enter Try.func25, Try.ntmps25
      go_wp2_with (first | (go_at_call 24; refine (R1.out _).mono ?_; rintro e w1 ⟨rfl, rfl⟩))
      refine bodyPost_ret (by simp [results, Try.results25, go_sem]) rfl ⟨rfl, ?_⟩
      repeat (first | (with_reducible exact Below.refl _ _) | ((with_reducible refine below_grow ?_ ?_); rotate_left; focus (first | omega | (simp [go_sem]; done) | (simp [go_sem]; omega))) | ((with_reducible refine Below.alloc ?_ ?_ _); rotate_left; focus (first | omega | (simp [go_sem]; done) | (simp [go_sem]; omega))) | ((with_reducible refine Below.setCell ?_ ?_ _); rotate_left; focus (first | omega | (simp [go_sem]; done) | (simp [go_sem]; omega))) | (with_reducible refine Below.drew ?_) | (with_reducible refine below_drewN _ ?_))
    · have R2 := Lib.hid (cmp_k120 a 1 ha (by unfold cmpN; rw [if_neg (by omega), if_pos (by omega)]))
      have hd : decide (a = 0) = false := decide_eq_false h1
      have hx := Lib.hid h1
      clear h h1
      go_enter Try.func25, Try.ntmps25
      go_wp2_with (first | (go_at_call 24; refine (R1.out _).mono ?_; rintro e w1 ⟨rfl, rfl⟩) | (go_at_call 13; refine (R2.out _).mono ?_; rintro e w2 ⟨rfl, hbel⟩; obtain ⟨o2, j2, rfl⟩ := grow_of_below hbel; clear hbel))
      refine bodyPost_ret (by simp [results, Try.results25, go_sem]) rfl ⟨rfl, ?_⟩
      repeat (first | (with_reducible exact Below.refl _ _) | ((with_reducible refine below_grow ?_ ?_); rotate_left; focus (first | omega | (simp [go_sem]; done) | (simp [go_sem]; omega))) | ((with_reducible refine Below.alloc ?_ ?_ _); rotate_left; focus (first | omega | (simp [go_sem]; done) | (simp [go_sem]; omega))) | ((with_reducible refine Below.setCell ?_ ?_ _); rotate_left; focus (first | omega | (simp [go_sem]; done) | (simp [go_sem]; omega))) | (with_reducible refine Below.drew ?_) | (with_reducible refine below_drewN _ ?_))
  · have R1 := Lib.hid (right_no s h0)
    clear h
    go_enter Try.func25, Try.ntmps25
    go_wp2_with (first | (go_at_call 24; refine (R1.out _).mono ?_; rintro e w1 ⟨rfl, rfl⟩))
    refine bodyPost_ret (by simp [results, Try.results25, go_sem]) rfl ⟨rfl, ?_⟩
    repeat (first | (with_reducible exact Below.refl _ _) | ((with_reducible refine below_grow ?_ ?_); rotate_left; focus (first | omega | (simp [go_sem]; done) | (simp [go_sem]; omega))) | ((with_reducible refine Below.alloc ?_ ?_ _); rotate_left; focus (first | omega | (simp [go_sem]; done) | (simp [go_sem]; omega))) | ((with_reducible refine Below.setCell ?_ ?_ _); rotate_left; focus (first | omega | (simp [go_sem]; done) | (simp [go_sem]; omega))) | (with_reducible refine Below.drew ?_) | (with_reducible refine below_drewN _ ?_))
end Go.Proofs.Ytgcfkhpondemlaa.Se

/-! SL -/
namespace Go.Proofs.Ytgcfkhpondemlaa.Se
open Go.RowKit Go.Shelf

theorem of_more (n : Int) (h : ¬ n < 0) (h1 : n ≤ 9223372036854775807) (w : World) :
    Calls Try.prog 65 #[.int .i64 n] w fun e w' => e = .returned (.tuple #[.agg #[.int .u32 (pt n.toNat 0), .int .u32 (pt n.toNat 1), .int .u32 (pt n.toNat 2), .int .u32 (pt n.toNat 3)], .int .i64 0]) ∧ Below w.heap.size w w' := by
  have := of_calls n (by omega) h1 w
  rw [show ofR n = n.toNat from if_neg h, show ofE n = 0 from if_neg h] at this
  exact this
theorem of_lo (a : Nat) (h : a < 9223372036854775808) (w : World) :
    Calls Try.prog 65 #[.int .i64 a] w fun e w' => e = .returned (.tuple #[.agg #[.int .u32 (pt a 0), .int .u32 (pt a 1), .int .u32 (pt a 2), .int .u32 (pt a 3)], .int .i64 0]) ∧ Below w.heap.size w w' := by
  have := of_more a (by omega) (by omega) w
  rw [show ((a : Int)).toNat = a from rfl] at this
  exact this
theorem set4 {w : World} {b : Nat} {c0 c1 c2 c3 : Value} {t : TypeId} (h : blk w b #[c0, c1, c2, c3] t) (x0 x1 x2 x3 : Value) :
    blk ((((w.setCell ⟨b, 0, none⟩ x0).setCell ⟨b, 1, none⟩ x1).setCell ⟨b, 2, none⟩ x2).setCell ⟨b, 3, none⟩ x3) b #[x0, x1, x2, x3] t :=
  blk_set (blk_set (blk_set (blk_set h 0 x0) 1 x1) 2 x2) 3 x3
theorem blk_drew {w : World} {b : Nat} {cs : Array Value} {t : TypeId} (h : blk w b cs t) : blk w.drew b cs t := h
theorem v_pt : pt 2147483646 0 = 2147483646 ∧ pt 2147483646 1 = 0 ∧ pt 2147483646 2 = 0 ∧ pt 2147483646 3 = 0 := by decide
theorem v_isN : isN 2147483646 := by decide
def vp (k : Nat) : Nat := 2147483646 ^ k
theorem vp_zero : vp 0 = 1 := rfl
theorem vp_one : vp 1 = 2147483646 := by unfold vp; rw [Nat.pow_one]
theorem vp_succ (k : Nat) : vp (k + 1) = vp k * 2147483646 := Nat.pow_succ ..
theorem vp_pos (k : Nat) : 0 < vp k := Nat.pow_pos (by decide)
theorem vp_isN (k : Nat) (h : k ≤ 4) : isN (vp k) := by
  have e : k = 0 ∨ k = 1 ∨ k = 2 ∨ k = 3 ∨ k = 4 := by omega
  rcases e with e | e | e | e | e <;> subst e <;> decide +kernel
theorem k120_vp : k120 ≤ vp 4 := by decide +kernel
theorem vp_mono (i j : Nat) (h : i ≤ j) : vp i ≤ vp j := Nat.pow_le_pow_right (by decide) h
/-- Multiplied by Values. -/
theorem mulV (b m : Nat) (hb : isN b) (hm : b * 2147483646 = m) (hf : isN m) : ∀ (w : World) (p : Nat) [NeZero (inW p w)] (_ : w.cell? ⟨p, 0, none⟩ = some (.int .u32 (pt b 0))) (_ : w.cell? ⟨p, 1, none⟩ = some (.int .u32 (pt b 1))) (_ : w.cell? ⟨p, 2, none⟩ = some (.int .u32 (pt b 2))) (_ : w.cell? ⟨p, 3, none⟩ = some (.int .u32 (pt b 3))) (_ : w.cell? ⟨p, 4, none⟩ = some (.int .u32 2147483646)) (_ : w.cell? ⟨p, 5, none⟩ = some (.int .u32 0)) (_ : w.cell? ⟨p, 6, none⟩ = some (.int .u32 0)) (_ : w.cell? ⟨p, 7, none⟩ = some (.int .u32 0)),
    Calls Try.prog 30 #[.slice (some ⟨p, 0, none⟩) 2 2] w fun e w' => e = .returned (.tuple #[.agg #[.int .u32 (pt m 0), .int .u32 (pt m 1), .int .u32 (pt m 2), .int .u32 (pt m 3)], .int .i64 0]) ∧ Below w.heap.size w w' := by
  intro w p iP h0 h1 h2 h3 h4 h5 h6 h7
  obtain ⟨q0, q1, q2, q3⟩ := v_pt
  exact mul_hyp b 2147483646 m hb v_isN hm hf w p h0 h1 h2 h3 (by rw [q0]; exact h4) (by rw [q1]; exact h5) (by rw [q2]; exact h6) (by rw [q3]; exact h7)
set_option maxRecDepth 100000 in
theorem modulo_calls (a n : Nat) (ha : isN a) (hn : isN n) (h0 : n ≠ 0) (w : World) :
    Calls Try.prog 46 #[.agg #[.int .u32 (pt a 0), .int .u32 (pt a 1), .int .u32 (pt a 2), .int .u32 (pt a 3)], .agg #[.int .u32 (pt n 0), .int .u32 (pt n 1), .int .u32 (pt n 2), .int .u32 (pt n 3)]] w fun e w' => e = .returned (.agg #[.int .u32 (pt (a % n) 0), .int .u32 (pt (a % n) 1), .int .u32 (pt (a % n) 2), .int .u32 (pt (a % n) 3)]) ∧ Below w.heap.size w w' := by
  obtain ⟨q, hq⟩ : ∃ q, a / n = q := ⟨_, rfl⟩
  obtain ⟨r, hr⟩ : ∃ r, a % n = r := ⟨_, rfl⟩
  have H := Lib.hid (div_hyp a n q r ha hn h0 hq hr)
  rw [hr]
  go_enter Try.func46, Try.ntmps46
  go_wp2_with (first | (go_at_call 14; refine (H.out _).mono ?_; rintro e w1 ⟨rfl, hbel⟩; obtain ⟨o1, j1, rfl⟩ := grow_of_below hbel; clear hbel))
  refine bodyPost_ret (by simp [results, Try.results46, go_sem]) rfl ⟨rfl, ?_⟩
  repeat (first | (with_reducible exact Below.refl _ _) | ((with_reducible refine below_grow ?_ ?_); rotate_left; focus (first | omega | (simp [go_sem]; done) | (simp [go_sem]; omega))) | ((with_reducible refine Below.alloc ?_ ?_ _); rotate_left; focus (first | omega | (simp [go_sem]; done) | (simp [go_sem]; omega))) | ((with_reducible refine Below.setCell ?_ ?_ _); rotate_left; focus (first | omega | (simp [go_sem]; done) | (simp [go_sem]; omega))) | (with_reducible refine Below.drew ?_) | (with_reducible refine below_drewN _ ?_))
/-- So many values make numbers below a. -/
def digs (a d : Nat) : Prop := 1 ≤ d ∧ d ≤ 4 ∧ a ≤ vp d ∧ ∀ i, 1 ≤ i → i < d → vp i < a
set_option maxRecDepth 100000 in
set_option maxHeartbeats 4000000 in
theorem digits_calls (a : Nat) (ha : isN a) (hk : a ≤ k120) (w : World) :
    Calls Try.prog 45 #[.agg #[.int .u32 (pt a 0), .int .u32 (pt a 1), .int .u32 (pt a 2), .int .u32 (pt a 3)]] w fun e w' => ∃ d : Nat, digs a d ∧ e = .returned (.tuple #[.int .i64 d, .agg #[.int .u32 (pt (vp d) 0), .int .u32 (pt (vp d) 1), .int .u32 (pt (vp d) 2), .int .u32 (pt (vp d) 3)]]) ∧ Below w.heap.size w w' := by
  go_enter Try.func45, Try.ntmps45
  go_upto_region 2 with fail
  go_loopw [4] (fun s4 wr => ∃ d : Nat, s4 = .int .i64 d ∧ 1 ≤ d ∧ d ≤ 4 ∧ (∀ i, 1 ≤ i → i < d → vp i < a) ∧ blk wr w.heap.size #[.int .u32 (pt a 0), .int .u32 (pt a 1), .int .u32 (pt a 2), .int .u32 (pt a 3)] 26 ∧ blk wr (w.heap.size + 1) #[.int .u32 0, .int .u32 0, .int .u32 0, .int .u32 0] 26 ∧ blk wr (w.heap.size + 1 + 1) #[.int .u32 (pt (vp d) 0), .int .u32 (pt (vp d) 1), .int .u32 (pt (vp d) 2), .int .u32 (pt (vp d) 3)] 26 ∧ Below w.heap.size w wr) (fun s4 _ => 4 - (intOf s4).toNat)
  case atStart => exact ⟨1, rfl, by decide, by decide, fun i h1 h2 => absurd h2 (by omega), blk_alloc (blk_alloc (blk_new _ _ _) _) _, blk_alloc (blk_at _ _ _ (by simp)) _, (by
    simp only [vp_one, v_pt.1, v_pt.2.1, v_pt.2.2.1, v_pt.2.2.2]
    exact blk_at _ _ _ (by simp)), by repeat (first | (with_reducible exact Below.refl _ _) | ((with_reducible refine below_grow ?_ ?_); rotate_left; focus (first | omega | (simp [go_sem]; done) | (simp [go_sem]; omega))) | ((with_reducible refine Below.alloc ?_ ?_ _); rotate_left; focus (first | omega | (simp [go_sem]; done) | (simp [go_sem]; omega))) | ((with_reducible refine Below.setCell ?_ ?_ _); rotate_left; focus (first | omega | (simp [go_sem]; done) | (simp [go_sem]; omega))) | (with_reducible refine Below.drew ?_) | (with_reducible refine below_drewN _ ?_))⟩
  case round =>
    obtain ⟨d, rfl, hd1, hd4, hlow, b0, b1, b2, hb⟩ := hrel
    have hvN := vp_isN d hd4
    have hvs := vp_succ d
    obtain ⟨v, hv⟩ : ∃ v, vp d = v := ⟨_, rfl⟩
    rw [hv] at b2 hvN hvs
    have p0 := blk_cell b0 0
    have p1 := blk_cell b0 1
    have p2 := blk_cell b0 2
    have p3 := blk_cell b0 3
    have q0 := blk_cell b2 0
    have q1 := blk_cell b2 1
    have q2 := blk_cell b2 2
    have q3 := blk_cell b2 3
    have r0 := blk_cell b1 0
    have r1 := blk_cell b1 1
    have r2 := blk_cell b1 2
    have r3 := blk_cell b1 3
    simp only [List.getElem?_toArray, List.getElem?_cons_zero, List.getElem?_cons_succ] at p0 p1 p2 p3 q0 q1 q2 q3 r0 r1 r2 r3
    have f0 := blk_free b2 0
    have f1 := blk_free b2 1
    have f2 := blk_free b2 2
    have f3 := blk_free b2 3
    have g0 := blk_free b1 0
    have g1 := blk_free b1 1
    have g2 := blk_free b1 2
    have g3 := blk_free b1 3
    have i0 : NeZero (inW w.heap.size wr) := inW_mk (blk_lt b0)
    have i1 : NeZero (inW (w.heap.size + 1) wr) := inW_mk (blk_lt b1)
    have i2 : NeZero (inW (w.heap.size + 1 + 1) wr) := inW_mk (blk_lt b2)
    have hbs := hb.size
    have hls := blk_lt b2
    by_cases hlt : v < a
    · have hd3 : d ≤ 3 := by
        by_cases e : d = 4
        · subst e
          have := k120_vp
          omega
        · omega
      have hmN := vp_isN (d + 1) (by omega)
      obtain ⟨m, hm⟩ : ∃ m, vp (d + 1) = m := ⟨_, rfl⟩
      rw [hm] at hvs hmN
      have H1 := Lib.hid (cmp_hyp v a (-1) hvN ha (by unfold cmpN; rw [if_pos hlt]))
      have H2 := Lib.hid (mulV v m hvN hvs.symm hmN)
      have HN := Lib.hid (show ∀ i, 1 ≤ i → i < d + 1 → vp i < a from fun i h1 h2 => by
        by_cases e : i = d
        · subst e; rw [hv]; exact hlt
        · exact hlow i h1 (by omega))
      have HM := Lib.hid hm
      clear hlow hvs hm hv hlt
      go_wp2_with (first | (go_at_call 13; refine (H1.out _).mono ?_; rintro e w1 ⟨rfl, hbel⟩; obtain ⟨o1, j1, rfl⟩ := grow_of_below hbel; clear hbel) | (go_at_call 30; refine (H2.out _ _ (by simp [go_sem, *]) (by simp [go_sem, *]) (by simp [go_sem, *]) (by simp [go_sem, *]) (by simp [go_sem, *]) (by simp [go_sem, *]) (by simp [go_sem, *]) (by simp [go_sem, *])).mono ?_; rintro e w2 ⟨rfl, hbel⟩; obtain ⟨o2, j2, rfl⟩ := grow_of_below hbel; clear hbel))
      go_roundw
      case rel =>
        refine ⟨d + 1, by go_num, by omega, by omega, HN.out, ?_, ?_, ?_, ?_⟩
        · repeat (first | (with_reducible exact b0) | (with_reducible exact set4 b0 _ _ _ _) | (with_reducible refine blk_grow ?_ _ _) | (with_reducible refine blk_alloc ?_ _) | (with_reducible refine blk_drew ?_) | (with_reducible refine blk_other ?_ (by (first | omega | (simp [go_sem]; done) | (simp [go_sem]; omega))) _))
        · repeat (first | (with_reducible exact b1) | (with_reducible exact set4 b1 _ _ _ _) | (with_reducible refine blk_grow ?_ _ _) | (with_reducible refine blk_alloc ?_ _) | (with_reducible refine blk_drew ?_) | (with_reducible refine blk_other ?_ (by (first | omega | (simp [go_sem]; done) | (simp [go_sem]; omega))) _))
        · rw [HM.out]
          repeat (first | (with_reducible exact b2) | (with_reducible exact set4 b2 _ _ _ _) | (with_reducible refine blk_grow ?_ _ _) | (with_reducible refine blk_alloc ?_ _) | (with_reducible refine blk_drew ?_) | (with_reducible refine blk_other ?_ (by (first | omega | (simp [go_sem]; done) | (simp [go_sem]; omega))) _))
        · repeat (first | (with_reducible exact hb) | ((with_reducible refine below_grow ?_ ?_); rotate_left; focus (first | omega | (simp [go_sem]; done) | (simp [go_sem]; omega))) | ((with_reducible refine Below.alloc ?_ ?_ _); rotate_left; focus (first | omega | (simp [go_sem]; done) | (simp [go_sem]; omega))) | ((with_reducible refine Below.setCell ?_ ?_ _); rotate_left; focus (first | omega | (simp [go_sem]; done) | (simp [go_sem]; omega))) | (with_reducible refine Below.drew ?_) | (with_reducible refine below_drewN _ ?_))
      case measure => simp [intOf]; omega
    · obtain ⟨c, hc, hc0⟩ : ∃ c : Int, cmpN v a = c ∧ 0 ≤ c := ⟨_, rfl, by unfold cmpN; rw [if_neg hlt]; split <;> decide⟩
      have H1 := Lib.hid (cmp_hyp v a c hvN ha hc)
      have HD := Lib.hid (show digs a d from ⟨hd1, hd4, by omega, hlow⟩)
      have HV := Lib.hid hv
      clear hlow hlt hc hv hvs
      go_wp2_with (first | (go_at_call 13; refine (H1.out _).mono ?_; rintro e w1 ⟨rfl, hbel⟩; obtain ⟨o1, j1, rfl⟩ := grow_of_below hbel; clear hbel))
      go_region
      all_goals go_wp2
      obtain rfl := HV.out
      have hD := HD
      clear HV hvN H1
      refine bodyPost_ret (by simp [results, Try.results45, go_sem, r0, r1, r2, r3]) rfl ⟨d, hD.out, rfl, ?_⟩
      repeat (first | (with_reducible exact hb) | ((with_reducible refine below_grow ?_ ?_); rotate_left; focus (first | omega | (simp [go_sem]; done) | (simp [go_sem]; omega))) | ((with_reducible refine Below.alloc ?_ ?_ _); rotate_left; focus (first | omega | (simp [go_sem]; done) | (simp [go_sem]; omega))) | ((with_reducible refine Below.setCell ?_ ?_ _); rotate_left; focus (first | omega | (simp [go_sem]; done) | (simp [go_sem]; omega))) | (with_reducible refine Below.drew ?_) | (with_reducible refine below_drewN _ ?_))
end Go.Proofs.Ytgcfkhpondemlaa.Se

/-! SM -/
namespace Go.Proofs.Ytgcfkhpondemlaa.Se
open Go.RowKit Go.Shelf

/-- The number of k values. -/
def numb (s : Nat) : Nat → Nat
  | 0 => 0
  | k + 1 => numb s k + (jmp s (k + 1) - 1) * vp k
theorem numb_lt {s : Nat} (h : St s) : ∀ k, numb s k < vp k
  | 0 => Nat.zero_lt_one
  | k + 1 => by
    have h1 := numb_lt h k
    have h2 := jmp_St h (k + 1)
    unfold St at h2
    have h3 : (jmp s (k + 1) - 1) * vp k ≤ 2147483645 * vp k := Nat.mul_le_mul_right _ (by omega)
    rw [vp_succ]
    unfold numb
    omega
theorem step_hyp (s r m : Nat) (hs : St s) (hr : nxt s = r) (hm : r - 1 = m) (w : World) :
    Calls Try.prog 64 #[.int .i64 s] w fun e w' => e = .returned (.tuple #[.int .i64 r, .int .i64 m]) ∧ Below w.heap.size w w' := by
  have h := step_calls s hs w
  rw [hr, hm] at h
  exact h
theorem one_pt : pt 1 0 = 1 ∧ pt 1 1 = 0 ∧ pt 1 2 = 0 ∧ pt 1 3 = 0 := by decide
set_option maxRecDepth 100000 in
set_option maxHeartbeats 8000000 in
theorem number_calls (s d : Nat) (hs : St s) (hd : d ≤ 4) (w : World) :
    Calls Try.prog 48 #[.int .i64 s, .int .i64 d] w fun e w' => e = .returned (.tuple #[.int .i64 (jmp s d), .agg #[.int .u32 (pt (numb s d) 0), .int .u32 (pt (numb s d) 1), .int .u32 (pt (numb s d) 2), .int .u32 (pt (numb s d) 3)]]) ∧ Below w.heap.size w w' := by
  go_enter Try.func48, Try.ntmps48
  go_upto_region 2 with fail
  go_wp2
  go_loopw [16, 0] (fun s16 s0 wr => ∃ i t : Nat, s16 = .int .i64 i ∧ s0 = .int .i64 t ∧ jmp s i = t ∧ i ≤ d ∧ blk wr w.heap.size #[.int .u32 0, .int .u32 0, .int .u32 0, .int .u32 0] 26 ∧ blk wr (w.heap.size + 1) #[.int .u32 (pt (numb s i) 0), .int .u32 (pt (numb s i) 1), .int .u32 (pt (numb s i) 2), .int .u32 (pt (numb s i) 3)] 26 ∧ blk wr (w.heap.size + 1 + 1) #[.int .u32 (pt (vp i) 0), .int .u32 (pt (vp i) 1), .int .u32 (pt (vp i) 2), .int .u32 (pt (vp i) 3)] 26 ∧ Below w.heap.size w wr) (fun s16 _ _ => d - (intOf s16).toNat)
  case atStart => exact ⟨0, s, rfl, rfl, jmp_zero hs, Nat.zero_le _, blk_alloc (blk_alloc (blk_new _ _ _) _) _, (by
    simp only [numb, pt_zero]
    exact blk_alloc (blk_at _ _ _ (by simp)) _), (by
    simp only [vp_zero, one_pt.1, one_pt.2.1, one_pt.2.2.1, one_pt.2.2.2]
    exact blk_at _ _ _ (by simp)), by repeat (first | (with_reducible exact Below.refl _ _) | ((with_reducible refine below_grow ?_ ?_); rotate_left; focus (first | omega | (simp [go_sem]; done) | (simp [go_sem]; omega))) | ((with_reducible refine Below.alloc ?_ ?_ _); rotate_left; focus (first | omega | (simp [go_sem]; done) | (simp [go_sem]; omega))) | ((with_reducible refine Below.setCell ?_ ?_ _); rotate_left; focus (first | omega | (simp [go_sem]; done) | (simp [go_sem]; omega))) | (with_reducible refine Below.drew ?_) | (with_reducible refine below_drewN _ ?_))⟩
  case round =>
    obtain ⟨i, t, rfl, rfl, ht, hi, b0, b1, b2, hb⟩ := hrel
    have hvN := vp_isN i (by omega)
    have hvs := vp_succ i
    have hnl := numb_lt hs i
    have hnN : isN (numb s i) := by unfold isN at *; omega
    have hti := jmp_St hs i
    have hns : numb s (i + 1) = numb s i + (jmp s (i + 1) - 1) * vp i := rfl
    rw [jmp_succ] at hns
    obtain ⟨v, hv⟩ : ∃ v, vp i = v := ⟨_, rfl⟩
    obtain ⟨n, hn⟩ : ∃ n, numb s i = n := ⟨_, rfl⟩
    rw [hv] at b2 hvN hvs hns
    rw [hn] at b1 hnN hns
    rw [ht] at hti hns
    have p0 := blk_cell b0 0
    have p1 := blk_cell b0 1
    have p2 := blk_cell b0 2
    have p3 := blk_cell b0 3
    have q0 := blk_cell b1 0
    have q1 := blk_cell b1 1
    have q2 := blk_cell b1 2
    have q3 := blk_cell b1 3
    have r0 := blk_cell b2 0
    have r1 := blk_cell b2 1
    have r2 := blk_cell b2 2
    have r3 := blk_cell b2 3
    simp only [List.getElem?_toArray, List.getElem?_cons_zero, List.getElem?_cons_succ] at p0 p1 p2 p3 q0 q1 q2 q3 r0 r1 r2 r3
    have e0 := blk_free b0 0
    have e1 := blk_free b0 1
    have e2 := blk_free b0 2
    have e3 := blk_free b0 3
    have f0 := blk_free b1 0
    have f1 := blk_free b1 1
    have f2 := blk_free b1 2
    have f3 := blk_free b1 3
    have g0 := blk_free b2 0
    have g1 := blk_free b2 1
    have g2 := blk_free b2 2
    have g3 := blk_free b2 3
    have i0 : NeZero (inW w.heap.size wr) := inW_mk (blk_lt b0)
    have i1 : NeZero (inW (w.heap.size + 1) wr) := inW_mk (blk_lt b1)
    have i2 : NeZero (inW (w.heap.size + 1 + 1) wr) := inW_mk (blk_lt b2)
    have hbs := hb.size
    have hls := blk_lt b2
    by_cases hlt : i < d
    · have h1 : (i : Int) < d := by omega
      have hvN2 := vp_isN (i + 1) (by omega)
      have hnl2 := numb_lt hs (i + 1)
      have hnN2 : isN (numb s (i + 1)) := by unfold isN at *; omega
      have hts := nxt_St hti
      obtain ⟨v2, hv2⟩ : ∃ v2, vp (i + 1) = v2 := ⟨_, rfl⟩
      obtain ⟨n2, hn2⟩ : ∃ n2, numb s (i + 1) = n2 := ⟨_, rfl⟩
      obtain ⟨t2, ht2⟩ : ∃ t2, nxt t = t2 := ⟨_, rfl⟩
      obtain ⟨m, hm⟩ : ∃ m, t2 - 1 = m := ⟨_, rfl⟩
      rw [hv2] at hvs hvN2
      rw [hn2] at hns hnN2
      rw [ht2] at hns hts
      rw [hm] at hns
      have hmN : isN m := by unfold isN St at *; omega
      obtain ⟨x, hx⟩ : ∃ x, m * v = x := ⟨_, rfl⟩
      rw [hx] at hns
      have hxN : isN x := by unfold isN at *; omega
      have H1 := Lib.hid (step_hyp t t2 m hti ht2 hm)
      have H2 := Lib.hid (of_lo m (by unfold St at hts; omega))
      have H3 := Lib.hid (mul_hyp m v x hmN hvN hx hxN)
      have H4 := Lib.hid (add_hyp n x n2 hnN hxN hns.symm hnN2)
      have H5 := Lib.hid (mulV v v2 hvN hvs.symm hvN2)
      have K1 := Lib.hid (show jmp s (i + 1) = t2 by rw [jmp_succ, ht, ht2])
      have K2 := Lib.hid hn2
      have K3 := Lib.hid hv2
      clear hv hn ht hv2 hn2 ht2 hm hns hvs hx hnl hnl2 hlt
      go_upto_region 7 with (first | (go_at_call 64; refine (H1.out _).mono ?_; rintro e w1 ⟨rfl, hbel⟩; obtain ⟨o1, j1, rfl⟩ := grow_of_below hbel; clear hbel) | (go_at_call 65; refine (H2.out _).mono ?_; rintro e w2 ⟨rfl, hbel⟩; obtain ⟨o2, j2, rfl⟩ := grow_of_below hbel; clear hbel))
      go_upto_region 8 with (first | (go_at_call 30; refine (H3.out _ _ (by simp [go_sem, *]) (by simp [go_sem, *]) (by simp [go_sem, *]) (by simp [go_sem, *]) (by simp [go_sem, *]) (by simp [go_sem, *]) (by simp [go_sem, *]) (by simp [go_sem, *])).mono ?_; rintro e w3 ⟨rfl, hbel⟩; obtain ⟨o3, j3, rfl⟩ := grow_of_below hbel; clear hbel))
      go_upto_region 9 with (first | (go_at_call 20; refine (H4.out _).mono ?_; rintro e w4 ⟨rfl, hbel⟩; obtain ⟨o4, j4, rfl⟩ := grow_of_below hbel; clear hbel))
      go_wp2_with (first | (go_at_call 30; refine (H5.out _ _ (by simp [go_sem, *]) (by simp [go_sem, *]) (by simp [go_sem, *]) (by simp [go_sem, *]) (by simp [go_sem, *]) (by simp [go_sem, *]) (by simp [go_sem, *]) (by simp [go_sem, *])).mono ?_; rintro e w5 ⟨rfl, hbel⟩; obtain ⟨o5, j5, rfl⟩ := grow_of_below hbel; clear hbel))
      go_roundw
      case rel =>
        refine ⟨i + 1, t2, by go_num, rfl, K1.out, by omega, ?_, ?_, ?_, ?_⟩
        · repeat (first | (with_reducible exact b0) | (with_reducible exact set4 b0 _ _ _ _) | (with_reducible refine blk_grow ?_ _ _) | (with_reducible refine blk_alloc ?_ _) | (with_reducible refine blk_drew ?_) | (with_reducible refine blk_other ?_ (by (first | omega | (simp [go_sem]; done) | (simp [go_sem]; omega))) _))
        · rw [K2.out]
          repeat (first | (with_reducible exact b1) | (with_reducible exact set4 b1 _ _ _ _) | (with_reducible refine blk_grow ?_ _ _) | (with_reducible refine blk_alloc ?_ _) | (with_reducible refine blk_drew ?_) | (with_reducible refine blk_other ?_ (by (first | omega | (simp [go_sem]; done) | (simp [go_sem]; omega))) _))
        · rw [K3.out]
          have hne : w.heap.size + 1 + 1 ≠ w.heap.size + 1 := by omega
          have b2' := fun x0 x1 x2 x3 y0 y1 y2 y3 => set4 (blk_other (i := 3) (blk_other (i := 2) (blk_other (i := 1) (blk_other (i := 0) b2 hne x0) hne x1) hne x2) hne x3) y0 y1 y2 y3
          repeat (first | (with_reducible refine blk_grow ?_ _ _) | (with_reducible refine blk_alloc ?_ _))
          exact b2' _ _ _ _ _ _ _ _
        · repeat (first | (with_reducible exact hb) | ((with_reducible refine below_grow ?_ ?_); rotate_left; focus (first | omega | (simp [go_sem]; done) | (simp [go_sem]; omega))) | ((with_reducible refine Below.alloc ?_ ?_ _); rotate_left; focus (first | omega | (simp [go_sem]; done) | (simp [go_sem]; omega))) | ((with_reducible refine Below.setCell ?_ ?_ _); rotate_left; focus (first | omega | (simp [go_sem]; done) | (simp [go_sem]; omega))) | (with_reducible refine Below.drew ?_) | (with_reducible refine below_drewN _ ?_))
      case measure => simp [intOf]; omega
    · obtain rfl : i = d := by omega
      obtain rfl := hv
      obtain rfl := hn
      obtain rfl := ht
      clear hns hvs hvN hnN hti hnl
      go_wp2
      go_region
      all_goals go_wp2
      refine bodyPost_ret (by simp [results, Try.results48, go_sem, p0, p1, p2, p3]) rfl ⟨rfl, ?_⟩
      repeat (first | (with_reducible exact hb) | ((with_reducible refine below_grow ?_ ?_); rotate_left; focus (first | omega | (simp [go_sem]; done) | (simp [go_sem]; omega))) | ((with_reducible refine Below.alloc ?_ ?_ _); rotate_left; focus (first | omega | (simp [go_sem]; done) | (simp [go_sem]; omega))) | ((with_reducible refine Below.setCell ?_ ?_ _); rotate_left; focus (first | omega | (simp [go_sem]; done) | (simp [go_sem]; omega))) | (with_reducible refine Below.drew ?_) | (with_reducible refine below_drewN _ ?_))
end Go.Proofs.Ytgcfkhpondemlaa.Se

/-! SN -/
namespace Go.Proofs.Ytgcfkhpondemlaa.Se
open Go.RowKit Go.Shelf

theorem numb_isN {s : Nat} (h : St s) (d : Nat) (hd : d ≤ 4) : isN (numb s d) := by
  have h1 := numb_lt h d
  have h2 := vp_isN d hd
  unfold isN at *
  omega
set_option maxRecDepth 100000 in
theorem draw_calls (s d b : Nat) (hs : St s) (hd : d ≤ 4) (w : World) (hc : w.cell? ⟨b, 0, none⟩ = some (.int .i64 d)) (hb : b < w.heap.size) :
    Calls Try.prog 47 #[.int .i64 s, .pointer (some ⟨b, 0, none⟩)] w fun e w' => e = .returned (.tuple #[.int .i64 (jmp s d), .agg #[.int .u32 (pt (numb s d) 0), .int .u32 (pt (numb s d) 1), .int .u32 (pt (numb s d) 2), .int .u32 (pt (numb s d) 3)]]) ∧ Below w.heap.size w w' := by
  have iB : NeZero (inW b w) := inW_mk hb
  obtain ⟨t, ht⟩ : ∃ t, jmp s d = t := ⟨_, rfl⟩
  obtain ⟨n, hn⟩ : ∃ n, numb s d = n := ⟨_, rfl⟩
  have H := Lib.hid (number_calls s d hs hd)
  rw [ht, hn] at H ⊢
  clear ht hn
  go_enter Try.func47, Try.ntmps47
  go_wp2_with (first | (go_at_call 48; refine (H.out _).mono ?_; rintro e w1 ⟨rfl, hbel⟩; obtain ⟨o1, j1, rfl⟩ := grow_of_below hbel; clear hbel))
  refine bodyPost_ret (by simp [results, Try.results47, go_sem]) rfl ⟨rfl, ?_⟩
  repeat (first | (with_reducible exact Below.refl _ _) | ((with_reducible refine below_grow ?_ ?_); rotate_left; focus (first | omega | (simp [go_sem]; done) | (simp [go_sem]; omega))) | ((with_reducible refine Below.alloc ?_ ?_ _); rotate_left; focus (first | omega | (simp [go_sem]; done) | (simp [go_sem]; omega))) | ((with_reducible refine Below.setCell ?_ ?_ _); rotate_left; focus (first | omega | (simp [go_sem]; done) | (simp [go_sem]; omega))) | (with_reducible refine Below.drew ?_) | (with_reducible refine below_drewN _ ?_))
set_option maxRecDepth 100000 in
theorem small_calls (x L b : Nat) (hx : isN x) (hL : isN L) (w : World) (l0 : w.cell? ⟨b, 0, none⟩ = some (.int .u32 (pt L 0))) (l1 : w.cell? ⟨b, 1, none⟩ = some (.int .u32 (pt L 1))) (l2 : w.cell? ⟨b, 2, none⟩ = some (.int .u32 (pt L 2))) (l3 : w.cell? ⟨b, 3, none⟩ = some (.int .u32 (pt L 3))) (hb : b < w.heap.size) :
    Calls Try.prog 50 #[.agg #[.int .u32 (pt x 0), .int .u32 (pt x 1), .int .u32 (pt x 2), .int .u32 (pt x 3)], .pointer (some ⟨b, 0, none⟩)] w fun e w' => e = .returned (.bool (decide (x < L))) ∧ Below w.heap.size w w' := by
  have iB : NeZero (inW b w) := inW_mk hb
  obtain ⟨c, hc⟩ : ∃ c, cmpN x L = c := ⟨_, rfl⟩
  have H := Lib.hid (cmp_hyp x L c hx hL hc)
  have hd : decide (x < L) = decide (c < 0) := by
    rw [← hc]
    unfold cmpN
    by_cases h : x < L
    · rw [if_pos h, decide_eq_true h]; rfl
    · rw [if_neg h, decide_eq_false h]; split <;> rfl
  rw [hd]
  clear hd hc
  go_enter Try.func50, Try.ntmps50
  go_wp2_with (first | (go_at_call 13; refine (H.out _).mono ?_; rintro e w1 ⟨rfl, hbel⟩; obtain ⟨o1, j1, rfl⟩ := grow_of_below hbel; clear hbel))
  refine bodyPost_ret (by simp [results, Try.results50, go_sem]) rfl ⟨rfl, ?_⟩
  repeat (first | (with_reducible exact Below.refl _ _) | ((with_reducible refine below_grow ?_ ?_); rotate_left; focus (first | omega | (simp [go_sem]; done) | (simp [go_sem]; omega))) | ((with_reducible refine Below.alloc ?_ ?_ _); rotate_left; focus (first | omega | (simp [go_sem]; done) | (simp [go_sem]; omega))) | ((with_reducible refine Below.setCell ?_ ?_ _); rotate_left; focus (first | omega | (simp [go_sem]; done) | (simp [go_sem]; omega))) | (with_reducible refine Below.drew ?_) | (with_reducible refine below_drewN _ ?_))
/-- The state of the first number of d values that is less than L, and the number; after k that are not, the next one. -/
def fsN (L d : Nat) : Nat → Nat → Nat × Nat
  | 0, s => (jmp s d, numb s d)
  | k + 1, s => if numb s d < L then (jmp s d, numb s d) else fsN L d k (jmp s d)
theorem fsN_good (L d : Nat) (hd : d ≤ 4) : ∀ (k s : Nat), St s → St (fsN L d k s).1 ∧ isN (fsN L d k s).2
  | 0, s, h => ⟨jmp_St h d, numb_isN h d hd⟩
  | k + 1, s, h => by
    unfold fsN
    split
    · exact ⟨jmp_St h d, numb_isN h d hd⟩
    · exact fsN_good L d hd k _ (jmp_St h d)
set_option maxRecDepth 100000 in
set_option maxHeartbeats 8000000 in
theorem firstN_calls (s L d b c : Nat) (hs : St s) (hL : isN L) (hd : d ≤ 4) (w : World) (hc : w.cell? ⟨b, 0, none⟩ = some (.int .i64 d)) (hb : b < w.heap.size) (l0 : w.cell? ⟨c, 0, none⟩ = some (.int .u32 (pt L 0))) (l1 : w.cell? ⟨c, 1, none⟩ = some (.int .u32 (pt L 1))) (l2 : w.cell? ⟨c, 2, none⟩ = some (.int .u32 (pt L 2))) (l3 : w.cell? ⟨c, 3, none⟩ = some (.int .u32 (pt L 3))) (hcl : c < w.heap.size) :
    Calls Try.prog 49 #[.int .i64 s, .func (.func 47) #[] #[.pointer (some ⟨b, 0, none⟩)], .func (.func 50) #[] #[.pointer (some ⟨c, 0, none⟩)]] w fun e w' => e = .returned (.tuple #[.int .i64 (fsN L d 100 s).1, .agg #[.int .u32 (pt ((fsN L d 100 s).2) 0), .int .u32 (pt ((fsN L d 100 s).2) 1), .int .u32 (pt ((fsN L d 100 s).2) 2), .int .u32 (pt ((fsN L d 100 s).2) 3)]]) ∧ Below w.heap.size w w' := by
  obtain ⟨T, N, hT⟩ : ∃ T N, fsN L d 100 s = (T, N) := ⟨_, _, rfl⟩
  rw [hT]
  go_enter Try.func49, Try.ntmps49
  go_wp2
  go_loopw [9, 0] (fun s9 s0 wr => ∃ i t : Nat, s9 = .int .i64 i ∧ s0 = .int .i64 t ∧ i ≤ 100 ∧ St t ∧ fsN L d (100 - i) t = (T, N) ∧ blk wr w.heap.size #[.int .u32 0, .int .u32 0, .int .u32 0, .int .u32 0] 26 ∧ Below w.heap.size w wr) (fun s9 _ _ => 100 - (intOf s9).toNat)
  case atStart => exact ⟨0, s, rfl, rfl, by decide, hs, hT, blk_new _ _ _, by repeat (first | (with_reducible exact Below.refl _ _) | ((with_reducible refine below_grow ?_ ?_); rotate_left; focus (first | omega | (simp [go_sem]; done) | (simp [go_sem]; omega))) | ((with_reducible refine Below.alloc ?_ ?_ _); rotate_left; focus (first | omega | (simp [go_sem]; done) | (simp [go_sem]; omega))) | ((with_reducible refine Below.setCell ?_ ?_ _); rotate_left; focus (first | omega | (simp [go_sem]; done) | (simp [go_sem]; omega))) | (with_reducible refine Below.drew ?_) | (with_reducible refine below_drewN _ ?_))⟩
  case round =>
    obtain ⟨i, t, rfl, rfl, hi, ht, hTt, b0, hbw⟩ := hrel
    obtain ⟨t2, ht2⟩ : ∃ t2, jmp t d = t2 := ⟨_, rfl⟩
    obtain ⟨n, hn⟩ : ∃ n, numb t d = n := ⟨_, rfl⟩
    have hnN := numb_isN ht d hd
    have ht2S := jmp_St ht d
    have R := Lib.hid (fun w hc hb => draw_calls t d b ht hd w hc hb)
    rw [ht2, hn] at R
    rw [hn] at hnN
    rw [ht2] at ht2S
    have hcr : wr.cell? ⟨b, 0, none⟩ = some (.int .i64 d) := (hbw.cell (p := ⟨b, 0, none⟩) hb).trans hc
    have m0 : wr.cell? ⟨c, 0, none⟩ = some (.int .u32 (pt L 0)) := (hbw.cell (p := ⟨c, 0, none⟩) hcl).trans l0
    have m1 : wr.cell? ⟨c, 1, none⟩ = some (.int .u32 (pt L 1)) := (hbw.cell (p := ⟨c, 1, none⟩) hcl).trans l1
    have m2 : wr.cell? ⟨c, 2, none⟩ = some (.int .u32 (pt L 2)) := (hbw.cell (p := ⟨c, 2, none⟩) hcl).trans l2
    have m3 : wr.cell? ⟨c, 3, none⟩ = some (.int .u32 (pt L 3)) := (hbw.cell (p := ⟨c, 3, none⟩) hcl).trans l3
    have hbs := hbw.size
    have iB : NeZero (inW b wr) := inW_mk (by omega)
    have iC : NeZero (inW c wr) := inW_mk (by omega)
    have iR : NeZero (inW w.heap.size wr) := inW_mk (blk_lt b0)
    have hls := blk_lt b0
    have hbl : b < wr.heap.size := by omega
    have hcl2 : c < wr.heap.size := by omega
    have p0 := blk_cell b0 0
    have p1 := blk_cell b0 1
    have p2 := blk_cell b0 2
    have p3 := blk_cell b0 3
    simp only [List.getElem?_toArray, List.getElem?_cons_zero, List.getElem?_cons_succ] at p0 p1 p2 p3
    have f0 := blk_free b0 0
    have f1 := blk_free b0 1
    have f2 := blk_free b0 2
    have f3 := blk_free b0 3
    by_cases hlt : i < 100
    · have h1 : (i : Int) < 100 := by omega
      obtain ⟨k, hk⟩ : ∃ k, 100 - i = k + 1 := ⟨99 - i, by omega⟩
      rw [hk] at hTt
      by_cases hv : n < L
      · have hT2 : (t2, n) = (T, N) := by rw [← hTt, ← ht2, ← hn]; exact (if_pos (by rw [hn]; exact hv)).symm
        obtain ⟨e1, e2⟩ := Prod.mk.inj hT2
        obtain rfl := e1
        obtain rfl := e2
        have R2 := Lib.hid (fun w h0 h1 h2 h3 hb => small_calls n L c hnN hL w h0 h1 h2 h3 hb)
        rw [decide_eq_true hv] at R2
        clear ht2 hn hTt hT2 hT hv hk
        go_upto_region 6 with (first | (go_at_call 47; refine (R.out _ (by simp [go_sem, hcr]) (by simp [go_sem]; omega)).mono ?_; rintro e w1 ⟨rfl, hbel⟩; obtain ⟨o1, j1, rfl⟩ := grow_of_below hbel; clear hbel) | (go_at_call 50; refine (R2.out _ (by simp [go_sem, m0]) (by simp [go_sem, m1]) (by simp [go_sem, m2]) (by simp [go_sem, m3]) (by simp [go_sem]; omega)).mono ?_; rintro e w2 ⟨rfl, hbel⟩; obtain ⟨o2, j2, rfl⟩ := grow_of_below hbel; clear hbel))
        go_region
        all_goals go_wp2
        refine bodyPost_ret (by simp [results, Try.results49, go_sem, p0, p1, p2, p3]) rfl ⟨rfl, ?_⟩
        repeat (first | (with_reducible exact hbw) | ((with_reducible refine below_grow ?_ ?_); rotate_left; focus (first | omega | (simp [go_sem]; done) | (simp [go_sem]; omega))) | ((with_reducible refine Below.alloc ?_ ?_ _); rotate_left; focus (first | omega | (simp [go_sem]; done) | (simp [go_sem]; omega))) | ((with_reducible refine Below.setCell ?_ ?_ _); rotate_left; focus (first | omega | (simp [go_sem]; done) | (simp [go_sem]; omega))) | (with_reducible refine Below.drew ?_) | (with_reducible refine below_drewN _ ?_))
      · have hT2 : fsN L d k t2 = (T, N) := by rw [← hTt, ← ht2]; exact (if_neg (by rw [hn]; exact hv)).symm
        have R2 := Lib.hid (fun w h0 h1 h2 h3 hb => small_calls n L c hnN hL w h0 h1 h2 h3 hb)
        rw [decide_eq_false hv] at R2
        have HT := Lib.hid hT2
        have HK := Lib.hid hk
        clear ht2 hn hTt hT2 hT hv hk
        go_wp2_with (first | (go_at_call 47; refine (R.out _ (by simp [go_sem, hcr]) (by simp [go_sem]; omega)).mono ?_; rintro e w1 ⟨rfl, hbel⟩; obtain ⟨o1, j1, rfl⟩ := grow_of_below hbel; clear hbel) | (go_at_call 50; refine (R2.out _ (by simp [go_sem, m0]) (by simp [go_sem, m1]) (by simp [go_sem, m2]) (by simp [go_sem, m3]) (by simp [go_sem]; omega)).mono ?_; rintro e w2 ⟨rfl, hbel⟩; obtain ⟨o2, j2, rfl⟩ := grow_of_below hbel; clear hbel))
        go_roundw
        case rel =>
          refine ⟨i + 1, t2, by go_num, rfl, by omega, ht2S, ?_, ?_, ?_⟩
          · have := HK.out
            rw [show 100 - (i + 1) = k from by omega]
            exact HT.out
          · repeat (first | (with_reducible exact b0) | (with_reducible exact set4 b0 _ _ _ _) | (with_reducible refine blk_grow ?_ _ _) | (with_reducible refine blk_alloc ?_ _) | (with_reducible refine blk_drew ?_) | (with_reducible refine blk_other ?_ (by (first | omega | (simp [go_sem]; done) | (simp [go_sem]; omega))) _))
          · repeat (first | (with_reducible exact hbw) | ((with_reducible refine below_grow ?_ ?_); rotate_left; focus (first | omega | (simp [go_sem]; done) | (simp [go_sem]; omega))) | ((with_reducible refine Below.alloc ?_ ?_ _); rotate_left; focus (first | omega | (simp [go_sem]; done) | (simp [go_sem]; omega))) | ((with_reducible refine Below.setCell ?_ ?_ _); rotate_left; focus (first | omega | (simp [go_sem]; done) | (simp [go_sem]; omega))) | (with_reducible refine Below.drew ?_) | (with_reducible refine below_drewN _ ?_))
        case measure => simp [intOf]; omega
    · obtain rfl : i = 100 := by omega
      have hT2 : (t2, n) = (T, N) := by rw [← hTt, ← ht2, ← hn]; rfl
      obtain ⟨e1, e2⟩ := Prod.mk.inj hT2
      obtain rfl := e1
      obtain rfl := e2
      clear ht2 hn hTt hT2 hT hlt
      go_wp2_with (first | (go_at_call 47; refine (R.out _ hcr hbl).mono ?_; rintro e w1 ⟨rfl, hbel⟩; obtain ⟨o1, j1, rfl⟩ := grow_of_below hbel; clear hbel))
      refine bodyPost_ret (by simp [results, Try.results49, go_sem, p0, p1, p2, p3]) rfl ⟨rfl, ?_⟩
      repeat (first | (with_reducible exact hbw) | ((with_reducible refine below_grow ?_ ?_); rotate_left; focus (first | omega | (simp [go_sem]; done) | (simp [go_sem]; omega))) | ((with_reducible refine Below.alloc ?_ ?_ _); rotate_left; focus (first | omega | (simp [go_sem]; done) | (simp [go_sem]; omega))) | ((with_reducible refine Below.setCell ?_ ?_ _); rotate_left; focus (first | omega | (simp [go_sem]; done) | (simp [go_sem]; omega))) | (with_reducible refine Below.drew ?_) | (with_reducible refine below_drewN _ ?_))
end Go.Proofs.Ytgcfkhpondemlaa.Se

/-! SO -/
namespace Go.Proofs.Ytgcfkhpondemlaa.Se
open Go.RowKit Go.Shelf

def limV (a d : Nat) : Nat := vp d - vp d % a
theorem digs_pos {a d : Nat} (h : digs a d) : d ≤ 4 := h.2.1
set_option maxRecDepth 100000 in
set_option maxHeartbeats 8000000 in
theorem belowNat_yes (s a : Nat) (hs : St s) (ha : isN a) (h0 : a ≠ 0) (hk : a ≤ k120) (w : World) :
    Calls Try.prog 25 #[.int .i64 s, .agg #[.int .u32 (pt a 0), .int .u32 (pt a 1), .int .u32 (pt a 2), .int .u32 (pt a 3)]] w fun e w' => ∃ d, digs a d ∧ e = .returned (.tuple #[.int .i64 (fsN (limV a d) d 100 s).1, .agg #[.int .u32 (pt ((fsN (limV a d) d 100 s).2 % a) 0), .int .u32 (pt ((fsN (limV a d) d 100 s).2 % a) 1), .int .u32 (pt ((fsN (limV a d) d 100 s).2 % a) 2), .int .u32 (pt ((fsN (limV a d) d 100 s).2 % a) 3)], .int .i64 0]) ∧ Below w.heap.size w w' := by
  have R1 := Lib.hid (right_yes s hs)
  obtain ⟨c, hc, hc0⟩ : ∃ c : Int, cmpN a k120 = c ∧ c ≤ 0 := ⟨_, rfl, by unfold cmpN; split; (· decide); (· rw [if_neg (by omega)]; decide)⟩
  have R2 := Lib.hid (cmp_k120 a c ha hc)
  have R3 := Lib.hid (digits_calls a ha hk)
  have hd : decide (a = 0) = false := decide_eq_false h0
  have hx := Lib.hid h0
  clear h0 hc
  go_enter Try.func25, Try.ntmps25
  go_upto_region 3 with (first | (go_at_call 24; refine (R1.out _).mono ?_; rintro e w1 ⟨rfl, rfl⟩) | (go_at_call 13; refine (R2.out _).mono ?_; rintro e w2 ⟨rfl, hbel⟩; obtain ⟨o2, j2, rfl⟩ := grow_of_below hbel; clear hbel))
  clear R1 R2
  go_cut [7, 8] (fun s7 s8 wx => ∃ d p q : Nat, digs a d ∧ s7 = .pointer (some ⟨p, 0, none⟩) ∧ s8 = .pointer (some ⟨q, 0, none⟩) ∧ blk wx p #[.int .i64 d] 3 ∧ blk wx q #[.int .u32 (pt (vp d) 0), .int .u32 (pt (vp d) 1), .int .u32 (pt (vp d) 2), .int .u32 (pt (vp d) 3)] 26 ∧ blk wx w.heap.size #[.int .u32 (pt a 0), .int .u32 (pt a 1), .int .u32 (pt a 2), .int .u32 (pt a 3)] 26 ∧ blk wx (w.heap.size + 1) #[.int .u32 0, .int .u32 0, .int .u32 0, .int .u32 0] 26 ∧ w.heap.size + 1 < p ∧ w.heap.size + 1 < q ∧ p ≠ q ∧ Below w.heap.size w wx)
  case first =>
    go_wp2_with (first | (go_at_call 45; refine (R3.out _).mono ?_; rintro e w3 ⟨d, hdg, rfl, hbel⟩; obtain ⟨o3, j3, rfl⟩ := grow_of_below hbel; clear hbel))
    go_meet
    refine ⟨d, _, _, hdg, rfl, rfl, ?_, ?_, ?_, ?_, ?_, ?_, ?_, ?_⟩
    · exact blk_alloc (blk_at _ _ _ (by simp [go_sem])) _
    · exact blk_at _ _ _ (by simp [go_sem])
    · have z0 : blk ((w.alloc (.cells #[.int .u32 (pt a 0), .int .u32 (pt a 1), .int .u32 (pt a 2), .int .u32 (pt a 3)] 26)).alloc (.cells #[.int .u32 0, .int .u32 0, .int .u32 0, .int .u32 0] 26)) w.heap.size #[.int .u32 (pt a 0), .int .u32 (pt a 1), .int .u32 (pt a 2), .int .u32 (pt a 3)] 26 := blk_alloc (blk_new _ _ _) _
      repeat (first | (with_reducible exact z0) | (with_reducible exact set4 z0 _ _ _ _) | (with_reducible refine blk_grow ?_ _ _) | (with_reducible refine blk_alloc ?_ _) | (with_reducible refine blk_drew ?_) | (with_reducible refine blk_other ?_ (by (first | omega | (simp [go_sem]; done) | (simp [go_sem]; omega))) _))
    · have z1 : blk ((w.alloc (.cells #[.int .u32 (pt a 0), .int .u32 (pt a 1), .int .u32 (pt a 2), .int .u32 (pt a 3)] 26)).alloc (.cells #[.int .u32 0, .int .u32 0, .int .u32 0, .int .u32 0] 26)) (w.heap.size + 1) #[.int .u32 0, .int .u32 0, .int .u32 0, .int .u32 0] 26 := blk_at _ _ _ (by simp)
      repeat (first | (with_reducible exact z1) | (with_reducible exact set4 z1 _ _ _ _) | (with_reducible refine blk_grow ?_ _ _) | (with_reducible refine blk_alloc ?_ _) | (with_reducible refine blk_drew ?_) | (with_reducible refine blk_other ?_ (by (first | omega | (simp [go_sem]; done) | (simp [go_sem]; omega))) _))
    · omega
    · omega
    · omega
    · repeat (first | (with_reducible exact Below.refl _ _) | ((with_reducible refine below_grow ?_ ?_); rotate_left; focus (first | omega | (simp [go_sem]; done) | (simp [go_sem]; omega))) | ((with_reducible refine Below.alloc ?_ ?_ _); rotate_left; focus (first | omega | (simp [go_sem]; done) | (simp [go_sem]; omega))) | ((with_reducible refine Below.setCell ?_ ?_ _); rotate_left; focus (first | omega | (simp [go_sem]; done) | (simp [go_sem]; omega))) | (with_reducible refine Below.drew ?_) | (with_reducible refine below_drewN _ ?_))
  case rest =>
    obtain ⟨d, p, q, hdg, rfl, rfl, bp, bq, b0, b1, hp, hq, hpq, hb⟩ := hcut
    clear R3
    have hd4 := digs_pos hdg
    have hvN := vp_isN d hd4
    have h0 := hx.out
    obtain ⟨v, hv⟩ : ∃ v, vp d = v := ⟨_, rfl⟩
    rw [hv] at bq hvN
    obtain ⟨r, hr⟩ : ∃ r, v % a = r := ⟨_, rfl⟩
    have hrv : r ≤ v := by rw [← hr]; exact Nat.mod_le _ _
    obtain ⟨L, hL⟩ : ∃ L, v - r = L := ⟨_, rfl⟩
    have hrN : isN r := by unfold isN at *; omega
    have hLN : isN L := by unfold isN at *; omega
    have hlim : limV a d = L := by unfold limV; rw [hv, hr, hL]
    have H1 := Lib.hid (fun w => hr ▸ modulo_calls v a hvN ha h0 w)
    have H2 := Lib.hid (sub_hyp v r L hvN hrN hL hrv)
    have HL := Lib.hid hlim
    clear hv hr hL hlim hrv h0
    have p0 := blk_cell bp 0
    have q0 := blk_cell bq 0
    have q1 := blk_cell bq 1
    have q2 := blk_cell bq 2
    have q3 := blk_cell bq 3
    have a0 := blk_cell b0 0
    have a1 := blk_cell b0 1
    have a2 := blk_cell b0 2
    have a3 := blk_cell b0 3
    have z0 := blk_cell b1 0
    have z1 := blk_cell b1 1
    have z2 := blk_cell b1 2
    have z3 := blk_cell b1 3
    simp only [List.getElem?_toArray, List.getElem?_cons_zero, List.getElem?_cons_succ] at p0 q0 q1 q2 q3 a0 a1 a2 a3 z0 z1 z2 z3
    have f0 := blk_free b1 0
    have f1 := blk_free b1 1
    have f2 := blk_free b1 2
    have f3 := blk_free b1 3
    have iP : NeZero (inW p wc) := inW_mk (blk_lt bp)
    have iQ : NeZero (inW q wc) := inW_mk (blk_lt bq)
    have i0 : NeZero (inW w.heap.size wc) := inW_mk (blk_lt b0)
    have i1 : NeZero (inW (w.heap.size + 1) wc) := inW_mk (blk_lt b1)
    have hbs := hb.size
    go_upto_region 4 with fail
    go_cut [9] (fun s9 wx => ∃ r : Nat, s9 = .pointer (some ⟨r, 0, none⟩) ∧ blk wx r #[.int .u32 (pt L 0), .int .u32 (pt L 1), .int .u32 (pt L 2), .int .u32 (pt L 3)] 26 ∧ blk wx p #[.int .i64 d] 3 ∧ blk wx w.heap.size #[.int .u32 (pt a 0), .int .u32 (pt a 1), .int .u32 (pt a 2), .int .u32 (pt a 3)] 26 ∧ blk wx (w.heap.size + 1) #[.int .u32 0, .int .u32 0, .int .u32 0, .int .u32 0] 26 ∧ Below w.heap.size w wx)
    case first =>
      go_region_held3 (fun w' => w'.cell? ⟨q, 0, none⟩ = some (.int .u32 (pt v 0)) ∧ w'.cell? ⟨q, 1, none⟩ = some (.int .u32 (pt v 1)) ∧ w'.cell? ⟨q, 2, none⟩ = some (.int .u32 (pt v 2)) ∧ w'.cell? ⟨q, 3, none⟩ = some (.int .u32 (pt v 3)) ∧ w'.cell? ⟨w.heap.size, 0, none⟩ = some (.int .u32 (pt a 0)) ∧ w'.cell? ⟨w.heap.size, 1, none⟩ = some (.int .u32 (pt a 1)) ∧ w'.cell? ⟨w.heap.size, 2, none⟩ = some (.int .u32 (pt a 2)) ∧ w'.cell? ⟨w.heap.size, 3, none⟩ = some (.int .u32 (pt a 3))) (simp [*, go_sem]) (first | (go_at_call 46; refine (H1.out _).mono ?_; rintro e w4 ⟨rfl, hbel⟩; obtain ⟨o4, j4, rfl⟩ := grow_of_below hbel; clear hbel) | (go_at_call 40; refine (H2.out _).mono ?_; rintro e w5 ⟨rfl, hbel⟩; obtain ⟨o5, j5, rfl⟩ := grow_of_below hbel; clear hbel))
      all_goals go_wp2
      all_goals go_meet
      all_goals
        refine ⟨_, rfl, ?_, ?_, ?_, ?_, ?_⟩
        · repeat (with_reducible refine blk_grow ?_ _ _)
          exact blk_at _ _ _ (by simp [go_sem])
        · repeat (first | (with_reducible exact bp) | (with_reducible exact set4 bp _ _ _ _) | (with_reducible refine blk_grow ?_ _ _) | (with_reducible refine blk_alloc ?_ _) | (with_reducible refine blk_drew ?_) | (with_reducible refine blk_other ?_ (by (first | omega | (simp [go_sem]; done) | (simp [go_sem]; omega))) _))
        · repeat (first | (with_reducible exact b0) | (with_reducible exact set4 b0 _ _ _ _) | (with_reducible refine blk_grow ?_ _ _) | (with_reducible refine blk_alloc ?_ _) | (with_reducible refine blk_drew ?_) | (with_reducible refine blk_other ?_ (by (first | omega | (simp [go_sem]; done) | (simp [go_sem]; omega))) _))
        · repeat (first | (with_reducible exact b1) | (with_reducible exact set4 b1 _ _ _ _) | (with_reducible refine blk_grow ?_ _ _) | (with_reducible refine blk_alloc ?_ _) | (with_reducible refine blk_drew ?_) | (with_reducible refine blk_other ?_ (by (first | omega | (simp [go_sem]; done) | (simp [go_sem]; omega))) _))
        · repeat (first | (with_reducible exact hb) | ((with_reducible refine below_grow ?_ ?_); rotate_left; focus (first | omega | (simp [go_sem]; done) | (simp [go_sem]; omega))) | ((with_reducible refine Below.alloc ?_ ?_ _); rotate_left; focus (first | omega | (simp [go_sem]; done) | (simp [go_sem]; omega))) | ((with_reducible refine Below.setCell ?_ ?_ _); rotate_left; focus (first | omega | (simp [go_sem]; done) | (simp [go_sem]; omega))) | (with_reducible refine Below.drew ?_) | (with_reducible refine below_drewN _ ?_))
    case rest =>
      clear H1 H2 q0 q1 q2 q3 bq iQ i0 i1 iP hbs p0 a0 a1 a2 a3 z0 z1 z2 z3 f0 f1 f2 f3 bp b0 b1 hb
      obtain ⟨r, rfl, br, bp, b0, b1, hb⟩ := hcut
      have p0 := blk_cell bp 0
      have q0 := blk_cell br 0
      have q1 := blk_cell br 1
      have q2 := blk_cell br 2
      have q3 := blk_cell br 3
      have a0 := blk_cell b0 0
      have a1 := blk_cell b0 1
      have a2 := blk_cell b0 2
      have a3 := blk_cell b0 3
      have z0 := blk_cell b1 0
      have z1 := blk_cell b1 1
      have z2 := blk_cell b1 2
      have z3 := blk_cell b1 3
      simp only [List.getElem?_toArray, List.getElem?_cons_zero, List.getElem?_cons_succ] at p0 q0 q1 q2 q3 a0 a1 a2 a3 z0 z1 z2 z3
      have f0 := blk_free b1 0
      have f1 := blk_free b1 1
      have f2 := blk_free b1 2
      have f3 := blk_free b1 3
      have iP : NeZero (inW p wc) := inW_mk (blk_lt bp)
      have iR : NeZero (inW r wc) := inW_mk (blk_lt br)
      have i0 : NeZero (inW w.heap.size wc) := inW_mk (blk_lt b0)
      have i1 : NeZero (inW (w.heap.size + 1) wc) := inW_mk (blk_lt b1)
      have hbs := hb.size
      have hls := blk_lt b1
      have hpl := blk_lt bp
      have hrl := blk_lt br
      have hgd := fsN_good L d hd4 100 s hs
      obtain ⟨t, n, hT⟩ : ∃ t n, fsN L d 100 s = (t, n) := ⟨_, _, rfl⟩
      have H1 := Lib.hid (firstN_calls s L d p r hs hLN hd4 wc p0 hpl q0 q1 q2 q3 hrl)
      rw [hT] at H1 hgd
      have hnN : isN n := hgd.2
      obtain ⟨x, hxx⟩ : ∃ x, n % a = x := ⟨_, rfl⟩
      have H2 := Lib.hid (fun w => hxx ▸ modulo_calls n a hnN ha hx.out w)
      have HE := Lib.hid (show (fsN (limV a d) d 100 s).1 = t ∧ (fsN (limV a d) d 100 s).2 % a = x by rw [HL.out, hT]; exact ⟨rfl, hxx⟩)
      clear hT hxx hgd HL
      go_wp2_with (first | (go_at_call 49; refine H1.out.mono ?_; rintro e w6 ⟨rfl, hbel⟩; obtain ⟨o6, j6, rfl⟩ := grow_of_below hbel; clear hbel) | (go_at_call 46; refine (H2.out _).mono ?_; rintro e w7 ⟨rfl, hbel⟩; obtain ⟨o7, j7, rfl⟩ := grow_of_below hbel; clear hbel))
      refine bodyPost_ret (by simp [results, Try.results25, go_sem, z0, z1, z2, z3]; rfl) rfl ⟨d, hdg, by rw [HE.out.1, HE.out.2], ?_⟩
      repeat (first | (with_reducible exact hb) | ((with_reducible refine below_grow ?_ ?_); rotate_left; focus (first | omega | (simp [go_sem]; done) | (simp [go_sem]; omega))) | ((with_reducible refine Below.alloc ?_ ?_ _); rotate_left; focus (first | omega | (simp [go_sem]; done) | (simp [go_sem]; omega))) | ((with_reducible refine Below.setCell ?_ ?_ _); rotate_left; focus (first | omega | (simp [go_sem]; done) | (simp [go_sem]; omega))) | (with_reducible refine Below.drew ?_) | (with_reducible refine below_drewN _ ?_))
end Go.Proofs.Ytgcfkhpondemlaa.Se

/-! SPk -/
namespace Go.Proofs.Ytgcfkhpondemlaa.Se
open Go.RowKit Go.Shelf

end Go.Proofs.Ytgcfkhpondemlaa.Se
