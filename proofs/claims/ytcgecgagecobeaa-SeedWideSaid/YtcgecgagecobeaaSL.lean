/- BelowNat: modulo, digits, number. -/
import Derived.Test.YtcgecgagecobeaaSK
namespace Go.Proofs.Ytcgecgagecobeaa
open Go.RowKit Go.Shelf

theorem of_more (n : Int) (h : ¬ n < 0) (h1 : n ≤ 9223372036854775807) (w : World) :
    Calls Try.prog 21 #[.int .i64 n] w fun e w' => e = .returned (.tuple #[.agg #[.int .u32 (pt n.toNat 0), .int .u32 (pt n.toNat 1), .int .u32 (pt n.toNat 2), .int .u32 (pt n.toNat 3)], .int .i64 0]) ∧ Below w.heap.size w w' := by
  have := of_calls n (by omega) h1 w
  rw [show ofR n = n.toNat from if_neg h, show ofE n = 0 from if_neg h] at this
  exact this
theorem of_lo (a : Nat) (h : a < 9223372036854775808) (w : World) :
    Calls Try.prog 21 #[.int .i64 a] w fun e w' => e = .returned (.tuple #[.agg #[.int .u32 (pt a 0), .int .u32 (pt a 1), .int .u32 (pt a 2), .int .u32 (pt a 3)], .int .i64 0]) ∧ Below w.heap.size w w' := by
  have := of_more a (by omega) (by omega) w
  rw [show ((a : Int)).toNat = a from rfl] at this
  exact this
theorem int_lo (a : Nat) (ha : isN a) (h : a < 9223372036854775808) (w : World) :
    Calls Try.prog 24 #[.agg #[.int .u32 (pt a 0), .int .u32 (pt a 1), .int .u32 (pt a 2), .int .u32 (pt a 3)]] w fun e w' => e = .returned (.tuple #[.int .i64 a, .int .i64 0]) ∧ Below w.heap.size w w' := by
  have := int_calls a ha w
  rw [show intR a = a from if_pos h, show intE a = 0 from if_pos h] at this
  exact this
theorem set4 {w : World} {b : Nat} {c0 c1 c2 c3 : Value} {t : TypeId} (h : blk w b #[c0, c1, c2, c3] t) (x0 x1 x2 x3 : Value) :
    blk ((((w.setCell ⟨b, 0, none⟩ x0).setCell ⟨b, 1, none⟩ x1).setCell ⟨b, 2, none⟩ x2).setCell ⟨b, 3, none⟩ x3) b #[x0, x1, x2, x3] t :=
  blk_set (blk_set (blk_set (blk_set h 0 x0) 1 x1) 2 x2) 3 x3
theorem blk_drew {w : World} {b : Nat} {cs : Array Value} {t : TypeId} (h : blk w b cs t) : blk w.drew b cs t := h
theorem v_pt : pt 2147483646 0 = 2147483646 ∧ pt 2147483646 1 = 0 ∧ pt 2147483646 2 = 0 ∧ pt 2147483646 3 = 0 := by decide
theorem v_isN : isN 2147483646 := by decide
def vp (k : Nat) : Nat := 2147483646 ^ k
theorem vp_zero : vp 0 = 1 := rfl
theorem vp_one : vp 1 = 2147483646 := by unfold vp; rw [Nat.pow_one]
theorem vp_succ (k : Nat) : vp (k + 1) = vp k * 2147483646 := Nat.pow_succ ..
theorem vp_pos (k : Nat) : 0 < vp k := Nat.pow_pos (by decide)
theorem vp_isN (k : Nat) (h : k ≤ 4) : isN (vp k) := by
  have e : k = 0 ∨ k = 1 ∨ k = 2 ∨ k = 3 ∨ k = 4 := by omega
  rcases e with e | e | e | e | e <;> subst e <;> decide +kernel
theorem k120_vp : k120 ≤ vp 4 := by decide +kernel
theorem vp_mono (i j : Nat) (h : i ≤ j) : vp i ≤ vp j := Nat.pow_le_pow_right (by decide) h
/-- Multiplied by Values. -/
theorem mulV (b m : Nat) (hb : isN b) (hm : b * 2147483646 = m) (hf : isN m) : ∀ (w : World) (p : Nat) [NeZero (inW p w)] (_ : w.cell? ⟨p, 0, none⟩ = some (.int .u32 (pt b 0))) (_ : w.cell? ⟨p, 1, none⟩ = some (.int .u32 (pt b 1))) (_ : w.cell? ⟨p, 2, none⟩ = some (.int .u32 (pt b 2))) (_ : w.cell? ⟨p, 3, none⟩ = some (.int .u32 (pt b 3))) (_ : w.cell? ⟨p, 4, none⟩ = some (.int .u32 2147483646)) (_ : w.cell? ⟨p, 5, none⟩ = some (.int .u32 0)) (_ : w.cell? ⟨p, 6, none⟩ = some (.int .u32 0)) (_ : w.cell? ⟨p, 7, none⟩ = some (.int .u32 0)),
    Calls Try.prog 22 #[.slice (some ⟨p, 0, none⟩) 2 2] w fun e w' => e = .returned (.tuple #[.agg #[.int .u32 (pt m 0), .int .u32 (pt m 1), .int .u32 (pt m 2), .int .u32 (pt m 3)], .int .i64 0]) ∧ Below w.heap.size w w' := by
  intro w p iP h0 h1 h2 h3 h4 h5 h6 h7
  obtain ⟨q0, q1, q2, q3⟩ := v_pt
  exact mul_hyp b 2147483646 m hb v_isN hm hf w p h0 h1 h2 h3 (by rw [q0]; exact h4) (by rw [q1]; exact h5) (by rw [q2]; exact h6) (by rw [q3]; exact h7)
set_option maxRecDepth 100000 in
theorem modulo_calls (a n : Nat) (ha : isN a) (hn : isN n) (h0 : n ≠ 0) (w : World) :
    Calls Try.prog 44 #[.agg #[.int .u32 (pt a 0), .int .u32 (pt a 1), .int .u32 (pt a 2), .int .u32 (pt a 3)], .agg #[.int .u32 (pt n 0), .int .u32 (pt n 1), .int .u32 (pt n 2), .int .u32 (pt n 3)]] w fun e w' => e = .returned (.agg #[.int .u32 (pt (a % n) 0), .int .u32 (pt (a % n) 1), .int .u32 (pt (a % n) 2), .int .u32 (pt (a % n) 3)]) ∧ Below w.heap.size w w' := by
  obtain ⟨q, hq⟩ : ∃ q, a / n = q := ⟨_, rfl⟩
  obtain ⟨r, hr⟩ : ∃ r, a % n = r := ⟨_, rfl⟩
  have H := Lib.hid (div_hyp a n q r ha hn h0 hq hr)
  rw [hr]
  go_enter Try.func44, Try.ntmps44
  go_wp2_with (first | (go_at_call 23; refine (H.out _).mono ?_; rintro e w1 ⟨rfl, hbel⟩; obtain ⟨o1, j1, rfl⟩ := grow_of_below hbel; clear hbel))
  refine bodyPost_ret (by simp [results, Try.results44, go_sem]) rfl ⟨rfl, ?_⟩
  repeat (first | (with_reducible exact Below.refl _ _) | ((with_reducible refine below_grow ?_ ?_); rotate_left; focus (first | omega | (simp [go_sem]; done) | (simp [go_sem]; omega))) | ((with_reducible refine Below.alloc ?_ ?_ _); rotate_left; focus (first | omega | (simp [go_sem]; done) | (simp [go_sem]; omega))) | ((with_reducible refine Below.setCell ?_ ?_ _); rotate_left; focus (first | omega | (simp [go_sem]; done) | (simp [go_sem]; omega))) | (with_reducible refine Below.drew ?_) | (with_reducible refine below_drewN _ ?_))
/-- So many values make numbers below a. -/
def digs (a d : Nat) : Prop := 1 ≤ d ∧ d ≤ 4 ∧ a ≤ vp d ∧ ∀ i, 1 ≤ i → i < d → vp i < a
set_option maxRecDepth 100000 in
set_option maxHeartbeats 4000000 in
theorem digits_calls (a : Nat) (ha : isN a) (hk : a ≤ k120) (w : World) :
    Calls Try.prog 42 #[.agg #[.int .u32 (pt a 0), .int .u32 (pt a 1), .int .u32 (pt a 2), .int .u32 (pt a 3)]] w fun e w' => ∃ d : Nat, digs a d ∧ e = .returned (.tuple #[.int .i64 d, .agg #[.int .u32 (pt (vp d) 0), .int .u32 (pt (vp d) 1), .int .u32 (pt (vp d) 2), .int .u32 (pt (vp d) 3)]]) ∧ Below w.heap.size w w' := by
  go_enter Try.func42, Try.ntmps42
  go_upto_region 2 with fail
  go_loopw [4] (fun s4 wr => ∃ d : Nat, s4 = .int .i64 d ∧ 1 ≤ d ∧ d ≤ 4 ∧ (∀ i, 1 ≤ i → i < d → vp i < a) ∧ blk wr w.heap.size #[.int .u32 (pt a 0), .int .u32 (pt a 1), .int .u32 (pt a 2), .int .u32 (pt a 3)] 25 ∧ blk wr (w.heap.size + 1) #[.int .u32 0, .int .u32 0, .int .u32 0, .int .u32 0] 25 ∧ blk wr (w.heap.size + 1 + 1) #[.int .u32 (pt (vp d) 0), .int .u32 (pt (vp d) 1), .int .u32 (pt (vp d) 2), .int .u32 (pt (vp d) 3)] 25 ∧ Below w.heap.size w wr) (fun s4 _ => 4 - (intOf s4).toNat)
  case atStart => exact ⟨1, rfl, by decide, by decide, fun i h1 h2 => absurd h2 (by omega), blk_alloc (blk_alloc (blk_new _ _ _) _) _, blk_alloc (blk_at _ _ _ (by simp)) _, (by
    simp only [vp_one, v_pt.1, v_pt.2.1, v_pt.2.2.1, v_pt.2.2.2]
    exact blk_at _ _ _ (by simp)), by repeat (first | (with_reducible exact Below.refl _ _) | ((with_reducible refine below_grow ?_ ?_); rotate_left; focus (first | omega | (simp [go_sem]; done) | (simp [go_sem]; omega))) | ((with_reducible refine Below.alloc ?_ ?_ _); rotate_left; focus (first | omega | (simp [go_sem]; done) | (simp [go_sem]; omega))) | ((with_reducible refine Below.setCell ?_ ?_ _); rotate_left; focus (first | omega | (simp [go_sem]; done) | (simp [go_sem]; omega))) | (with_reducible refine Below.drew ?_) | (with_reducible refine below_drewN _ ?_))⟩
  case round =>
    obtain ⟨d, rfl, hd1, hd4, hlow, b0, b1, b2, hb⟩ := hrel
    have hvN := vp_isN d hd4
    have hvs := vp_succ d
    obtain ⟨v, hv⟩ : ∃ v, vp d = v := ⟨_, rfl⟩
    rw [hv] at b2 hvN hvs
    have p0 := blk_cell b0 0
    have p1 := blk_cell b0 1
    have p2 := blk_cell b0 2
    have p3 := blk_cell b0 3
    have q0 := blk_cell b2 0
    have q1 := blk_cell b2 1
    have q2 := blk_cell b2 2
    have q3 := blk_cell b2 3
    have r0 := blk_cell b1 0
    have r1 := blk_cell b1 1
    have r2 := blk_cell b1 2
    have r3 := blk_cell b1 3
    simp only [List.getElem?_toArray, List.getElem?_cons_zero, List.getElem?_cons_succ] at p0 p1 p2 p3 q0 q1 q2 q3 r0 r1 r2 r3
    have f0 := blk_free b2 0
    have f1 := blk_free b2 1
    have f2 := blk_free b2 2
    have f3 := blk_free b2 3
    have g0 := blk_free b1 0
    have g1 := blk_free b1 1
    have g2 := blk_free b1 2
    have g3 := blk_free b1 3
    have i0 : NeZero (inW w.heap.size wr) := inW_mk (blk_lt b0)
    have i1 : NeZero (inW (w.heap.size + 1) wr) := inW_mk (blk_lt b1)
    have i2 : NeZero (inW (w.heap.size + 1 + 1) wr) := inW_mk (blk_lt b2)
    have hbs := hb.size
    have hls := blk_lt b2
    by_cases hlt : v < a
    · have hd3 : d ≤ 3 := by
        by_cases e : d = 4
        · subst e
          have := k120_vp
          omega
        · omega
      have hmN := vp_isN (d + 1) (by omega)
      obtain ⟨m, hm⟩ : ∃ m, vp (d + 1) = m := ⟨_, rfl⟩
      rw [hm] at hvs hmN
      have H1 := Lib.hid (cmp_hyp v a (-1) hvN ha (by unfold cmpN; rw [if_pos hlt]))
      have H2 := Lib.hid (mulV v m hvN hvs.symm hmN)
      have HN := Lib.hid (show ∀ i, 1 ≤ i → i < d + 1 → vp i < a from fun i h1 h2 => by
        by_cases e : i = d
        · subst e; rw [hv]; exact hlt
        · exact hlow i h1 (by omega))
      have HM := Lib.hid hm
      clear hlow hvs hm hv hlt
      go_wp2_with (first | (go_at_call 20; refine (H1.out _).mono ?_; rintro e w1 ⟨rfl, hbel⟩; obtain ⟨o1, j1, rfl⟩ := grow_of_below hbel; clear hbel) | (go_at_call 22; refine (H2.out _ _ (by simp [go_sem, *]) (by simp [go_sem, *]) (by simp [go_sem, *]) (by simp [go_sem, *]) (by simp [go_sem, *]) (by simp [go_sem, *]) (by simp [go_sem, *]) (by simp [go_sem, *])).mono ?_; rintro e w2 ⟨rfl, hbel⟩; obtain ⟨o2, j2, rfl⟩ := grow_of_below hbel; clear hbel))
      go_roundw
      case rel =>
        refine ⟨d + 1, by go_num, by omega, by omega, HN.out, ?_, ?_, ?_, ?_⟩
        · repeat (first | (with_reducible exact b0) | (with_reducible exact set4 b0 _ _ _ _) | (with_reducible refine blk_grow ?_ _ _) | (with_reducible refine blk_alloc ?_ _) | (with_reducible refine blk_drew ?_) | (with_reducible refine blk_other ?_ (by (first | omega | (simp [go_sem]; done) | (simp [go_sem]; omega))) _))
        · repeat (first | (with_reducible exact b1) | (with_reducible exact set4 b1 _ _ _ _) | (with_reducible refine blk_grow ?_ _ _) | (with_reducible refine blk_alloc ?_ _) | (with_reducible refine blk_drew ?_) | (with_reducible refine blk_other ?_ (by (first | omega | (simp [go_sem]; done) | (simp [go_sem]; omega))) _))
        · rw [HM.out]
          repeat (first | (with_reducible exact b2) | (with_reducible exact set4 b2 _ _ _ _) | (with_reducible refine blk_grow ?_ _ _) | (with_reducible refine blk_alloc ?_ _) | (with_reducible refine blk_drew ?_) | (with_reducible refine blk_other ?_ (by (first | omega | (simp [go_sem]; done) | (simp [go_sem]; omega))) _))
        · repeat (first | (with_reducible exact hb) | ((with_reducible refine below_grow ?_ ?_); rotate_left; focus (first | omega | (simp [go_sem]; done) | (simp [go_sem]; omega))) | ((with_reducible refine Below.alloc ?_ ?_ _); rotate_left; focus (first | omega | (simp [go_sem]; done) | (simp [go_sem]; omega))) | ((with_reducible refine Below.setCell ?_ ?_ _); rotate_left; focus (first | omega | (simp [go_sem]; done) | (simp [go_sem]; omega))) | (with_reducible refine Below.drew ?_) | (with_reducible refine below_drewN _ ?_))
      case measure => simp [intOf]; omega
    · obtain ⟨c, hc, hc0⟩ : ∃ c : Int, cmpN v a = c ∧ 0 ≤ c := ⟨_, rfl, by unfold cmpN; rw [if_neg hlt]; split <;> decide⟩
      have H1 := Lib.hid (cmp_hyp v a c hvN ha hc)
      have HD := Lib.hid (show digs a d from ⟨hd1, hd4, by omega, hlow⟩)
      have HV := Lib.hid hv
      clear hlow hlt hc hv hvs
      go_wp2_with (first | (go_at_call 20; refine (H1.out _).mono ?_; rintro e w1 ⟨rfl, hbel⟩; obtain ⟨o1, j1, rfl⟩ := grow_of_below hbel; clear hbel))
      go_region
      all_goals go_wp2
      obtain rfl := HV.out
      have hD := HD
      clear HV hvN H1
      refine bodyPost_ret (by simp [results, Try.results42, go_sem, r0, r1, r2, r3]) rfl ⟨d, hD.out, rfl, ?_⟩
      repeat (first | (with_reducible exact hb) | ((with_reducible refine below_grow ?_ ?_); rotate_left; focus (first | omega | (simp [go_sem]; done) | (simp [go_sem]; omega))) | ((with_reducible refine Below.alloc ?_ ?_ _); rotate_left; focus (first | omega | (simp [go_sem]; done) | (simp [go_sem]; omega))) | ((with_reducible refine Below.setCell ?_ ?_ _); rotate_left; focus (first | omega | (simp [go_sem]; done) | (simp [go_sem]; omega))) | (with_reducible refine Below.drew ?_) | (with_reducible refine below_drewN _ ?_))
end Go.Proofs.Ytcgecgagecobeaa
