import Derived.Test.YtjhocgeoangbdaaNT
namespace Go.Proofs.Ytjhocgeoangbdaa
open Go.RowKit
set_option maxRecDepth 100000 in
set_option maxHeartbeats 16000000 in
theorem divides_pos (a b : Nat) (ha : isN a) (hb : isN b) (hb0 : b ≠ 0) (w : World) :
    Calls Try.prog 8 #[.agg #[.int .u32 (pt a 0), .int .u32 (pt a 1), .int .u32 (pt a 2), .int .u32 (pt a 3)], .agg #[.int .u32 (pt b 0), .int .u32 (pt b 1), .int .u32 (pt b 2), .int .u32 (pt b 3)]] w fun e w' => e = .returned (.bool true) ∧ Below w.heap.size w w' := by
  have hgp : 0 < Nat.gcd a b := Nat.gcd_pos_of_pos_right a (Nat.pos_of_ne_zero hb0)
  have hmod := Nat.mod_lt a (Nat.pos_of_ne_zero hb0)
  have hda := Nat.mod_eq_zero_of_dvd (Nat.gcd_dvd_left a b)
  have hdb := Nat.mod_eq_zero_of_dvd (Nat.gcd_dvd_right a b)
  have hcop : Nat.gcd (a / Nat.gcd a b) (b / Nat.gcd a b) = 1 := by rw [Nat.gcd_div (Nat.gcd_dvd_left a b) (Nat.gcd_dvd_right a b), Nat.div_self hgp]
  have hdm := Nat.div_add_mod a b
  rw [Nat.mul_comm] at hdm
  obtain ⟨g, hg⟩ : ∃ g, Nat.gcd a b = g := ⟨_, rfl⟩
  have hgN : isN g := by rw [← hg]; exact gcd_isN ha hb
  rw [hg] at hgp hda hdb hcop
  have hg0 : g ≠ 0 := by omega
  obtain ⟨q, hq⟩ : ∃ q, a / b = q := ⟨_, rfl⟩
  obtain ⟨r, hr⟩ : ∃ r, a % b = r := ⟨_, rfl⟩
  have hqN : isN q := by rw [← hq]; exact div_isN ha
  have hrN : isN r := by rw [← hr]; exact mod_isN ha
  rw [hq, hr] at hdm
  rw [hr] at hmod
  obtain ⟨m, hm⟩ : ∃ m, q * b = m := ⟨_, rfl⟩
  rw [hm] at hdm
  have hmN : isN m := by unfold isN at *; omega
  obtain ⟨x, hx⟩ : ∃ x, a / g = x := ⟨_, rfl⟩
  obtain ⟨y, hy⟩ : ∃ y, b / g = y := ⟨_, rfl⟩
  have hxN : isN x := by rw [← hx]; exact div_isN ha
  have hyN : isN y := by rw [← hy]; exact div_isN hb
  rw [hx, hy] at hcop
  have H1 := Lib.hid (gcd_hyp a b g ha hb hg)
  have H2 := Lib.hid (div_hyp a b q r ha hb hb0 hq hr)
  have H3 := Lib.hid (mul_hyp q b m hqN hb hm hmN)
  have H4 := Lib.hid (add_hyp m r a hmN hrN hdm ha)
  have H5 := Lib.hid (div_hyp0 a g x ha hgN hg0 hx hda)
  have H6 := Lib.hid (div_hyp0 b g y hb hgN hg0 hy hdb)
  have H7 := Lib.hid (cmp_hyp r b (-1) hrN hb (if_pos hmod))
  have H8 := Lib.hid (gcd_hyp1 x y hxN hyN hcop)
  have hE1 : ∀ w, (Op.equalIn 10000 24 (.agg #[.int .u32 1, .int .u32 0, .int .u32 0, .int .u32 0]) (.agg #[.int .u32 1, .int .u32 0, .int .u32 0, .int .u32 0])).run Try.prog w = .ok true w := fun w => by rw [eqN]; simp
  have hZ := eqZZ
  have hd : decide (b = 0) = false := by simp [hb0]
  have hb0' := Lib.hid hb0
  clear hdm hmod hda hdb hcop hg hq hr hm hx hy hgp hg0 hb0
  go_enter Try.func8, Try.ntmps8
  go_upto_region 3 with (first | (go_at_call 13; refine (awake_calls _).mono ?_; rintro e w1 ⟨rfl, hbel⟩; obtain ⟨o1, j1, rfl⟩ := grow_of_below hbel; clear hbel))
  go_upto_region 8 with (first | (go_at_call 20; refine (H1.out _).mono ?_; rintro e w2 ⟨rfl, hbel⟩; obtain ⟨o2, j2, rfl⟩ := grow_of_below hbel; clear hbel) | (go_at_call 21; refine (H2.out _).mono ?_; rintro e w3 ⟨rfl, hbel⟩; obtain ⟨o3, j3, rfl⟩ := grow_of_below hbel; clear hbel))
  go_upto_region 10 with (first | (go_at_call 19; refine (H3.out _ _ (by simp [go_sem]) (by simp [go_sem]) (by simp [go_sem]) (by simp [go_sem]) (by simp [go_sem]) (by simp [go_sem]) (by simp [go_sem]) (by simp [go_sem])).mono ?_; rintro e w4 ⟨rfl, hbel⟩; obtain ⟨o4, j4, rfl⟩ := grow_of_below hbel; clear hbel) | (go_at_call 17; refine (H4.out _).mono ?_; rintro e w5 ⟨rfl, hbel⟩; obtain ⟨o5, j5, rfl⟩ := grow_of_below hbel; clear hbel))
  go_upto_region 11 with (first | (go_at_call 21; refine (H5.out _).mono ?_; rintro e w6 ⟨rfl, hbel⟩; obtain ⟨o6, j6, rfl⟩ := grow_of_below hbel; clear hbel))
  go_upto_region 12 with (first | (go_at_call 21; refine (H6.out _).mono ?_; rintro e w7 ⟨rfl, hbel⟩; obtain ⟨o7, j7, rfl⟩ := grow_of_below hbel; clear hbel))
  go_upto_region 14 with (first | (go_at_call 22; refine (H7.out _).mono ?_; rintro e w8 ⟨rfl, hbel⟩; obtain ⟨o8, j8, rfl⟩ := grow_of_below hbel; clear hbel) | (go_at_call 20; refine (H8.out _).mono ?_; rintro e w9 ⟨rfl, hbel⟩; obtain ⟨o9, j9, rfl⟩ := grow_of_below hbel; clear hbel))
  clear H1 H2 H3 H4 H5 H6 H7 H8
  by_cases hadd : isN (a + b)
  rotate_left
  · have H9 := Lib.hid (add_hyp_no a b ha hb hadd)
    clear hadd
    go_upto_region 19 with (first | (go_at_call 17; refine (H9.out _).mono ?_; rintro e w10 ⟨rfl, hbel⟩; obtain ⟨o10, j10, rfl⟩ := grow_of_below hbel; clear hbel))
    clear H9
    by_cases hmul : isN (a * b)
    rotate_left
    · have H9 := Lib.hid (mul_hyp_no a b ha hb hmul)
      clear hmul
      go_upto_region 24 with (first | (go_at_call 19; refine (H9.out _ _ (by simp [go_sem]) (by simp [go_sem]) (by simp [go_sem]) (by simp [go_sem]) (by simp [go_sem]) (by simp [go_sem]) (by simp [go_sem]) (by simp [go_sem])).mono ?_; rintro e w12 ⟨rfl, hbel⟩; obtain ⟨o12, j12, rfl⟩ := grow_of_below hbel; clear hbel))
      clear H9
      by_cases hlt : a < b
      · have H9 := Lib.hid (sub_hyp_no a b ha hb hlt)
        have HC := Lib.hid (cmp_hyp a b (-1) ha hb (if_pos hlt))
        clear hlt
        go_wp2_with (first | (go_at_call 23; refine (H9.out _).mono ?_; rintro e w14 ⟨rfl, hbel⟩; obtain ⟨o14, j14, rfl⟩ := grow_of_below hbel; clear hbel) | (go_at_call 22; refine (HC.out _).mono ?_; rintro e w15 ⟨rfl, hbel⟩; obtain ⟨o15, j15, rfl⟩ := grow_of_below hbel; clear hbel))
        go_ret
        exact ⟨rfl, by repeat (first | (with_reducible exact Below.refl _ _) | ((with_reducible refine below_grow ?_ ?_); rotate_left; focus (first | omega | (simp [go_sem]; done) | (simp [go_sem]; omega))) | ((with_reducible refine Below.alloc ?_ ?_ _); rotate_left; focus (first | omega | (simp [go_sem]; done) | (simp [go_sem]; omega))) | ((with_reducible refine Below.setCell ?_ ?_ _); rotate_left; focus (first | omega | (simp [go_sem]; done) | (simp [go_sem]; omega))) | (with_reducible refine Below.drew ?_) | (with_reducible refine below_drewN _ ?_))⟩
      · obtain ⟨d, hd⟩ : ∃ d, a - b = d := ⟨_, rfl⟩
        have H9 := Lib.hid (sub_hyp a b d ha hb hd (by omega))
        have hdN : isN d := by unfold isN at *; omega
        obtain ⟨c, hc⟩ : ∃ c, cmpN a b = c := ⟨_, rfl⟩
        have hc0 : 0 ≤ c := by rw [← hc]; unfold cmpN; rw [if_neg hlt]; split <;> decide
        have hc1 : decide (c < 0) = false := by simp; exact hc0
        have HC := Lib.hid (cmp_hyp a b c ha hb hc)
        clear hlt hc hd
        go_wp2_with (first | (go_at_call 23; refine (H9.out _).mono ?_; rintro e w14 ⟨rfl, hbel⟩; obtain ⟨o14, j14, rfl⟩ := grow_of_below hbel; clear hbel) | (go_at_call 22; refine (HC.out _).mono ?_; rintro e w15 ⟨rfl, hbel⟩; obtain ⟨o15, j15, rfl⟩ := grow_of_below hbel; clear hbel))
        go_ret
        exact ⟨rfl, by repeat (first | (with_reducible exact Below.refl _ _) | ((with_reducible refine below_grow ?_ ?_); rotate_left; focus (first | omega | (simp [go_sem]; done) | (simp [go_sem]; omega))) | ((with_reducible refine Below.alloc ?_ ?_ _); rotate_left; focus (first | omega | (simp [go_sem]; done) | (simp [go_sem]; omega))) | ((with_reducible refine Below.setCell ?_ ?_ _); rotate_left; focus (first | omega | (simp [go_sem]; done) | (simp [go_sem]; omega))) | (with_reducible refine Below.drew ?_) | (with_reducible refine below_drewN _ ?_))⟩
    · obtain ⟨s2, hs⟩ : ∃ s, a * b = s := ⟨_, rfl⟩
      rw [hs] at hmul
      have H9 := Lib.hid (mul_hyp a b s2 ha hb hs hmul)
      have HA2 := Lib.hid (div_hyp0 s2 b a hmul hb hb0'.out (by rw [← hs, Nat.mul_div_cancel _ (Nat.pos_of_ne_zero hb0'.out)]) (by rw [← hs, Nat.mul_mod_left]))
      clear hs
      go_upto_region 24 with (first | (go_at_call 19; refine (H9.out _ _ (by simp [go_sem]) (by simp [go_sem]) (by simp [go_sem]) (by simp [go_sem]) (by simp [go_sem]) (by simp [go_sem]) (by simp [go_sem]) (by simp [go_sem])).mono ?_; rintro e w12 ⟨rfl, hbel⟩; obtain ⟨o12, j12, rfl⟩ := grow_of_below hbel; clear hbel) | (go_at_call 21; refine (HA2.out _).mono ?_; rintro e w13 ⟨rfl, hbel⟩; obtain ⟨o13, j13, rfl⟩ := grow_of_below hbel; clear hbel))
      clear H9
      by_cases hlt : a < b
      · have H9 := Lib.hid (sub_hyp_no a b ha hb hlt)
        have HC := Lib.hid (cmp_hyp a b (-1) ha hb (if_pos hlt))
        clear hlt
        go_wp2_with (first | (go_at_call 23; refine (H9.out _).mono ?_; rintro e w14 ⟨rfl, hbel⟩; obtain ⟨o14, j14, rfl⟩ := grow_of_below hbel; clear hbel) | (go_at_call 22; refine (HC.out _).mono ?_; rintro e w15 ⟨rfl, hbel⟩; obtain ⟨o15, j15, rfl⟩ := grow_of_below hbel; clear hbel))
        go_ret
        exact ⟨rfl, by repeat (first | (with_reducible exact Below.refl _ _) | ((with_reducible refine below_grow ?_ ?_); rotate_left; focus (first | omega | (simp [go_sem]; done) | (simp [go_sem]; omega))) | ((with_reducible refine Below.alloc ?_ ?_ _); rotate_left; focus (first | omega | (simp [go_sem]; done) | (simp [go_sem]; omega))) | ((with_reducible refine Below.setCell ?_ ?_ _); rotate_left; focus (first | omega | (simp [go_sem]; done) | (simp [go_sem]; omega))) | (with_reducible refine Below.drew ?_) | (with_reducible refine below_drewN _ ?_))⟩
      · obtain ⟨d, hd⟩ : ∃ d, a - b = d := ⟨_, rfl⟩
        have H9 := Lib.hid (sub_hyp a b d ha hb hd (by omega))
        have hdN : isN d := by unfold isN at *; omega
        obtain ⟨c, hc⟩ : ∃ c, cmpN a b = c := ⟨_, rfl⟩
        have hc0 : 0 ≤ c := by rw [← hc]; unfold cmpN; rw [if_neg hlt]; split <;> decide
        have hc1 : decide (c < 0) = false := by simp; exact hc0
        have HC := Lib.hid (cmp_hyp a b c ha hb hc)
        clear hlt hc hd
        go_wp2_with (first | (go_at_call 23; refine (H9.out _).mono ?_; rintro e w14 ⟨rfl, hbel⟩; obtain ⟨o14, j14, rfl⟩ := grow_of_below hbel; clear hbel) | (go_at_call 22; refine (HC.out _).mono ?_; rintro e w15 ⟨rfl, hbel⟩; obtain ⟨o15, j15, rfl⟩ := grow_of_below hbel; clear hbel))
        go_ret
        exact ⟨rfl, by repeat (first | (with_reducible exact Below.refl _ _) | ((with_reducible refine below_grow ?_ ?_); rotate_left; focus (first | omega | (simp [go_sem]; done) | (simp [go_sem]; omega))) | ((with_reducible refine Below.alloc ?_ ?_ _); rotate_left; focus (first | omega | (simp [go_sem]; done) | (simp [go_sem]; omega))) | ((with_reducible refine Below.setCell ?_ ?_ _); rotate_left; focus (first | omega | (simp [go_sem]; done) | (simp [go_sem]; omega))) | (with_reducible refine Below.drew ?_) | (with_reducible refine below_drewN _ ?_))⟩
  · obtain ⟨s, hs⟩ : ∃ s, a + b = s := ⟨_, rfl⟩
    rw [hs] at hadd
    have H9 := Lib.hid (add_hyp a b s ha hb hs hadd)
    have HA := Lib.hid (sub_hyp s b a hadd hb (by omega) (by omega))
    clear hs
    go_upto_region 19 with (first | (go_at_call 17; refine (H9.out _).mono ?_; rintro e w10 ⟨rfl, hbel⟩; obtain ⟨o10, j10, rfl⟩ := grow_of_below hbel; clear hbel) | (go_at_call 23; refine (HA.out _).mono ?_; rintro e w11 ⟨rfl, hbel⟩; obtain ⟨o11, j11, rfl⟩ := grow_of_below hbel; clear hbel))
    clear H9
    by_cases hmul : isN (a * b)
    rotate_left
    · have H9 := Lib.hid (mul_hyp_no a b ha hb hmul)
      clear hmul
      go_upto_region 24 with (first | (go_at_call 19; refine (H9.out _ _ (by simp [go_sem]) (by simp [go_sem]) (by simp [go_sem]) (by simp [go_sem]) (by simp [go_sem]) (by simp [go_sem]) (by simp [go_sem]) (by simp [go_sem])).mono ?_; rintro e w12 ⟨rfl, hbel⟩; obtain ⟨o12, j12, rfl⟩ := grow_of_below hbel; clear hbel))
      clear H9
      by_cases hlt : a < b
      · have H9 := Lib.hid (sub_hyp_no a b ha hb hlt)
        have HC := Lib.hid (cmp_hyp a b (-1) ha hb (if_pos hlt))
        clear hlt
        go_wp2_with (first | (go_at_call 23; refine (H9.out _).mono ?_; rintro e w14 ⟨rfl, hbel⟩; obtain ⟨o14, j14, rfl⟩ := grow_of_below hbel; clear hbel) | (go_at_call 22; refine (HC.out _).mono ?_; rintro e w15 ⟨rfl, hbel⟩; obtain ⟨o15, j15, rfl⟩ := grow_of_below hbel; clear hbel))
        go_ret
        exact ⟨rfl, by repeat (first | (with_reducible exact Below.refl _ _) | ((with_reducible refine below_grow ?_ ?_); rotate_left; focus (first | omega | (simp [go_sem]; done) | (simp [go_sem]; omega))) | ((with_reducible refine Below.alloc ?_ ?_ _); rotate_left; focus (first | omega | (simp [go_sem]; done) | (simp [go_sem]; omega))) | ((with_reducible refine Below.setCell ?_ ?_ _); rotate_left; focus (first | omega | (simp [go_sem]; done) | (simp [go_sem]; omega))) | (with_reducible refine Below.drew ?_) | (with_reducible refine below_drewN _ ?_))⟩
      · obtain ⟨d, hd⟩ : ∃ d, a - b = d := ⟨_, rfl⟩
        have H9 := Lib.hid (sub_hyp a b d ha hb hd (by omega))
        have hdN : isN d := by unfold isN at *; omega
        obtain ⟨c, hc⟩ : ∃ c, cmpN a b = c := ⟨_, rfl⟩
        have hc0 : 0 ≤ c := by rw [← hc]; unfold cmpN; rw [if_neg hlt]; split <;> decide
        have hc1 : decide (c < 0) = false := by simp; exact hc0
        have HC := Lib.hid (cmp_hyp a b c ha hb hc)
        clear hlt hc hd
        go_wp2_with (first | (go_at_call 23; refine (H9.out _).mono ?_; rintro e w14 ⟨rfl, hbel⟩; obtain ⟨o14, j14, rfl⟩ := grow_of_below hbel; clear hbel) | (go_at_call 22; refine (HC.out _).mono ?_; rintro e w15 ⟨rfl, hbel⟩; obtain ⟨o15, j15, rfl⟩ := grow_of_below hbel; clear hbel))
        go_ret
        exact ⟨rfl, by repeat (first | (with_reducible exact Below.refl _ _) | ((with_reducible refine below_grow ?_ ?_); rotate_left; focus (first | omega | (simp [go_sem]; done) | (simp [go_sem]; omega))) | ((with_reducible refine Below.alloc ?_ ?_ _); rotate_left; focus (first | omega | (simp [go_sem]; done) | (simp [go_sem]; omega))) | ((with_reducible refine Below.setCell ?_ ?_ _); rotate_left; focus (first | omega | (simp [go_sem]; done) | (simp [go_sem]; omega))) | (with_reducible refine Below.drew ?_) | (with_reducible refine below_drewN _ ?_))⟩
    · obtain ⟨s2, hs⟩ : ∃ s, a * b = s := ⟨_, rfl⟩
      rw [hs] at hmul
      have H9 := Lib.hid (mul_hyp a b s2 ha hb hs hmul)
      have HA2 := Lib.hid (div_hyp0 s2 b a hmul hb hb0'.out (by rw [← hs, Nat.mul_div_cancel _ (Nat.pos_of_ne_zero hb0'.out)]) (by rw [← hs, Nat.mul_mod_left]))
      clear hs
      go_upto_region 24 with (first | (go_at_call 19; refine (H9.out _ _ (by simp [go_sem]) (by simp [go_sem]) (by simp [go_sem]) (by simp [go_sem]) (by simp [go_sem]) (by simp [go_sem]) (by simp [go_sem]) (by simp [go_sem])).mono ?_; rintro e w12 ⟨rfl, hbel⟩; obtain ⟨o12, j12, rfl⟩ := grow_of_below hbel; clear hbel) | (go_at_call 21; refine (HA2.out _).mono ?_; rintro e w13 ⟨rfl, hbel⟩; obtain ⟨o13, j13, rfl⟩ := grow_of_below hbel; clear hbel))
      clear H9
      by_cases hlt : a < b
      · have H9 := Lib.hid (sub_hyp_no a b ha hb hlt)
        have HC := Lib.hid (cmp_hyp a b (-1) ha hb (if_pos hlt))
        clear hlt
        go_wp2_with (first | (go_at_call 23; refine (H9.out _).mono ?_; rintro e w14 ⟨rfl, hbel⟩; obtain ⟨o14, j14, rfl⟩ := grow_of_below hbel; clear hbel) | (go_at_call 22; refine (HC.out _).mono ?_; rintro e w15 ⟨rfl, hbel⟩; obtain ⟨o15, j15, rfl⟩ := grow_of_below hbel; clear hbel))
        go_ret
        exact ⟨rfl, by repeat (first | (with_reducible exact Below.refl _ _) | ((with_reducible refine below_grow ?_ ?_); rotate_left; focus (first | omega | (simp [go_sem]; done) | (simp [go_sem]; omega))) | ((with_reducible refine Below.alloc ?_ ?_ _); rotate_left; focus (first | omega | (simp [go_sem]; done) | (simp [go_sem]; omega))) | ((with_reducible refine Below.setCell ?_ ?_ _); rotate_left; focus (first | omega | (simp [go_sem]; done) | (simp [go_sem]; omega))) | (with_reducible refine Below.drew ?_) | (with_reducible refine below_drewN _ ?_))⟩
      · obtain ⟨d, hd⟩ : ∃ d, a - b = d := ⟨_, rfl⟩
        have H9 := Lib.hid (sub_hyp a b d ha hb hd (by omega))
        have hdN : isN d := by unfold isN at *; omega
        obtain ⟨c, hc⟩ : ∃ c, cmpN a b = c := ⟨_, rfl⟩
        have hc0 : 0 ≤ c := by rw [← hc]; unfold cmpN; rw [if_neg hlt]; split <;> decide
        have hc1 : decide (c < 0) = false := by simp; exact hc0
        have HC := Lib.hid (cmp_hyp a b c ha hb hc)
        clear hlt hc hd
        go_wp2_with (first | (go_at_call 23; refine (H9.out _).mono ?_; rintro e w14 ⟨rfl, hbel⟩; obtain ⟨o14, j14, rfl⟩ := grow_of_below hbel; clear hbel) | (go_at_call 22; refine (HC.out _).mono ?_; rintro e w15 ⟨rfl, hbel⟩; obtain ⟨o15, j15, rfl⟩ := grow_of_below hbel; clear hbel))
        go_ret
        exact ⟨rfl, by repeat (first | (with_reducible exact Below.refl _ _) | ((with_reducible refine below_grow ?_ ?_); rotate_left; focus (first | omega | (simp [go_sem]; done) | (simp [go_sem]; omega))) | ((with_reducible refine Below.alloc ?_ ?_ _); rotate_left; focus (first | omega | (simp [go_sem]; done) | (simp [go_sem]; omega))) | ((with_reducible refine Below.setCell ?_ ?_ _); rotate_left; focus (first | omega | (simp [go_sem]; done) | (simp [go_sem]; omega))) | (with_reducible refine Below.drew ?_) | (with_reducible refine below_drewN _ ?_))⟩
end Go.Proofs.Ytjhocgeoangbdaa
