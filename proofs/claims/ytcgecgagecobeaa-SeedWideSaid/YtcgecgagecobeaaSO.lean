/- BelowNat: the whole. -/
import Derived.Test.YtcgecgagecobeaaSN
import Derived.Deep.DeepCutAuto
namespace Go.Proofs.Ytcgecgagecobeaa
open Go.RowKit Go.Shelf

def limV (a d : Nat) : Nat := vp d - vp d % a
theorem digs_pos {a d : Nat} (h : digs a d) : d ≤ 4 := h.2.1
set_option maxRecDepth 100000 in
set_option maxHeartbeats 8000000 in
theorem belowNat_yes (s a : Nat) (hs : St s) (ha : isN a) (h0 : a ≠ 0) (hk : a ≤ k120) (w : World) :
    Calls Try.prog 19 #[.int .i64 s, .agg #[.int .u32 (pt a 0), .int .u32 (pt a 1), .int .u32 (pt a 2), .int .u32 (pt a 3)]] w fun e w' => ∃ d, digs a d ∧ e = .returned (.tuple #[.int .i64 (fsN (limV a d) d 100 s).1, .agg #[.int .u32 (pt ((fsN (limV a d) d 100 s).2 % a) 0), .int .u32 (pt ((fsN (limV a d) d 100 s).2 % a) 1), .int .u32 (pt ((fsN (limV a d) d 100 s).2 % a) 2), .int .u32 (pt ((fsN (limV a d) d 100 s).2 % a) 3)], .int .i64 0]) ∧ Below w.heap.size w w' := by
  have R1 := Lib.hid (right_yes s hs)
  obtain ⟨c, hc, hc0⟩ : ∃ c : Int, cmpN a k120 = c ∧ c ≤ 0 := ⟨_, rfl, by unfold cmpN; split; (· decide); (· rw [if_neg (by omega)]; decide)⟩
  have R2 := Lib.hid (cmp_k120 a c ha hc)
  have R3 := Lib.hid (digits_calls a ha hk)
  have hd : decide (a = 0) = false := decide_eq_false h0
  have hx := Lib.hid h0
  clear h0 hc
  go_enter Try.func19, Try.ntmps19
  go_upto_region 3 with (first | (go_at_call 16; refine (R1.out _).mono ?_; rintro e w1 ⟨rfl, rfl⟩) | (go_at_call 20; refine (R2.out _).mono ?_; rintro e w2 ⟨rfl, hbel⟩; obtain ⟨o2, j2, rfl⟩ := grow_of_below hbel; clear hbel))
  clear R1 R2
  go_cut [7, 8] (fun s7 s8 wx => ∃ d p q : Nat, digs a d ∧ s7 = .pointer (some ⟨p, 0, none⟩) ∧ s8 = .pointer (some ⟨q, 0, none⟩) ∧ blk wx p #[.int .i64 d] 3 ∧ blk wx q #[.int .u32 (pt (vp d) 0), .int .u32 (pt (vp d) 1), .int .u32 (pt (vp d) 2), .int .u32 (pt (vp d) 3)] 25 ∧ blk wx w.heap.size #[.int .u32 (pt a 0), .int .u32 (pt a 1), .int .u32 (pt a 2), .int .u32 (pt a 3)] 25 ∧ blk wx (w.heap.size + 1) #[.int .u32 0, .int .u32 0, .int .u32 0, .int .u32 0] 25 ∧ w.heap.size + 1 < p ∧ w.heap.size + 1 < q ∧ p ≠ q ∧ Below w.heap.size w wx)
  case first =>
    go_wp2_with (first | (go_at_call 42; refine (R3.out _).mono ?_; rintro e w3 ⟨d, hdg, rfl, hbel⟩; obtain ⟨o3, j3, rfl⟩ := grow_of_below hbel; clear hbel))
    go_meet
    refine ⟨d, _, _, hdg, rfl, rfl, ?_, ?_, ?_, ?_, ?_, ?_, ?_, ?_⟩
    · exact blk_alloc (blk_at _ _ _ (by simp [go_sem])) _
    · exact blk_at _ _ _ (by simp [go_sem])
    · have z0 : blk ((w.alloc (.cells #[.int .u32 (pt a 0), .int .u32 (pt a 1), .int .u32 (pt a 2), .int .u32 (pt a 3)] 25)).alloc (.cells #[.int .u32 0, .int .u32 0, .int .u32 0, .int .u32 0] 25)) w.heap.size #[.int .u32 (pt a 0), .int .u32 (pt a 1), .int .u32 (pt a 2), .int .u32 (pt a 3)] 25 := blk_alloc (blk_new _ _ _) _
      repeat (first | (with_reducible exact z0) | (with_reducible exact set4 z0 _ _ _ _) | (with_reducible refine blk_grow ?_ _ _) | (with_reducible refine blk_alloc ?_ _) | (with_reducible refine blk_drew ?_) | (with_reducible refine blk_other ?_ (by (first | omega | (simp [go_sem]; done) | (simp [go_sem]; omega))) _))
    · have z1 : blk ((w.alloc (.cells #[.int .u32 (pt a 0), .int .u32 (pt a 1), .int .u32 (pt a 2), .int .u32 (pt a 3)] 25)).alloc (.cells #[.int .u32 0, .int .u32 0, .int .u32 0, .int .u32 0] 25)) (w.heap.size + 1) #[.int .u32 0, .int .u32 0, .int .u32 0, .int .u32 0] 25 := blk_at _ _ _ (by simp)
      repeat (first | (with_reducible exact z1) | (with_reducible exact set4 z1 _ _ _ _) | (with_reducible refine blk_grow ?_ _ _) | (with_reducible refine blk_alloc ?_ _) | (with_reducible refine blk_drew ?_) | (with_reducible refine blk_other ?_ (by (first | omega | (simp [go_sem]; done) | (simp [go_sem]; omega))) _))
    · omega
    · omega
    · omega
    · repeat (first | (with_reducible exact Below.refl _ _) | ((with_reducible refine below_grow ?_ ?_); rotate_left; focus (first | omega | (simp [go_sem]; done) | (simp [go_sem]; omega))) | ((with_reducible refine Below.alloc ?_ ?_ _); rotate_left; focus (first | omega | (simp [go_sem]; done) | (simp [go_sem]; omega))) | ((with_reducible refine Below.setCell ?_ ?_ _); rotate_left; focus (first | omega | (simp [go_sem]; done) | (simp [go_sem]; omega))) | (with_reducible refine Below.drew ?_) | (with_reducible refine below_drewN _ ?_))
  case rest =>
    obtain ⟨d, p, q, hdg, rfl, rfl, bp, bq, b0, b1, hp, hq, hpq, hb⟩ := hcut
    clear R3
    have hd4 := digs_pos hdg
    have hvN := vp_isN d hd4
    have h0 := hx.out
    obtain ⟨v, hv⟩ : ∃ v, vp d = v := ⟨_, rfl⟩
    rw [hv] at bq hvN
    obtain ⟨r, hr⟩ : ∃ r, v % a = r := ⟨_, rfl⟩
    have hrv : r ≤ v := by rw [← hr]; exact Nat.mod_le _ _
    obtain ⟨L, hL⟩ : ∃ L, v - r = L := ⟨_, rfl⟩
    have hrN : isN r := by unfold isN at *; omega
    have hLN : isN L := by unfold isN at *; omega
    have hlim : limV a d = L := by unfold limV; rw [hv, hr, hL]
    have H1 := Lib.hid (fun w => hr ▸ modulo_calls v a hvN ha h0 w)
    have H2 := Lib.hid (sub_hyp v r L hvN hrN hL hrv)
    have HL := Lib.hid hlim
    clear hv hr hL hlim hrv h0
    have p0 := blk_cell bp 0
    have q0 := blk_cell bq 0
    have q1 := blk_cell bq 1
    have q2 := blk_cell bq 2
    have q3 := blk_cell bq 3
    have a0 := blk_cell b0 0
    have a1 := blk_cell b0 1
    have a2 := blk_cell b0 2
    have a3 := blk_cell b0 3
    have z0 := blk_cell b1 0
    have z1 := blk_cell b1 1
    have z2 := blk_cell b1 2
    have z3 := blk_cell b1 3
    simp only [List.getElem?_toArray, List.getElem?_cons_zero, List.getElem?_cons_succ] at p0 q0 q1 q2 q3 a0 a1 a2 a3 z0 z1 z2 z3
    have f0 := blk_free b1 0
    have f1 := blk_free b1 1
    have f2 := blk_free b1 2
    have f3 := blk_free b1 3
    have iP : NeZero (inW p wc) := inW_mk (blk_lt bp)
    have iQ : NeZero (inW q wc) := inW_mk (blk_lt bq)
    have i0 : NeZero (inW w.heap.size wc) := inW_mk (blk_lt b0)
    have i1 : NeZero (inW (w.heap.size + 1) wc) := inW_mk (blk_lt b1)
    have hbs := hb.size
    go_upto_region 4 with fail
    go_cut [9] (fun s9 wx => ∃ r : Nat, s9 = .pointer (some ⟨r, 0, none⟩) ∧ blk wx r #[.int .u32 (pt L 0), .int .u32 (pt L 1), .int .u32 (pt L 2), .int .u32 (pt L 3)] 25 ∧ blk wx p #[.int .i64 d] 3 ∧ blk wx w.heap.size #[.int .u32 (pt a 0), .int .u32 (pt a 1), .int .u32 (pt a 2), .int .u32 (pt a 3)] 25 ∧ blk wx (w.heap.size + 1) #[.int .u32 0, .int .u32 0, .int .u32 0, .int .u32 0] 25 ∧ Below w.heap.size w wx)
    case first =>
      go_region_held3 (fun w' => w'.cell? ⟨q, 0, none⟩ = some (.int .u32 (pt v 0)) ∧ w'.cell? ⟨q, 1, none⟩ = some (.int .u32 (pt v 1)) ∧ w'.cell? ⟨q, 2, none⟩ = some (.int .u32 (pt v 2)) ∧ w'.cell? ⟨q, 3, none⟩ = some (.int .u32 (pt v 3)) ∧ w'.cell? ⟨w.heap.size, 0, none⟩ = some (.int .u32 (pt a 0)) ∧ w'.cell? ⟨w.heap.size, 1, none⟩ = some (.int .u32 (pt a 1)) ∧ w'.cell? ⟨w.heap.size, 2, none⟩ = some (.int .u32 (pt a 2)) ∧ w'.cell? ⟨w.heap.size, 3, none⟩ = some (.int .u32 (pt a 3))) (simp [*, go_sem]) (first | (go_at_call 44; refine (H1.out _).mono ?_; rintro e w4 ⟨rfl, hbel⟩; obtain ⟨o4, j4, rfl⟩ := grow_of_below hbel; clear hbel) | (go_at_call 43; refine (H2.out _).mono ?_; rintro e w5 ⟨rfl, hbel⟩; obtain ⟨o5, j5, rfl⟩ := grow_of_below hbel; clear hbel))
      all_goals go_wp2
      all_goals go_meet
      all_goals
        refine ⟨_, rfl, ?_, ?_, ?_, ?_, ?_⟩
        · repeat (with_reducible refine blk_grow ?_ _ _)
          exact blk_at _ _ _ (by simp [go_sem])
        · repeat (first | (with_reducible exact bp) | (with_reducible exact set4 bp _ _ _ _) | (with_reducible refine blk_grow ?_ _ _) | (with_reducible refine blk_alloc ?_ _) | (with_reducible refine blk_drew ?_) | (with_reducible refine blk_other ?_ (by (first | omega | (simp [go_sem]; done) | (simp [go_sem]; omega))) _))
        · repeat (first | (with_reducible exact b0) | (with_reducible exact set4 b0 _ _ _ _) | (with_reducible refine blk_grow ?_ _ _) | (with_reducible refine blk_alloc ?_ _) | (with_reducible refine blk_drew ?_) | (with_reducible refine blk_other ?_ (by (first | omega | (simp [go_sem]; done) | (simp [go_sem]; omega))) _))
        · repeat (first | (with_reducible exact b1) | (with_reducible exact set4 b1 _ _ _ _) | (with_reducible refine blk_grow ?_ _ _) | (with_reducible refine blk_alloc ?_ _) | (with_reducible refine blk_drew ?_) | (with_reducible refine blk_other ?_ (by (first | omega | (simp [go_sem]; done) | (simp [go_sem]; omega))) _))
        · repeat (first | (with_reducible exact hb) | ((with_reducible refine below_grow ?_ ?_); rotate_left; focus (first | omega | (simp [go_sem]; done) | (simp [go_sem]; omega))) | ((with_reducible refine Below.alloc ?_ ?_ _); rotate_left; focus (first | omega | (simp [go_sem]; done) | (simp [go_sem]; omega))) | ((with_reducible refine Below.setCell ?_ ?_ _); rotate_left; focus (first | omega | (simp [go_sem]; done) | (simp [go_sem]; omega))) | (with_reducible refine Below.drew ?_) | (with_reducible refine below_drewN _ ?_))
    case rest =>
      clear H1 H2 q0 q1 q2 q3 bq iQ i0 i1 iP hbs p0 a0 a1 a2 a3 z0 z1 z2 z3 f0 f1 f2 f3 bp b0 b1 hb
      obtain ⟨r, rfl, br, bp, b0, b1, hb⟩ := hcut
      have p0 := blk_cell bp 0
      have q0 := blk_cell br 0
      have q1 := blk_cell br 1
      have q2 := blk_cell br 2
      have q3 := blk_cell br 3
      have a0 := blk_cell b0 0
      have a1 := blk_cell b0 1
      have a2 := blk_cell b0 2
      have a3 := blk_cell b0 3
      have z0 := blk_cell b1 0
      have z1 := blk_cell b1 1
      have z2 := blk_cell b1 2
      have z3 := blk_cell b1 3
      simp only [List.getElem?_toArray, List.getElem?_cons_zero, List.getElem?_cons_succ] at p0 q0 q1 q2 q3 a0 a1 a2 a3 z0 z1 z2 z3
      have f0 := blk_free b1 0
      have f1 := blk_free b1 1
      have f2 := blk_free b1 2
      have f3 := blk_free b1 3
      have iP : NeZero (inW p wc) := inW_mk (blk_lt bp)
      have iR : NeZero (inW r wc) := inW_mk (blk_lt br)
      have i0 : NeZero (inW w.heap.size wc) := inW_mk (blk_lt b0)
      have i1 : NeZero (inW (w.heap.size + 1) wc) := inW_mk (blk_lt b1)
      have hbs := hb.size
      have hls := blk_lt b1
      have hpl := blk_lt bp
      have hrl := blk_lt br
      have hgd := fsN_good L d hd4 100 s hs
      obtain ⟨t, n, hT⟩ : ∃ t n, fsN L d 100 s = (t, n) := ⟨_, _, rfl⟩
      have H1 := Lib.hid (firstN_calls s L d p r hs hLN hd4 wc p0 hpl q0 q1 q2 q3 hrl)
      rw [hT] at H1 hgd
      have hnN : isN n := hgd.2
      obtain ⟨x, hxx⟩ : ∃ x, n % a = x := ⟨_, rfl⟩
      have H2 := Lib.hid (fun w => hxx ▸ modulo_calls n a hnN ha hx.out w)
      have HE := Lib.hid (show (fsN (limV a d) d 100 s).1 = t ∧ (fsN (limV a d) d 100 s).2 % a = x by rw [HL.out, hT]; exact ⟨rfl, hxx⟩)
      clear hT hxx hgd HL
      go_wp2_with (first | (go_at_call 47; refine H1.out.mono ?_; rintro e w6 ⟨rfl, hbel⟩; obtain ⟨o6, j6, rfl⟩ := grow_of_below hbel; clear hbel) | (go_at_call 44; refine (H2.out _).mono ?_; rintro e w7 ⟨rfl, hbel⟩; obtain ⟨o7, j7, rfl⟩ := grow_of_below hbel; clear hbel))
      refine bodyPost_ret (by simp [results, Try.results19, go_sem, z0, z1, z2, z3]; rfl) rfl ⟨d, hdg, by rw [HE.out.1, HE.out.2], ?_⟩
      repeat (first | (with_reducible exact hb) | ((with_reducible refine below_grow ?_ ?_); rotate_left; focus (first | omega | (simp [go_sem]; done) | (simp [go_sem]; omega))) | ((with_reducible refine Below.alloc ?_ ?_ _); rotate_left; focus (first | omega | (simp [go_sem]; done) | (simp [go_sem]; omega))) | ((with_reducible refine Below.setCell ?_ ?_ _); rotate_left; focus (first | omega | (simp [go_sem]; done) | (simp [go_sem]; omega))) | (with_reducible refine Below.drew ?_) | (with_reducible refine below_drewN _ ?_))
end Go.Proofs.Ytcgecgagecobeaa
