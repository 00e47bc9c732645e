/- What nat's functions return without an error; BelowNat of what is not right. -/
import Derived.Test.YtcgecgagecobeaaSH
import Derived.Test.YtcgecgagecobeaaNN
namespace Go.Proofs.Ytcgecgagecobeaa
open Go.RowKit Go.Shelf

theorem mul_hyp (a b m : Nat) (ha : isN a) (hb : isN b) (hm : a * b = m) (hf : isN m) : ∀ (w : World) (p : Nat) [NeZero (inW p w)] (_ : w.cell? ⟨p, 0, none⟩ = some (.int .u32 (pt a 0))) (_ : w.cell? ⟨p, 1, none⟩ = some (.int .u32 (pt a 1))) (_ : w.cell? ⟨p, 2, none⟩ = some (.int .u32 (pt a 2))) (_ : w.cell? ⟨p, 3, none⟩ = some (.int .u32 (pt a 3))) (_ : w.cell? ⟨p, 4, none⟩ = some (.int .u32 (pt b 0))) (_ : w.cell? ⟨p, 5, none⟩ = some (.int .u32 (pt b 1))) (_ : w.cell? ⟨p, 6, none⟩ = some (.int .u32 (pt b 2))) (_ : w.cell? ⟨p, 7, none⟩ = some (.int .u32 (pt b 3))), Calls Try.prog 22 #[.slice (some ⟨p, 0, none⟩) 2 2] w fun e w' => e = .returned (.tuple #[.agg #[.int .u32 (pt m 0), .int .u32 (pt m 1), .int .u32 (pt m 2), .int .u32 (pt m 3)], .int .i64 0]) ∧ Below w.heap.size w w' := by
  intro w p iP h0 h1 h2 h3 h4 h5 h6 h7
  have h := mul_calls a b p ha hb w h0 h1 h2 h3 h4 h5 h6 h7
  obtain ⟨-, -, e3, e4⟩ := mul_yes (show isN (a * b) by rw [hm]; exact hf)
  rw [e3, e4, hm] at h
  exact h
theorem add_hyp (a b m : Nat) (ha : isN a) (hb : isN b) (hm : a + b = m) (hf : isN m) (w : World) : Calls Try.prog 66 #[.agg #[.int .u32 (pt a 0), .int .u32 (pt a 1), .int .u32 (pt a 2), .int .u32 (pt a 3)], .agg #[.int .u32 (pt b 0), .int .u32 (pt b 1), .int .u32 (pt b 2), .int .u32 (pt b 3)]] w fun e w' => e = .returned (.tuple #[.agg #[.int .u32 (pt m 0), .int .u32 (pt m 1), .int .u32 (pt m 2), .int .u32 (pt m 3)], .int .i64 0]) ∧ Below w.heap.size w w' := by
  have h := add_calls a b ha hb w
  obtain ⟨-, -, e3, e4⟩ := add_yes (show isN (a + b) by rw [hm]; exact hf)
  rw [e3, e4, hm] at h
  exact h
theorem sub_hyp (a b m : Nat) (ha : isN a) (hb : isN b) (hm : a - b = m) (hle : b ≤ a) (w : World) : Calls Try.prog 43 #[.agg #[.int .u32 (pt a 0), .int .u32 (pt a 1), .int .u32 (pt a 2), .int .u32 (pt a 3)], .agg #[.int .u32 (pt b 0), .int .u32 (pt b 1), .int .u32 (pt b 2), .int .u32 (pt b 3)]] w fun e w' => e = .returned (.tuple #[.agg #[.int .u32 (pt m 0), .int .u32 (pt m 1), .int .u32 (pt m 2), .int .u32 (pt m 3)], .int .i64 0]) ∧ Below w.heap.size w w' := by
  have h := sub_calls a b ha hb w
  obtain ⟨-, -, e3, e4⟩ := sub_yes ha (show ¬ a < b by omega)
  rw [e3, e4, hm] at h
  exact h
theorem div_hyp (a b q r : Nat) (ha : isN a) (hb : isN b) (hb0 : b ≠ 0) (hq : a / b = q) (hr : a % b = r) (w : World) : Calls Try.prog 23 #[.agg #[.int .u32 (pt a 0), .int .u32 (pt a 1), .int .u32 (pt a 2), .int .u32 (pt a 3)], .agg #[.int .u32 (pt b 0), .int .u32 (pt b 1), .int .u32 (pt b 2), .int .u32 (pt b 3)]] w fun e w' => e = .returned (.tuple #[.agg #[.int .u32 (pt q 0), .int .u32 (pt q 1), .int .u32 (pt q 2), .int .u32 (pt q 3)], .agg #[.int .u32 (pt r 0), .int .u32 (pt r 1), .int .u32 (pt r 2), .int .u32 (pt r 3)], .int .i64 0]) ∧ Below w.heap.size w w' := by
  have h := div_calls a b ha hb hb0 w
  rw [hq, hr] at h
  exact h
theorem cmp_hyp (a b : Nat) (c : Int) (ha : isN a) (hb : isN b) (hc : cmpN a b = c) (w : World) : Calls Try.prog 20 #[.agg #[.int .u32 (pt a 0), .int .u32 (pt a 1), .int .u32 (pt a 2), .int .u32 (pt a 3)], .agg #[.int .u32 (pt b 0), .int .u32 (pt b 1), .int .u32 (pt b 2), .int .u32 (pt b 3)]] w fun e w' => e = .returned (.int .i64 c) ∧ Below w.heap.size w w' := by
  have h := cmp_calls a b ha hb w
  rw [hc] at h
  exact h
def k120 : Nat := 1329227995784915872903807060280344576
theorem k120_isN : isN k120 := by decide
theorem k120_pt : pt k120 0 = 0 ∧ pt k120 1 = 0 ∧ pt k120 2 = 0 ∧ pt k120 3 = 16777216 := by decide +kernel
theorem cmp_k120 (a : Nat) (c : Int) (ha : isN a) (hc : cmpN a k120 = c) (w : World) : Calls Try.prog 20 #[.agg #[.int .u32 (pt a 0), .int .u32 (pt a 1), .int .u32 (pt a 2), .int .u32 (pt a 3)], .agg #[.int .u32 0, .int .u32 0, .int .u32 0, .int .u32 16777216]] w fun e w' => e = .returned (.int .i64 c) ∧ Below w.heap.size w w' := by
  obtain ⟨h0, h1, h2, h3⟩ := k120_pt
  have h := cmp_hyp a k120 c ha k120_isN hc w
  simp only [h0, h1, h2, h3] at h
  exact h
set_option maxRecDepth 100000 in
theorem belowNat_no (s : Int) (a : Nat) (ha : isN a) (h : ¬ (1 ≤ s ∧ s ≤ 2147483646) ∨ a = 0 ∨ k120 < a) (w : World) :
    Calls Try.prog 19 #[.int .i64 s, .agg #[.int .u32 (pt a 0), .int .u32 (pt a 1), .int .u32 (pt a 2), .int .u32 (pt a 3)]] w fun e w' => e = .returned (.tuple #[.int .i64 0, .agg #[.int .u32 0, .int .u32 0, .int .u32 0, .int .u32 0], .int .i64 2]) ∧ Below w.heap.size w w' := by
  by_cases h0 : 1 ≤ s ∧ s ≤ 2147483646
  · have R1 := Lib.hid (right_calls s)
    rw [decide_eq_true h0] at R1
    by_cases h1 : a = 0
    · clear h
      have hd : decide (a = 0) = true := decide_eq_true h1
      have hx := Lib.hid h1
      clear h1
      go_enter Try.func19, Try.ntmps19
      go_wp2_with (first | (go_at_call 16; refine (R1.out _).mono ?_; rintro e w1 ⟨rfl, rfl⟩))
      refine bodyPost_ret (by simp [results, Try.results19, go_sem]) rfl ⟨rfl, ?_⟩
      repeat (first | (with_reducible exact Below.refl _ _) | ((with_reducible refine below_grow ?_ ?_); rotate_left; focus (first | omega | (simp [go_sem]; done) | (simp [go_sem]; omega))) | ((with_reducible refine Below.alloc ?_ ?_ _); rotate_left; focus (first | omega | (simp [go_sem]; done) | (simp [go_sem]; omega))) | ((with_reducible refine Below.setCell ?_ ?_ _); rotate_left; focus (first | omega | (simp [go_sem]; done) | (simp [go_sem]; omega))) | (with_reducible refine Below.drew ?_) | (with_reducible refine below_drewN _ ?_))
    · have R2 := Lib.hid (cmp_k120 a 1 ha (by unfold cmpN; rw [if_neg (by omega), if_pos (by omega)]))
      have hd : decide (a = 0) = false := decide_eq_false h1
      have hx := Lib.hid h1
      clear h h1
      go_enter Try.func19, Try.ntmps19
      go_wp2_with (first | (go_at_call 16; refine (R1.out _).mono ?_; rintro e w1 ⟨rfl, rfl⟩) | (go_at_call 20; refine (R2.out _).mono ?_; rintro e w2 ⟨rfl, hbel⟩; obtain ⟨o2, j2, rfl⟩ := grow_of_below hbel; clear hbel))
      refine bodyPost_ret (by simp [results, Try.results19, go_sem]) rfl ⟨rfl, ?_⟩
      repeat (first | (with_reducible exact Below.refl _ _) | ((with_reducible refine below_grow ?_ ?_); rotate_left; focus (first | omega | (simp [go_sem]; done) | (simp [go_sem]; omega))) | ((with_reducible refine Below.alloc ?_ ?_ _); rotate_left; focus (first | omega | (simp [go_sem]; done) | (simp [go_sem]; omega))) | ((with_reducible refine Below.setCell ?_ ?_ _); rotate_left; focus (first | omega | (simp [go_sem]; done) | (simp [go_sem]; omega))) | (with_reducible refine Below.drew ?_) | (with_reducible refine below_drewN _ ?_))
  · have R1 := Lib.hid (right_no s h0)
    clear h
    go_enter Try.func19, Try.ntmps19
    go_wp2_with (first | (go_at_call 16; refine (R1.out _).mono ?_; rintro e w1 ⟨rfl, rfl⟩))
    refine bodyPost_ret (by simp [results, Try.results19, go_sem]) rfl ⟨rfl, ?_⟩
    repeat (first | (with_reducible exact Below.refl _ _) | ((with_reducible refine below_grow ?_ ?_); rotate_left; focus (first | omega | (simp [go_sem]; done) | (simp [go_sem]; omega))) | ((with_reducible refine Below.alloc ?_ ?_ _); rotate_left; focus (first | omega | (simp [go_sem]; done) | (simp [go_sem]; omega))) | ((with_reducible refine Below.setCell ?_ ?_ _); rotate_left; focus (first | omega | (simp [go_sem]; done) | (simp [go_sem]; omega))) | (with_reducible refine Below.drew ?_) | (with_reducible refine below_drewN _ ?_))
end Go.Proofs.Ytcgecgagecobeaa
