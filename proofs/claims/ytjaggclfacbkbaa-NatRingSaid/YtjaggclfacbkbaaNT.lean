/- Results with and without an error. -/
import Derived.Test.YtjaggclfacbkbaaNS
namespace Go.Proofs.Ytjaggclfacbkbaa
open Go.RowKit

theorem mul_hyp (a b m : Nat) (ha : isN a) (hb : isN b) (hm : a * b = m) (hf : isN m) : ∀ (w : World) (p : Nat) [NeZero (inW p w)] (_ : w.cell? ⟨p, 0, none⟩ = some (.int .u32 (pt a 0))) (_ : w.cell? ⟨p, 1, none⟩ = some (.int .u32 (pt a 1))) (_ : w.cell? ⟨p, 2, none⟩ = some (.int .u32 (pt a 2))) (_ : w.cell? ⟨p, 3, none⟩ = some (.int .u32 (pt a 3))) (_ : w.cell? ⟨p, 4, none⟩ = some (.int .u32 (pt b 0))) (_ : w.cell? ⟨p, 5, none⟩ = some (.int .u32 (pt b 1))) (_ : w.cell? ⟨p, 6, none⟩ = some (.int .u32 (pt b 2))) (_ : w.cell? ⟨p, 7, none⟩ = some (.int .u32 (pt b 3))), Calls Try.prog 19 #[.slice (some ⟨p, 0, none⟩) 2 2] w fun e w' => e = .returned (.tuple #[.agg #[.int .u32 (pt m 0), .int .u32 (pt m 1), .int .u32 (pt m 2), .int .u32 (pt m 3)], .int .i64 0]) ∧ Below w.heap.size w w' := by
  intro w p iP h0 h1 h2 h3 h4 h5 h6 h7
  have h := mul_calls a b p ha hb w h0 h1 h2 h3 h4 h5 h6 h7
  obtain ⟨-, -, e3, e4⟩ := mul_yes (show isN (a * b) by rw [hm]; exact hf)
  rw [e3, e4, hm] at h
  exact h
theorem mul_hyp_no (a b : Nat) (ha : isN a) (hb : isN b) (hf : ¬ isN (a * b)) : ∀ (w : World) (p : Nat) [NeZero (inW p w)] (_ : w.cell? ⟨p, 0, none⟩ = some (.int .u32 (pt a 0))) (_ : w.cell? ⟨p, 1, none⟩ = some (.int .u32 (pt a 1))) (_ : w.cell? ⟨p, 2, none⟩ = some (.int .u32 (pt a 2))) (_ : w.cell? ⟨p, 3, none⟩ = some (.int .u32 (pt a 3))) (_ : w.cell? ⟨p, 4, none⟩ = some (.int .u32 (pt b 0))) (_ : w.cell? ⟨p, 5, none⟩ = some (.int .u32 (pt b 1))) (_ : w.cell? ⟨p, 6, none⟩ = some (.int .u32 (pt b 2))) (_ : w.cell? ⟨p, 7, none⟩ = some (.int .u32 (pt b 3))), Calls Try.prog 19 #[.slice (some ⟨p, 0, none⟩) 2 2] w fun e w' => e = .returned (.tuple #[.agg #[.int .u32 0, .int .u32 0, .int .u32 0, .int .u32 0], .int .i64 3]) ∧ Below w.heap.size w w' := by
  intro w p iP h0 h1 h2 h3 h4 h5 h6 h7
  have h := mul_calls a b p ha hb w h0 h1 h2 h3 h4 h5 h6 h7
  obtain ⟨-, e3, e4⟩ := mul_no hf
  rw [e3, e4] at h
  simp only [pt_zero] at h
  exact h
theorem add_hyp (a b m : Nat) (ha : isN a) (hb : isN b) (hm : a + b = m) (hf : isN m) (w : World) : Calls Try.prog 17 #[.agg #[.int .u32 (pt a 0), .int .u32 (pt a 1), .int .u32 (pt a 2), .int .u32 (pt a 3)], .agg #[.int .u32 (pt b 0), .int .u32 (pt b 1), .int .u32 (pt b 2), .int .u32 (pt b 3)]] w fun e w' => e = .returned (.tuple #[.agg #[.int .u32 (pt m 0), .int .u32 (pt m 1), .int .u32 (pt m 2), .int .u32 (pt m 3)], .int .i64 0]) ∧ Below w.heap.size w w' := by
  have h := add_calls a b ha hb w
  obtain ⟨-, -, e3, e4⟩ := add_yes (show isN (a + b) by rw [hm]; exact hf)
  rw [e3, e4, hm] at h
  exact h
theorem add_hyp_no (a b : Nat) (ha : isN a) (hb : isN b) (hf : ¬ isN (a + b)) (w : World) : Calls Try.prog 17 #[.agg #[.int .u32 (pt a 0), .int .u32 (pt a 1), .int .u32 (pt a 2), .int .u32 (pt a 3)], .agg #[.int .u32 (pt b 0), .int .u32 (pt b 1), .int .u32 (pt b 2), .int .u32 (pt b 3)]] w fun e w' => e = .returned (.tuple #[.agg #[.int .u32 0, .int .u32 0, .int .u32 0, .int .u32 0], .int .i64 3]) ∧ Below w.heap.size w w' := by
  have h := add_calls a b ha hb w
  obtain ⟨-, e3, e4⟩ := add_no ha hb hf
  rw [e3, e4] at h
  simp only [pt_zero] at h
  exact h
theorem sub_hyp (a b m : Nat) (ha : isN a) (hb : isN b) (hm : a - b = m) (hle : b ≤ a) (w : World) : Calls Try.prog 23 #[.agg #[.int .u32 (pt a 0), .int .u32 (pt a 1), .int .u32 (pt a 2), .int .u32 (pt a 3)], .agg #[.int .u32 (pt b 0), .int .u32 (pt b 1), .int .u32 (pt b 2), .int .u32 (pt b 3)]] w fun e w' => e = .returned (.tuple #[.agg #[.int .u32 (pt m 0), .int .u32 (pt m 1), .int .u32 (pt m 2), .int .u32 (pt m 3)], .int .i64 0]) ∧ Below w.heap.size w w' := by
  have h := sub_calls a b ha hb w
  obtain ⟨-, -, e3, e4⟩ := sub_yes ha (show ¬ a < b by omega)
  rw [e3, e4, hm] at h
  exact h
theorem sub_hyp_no (a b : Nat) (ha : isN a) (hb : isN b) (hlt : a < b) (w : World) : Calls Try.prog 23 #[.agg #[.int .u32 (pt a 0), .int .u32 (pt a 1), .int .u32 (pt a 2), .int .u32 (pt a 3)], .agg #[.int .u32 (pt b 0), .int .u32 (pt b 1), .int .u32 (pt b 2), .int .u32 (pt b 3)]] w fun e w' => e = .returned (.tuple #[.agg #[.int .u32 0, .int .u32 0, .int .u32 0, .int .u32 0], .int .i64 21]) ∧ Below w.heap.size w w' := by
  have h := sub_calls a b ha hb w
  obtain ⟨-, e3, e4⟩ := sub_no hlt
  rw [e3, e4] at h
  simp only [pt_zero] at h
  exact h
theorem div_hyp (a b q r : Nat) (ha : isN a) (hb : isN b) (hb0 : b ≠ 0) (hq : a / b = q) (hr : a % b = r) (w : World) : Calls Try.prog 21 #[.agg #[.int .u32 (pt a 0), .int .u32 (pt a 1), .int .u32 (pt a 2), .int .u32 (pt a 3)], .agg #[.int .u32 (pt b 0), .int .u32 (pt b 1), .int .u32 (pt b 2), .int .u32 (pt b 3)]] w fun e w' => e = .returned (.tuple #[.agg #[.int .u32 (pt q 0), .int .u32 (pt q 1), .int .u32 (pt q 2), .int .u32 (pt q 3)], .agg #[.int .u32 (pt r 0), .int .u32 (pt r 1), .int .u32 (pt r 2), .int .u32 (pt r 3)], .int .i64 0]) ∧ Below w.heap.size w w' := by
  have h := div_calls a b ha hb hb0 w
  rw [hq, hr] at h
  exact h
theorem div_hyp0 (a b q : Nat) (ha : isN a) (hb : isN b) (hb0 : b ≠ 0) (hq : a / b = q) (hr : a % b = 0) (w : World) : Calls Try.prog 21 #[.agg #[.int .u32 (pt a 0), .int .u32 (pt a 1), .int .u32 (pt a 2), .int .u32 (pt a 3)], .agg #[.int .u32 (pt b 0), .int .u32 (pt b 1), .int .u32 (pt b 2), .int .u32 (pt b 3)]] w fun e w' => e = .returned (.tuple #[.agg #[.int .u32 (pt q 0), .int .u32 (pt q 1), .int .u32 (pt q 2), .int .u32 (pt q 3)], .agg #[.int .u32 0, .int .u32 0, .int .u32 0, .int .u32 0], .int .i64 0]) ∧ Below w.heap.size w w' := by
  have h := div_hyp a b q 0 ha hb hb0 hq hr w
  simp only [pt_zero] at h
  exact h
theorem gcd_hyp (a b g : Nat) (ha : isN a) (hb : isN b) (hg : Nat.gcd a b = g) (w : World) : Calls Try.prog 20 #[.agg #[.int .u32 (pt a 0), .int .u32 (pt a 1), .int .u32 (pt a 2), .int .u32 (pt a 3)], .agg #[.int .u32 (pt b 0), .int .u32 (pt b 1), .int .u32 (pt b 2), .int .u32 (pt b 3)]] w fun e w' => e = .returned (.agg #[.int .u32 (pt g 0), .int .u32 (pt g 1), .int .u32 (pt g 2), .int .u32 (pt g 3)]) ∧ Below w.heap.size w w' := by
  have h := gcd_calls a b ha hb w
  rw [hg] at h
  exact h
theorem gcd_hyp1 (a b : Nat) (ha : isN a) (hb : isN b) (hg : Nat.gcd a b = 1) (w : World) : Calls Try.prog 20 #[.agg #[.int .u32 (pt a 0), .int .u32 (pt a 1), .int .u32 (pt a 2), .int .u32 (pt a 3)], .agg #[.int .u32 (pt b 0), .int .u32 (pt b 1), .int .u32 (pt b 2), .int .u32 (pt b 3)]] w fun e w' => e = .returned (.agg #[.int .u32 1, .int .u32 0, .int .u32 0, .int .u32 0]) ∧ Below w.heap.size w w' := by
  have h := gcd_calls a b ha hb w
  rw [hg] at h
  simp only [pt_one.1, pt_one.2.1, pt_one.2.2.1, pt_one.2.2.2] at h
  exact h
theorem cmp_hyp (a b : Nat) (c : Int) (ha : isN a) (hb : isN b) (hc : cmpN a b = c) (w : World) : Calls Try.prog 22 #[.agg #[.int .u32 (pt a 0), .int .u32 (pt a 1), .int .u32 (pt a 2), .int .u32 (pt a 3)], .agg #[.int .u32 (pt b 0), .int .u32 (pt b 1), .int .u32 (pt b 2), .int .u32 (pt b 3)]] w fun e w' => e = .returned (.int .i64 c) ∧ Below w.heap.size w w' := by
  have h := cmp_calls a b ha hb w
  rw [hc] at h
  exact h
end Go.Proofs.Ytjaggclfacbkbaa
