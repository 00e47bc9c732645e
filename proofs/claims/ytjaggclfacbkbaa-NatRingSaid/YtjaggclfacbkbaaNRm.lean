/- The laws of nat's addition and multiplication: plain mathematics. -/
import Derived.Test.YtjaggclfacbkbaaNT
namespace Go.Proofs.Ytjaggclfacbkbaa
open Go.RowKit

/-- One law for both: results that are not too long, or 0 and an error. -/
structure RingOp (R : Nat → Nat → Nat) (E : Nat → Nat → Int) : Prop where
  good : ∀ a b, isN (R a b)
  comm : ∀ a b, R b a = R a b ∧ E b a = E a b
  err : ∀ a b, E a b = 0 ∨ E a b = 3
  assoc : ∀ a b c, E a b = 0 → E (R a b) c = 0 → E b c = 0 → E a (R b c) = 0 → R (R a b) c = R a (R b c)
theorem addRE (a b : Nat) : (isN (a + b) ∧ addR a b = a + b ∧ addE a b = 0) ∨ (addR a b = 0 ∧ addE a b = 3) := by
  unfold addR addE
  by_cases h : isN (a + b)
  · rw [if_pos h, if_pos h]; exact .inl ⟨h, rfl, rfl⟩
  · rw [if_neg h, if_neg h]; exact .inr ⟨rfl, rfl⟩
theorem mulRE (a b : Nat) : (isN (a * b) ∧ mulR a b = a * b ∧ mulE a b = 0) ∨ (mulR a b = 0 ∧ mulE a b = 3) := by
  unfold mulR mulE
  by_cases h : isN (a * b)
  · rw [if_pos h, if_pos h]; exact .inl ⟨h, rfl, rfl⟩
  · rw [if_neg h, if_neg h]; exact .inr ⟨rfl, rfl⟩
theorem add_ring : RingOp addR addE where
  good := addR_isN
  comm := fun a b => by unfold addR addE; rw [Nat.add_comm b a]; exact ⟨rfl, rfl⟩
  err := fun a b => by rcases addRE a b with ⟨_, _, h⟩ | ⟨_, h⟩ <;> simp [h]
  assoc := by
    intro a b c h1 h2 h3 h4
    rcases addRE a b with ⟨_, e1, _⟩ | ⟨_, h⟩
    · rcases addRE b c with ⟨_, e3, _⟩ | ⟨_, h⟩
      · rcases addRE (addR a b) c with ⟨_, e2, _⟩ | ⟨_, h⟩
        · rcases addRE a (addR b c) with ⟨_, e4, _⟩ | ⟨_, h⟩
          · rw [e2, e4, e1, e3, Nat.add_assoc]
          · omega
        · omega
      · omega
    · omega
theorem mul_ring : RingOp mulR mulE where
  good := mulR_isN
  comm := fun a b => by unfold mulR mulE; rw [Nat.mul_comm b a]; exact ⟨rfl, rfl⟩
  err := fun a b => by rcases mulRE a b with ⟨_, _, h⟩ | ⟨_, h⟩ <;> simp [h]
  assoc := by
    intro a b c h1 h2 h3 h4
    rcases mulRE a b with ⟨_, e1, _⟩ | ⟨_, h⟩
    · rcases mulRE b c with ⟨_, e3, _⟩ | ⟨_, h⟩
      · rcases mulRE (mulR a b) c with ⟨_, e2, _⟩ | ⟨_, h⟩
        · rcases mulRE a (mulR b c) with ⟨_, e4, _⟩ | ⟨_, h⟩
          · rw [e2, e4, e1, e3, Nat.mul_assoc]
          · omega
        · omega
      · omega
    · omega
/-- Distribution, where the left side is not too long. -/
theorem distr (a b c : Nat) (h1 : addE b c = 0) (h2 : mulE a (addR b c) = 0) :
    mulE a b = 0 ∧ mulE a c = 0 ∧ addE (mulR a b) (mulR a c) = 0 ∧ mulR a (addR b c) = addR (mulR a b) (mulR a c) := by
  rcases addRE b c with ⟨_, e1, _⟩ | ⟨_, h⟩
  · rcases mulRE a (addR b c) with ⟨g2, e2, _⟩ | ⟨_, h⟩
    · rw [e1, Nat.mul_add] at g2
      have g3 : isN (a * b) := by unfold isN at *; omega
      have g4 : isN (a * c) := by unfold isN at *; omega
      obtain ⟨-, -, e5, e6⟩ := mul_yes g3
      obtain ⟨-, -, e7, e8⟩ := mul_yes g4
      obtain ⟨-, -, e9, e10⟩ := add_yes g2
      rw [e2, e1, e5, e7, e9, Nat.mul_add]
      exact ⟨e6, e8, e10, rfl⟩
    · omega
  · omega
theorem add_op (a b r : Nat) (e : Int) (ha : isN a) (hb : isN b) (hr : addR a b = r) (he : addE a b = e) (w : World) : Calls Try.prog 17 #[.agg #[.int .u32 (pt a 0), .int .u32 (pt a 1), .int .u32 (pt a 2), .int .u32 (pt a 3)], .agg #[.int .u32 (pt b 0), .int .u32 (pt b 1), .int .u32 (pt b 2), .int .u32 (pt b 3)]] w fun x w' => x = .returned (.tuple #[.agg #[.int .u32 (pt r 0), .int .u32 (pt r 1), .int .u32 (pt r 2), .int .u32 (pt r 3)], .int .i64 e]) ∧ Below w.heap.size w w' := by
  have h := add_calls a b ha hb w
  rw [hr, he] at h
  exact h
theorem mul_op (a b r : Nat) (e : Int) (ha : isN a) (hb : isN b) (hr : mulR a b = r) (he : mulE a b = e) : ∀ (w : World) (p : Nat) [NeZero (inW p w)] (_ : w.cell? ⟨p, 0, none⟩ = some (.int .u32 (pt a 0))) (_ : w.cell? ⟨p, 1, none⟩ = some (.int .u32 (pt a 1))) (_ : w.cell? ⟨p, 2, none⟩ = some (.int .u32 (pt a 2))) (_ : w.cell? ⟨p, 3, none⟩ = some (.int .u32 (pt a 3))) (_ : w.cell? ⟨p, 4, none⟩ = some (.int .u32 (pt b 0))) (_ : w.cell? ⟨p, 5, none⟩ = some (.int .u32 (pt b 1))) (_ : w.cell? ⟨p, 6, none⟩ = some (.int .u32 (pt b 2))) (_ : w.cell? ⟨p, 7, none⟩ = some (.int .u32 (pt b 3))), Calls Try.prog 19 #[.slice (some ⟨p, 0, none⟩) 2 2] w fun x w' => x = .returned (.tuple #[.agg #[.int .u32 (pt r 0), .int .u32 (pt r 1), .int .u32 (pt r 2), .int .u32 (pt r 3)], .int .i64 e]) ∧ Below w.heap.size w w' := by
  intro w p iP h0 h1 h2 h3 h4 h5 h6 h7
  have h := mul_calls a b p ha hb w h0 h1 h2 h3 h4 h5 h6 h7
  rw [hr, he] at h
  exact h
theorem mul_at (a b r : Nat) (e : Int) (ha : isN a) (hb : isN b) (hr : mulR a b = r) (he : mulE a b = e) (W : World) (p : Nat) (hp : p = W.heap.size) :
    Calls Try.prog 19 #[.slice (some ⟨p, 0, none⟩) 2 2] (W.alloc (.cells #[.int .u32 (pt a 0), .int .u32 (pt a 1), .int .u32 (pt a 2), .int .u32 (pt a 3), .int .u32 (pt b 0), .int .u32 (pt b 1), .int .u32 (pt b 2), .int .u32 (pt b 3)] 24)) fun x w' => x = .returned (.tuple #[.agg #[.int .u32 (pt r 0), .int .u32 (pt r 1), .int .u32 (pt r 2), .int .u32 (pt r 3)], .int .i64 e]) ∧ Below W.heap.size W w' := by
  have hb8 := blk_at W #[.int .u32 (pt a 0), .int .u32 (pt a 1), .int .u32 (pt a 2), .int .u32 (pt a 3), .int .u32 (pt b 0), .int .u32 (pt b 1), .int .u32 (pt b 2), .int .u32 (pt b 3)] 24 hp
  have iP : NeZero (inW p _) := inW_mk (blk_lt hb8)
  refine (mul_op a b r e ha hb hr he _ p ((blk_cell hb8 0).trans rfl) ((blk_cell hb8 1).trans rfl) ((blk_cell hb8 2).trans rfl) ((blk_cell hb8 3).trans rfl) ((blk_cell hb8 4).trans rfl) ((blk_cell hb8 5).trans rfl) ((blk_cell hb8 6).trans rfl) ((blk_cell hb8 7).trans rfl)).mono fun x w' h => ⟨h.1, ?_⟩
  exact (show Below W.heap.size W _ by repeat (first | (with_reducible exact Below.refl _ _) | ((with_reducible refine below_grow ?_ ?_); rotate_left; focus (first | omega | (simp [go_sem]; done) | (simp [go_sem]; omega))) | ((with_reducible refine Below.alloc ?_ ?_ _); rotate_left; focus (first | omega | (simp [go_sem]; done) | (simp [go_sem]; omega))) | ((with_reducible refine Below.setCell ?_ ?_ _); rotate_left; focus (first | omega | (simp [go_sem]; done) | (simp [go_sem]; omega))) | (with_reducible refine Below.drew ?_) | (with_reducible refine below_drewN _ ?_))).trans (h.2.mono (by simp))
set_option maxRecDepth 100000 in
set_option maxHeartbeats 1000000 in
theorem ring1_op (a b r : Nat) (e : Int) (ha : isN a) (hb : isN b) (hr : mulR a b = r) (he : mulE a b = e) (w : World) : Calls Try.prog 18 #[.agg #[.int .u32 (pt a 0), .int .u32 (pt a 1), .int .u32 (pt a 2), .int .u32 (pt a 3)], .agg #[.int .u32 (pt b 0), .int .u32 (pt b 1), .int .u32 (pt b 2), .int .u32 (pt b 3)]] w fun x w' => x = .returned (.tuple #[.agg #[.int .u32 (pt r 0), .int .u32 (pt r 1), .int .u32 (pt r 2), .int .u32 (pt r 3)], .int .i64 e]) ∧ Below w.heap.size w w' := by
  have H := Lib.hid (mul_op a b r e ha hb hr he)
  clear hr he
  go_enter Try.func18, Try.ntmps18
  go_wp2_with (first | (go_at_call 19; refine (H.out _ _ (by simp [go_sem]) (by simp [go_sem]) (by simp [go_sem]) (by simp [go_sem]) (by simp [go_sem]) (by simp [go_sem]) (by simp [go_sem]) (by simp [go_sem])).mono ?_; rintro e w1 ⟨rfl, hbel⟩; obtain ⟨o1, j1, rfl⟩ := grow_of_below hbel; clear hbel))
  refine bodyPost_ret (by simp [results, Try.results18, go_sem]) rfl ⟨rfl, ?_⟩
  repeat (first | (with_reducible exact Below.refl _ _) | ((with_reducible refine below_grow ?_ ?_); rotate_left; focus (first | omega | (simp [go_sem]; done) | (simp [go_sem]; omega))) | ((with_reducible refine Below.alloc ?_ ?_ _); rotate_left; focus (first | omega | (simp [go_sem]; done) | (simp [go_sem]; omega))) | ((with_reducible refine Below.setCell ?_ ?_ _); rotate_left; focus (first | omega | (simp [go_sem]; done) | (simp [go_sem]; omega))) | (with_reducible refine Below.drew ?_) | (with_reducible refine below_drewN _ ?_))
end Go.Proofs.Ytjaggclfacbkbaa
