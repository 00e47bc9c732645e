/- SeedShuffled: no elements; the whole. -/
import Derived.Test.YtcgecgagecobeaaSSh
namespace Go.Proofs.Ytcgecgagecobeaa
open Go.RowKit Go.Shelf

theorem shuffle_empty (s : Nat) (hs : St s) (A : Option Addr) (c : Nat) (w : World) :
    Calls Try.prog 25 #[.int .i64 s, .slice A 0 c] w fun e w' => ∃ (A' : Option Addr) (c' : Nat), e = .returned (.tuple #[.int .i64 s, .slice A' 0 c', .int .i64 0]) ∧ Below w.heap.size w w' := by
  cases A with
  | none =>
    refine (shuffle_nil s hs c w).mono ?_
    rintro e w' ⟨rfl, hb⟩
    exact ⟨none, 0, rfl, hb⟩
  | some ad =>
    refine (shuffle_calls s hs ad c [] w (by decide) (fun j x hj => by cases hj)).mono ?_
    rintro e w' ⟨v', rfl, hown, hb⟩
    obtain ⟨A', c', rfl, _⟩ := own_slice hown
    exact ⟨A', c', rfl, hb⟩
set_option maxRecDepth 100000 in
set_option maxHeartbeats 8000000 in
theorem shuffled_zero (v0 : Int) (A : Option Addr) (cap : Nat) (w : World) :
    Calls Try.prog 8 #[.int .i64 v0, .slice A 0 cap] w fun e w' => e = .returned (.bool true) ∧ Below w.heap.size w w' := by
  obtain ⟨s, hs⟩ : ∃ s, stp v0 + 1 = s := ⟨_, rfl⟩
  have hS : St s := by rw [← hs]; exact stp_St v0
  have H0 := Lib.hid (of_hyp v0 s hs)
  have H1 := Lib.hid (fun w => shuffle_empty s hS A cap w)
  have H2 := Lib.hid (fun w => shuffle_nil s hS 0 w)
  have hm0 : min (0 : Int) 60 = 0 := by decide
  clear hs
  obtain ⟨i0, hi, hz0, hz1, hz2⟩ := info_parts Try.infoI
  go_enter Try.func8, Try.ntmps8
  go_upto_region 3 with (first | (go_at_call 11; refine (awake_calls _).mono ?_; rintro e w1 ⟨rfl, hbel⟩; obtain ⟨o1, j1, rfl⟩ := grow_of_below hbel; clear hbel))
  go_upto_region 5 with (first | (go_at_call 13; refine (H0.out _).mono ?_; rintro e w2 ⟨rfl, hbel⟩; obtain ⟨o2, j2, rfl⟩ := grow_of_below hbel; clear hbel))
  go_upto_region 8 with (first | (go_at_call 25; refine (H1.out _).mono ?_; rintro e w3 ⟨A', c', rfl, hbel⟩; obtain ⟨o3, j3, rfl⟩ := grow_of_below hbel; clear hbel))
  refine wp_loop_rounds 1 ?_
  rw [rounds_succ]
  go_upto_region 15 with (first | (go_at_call 25; refine (H2.out _).mono ?_; rintro e w4 ⟨rfl, hbel⟩; obtain ⟨o4, j4, rfl⟩ := grow_of_below hbel; clear hbel))
  go_upto_region 17 with (first | (at_make; refine wpList_make_full _ rfl _ _ 28 rfl 0 3 i0 _ 1 Try.underlying28 hi hz0 hz1 _ _ _ _ 0 rfl rfl (by simp) (by simp) (by rw [hz2]; omega) (by unfold maxLen; omega) (Nat.zero_le _) ?_; intro w1 hown hgrow))
  have hb1 : Below w.heap.size w w1 := Below.grown (by repeat (first | (with_reducible exact Below.refl _ _) | ((with_reducible refine below_grow ?_ ?_); rotate_left; focus (first | omega | (simp [go_sem]; done) | (simp [go_sem]; omega))) | ((with_reducible refine Below.alloc ?_ ?_ _); rotate_left; focus (first | omega | (simp [go_sem]; done) | (simp [go_sem]; omega))) | ((with_reducible refine Below.setCell ?_ ?_ _); rotate_left; focus (first | omega | (simp [go_sem]; done) | (simp [go_sem]; omega))) | (with_reducible refine Below.drew ?_) | (with_reducible refine below_drewN _ ?_))) hgrow (by simp [grow_size]) (fun k e => by cases e)
  clear hown hgrow
  refine wp_loop_rounds 1 ?_
  rw [rounds_succ]
  go_upto_region 24 with fail
  refine wp_loop_rounds 1 ?_
  rw [rounds_succ]
  go_wp2
  go_ret
  exact ⟨rfl, hb1⟩
end Go.Proofs.Ytcgecgagecobeaa
