/- The examples of the chapter: awake. -/
import Derived.Test.YtcgecgagecobeaaSG
namespace Go.Proofs.Ytcgecgagecobeaa
open Go.RowKit Go.Shelf

theorem st1 : St 1 := by unfold St; decide
theorem st48 : St 48271 := by unfold St; decide
theorem nextK1 (w : World) : Calls Try.prog 15 #[.int .i64 1] w fun e w' => e = .returned (.tuple #[.int .i64 48271, .int .i64 48270, .int .i64 0]) ∧ Below w.heap.size w w' := by
  have h := next_yes 1 st1 w
  rw [show nxt 1 = 48271 from by decide +kernel] at h
  exact h
theorem nextK2 (w : World) : Calls Try.prog 15 #[.int .i64 48271] w fun e w' => e = .returned (.tuple #[.int .i64 182605794, .int .i64 182605793, .int .i64 0]) ∧ Below w.heap.size w w' := by
  have h := next_yes 48271 st48 w
  rw [show nxt 48271 = 182605794 from by decide +kernel] at h
  exact h
theorem jumpK1 (w : World) : Calls Try.prog 14 #[.int .i64 1, .int .i64 2] w fun e w' => e = .returned (.tuple #[.int .i64 182605794, .int .i64 0]) ∧ Below w.heap.size w w' := by
  have h := jump_yes 1 st1 2 w
  rw [show jmp 1 (stp 2) = 182605794 from by decide +kernel] at h
  exact h
theorem jumpK2_fold : (pows 48271 2147483645).foldl times 48271 = 1 := by decide +kernel
theorem jumpK2 (w : World) : Calls Try.prog 14 #[.int .i64 48271, .int .i64 (-1)] w fun e w' => e = .returned (.tuple #[.int .i64 1, .int .i64 0]) ∧ Below w.heap.size w w' := by
  have h := jump_yes 48271 st48 (-1) w
  rw [show stp (-1) = 2147483645 from by decide, ← jmp_fold _ _ (by decide), jumpK2_fold] at h
  exact h
theorem belowK1 (w : World) : Calls Try.prog 18 #[.int .i64 1, .int .i64 10] w fun e w' => e = .returned (.tuple #[.int .i64 48271, .int .i64 0, .int .i64 0]) ∧ Below w.heap.size w w' := by
  have h := below_yes 1 10 st1 (by decide) (by decide) w
  rw [show blwS 1 10 = 48271 from by decide +kernel] at h
  exact h
theorem belowK2 (w : World) : Calls Try.prog 18 #[.int .i64 48271, .int .i64 10] w fun e w' => e = .returned (.tuple #[.int .i64 182605794, .int .i64 3, .int .i64 0]) ∧ Below w.heap.size w w' := by
  have h := below_yes 48271 10 st48 (by decide) (by decide) w
  rw [show blwS 48271 10 = 182605794 from by decide +kernel] at h
  exact h
theorem shufK_eq : shuf 2 1 [7, 8, 9] = (182605794, [9, 8, 7]) := by decide +kernel
theorem shufK (p : Nat) (w : World) (p0 : w.cell? ⟨p, 0, none⟩ = some (.int .i64 7)) (p1 : w.cell? ⟨p, 1, none⟩ = some (.int .i64 8)) (p2 : w.cell? ⟨p, 2, none⟩ = some (.int .i64 9)) :
    Calls Try.prog 25 #[.int .i64 1, .slice (some ⟨p, 0, none⟩) 3 3] w fun e w' => ∃ g cap, e = .returned (.tuple #[.int .i64 182605794, .slice (some ⟨g, 0, none⟩) 3 cap, .int .i64 0]) ∧
      w'.cell? ⟨g, 0, none⟩ = some (.int .i64 9) ∧ w'.cell? ⟨g, 1, none⟩ = some (.int .i64 8) ∧ w'.cell? ⟨g, 2, none⟩ = some (.int .i64 7) ∧ g < w'.heap.size ∧ Below w.heap.size w w' := by
  have h := shuffle_calls 1 st1 ⟨p, 0, none⟩ 3 [7, 8, 9] w (by decide) (by
    intro j x hj
    rw [add_pl, Nat.zero_add]
    match j, hj with
    | 0, hj => rw [p0]; cases hj; rfl
    | 1, hj => rw [p1]; cases hj; rfl
    | 2, hj => rw [p2]; cases hj; rfl)
  rw [show ([7, 8, 9] : List Int).length - 1 = 2 from rfl, shufK_eq] at h
  refine h.mono ?_
  rintro e w' ⟨v', rfl, hown, hb⟩
  obtain ⟨g, cap, rfl⟩ := ownsRow_succ hown
  exact ⟨g, cap, rfl, hown.cellAt 0 (by decide), hown.cellAt 1 (by decide), hown.cellAt 2 (by decide), (hown.lt g rfl).2, hb⟩
theorem sameK (p q c : Nat) (w : World) (p0 : w.cell? ⟨p, 0, none⟩ = some (.int .i64 9)) (p1 : w.cell? ⟨p, 1, none⟩ = some (.int .i64 8)) (p2 : w.cell? ⟨p, 2, none⟩ = some (.int .i64 7))
    (q0 : w.cell? ⟨q, 0, none⟩ = some (.int .i64 9)) (q1 : w.cell? ⟨q, 1, none⟩ = some (.int .i64 8)) (q2 : w.cell? ⟨q, 2, none⟩ = some (.int .i64 7)) :
    Calls Try.prog 32 #[.slice (some ⟨p, 0, none⟩) 3 c, .slice (some ⟨q, 0, none⟩) 3 3] w fun e w' => e = .returned (.bool true) ∧ Below w.heap.size w w' := by
  refine same_calls p 0 c q 0 3 [9, 8, 7] [9, 8, 7] w (by decide) ?_ ?_
  · intro j x hj
    rw [Nat.zero_add]
    match j, hj with
    | 0, hj => rw [p0]; cases hj; rfl
    | 1, hj => rw [p1]; cases hj; rfl
    | 2, hj => rw [p2]; cases hj; rfl
  · intro j x hj
    rw [Nat.zero_add]
    match j, hj with
    | 0, hj => rw [q0]; cases hj; rfl
    | 1, hj => rw [q1]; cases hj; rfl
    | 2, hj => rw [q2]; cases hj; rfl
theorem ofK1 (w : World) : Calls Try.prog 13 #[.int .i64 0] w fun e w' => e = .returned (.int .i64 1) ∧ Below w.heap.size w w' := of_calls3 0 w
theorem ofK2 (w : World) : Calls Try.prog 13 #[.int .i64 (-1)] w fun e w' => e = .returned (.int .i64 2147483646) ∧ Below w.heap.size w w' := of_calls3 (-1) w
theorem ofK3 (w : World) : Calls Try.prog 13 #[.int .i64 2147483646] w fun e w' => e = .returned (.int .i64 1) ∧ Below w.heap.size w w' := of_calls3 2147483646 w
set_option maxRecDepth 100000 in
set_option maxHeartbeats 8000000 in
theorem awake_calls (w : World) :
    Calls Try.prog 11 #[] w fun x w' => x = .returned (.bool true) ∧ Below w.heap.size w w' := by
  go_enter Try.func11, Try.ntmps11
  go_upto_region 2 with (first | (go_at_call 15; refine (nextK1 _).mono ?_; rintro e w1 ⟨rfl, hbel⟩; obtain ⟨o1, j1, rfl⟩ := grow_of_below hbel; clear hbel))
  go_upto_region 3 with (first | (go_at_call 15; refine (nextK2 _).mono ?_; rintro e w2 ⟨rfl, hbel⟩; obtain ⟨o2, j2, rfl⟩ := grow_of_below hbel; clear hbel))
  go_upto_region 4 with (first | (go_at_call 14; refine (jumpK1 _).mono ?_; rintro e w3 ⟨rfl, hbel⟩; obtain ⟨o3, j3, rfl⟩ := grow_of_below hbel; clear hbel))
  go_upto_region 5 with (first | (go_at_call 14; refine (jumpK2 _).mono ?_; rintro e w4 ⟨rfl, hbel⟩; obtain ⟨o4, j4, rfl⟩ := grow_of_below hbel; clear hbel))
  go_upto_region 6 with (first | (go_at_call 18; refine (belowK1 _).mono ?_; rintro e w5 ⟨rfl, hbel⟩; obtain ⟨o5, j5, rfl⟩ := grow_of_below hbel; clear hbel))
  go_upto_region 7 with (first | (go_at_call 18; refine (belowK2 _).mono ?_; rintro e w6 ⟨rfl, hbel⟩; obtain ⟨o6, j6, rfl⟩ := grow_of_below hbel; clear hbel))
  go_upto_region 8 with (first | (go_at_call 25; refine (shufK _ _ (by simp [go_sem]) (by simp [go_sem]) (by simp [go_sem])).mono ?_; rintro e w7 ⟨g, cap, rfl, c0, c1, c2, hg, hb7⟩))
  have iG : NeZero (inW g w7) := inW_mk hg
  have hb0 : Below w.heap.size w w7 := by
    refine Below.trans (by repeat (first | (with_reducible exact Below.refl _ _) | ((with_reducible refine below_grow ?_ ?_); rotate_left; focus (first | omega | (simp [go_sem]; done) | (simp [go_sem]; omega))) | ((with_reducible refine Below.alloc ?_ ?_ _); rotate_left; focus (first | omega | (simp [go_sem]; done) | (simp [go_sem]; omega))) | ((with_reducible refine Below.setCell ?_ ?_ _); rotate_left; focus (first | omega | (simp [go_sem]; done) | (simp [go_sem]; omega))) | (with_reducible refine Below.drew ?_) | (with_reducible refine below_drewN _ ?_))) (hb7.mono ?_)
    simp [go_sem]
    try omega
  have hbs := hb0.size
  clear hb7
  have s0 : stp 0 = 0 := by decide
  have s1 : stp (-1) = 2147483645 := by decide
  have s2 : stp 2147483646 = 0 := by decide
  go_upto_region 10 with fail
  go_wp2_with (first | (go_at_call 32; refine (sameK _ _ _ _ (by simp [go_sem, c0]) (by simp [go_sem, c1]) (by simp [go_sem, c2]) (by simp [go_sem]) (by simp [go_sem]) (by simp [go_sem])).mono ?_; rintro e w8 ⟨rfl, hbel⟩; obtain ⟨o8, j8, rfl⟩ := grow_of_below hbel; clear hbel) | (go_at_call 13; refine (of_calls3 _ _).mono ?_; rintro e w9 ⟨rfl, hbel⟩; obtain ⟨o9, j9, rfl⟩ := grow_of_below hbel; clear hbel))
  go_ret
  exact ⟨rfl, by repeat (first | (with_reducible exact hb0) | ((with_reducible refine below_grow ?_ ?_); rotate_left; focus (first | omega | (simp [go_sem]; done) | (simp [go_sem]; omega))) | ((with_reducible refine Below.alloc ?_ ?_ _); rotate_left; focus (first | omega | (simp [go_sem]; done) | (simp [go_sem]; omega))) | ((with_reducible refine Below.setCell ?_ ?_ _); rotate_left; focus (first | omega | (simp [go_sem]; done) | (simp [go_sem]; omega))) | (with_reducible refine Below.drew ?_) | (with_reducible refine below_drewN _ ?_))⟩
theorem jump_hyp (s r : Nat) (hs : St s) (n : Int) (hr : jmp s (stp n) = r) (w : World) :
    Calls Try.prog 14 #[.int .i64 s, .int .i64 n] w fun e w' => e = .returned (.tuple #[.int .i64 r, .int .i64 0]) ∧ Below w.heap.size w w' := by
  have h := jump_yes s hs n w
  rw [hr] at h
  exact h
theorem next_hyp (s r m : Nat) (hs : St s) (hr : nxt s = r) (hm : r - 1 = m) (w : World) :
    Calls Try.prog 15 #[.int .i64 s] w fun e w' => e = .returned (.tuple #[.int .i64 r, .int .i64 m, .int .i64 0]) ∧ Below w.heap.size w w' := by
  have h := next_yes s hs w
  rw [hr, hm] at h
  exact h
theorem of_hyp (n : Int) (s : Nat) (hs : stp n + 1 = s) (w : World) : Calls Try.prog 13 #[.int .i64 n] w fun e w' => e = .returned (.int .i64 s) ∧ Below w.heap.size w w' := by
  have h := of_calls3 n w
  rw [hs] at h
  exact h
theorem stp_St (n : Int) : St (stp n + 1) := by
  have := stp_lt n
  unfold St
  omega
end Go.Proofs.Ytcgecgagecobeaa
