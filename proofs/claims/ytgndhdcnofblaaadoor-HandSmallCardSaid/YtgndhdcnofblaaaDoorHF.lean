/- Points, Controls. -/
import Derived.Test.YtgndhdcnofblaaaDoorHE
namespace Go.Proofs.YtgndhdcnofblaaaDoor
open Go.RowKit

theorem acc_pts (h : Nat) : acc [0, 0, 0, 0, 0, 0, 0, 0, 0, 1, 2, 3, 4] h 13 = (pts h : Nat) := by
  have h9 : h / 512 % 2 = 0 ∨ h / 512 % 2 = 1 := by omega
  have h10 : h / 1024 % 2 = 0 ∨ h / 1024 % 2 = 1 := by omega
  have h11 : h / 2048 % 2 = 0 ∨ h / 2048 % 2 = 1 := by omega
  have h12 : h / 4096 % 2 = 0 ∨ h / 4096 % 2 = 1 := by omega
  unfold pts
  rcases h9 with h9 | h9 <;> rcases h10 with h10 | h10 <;> rcases h11 with h11 | h11 <;> rcases h12 with h12 | h12 <;> simp [acc, h9, h10, h11, h12]
theorem acc_ctl (h : Nat) : acc [0, 0, 0, 0, 0, 0, 0, 0, 0, 0, 0, 1, 2] h 13 = (ctl h : Nat) := by
  have h11 : h / 2048 % 2 = 0 ∨ h / 2048 % 2 = 1 := by omega
  have h12 : h / 4096 % 2 = 0 ∨ h / 4096 % 2 = 1 := by omega
  unfold ctl
  rcases h11 with h11 | h11 <;> rcases h12 with h12 | h12 <;> simp [acc, h11, h12]
def arrP : Array Value := #[.int .i64 0, .int .i64 0, .int .i64 0, .int .i64 0, .int .i64 0, .int .i64 0, .int .i64 0, .int .i64 0, .int .i64 0, .int .i64 1, .int .i64 2, .int .i64 3, .int .i64 4]
def arrC : Array Value := #[.int .i64 0, .int .i64 0, .int .i64 0, .int .i64 0, .int .i64 0, .int .i64 0, .int .i64 0, .int .i64 0, .int .i64 0, .int .i64 0, .int .i64 0, .int .i64 1, .int .i64 2]
theorem getD_le (l : List Int) (n : Int) (h0 : 0 ≤ n) (h : ∀ x ∈ l, 0 ≤ x ∧ x ≤ n) (i : Nat) : 0 ≤ l.getD i 0 ∧ l.getD i 0 ≤ n := by
  rw [List.getD_eq_getElem?_getD]
  cases e : l[i]? with
  | none => exact ⟨Int.le_refl _, h0⟩
  | some x => exact h x (List.mem_of_getElem? e)
theorem eg_adder (args : Array Value) (w : World) : (callFunc 52 args).run Tryd.prog w = .ok (.enter 52 args) w := by simp [go_sem]
theorem eg_losers (args : Array Value) (w : World) : (callFunc 41 args).run Tryd.prog w = .ok (.enter 41 args) w := by simp [go_sem]
theorem eg_quick (args : Array Value) (w : World) : (callFunc 42 args).run Tryd.prog w = .ok (.enter 42 args) w := by simp [go_sem]
theorem below_alloc_cell {w W : World} {o : Obj} (hb : Below (w.alloc o).heap.size (w.alloc o) W) (i : Nat) : W.cell? ⟨w.heap.size, i, none⟩ = (w.alloc o).cell? ⟨w.heap.size, i, none⟩ :=
  World.cell?_of_block (hb.block _ (by simp))
theorem total_pts (m : Nat) (hm : m < 18446744073709551616) (w : World) : Calls Tryd.prog 39 #[.int .u64 m, .func (.func 52) #[] #[.pointer (some ⟨w.heap.size, 0, none⟩)]] (w.alloc (.cells #[.int .i64 0, .int .i64 0, .int .i64 0, .int .i64 0, .int .i64 0, .int .i64 0, .int .i64 0, .int .i64 0, .int .i64 0, .int .i64 1, .int .i64 2, .int .i64 3, .int .i64 4] 49)) fun e w' => e = .returned (.int .i64 (tot pts m)) ∧ Below w.heap.size w w' := by
  refine (total_calls m hm _ _ pts (fun h => by have := pts_le h; omega) _ eg_adder fun h W hh hb => ?_).mono fun e w' ⟨he, hb⟩ => ⟨he, ((Below.refl _ _).alloc (Nat.le_refl _) _).trans (hb.mono (by simp))⟩
  have c := fun i => below_alloc_cell hb i
  have H := adder1_calls 0 0 0 0 0 0 0 0 0 1 2 3 4 (getD_le _ 9 (by decide) (by decide)) h hh w.heap.size W
    (by rw [c]; simp) (by rw [c]; simp) (by rw [c]; simp) (by rw [c]; simp) (by rw [c]; simp) (by rw [c]; simp) (by rw [c]; simp) (by rw [c]; simp) (by rw [c]; simp) (by rw [c]; simp) (by rw [c]; simp) (by rw [c]; simp) (by rw [c]; simp)
  rw [acc_pts] at H
  exact H.mono fun e w' ⟨he, hw⟩ => ⟨he, hw ▸ Below.refl _ _⟩
theorem total_ctl (m : Nat) (hm : m < 18446744073709551616) (w : World) : Calls Tryd.prog 39 #[.int .u64 m, .func (.func 52) #[] #[.pointer (some ⟨w.heap.size, 0, none⟩)]] (w.alloc (.cells #[.int .i64 0, .int .i64 0, .int .i64 0, .int .i64 0, .int .i64 0, .int .i64 0, .int .i64 0, .int .i64 0, .int .i64 0, .int .i64 0, .int .i64 0, .int .i64 1, .int .i64 2] 49)) fun e w' => e = .returned (.int .i64 (tot ctl m)) ∧ Below w.heap.size w w' := by
  refine (total_calls m hm _ _ ctl (fun h => by have := ctl_le h; omega) _ eg_adder fun h W hh hb => ?_).mono fun e w' ⟨he, hb⟩ => ⟨he, ((Below.refl _ _).alloc (Nat.le_refl _) _).trans (hb.mono (by simp))⟩
  have c := fun i => below_alloc_cell hb i
  have H := adder1_calls 0 0 0 0 0 0 0 0 0 0 0 1 2 (getD_le _ 9 (by decide) (by decide)) h hh w.heap.size W
    (by rw [c]; simp) (by rw [c]; simp) (by rw [c]; simp) (by rw [c]; simp) (by rw [c]; simp) (by rw [c]; simp) (by rw [c]; simp) (by rw [c]; simp) (by rw [c]; simp) (by rw [c]; simp) (by rw [c]; simp) (by rw [c]; simp) (by rw [c]; simp)
  rw [acc_ctl] at H
  exact H.mono fun e w' ⟨he, hw⟩ => ⟨he, hw ▸ Below.refl _ _⟩
theorem points_calls (m : Nat) (hm : m < 18446744073709551616) (w : World) : Calls Tryd.prog 19 #[.int .u64 m] w fun e w' => e = .returned (.int .i64 (tot pts m)) ∧ Below w.heap.size w w' := by
  have T := Lib.hid (total_pts m hm)
  obtain ⟨n, hn⟩ : ∃ n, tot pts m = n := ⟨_, rfl⟩
  rw [hn] at T ⊢
  clear hn hm
  go_enter Tryd.func19, Tryd.ntmps19
  go_wp2_with (first | (go_at_call 40; refine (adder_calls 0 0 0 0 0 0 0 0 0 1 2 3 4 _).mono ?_; rintro e w1 ⟨rfl, rfl⟩) | (go_at_call 39; refine (T.out _).mono ?_; rintro e w1 ⟨rfl, hbel⟩; obtain ⟨o1, j1, rfl⟩ := grow_of_below hbel; clear hbel))
  go_ret
  exact ⟨rfl, by repeat (first | (with_reducible exact Below.refl _ _) | ((with_reducible refine below_grow ?_ ?_); rotate_left; focus (first | omega | (simp [go_sem]; done) | (simp [go_sem]; omega))) | ((with_reducible refine Below.alloc ?_ ?_ _); rotate_left; focus (first | omega | (simp [go_sem]; done) | (simp [go_sem]; omega))) | ((with_reducible refine Below.setCell ?_ ?_ _); rotate_left; focus (first | omega | (simp [go_sem]; done) | (simp [go_sem]; omega))) | (with_reducible refine Below.drew ?_) | (with_reducible refine below_drewN _ ?_))⟩
theorem controls_calls (m : Nat) (hm : m < 18446744073709551616) (w : World) : Calls Tryd.prog 20 #[.int .u64 m] w fun e w' => e = .returned (.int .i64 (tot ctl m)) ∧ Below w.heap.size w w' := by
  have T := Lib.hid (total_ctl m hm)
  obtain ⟨n, hn⟩ : ∃ n, tot ctl m = n := ⟨_, rfl⟩
  rw [hn] at T ⊢
  clear hn hm
  go_enter Tryd.func20, Tryd.ntmps20
  go_wp2_with (first | (go_at_call 40; refine (adder_calls 0 0 0 0 0 0 0 0 0 0 0 1 2 _).mono ?_; rintro e w1 ⟨rfl, rfl⟩) | (go_at_call 39; refine (T.out _).mono ?_; rintro e w1 ⟨rfl, hbel⟩; obtain ⟨o1, j1, rfl⟩ := grow_of_below hbel; clear hbel))
  go_ret
  exact ⟨rfl, by repeat (first | (with_reducible exact Below.refl _ _) | ((with_reducible refine below_grow ?_ ?_); rotate_left; focus (first | omega | (simp [go_sem]; done) | (simp [go_sem]; omega))) | ((with_reducible refine Below.alloc ?_ ?_ _); rotate_left; focus (first | omega | (simp [go_sem]; done) | (simp [go_sem]; omega))) | ((with_reducible refine Below.setCell ?_ ?_ _); rotate_left; focus (first | omega | (simp [go_sem]; done) | (simp [go_sem]; omega))) | (with_reducible refine Below.drew ?_) | (with_reducible refine below_drewN _ ?_))⟩
end Go.Proofs.YtgndhdcnofblaaaDoor
