/- Left, Right, lacking, completes, Owner. -/
import Derived.Test.YtalklogopepjpaaDoorXA
namespace Go.Proofs.YtalklogopepjpaaDoor
open Go.RowKit
open Go.Proofs.DB (ct Dj Pd Rd hl lf wo left lack full)

theorem partial_yes (p : Nat → Nat) (hp : Pd p) (w : World) : Calls Tryd.prog 37 #[.agg #[.int .u64 (p 0 : Nat), .int .u64 (p 1 : Nat), .int .u64 (p 2 : Nat), .int .u64 (p 3 : Nat)]] w fun e w' => e = .returned (.bool true) ∧ Below w.heap.size w w' := by
  have := partial_calls p (fun i hi => Nat.lt_trans (hp.lt i hi) (by decide)) w
  rwa [decide_eq_true hp] at this
theorem partial_no (p : Nat → Nat) (h64 : ∀ i, i < 4 → p i < 18446744073709551616) (hp : ¬ Pd p) (w : World) : Calls Tryd.prog 37 #[.agg #[.int .u64 (p 0 : Nat), .int .u64 (p 1 : Nat), .int .u64 (p 2 : Nat), .int .u64 (p 3 : Nat)]] w fun e w' => e = .returned (.bool false) ∧ Below w.heap.size w w' := by
  have := partial_calls p h64 w
  rwa [decide_eq_false hp] at this
set_option maxRecDepth 100000 in
set_option maxHeartbeats 4000000 in
theorem left_yes (p : Nat → Nat) (hp : Pd p) (w : World) : Calls Tryd.prog 39 #[.agg #[.int .u64 (p 0 : Nat), .int .u64 (p 1 : Nat), .int .u64 (p 2 : Nat), .int .u64 (p 3 : Nat)]] w fun e w' => e = .returned (.tuple #[.int .u64 (left p : Nat), .int .i64 0]) ∧ Below w.heap.size w w' := by
  have P := Lib.hid (partial_yes p hp)
  have IX := Lib.hid (index_deal p)
  have HQ := Lib.hid (fun i hi => Nat.lt_trans (hp.lt i hi) (show 2 ^ 52 < 18446744073709551616 by decide))
  have HL4 := Lib.hid (DB.lf_left hp)
  clear hp
  go_enter Tryd.func39, Tryd.ntmps39
  go_upto_region 5 with (go_at_call 37; refine (P.out _).mono ?_; rintro e w9 ⟨rfl, hbel⟩; obtain ⟨o1, j1, rfl⟩ := grow_of_below hbel; clear hbel)
  generalize hW : grow _ o1 j1 = W
  have bel : Below w.heap.size w W := by rw [← hW]; repeat (first | (with_reducible exact Below.refl _ _) | ((with_reducible refine below_grow ?_ ?_); rotate_left; focus (first | omega | (simp [go_sem]; done) | (simp [go_sem]; omega))) | ((with_reducible refine Below.alloc ?_ ?_ _); rotate_left; focus (first | omega | (simp [go_sem]; done) | (simp [go_sem]; omega))) | ((with_reducible refine Below.setCell ?_ ?_ _); rotate_left; focus (first | omega | (simp [go_sem]; done) | (simp [go_sem]; omega))) | (with_reducible refine Below.drew ?_) | (with_reducible refine below_drewN _ ?_))
  clear hW P
  go_loopw [4, 6, 11] (fun s4 s6 s11 wr => ∃ i : Nat, s11 = .int .i64 i ∧ i ≤ 4 ∧ s4 = .int .u64 (lf p i : Nat) ∧ wr = W) (fun _ _ s11 _ => 4 - (intOf s11).toNat)
  case atStart => exact ⟨0, rfl, by decide, rfl, rfl⟩
  case round =>
    obtain ⟨i, rfl, hi, rfl, rfl⟩ := hrel
    by_cases hlt : i < 4
    · have ix := IX.out i hlt wr
      have h64 := HQ.out i hlt
      have hlt2 : (i : Int) < 4 := by omega
      have e1 : IntKind.i64.wrap ((i : Int) + 1) = (i : Int) + 1 := IntWalk.i64_in _ (by omega)
      have hl := DB.lf_lt p i
      have a0 := u64_andNot_nat (lf p i) (p i) (by omega) h64
      rw [DB.and_not_wo (by omega) h64, show wo (lf p i) (p i) = lf p (i + 1) from rfl] at a0
      obtain ⟨x, hx⟩ : ∃ x, p i = x := ⟨_, rfl⟩
      obtain ⟨y, hy⟩ : ∃ y, lf p i = y := ⟨_, rfl⟩
      obtain ⟨z, hz⟩ : ∃ z, lf p (i + 1) = z := ⟨_, rfl⟩
      have HZ := Lib.hid hz
      have HLT := Lib.hid hlt
      rw [hx] at ix
      rw [hx, hy, hz] at a0
      rw [hy]
      clear hx hy hz hl h64 hlt hi
      go_wp2
      go_roundw
      case rel => exact ⟨i + 1, by go_num, HLT.out, by rw [HZ.out], trivial⟩
      case measure => simp [intOf]; have := HLT.out; omega
    · obtain rfl : i = 4 := by omega
      rw [HL4.out]
      clear hlt hi
      go_wp2
      refine bodyPost_ret (by simp [results, Tryd.results39, go_sem]) rfl ⟨rfl, bel⟩
theorem left_no (p : Nat → Nat) (h64 : ∀ i, i < 4 → p i < 18446744073709551616) (hp : ¬ Pd p) (w : World) : Calls Tryd.prog 39 #[.agg #[.int .u64 (p 0 : Nat), .int .u64 (p 1 : Nat), .int .u64 (p 2 : Nat), .int .u64 (p 3 : Nat)]] w fun e w' => e = .returned (.tuple #[.int .u64 0, .int .i64 60]) ∧ Below w.heap.size w w' := by
  have P := Lib.hid (partial_no p h64 hp)
  clear hp h64
  go_enter Tryd.func39, Tryd.ntmps39
  go_wp2_with (go_at_call 37; refine (P.out _).mono ?_; rintro e w9 ⟨rfl, hbel⟩; obtain ⟨o1, j1, rfl⟩ := grow_of_below hbel; clear hbel)
  refine bodyPost_ret (by simp [results, Tryd.results39, go_sem]) rfl ⟨rfl, ?_⟩
  repeat (first | (with_reducible exact Below.refl _ _) | ((with_reducible refine below_grow ?_ ?_); rotate_left; focus (first | omega | (simp [go_sem]; done) | (simp [go_sem]; omega))) | ((with_reducible refine Below.alloc ?_ ?_ _); rotate_left; focus (first | omega | (simp [go_sem]; done) | (simp [go_sem]; omega))) | ((with_reducible refine Below.setCell ?_ ?_ _); rotate_left; focus (first | omega | (simp [go_sem]; done) | (simp [go_sem]; omega))) | (with_reducible refine Below.drew ?_) | (with_reducible refine below_drewN _ ?_))
theorem dright_yes (p : Nat → Nat) (hp : Pd p) (w : World) : Calls Tryd.prog 28 #[.agg #[.int .u64 (p 0 : Nat), .int .u64 (p 1 : Nat), .int .u64 (p 2 : Nat), .int .u64 (p 3 : Nat)]] w fun e w' => e = .returned (.bool (decide (Rd p))) ∧ Below w.heap.size w w' := by
  have P := Lib.hid (left_yes p hp)
  have hd : decide (Rd p) = decide (left p = 0) := by rw [decide_eq_decide, DB.right_iff hp]
  rw [hd]
  obtain ⟨x, hx⟩ : ∃ x, left p = x := ⟨_, rfl⟩
  rw [hx] at P ⊢
  clear hd hx hp
  by_cases h0 : x = 0
  · subst h0
    go_enter Tryd.func28, Tryd.ntmps28
    go_wp2_with (go_at_call 39; refine (P.out _).mono ?_; rintro e w9 ⟨rfl, hbel⟩; obtain ⟨o1, j1, rfl⟩ := grow_of_below hbel; clear hbel)
    refine bodyPost_ret (by simp [results, Tryd.results28, go_sem]) rfl ⟨rfl, ?_⟩
    repeat (first | (with_reducible exact Below.refl _ _) | ((with_reducible refine below_grow ?_ ?_); rotate_left; focus (first | omega | (simp [go_sem]; done) | (simp [go_sem]; omega))) | ((with_reducible refine Below.alloc ?_ ?_ _); rotate_left; focus (first | omega | (simp [go_sem]; done) | (simp [go_sem]; omega))) | ((with_reducible refine Below.setCell ?_ ?_ _); rotate_left; focus (first | omega | (simp [go_sem]; done) | (simp [go_sem]; omega))) | (with_reducible refine Below.drew ?_) | (with_reducible refine below_drewN _ ?_))
  · have h1 : ¬ (x : Int) = 0 := by omega
    rw [decide_eq_false h0]
    go_enter Tryd.func28, Tryd.ntmps28
    go_wp2_with (go_at_call 39; refine (P.out _).mono ?_; rintro e w9 ⟨rfl, hbel⟩; obtain ⟨o1, j1, rfl⟩ := grow_of_below hbel; clear hbel)
    refine bodyPost_ret (by simp [results, Tryd.results28, go_sem, h0]) rfl ⟨rfl, ?_⟩
    repeat (first | (with_reducible exact Below.refl _ _) | ((with_reducible refine below_grow ?_ ?_); rotate_left; focus (first | omega | (simp [go_sem]; done) | (simp [go_sem]; omega))) | ((with_reducible refine Below.alloc ?_ ?_ _); rotate_left; focus (first | omega | (simp [go_sem]; done) | (simp [go_sem]; omega))) | ((with_reducible refine Below.setCell ?_ ?_ _); rotate_left; focus (first | omega | (simp [go_sem]; done) | (simp [go_sem]; omega))) | (with_reducible refine Below.drew ?_) | (with_reducible refine below_drewN _ ?_))
theorem dright_no (p : Nat → Nat) (h64 : ∀ i, i < 4 → p i < 18446744073709551616) (hp : ¬ Pd p) (w : World) : Calls Tryd.prog 28 #[.agg #[.int .u64 (p 0 : Nat), .int .u64 (p 1 : Nat), .int .u64 (p 2 : Nat), .int .u64 (p 3 : Nat)]] w fun e w' => e = .returned (.bool false) ∧ Below w.heap.size w w' := by
  have P := Lib.hid (left_no p h64 hp)
  clear hp h64
  go_enter Tryd.func28, Tryd.ntmps28
  go_wp2_with (go_at_call 39; refine (P.out _).mono ?_; rintro e w9 ⟨rfl, hbel⟩; obtain ⟨o1, j1, rfl⟩ := grow_of_below hbel; clear hbel)
  refine bodyPost_ret (by simp [results, Tryd.results28, go_sem]) rfl ⟨rfl, ?_⟩
  repeat (first | (with_reducible exact Below.refl _ _) | ((with_reducible refine below_grow ?_ ?_); rotate_left; focus (first | omega | (simp [go_sem]; done) | (simp [go_sem]; omega))) | ((with_reducible refine Below.alloc ?_ ?_ _); rotate_left; focus (first | omega | (simp [go_sem]; done) | (simp [go_sem]; omega))) | ((with_reducible refine Below.setCell ?_ ?_ _); rotate_left; focus (first | omega | (simp [go_sem]; done) | (simp [go_sem]; omega))) | (with_reducible refine Below.drew ?_) | (with_reducible refine below_drewN _ ?_))
end Go.Proofs.YtalklogopepjpaaDoor
