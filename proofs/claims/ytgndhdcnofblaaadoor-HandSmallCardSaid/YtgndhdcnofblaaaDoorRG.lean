/- All of hand's functions return what the reference returns. -/
import Derived.Test.YtgndhdcnofblaaaDoorRF
import Derived.Test.YtgndhdcnofblaaaDoorRC
import Derived.BigQuiet
namespace Go.Proofs.YtgndhdcnofblaaaDoor
open Go.RowKit

theorem hold_same (m s : Nat) (hm : m < 18446744073709551616) : ∃ x : Nat, (∀ w, Calls Tryd.prog 12 #[.int .u64 m, .int .u8 s] w fun e w' => e = .returned (.int .u16 x) ∧ w = w') ∧ (∀ w, Calls Tryd.prog 13 #[.int .u64 m, .int .u8 s] w fun e w' => e = .returned (.int .u16 x) ∧ w = w') := by
  by_cases h : s < 4
  · exact ⟨_, holding_yes m s hm h, refHolding m s hm h⟩
  · exact ⟨0, holding_no m s (by omega), refHolding_no m s (by omega)⟩
set_option maxRecDepth 100000 in
set_option maxHeartbeats 8000000 in
theorem same_calls (m : Nat) (hm : m < 18446744073709551616) (w : World) : Calls Tryd.prog 11 #[.int .u64 m] w fun e w' => e = .returned (.bool true) ∧ Below w.heap.size w w' := by
  obtain ⟨a, b, c, d, hs, k1, k2, k3⟩ := srt_key m
  have R := fun w => hand_right_calls m w
  have R' := fun w => refRight m hm w
  have P := fun w => points_calls m hm w
  have P' := fun w => refPoints m hm w
  have C := fun w => controls_calls m hm w
  have C' := fun w => refControls m hm w
  have L := fun w => losersT m hm w
  have L' := fun w => refLosers m hm w
  have Q := fun w => quickT m hm w
  have Q' := fun w => refQuick m hm w
  have S := fun w => shape_calls m hm w
  have S' := fun w => refShape m hm w
  have T := fun w => pattern_calls m hm w
  have T' := fun w => refPattern m hm w
  have B := fun w => balanced_calls m hm w
  have B' := fun w => refBalanced m hm w
  have U := fun w => suits_at hs hm w
  have U' := fun w => refSuits hs k1 k2 k3 hm w
  have HS := Lib.hid fun s => hold_same m s hm
  clear hs k1 k2 k3 hm
  unfold sui4 encS at U U'
  unfold shp at S S'
  obtain ⟨x1, e⟩ : ∃ r, decide (m < 4503599627370496 ∧ cnt m = 13) = r := ⟨_, rfl⟩
  rw [e] at R R'
  clear e
  obtain ⟨x2, e⟩ : ∃ r, tot pts m = r := ⟨_, rfl⟩
  rw [e] at P P'
  clear e
  obtain ⟨x3, e⟩ : ∃ r, tot ctl m = r := ⟨_, rfl⟩
  rw [e] at C C'
  clear e
  obtain ⟨x4, e⟩ : ∃ r, tot los m = r := ⟨_, rfl⟩
  rw [e] at L L'
  clear e
  obtain ⟨x5, e⟩ : ∃ r, tot qck m = r := ⟨_, rfl⟩
  rw [e] at Q Q'
  clear e
  obtain ⟨x6, e⟩ : ∃ r, pat m = r := ⟨_, rfl⟩
  rw [e] at T T'
  clear e
  obtain ⟨x7, e⟩ : ∃ r, bal m = r := ⟨_, rfl⟩
  rw [e] at B B'
  clear e
  obtain ⟨n0, e⟩ : ∃ n, len (hol m 0) = n := ⟨_, rfl⟩
  rw [e] at S S'
  clear e
  obtain ⟨n1, e⟩ : ∃ n, len (hol m 1) = n := ⟨_, rfl⟩
  rw [e] at S S'
  clear e
  obtain ⟨n2, e⟩ : ∃ n, len (hol m 2) = n := ⟨_, rfl⟩
  rw [e] at S S'
  clear e
  obtain ⟨n3, e⟩ : ∃ n, len (hol m 3) = n := ⟨_, rfl⟩
  rw [e] at S S'
  clear e
  have eqa := eqI4 n0 n1 n2 n3 n0 n1 n2 n3
  have eqb := eqU4 (a.val : Nat) (b.val : Nat) (c.val : Nat) (d.val : Nat) (a.val : Nat) (b.val : Nat) (c.val : Nat) (d.val : Nat)
  simp only [and_self, decide_true] at eqa eqb
  have R := Lib.hid R
  have R' := Lib.hid R'
  have P := Lib.hid P
  have P' := Lib.hid P'
  have C := Lib.hid C
  have C' := Lib.hid C'
  have L := Lib.hid L
  have L' := Lib.hid L'
  have Q := Lib.hid Q
  have Q' := Lib.hid Q'
  have S := Lib.hid S
  have S' := Lib.hid S'
  have T := Lib.hid T
  have T' := Lib.hid T'
  have B := Lib.hid B
  have B' := Lib.hid B'
  have U := Lib.hid U
  have U' := Lib.hid U'
  have EA := Lib.hid eqa
  have EB := Lib.hid eqb
  clear eqa eqb
  go_enter Tryd.func11, Tryd.ntmps11
  go_upto_region 3 with (first | (go_at_call 25; refine (R.out _).mono ?_; rintro e w1 ⟨rfl, rfl⟩) | (go_at_call 29; refine (R'.out _).mono ?_; rintro e w1 ⟨rfl, rfl⟩) | (go_at_call 19; refine (P.out _).mono ?_; rintro e w1 ⟨rfl, hbel⟩; obtain ⟨o1, j1, rfl⟩ := grow_of_below hbel; clear hbel) | (go_at_call 30; refine (P'.out _).mono ?_; rintro e w1 ⟨rfl, rfl⟩) | (go_at_call 20; refine (C.out _).mono ?_; rintro e w1 ⟨rfl, hbel⟩; obtain ⟨o1, j1, rfl⟩ := grow_of_below hbel; clear hbel) | (go_at_call 31; refine (C'.out _).mono ?_; rintro e w1 ⟨rfl, rfl⟩) | (go_at_call 21; refine (L.out _).mono ?_; rintro e w1 ⟨rfl, hbel⟩; obtain ⟨o1, j1, rfl⟩ := grow_of_below hbel; clear hbel) | (go_at_call 32; refine (L'.out _).mono ?_; rintro e w1 ⟨rfl, rfl⟩) | (go_at_call 22; refine (Q.out _).mono ?_; rintro e w1 ⟨rfl, hbel⟩; obtain ⟨o1, j1, rfl⟩ := grow_of_below hbel; clear hbel) | (go_at_call 33; refine (Q'.out _).mono ?_; rintro e w1 ⟨rfl, rfl⟩))
  generalize hW : grow _ _ _ = W
  have bel : Below w.heap.size w W := by rw [← hW]; repeat (first | (with_reducible exact Below.refl _ _) | ((with_reducible refine below_grow ?_ ?_); rotate_left; focus (first | omega | (simp [go_sem]; done) | (simp [go_sem]; omega))) | ((with_reducible refine Below.alloc ?_ ?_ _); rotate_left; focus (first | omega | (simp [go_sem]; done) | (simp [go_sem]; omega))) | ((with_reducible refine Below.setCell ?_ ?_ _); rotate_left; focus (first | omega | (simp [go_sem]; done) | (simp [go_sem]; omega))) | (with_reducible refine Below.drew ?_) | (with_reducible refine below_drewN _ ?_))
  clear hW
  have BL := Lib.hid bel
  have zl := bel.size
  clear R R' P P' C C' L L' Q Q' bel
  go_wp2
  go_loopw [3] (fun s3 wr => ∃ s : Nat, s3 = .int .u8 (s : Nat) ∧ s ≤ 5 ∧ wr = W) (fun s3 _ => 5 - (intOf s3).toNat)
  case atStart => exact ⟨0, rfl, by decide, rfl⟩
  case round =>
    obtain ⟨s, rfl, hs, rfl⟩ := hrel
    by_cases hlt : s < 5
    · have hlt2 : (s : Int) < 5 := by omega
      have f1 : IntKind.u8.wrap ((s : Int) + 1) = ((s + 1 : Nat) : Int) := by rw [IntKind.wrap_u8']; omega
      obtain ⟨x, H, H'⟩ := HS.out s
      have H := Lib.hid H
      have H' := Lib.hid H'
      have HL := Lib.hid hlt
      clear hlt hs zl
      go_wp2_with (first | (go_at_call 12; refine (H.out _).mono ?_; rintro e w1 ⟨rfl, rfl⟩) | (go_at_call 13; refine (H'.out _).mono ?_; rintro e w1 ⟨rfl, rfl⟩))
      go_roundw
      case rel => exact ⟨s + 1, by first | rfl | go_num, HL.out, by first | rfl | trivial⟩
      case measure => simp [intOf]; have := HL.out; omega
    · obtain rfl : s = 5 := by omega
      clear hlt hs
      have eqa := EA.out
      have eqb := EB.out
      go_wp2_with (first | (go_at_call 26; refine (S.out _).mono ?_; rintro e w1 ⟨rfl, hbel⟩; obtain ⟨o1, j1, rfl⟩ := grow_of_below hbel; clear hbel) | (go_at_call 34; refine (S'.out _).mono ?_; rintro e w1 ⟨rfl, hbel⟩; obtain ⟨o1, j1, rfl⟩ := grow_of_below hbel; clear hbel) | (go_at_call 23; refine (T.out _).mono ?_; rintro e w1 ⟨rfl, hbel⟩; obtain ⟨o1, j1, rfl⟩ := grow_of_below hbel; clear hbel) | (go_at_call 35; refine (T'.out _).mono ?_; rintro e w1 ⟨rfl, hbel⟩; obtain ⟨o1, j1, rfl⟩ := grow_of_below hbel; clear hbel) | (go_at_call 24; refine (B.out _).mono ?_; rintro e w1 ⟨rfl, hbel⟩; obtain ⟨o1, j1, rfl⟩ := grow_of_below hbel; clear hbel) | (go_at_call 36; refine (B'.out _).mono ?_; rintro e w1 ⟨rfl, hbel⟩; obtain ⟨o1, j1, rfl⟩ := grow_of_below hbel; clear hbel) | (go_at_call 28; refine (U.out _).mono ?_; rintro e w1 ⟨rfl, hbel⟩; obtain ⟨o1, j1, rfl⟩ := grow_of_below hbel; clear hbel) | (go_at_call 37; refine (U'.out _).mono ?_; rintro e w1 ⟨rfl, hbel⟩; obtain ⟨o1, j1, rfl⟩ := grow_of_below hbel; clear hbel))
      go_ret
      refine ⟨rfl, ?_⟩
      have bel := BL.out
      repeat (first | (with_reducible exact bel) | ((with_reducible refine below_grow ?_ ?_); rotate_left; focus (first | omega | (simp [go_sem]; done) | (simp [go_sem]; omega))) | ((with_reducible refine Below.alloc ?_ ?_ _); rotate_left; focus (first | omega | (simp [go_sem]; done) | (simp [go_sem]; omega))) | ((with_reducible refine Below.setCell ?_ ?_ _); rotate_left; focus (first | omega | (simp [go_sem]; done) | (simp [go_sem]; omega))) | (with_reducible refine Below.drew ?_) | (with_reducible refine below_drewN _ ?_))
end Go.Proofs.YtgndhdcnofblaaaDoor
