/- Auctions: the words of a line; what is taken of words. -/
import Derived.Test.YtacgikhedhiaaaaDoorLU
namespace Go.Proofs.YtacgikhedhiaaaaDoor
open Go.RowKit

theorem ba_cut (l : List UInt8) (i j : Nat) : (ByteArray.mk l.toArray).extract i j = ⟨((l.drop i).take (j - i)).toArray⟩ := by
  apply ByteArray.ext
  simp
theorem slice_str (l : List UInt8) (i j : Nat) (hij : i ≤ j) (hj : j ≤ l.length) (W : World) : (Instr.slice 9 (strv l) (some (.int .i64 i)) (some (.int .i64 j)) none).run Tryd.prog W = .ok (strv ((l.drop i).take (j - i))) W := by
  have h1 : (j : Int) ≤ l.length := by omega
  have h2 := ba_cut l i j
  have h3 : (i : Int) ≤ j := by omega
  simp [go_sem, h1, h2, h3]
theorem trim_calls (s : List UInt8) (hs : s.length ≤ 1000000) (w : World) : Calls Tryd.prog 77 #[strv s, .string ⟨#[32]⟩] w fun e w' => e = .returned (strv (trm s)) ∧ w = w' :=
  (Tryd.strings_TrimRight_one ⟨s.toArray⟩ 32 (by decide) w (by show s.length ≤ _; omega)).mono fun _ _ h => ⟨h.1, h.2.symm⟩
set_option maxRecDepth 100000 in
set_option maxHeartbeats 8000000 in
theorem cut_calls (s : List UInt8) (hs : s.length = 20) (w : World) :
    Calls Tryd.prog 56 #[strv s] w fun e w' => e = .returned (.agg #[strv (trm (s.take 5)), strv (trm ((s.drop 5).take 5)), strv (trm ((s.drop 10).take 5)), strv (trm ((s.drop 15).take 5))]) ∧ Below w.heap.size w w' := by
  have s0 := slice_str s 0 5 (by omega) (by omega)
  have s1 := slice_str s 5 10 (by omega) (by omega)
  have s2 := slice_str s 10 15 (by omega) (by omega)
  have s3 := slice_str s 15 20 (by omega) (by omega)
  have z0 : ∀ W, (Instr.slice 9 (strv s) (some (.int .i64 0)) (some (.int .i64 5)) none).run Tryd.prog W = .ok (strv (s.take 5)) W := s0
  have z1 : ∀ W, (Instr.slice 9 (strv s) (some (.int .i64 5)) (some (.int .i64 10)) none).run Tryd.prog W = .ok (strv ((s.drop 5).take 5)) W := s1
  have z2 : ∀ W, (Instr.slice 9 (strv s) (some (.int .i64 10)) (some (.int .i64 15)) none).run Tryd.prog W = .ok (strv ((s.drop 10).take 5)) W := s2
  have z3 : ∀ W, (Instr.slice 9 (strv s) (some (.int .i64 15)) (some (.int .i64 20)) none).run Tryd.prog W = .ok (strv ((s.drop 15).take 5)) W := s3
  have T0 := Lib.hid (trim_calls (s.take 5) (by rw [List.length_take]; omega))
  have T1 := Lib.hid (trim_calls ((s.drop 5).take 5) (by rw [List.length_take]; omega))
  have T2 := Lib.hid (trim_calls ((s.drop 10).take 5) (by rw [List.length_take]; omega))
  have T3 := Lib.hid (trim_calls ((s.drop 15).take 5) (by rw [List.length_take]; omega))
  generalize s.take 5 = a0 at *
  generalize (s.drop 5).take 5 = a1 at *
  generalize (s.drop 10).take 5 = a2 at *
  generalize (s.drop 15).take 5 = a3 at *
  clear s0 s1 s2 s3
  generalize strv s = S at *
  clear hs
  go_enter Tryd.func56, Tryd.ntmps56
  go_wp2
  refine wp_loop_rounds 5 ?_
  rw [rounds_succ]
  go_wp2_with (go_at_call_of 77 (strv a0); refine (T0.out _).mono ?_; rintro e w9 ⟨rfl, rfl⟩)
  rw [rounds_succ]
  go_wp2_with (go_at_call_of 77 (strv a1); refine (T1.out _).mono ?_; rintro e w9 ⟨rfl, rfl⟩)
  rw [rounds_succ]
  go_wp2_with (go_at_call_of 77 (strv a2); refine (T2.out _).mono ?_; rintro e w9 ⟨rfl, rfl⟩)
  rw [rounds_succ]
  go_wp2_with (go_at_call_of 77 (strv a3); refine (T3.out _).mono ?_; rintro e w9 ⟨rfl, rfl⟩)
  rw [rounds_succ]
  go_wp2
  refine bodyPost_ret (by simp [results, Tryd.results56, go_sem]) rfl ⟨rfl, ?_⟩
  repeat (first | (with_reducible exact Below.refl _ _) | ((with_reducible refine below_grow ?_ ?_); rotate_left; focus (first | omega | (simp [go_sem]; done) | (simp [go_sem]; omega))) | ((with_reducible refine Below.alloc ?_ ?_ _); rotate_left; focus (first | omega | (simp [go_sem]; done) | (simp [go_sem]; omega))) | ((with_reducible refine Below.setCell ?_ ?_ _); rotate_left; focus (first | omega | (simp [go_sem]; done) | (simp [go_sem]; omega))) | (with_reducible refine Below.drew ?_) | (with_reducible refine below_drewN _ ?_))
end Go.Proofs.YtacgikhedhiaaaaDoor
