/- BoardTells: the walk. -/
import Derived.Test.YtalklogopepjpaaDoorBS
import Derived.Test.YtalklogopepjpaaDoorBE
namespace Go.Proofs.YtalklogopepjpaaDoor.Ca
open Go.RowKit
open Go.Proofs.DB (dlr vul fnd)

theorem boardTells_walk (n d v : Int) (_ : -9223372036854775808 ≤ n ∧ n ≤ 9223372036854775807) (hd : 0 ≤ d ∧ d ≤ 255) (hv : 0 ≤ v ∧ v ≤ 255) (w : World) (he : EnvB w) :
    Calls Tryd.prog 3 #[.int .i64 n, .int .u8 d, .int .u8 v] w fun e w' => e = .returned (.bool true) ∧ Below w.heap.size w w' := by
  obtain ⟨d, rfl⟩ : ∃ m : Nat, d = m := ⟨d.toNat, by omega⟩
  obtain ⟨v, rfl⟩ : ∃ m : Nat, v = m := ⟨v.toNat, by omega⟩
  have A := Lib.hid (awake_calls w he)
  obtain ⟨a, x, ha⟩ : ∃ a x : Int, (∀ w, Calls Tryd.prog 9 #[.int .i64 n] w fun e w' => e = .returned (.tuple #[.int .u8 a, .int .i64 x]) ∧ w = w') ∧ (∀ w, Calls Tryd.prog 10 #[.int .i64 n] w fun e w' => e = .returned (.tuple #[.int .u8 a, .int .i64 x]) ∧ w = w') ∧ (x = 0 ∨ x = 70) := by
    by_cases h : 1 ≤ n ∧ n ≤ 128
    · obtain ⟨m, rfl⟩ : ∃ m : Nat, n = m := ⟨n.toNat, by omega⟩
      exact ⟨_, _, fun w => dealer_yes m (by omega) (by omega) w, fun w => rdealer_yes m (by omega) (by omega) w, .inl rfl⟩
    · exact ⟨_, _, fun w => dealer_no n (by omega) w, fun w => rdealer_no n (by omega) w, .inr rfl⟩
  obtain ⟨b, y, hb⟩ : ∃ a x : Int, (∀ w, Calls Tryd.prog 11 #[.int .i64 n] w fun e w' => e = .returned (.tuple #[.int .u8 a, .int .i64 x]) ∧ w = w') ∧ (∀ w, Calls Tryd.prog 12 #[.int .i64 n] w fun e w' => e = .returned (.tuple #[.int .u8 a, .int .i64 x]) ∧ w = w') ∧ (x = 0 ∨ x = 70) := by
    by_cases h : 1 ≤ n ∧ n ≤ 128
    · obtain ⟨m, rfl⟩ : ∃ m : Nat, n = m := ⟨n.toNat, by omega⟩
      exact ⟨_, _, fun w => vul_yes m (by omega) (by omega) w, fun w => rvul_yes m (by omega) (by omega) w, .inl rfl⟩
    · exact ⟨_, _, fun w => vul_no n (by omega) w, fun w => rvul_no n (by omega) w, .inr rfl⟩
  obtain ⟨c, z, hc⟩ : ∃ a x : Int, (∀ w, Calls Tryd.prog 13 #[.int .u8 d, .int .u8 v] w fun e w' => e = .returned (.tuple #[.int .i64 a, .int .i64 x]) ∧ w = w') ∧ (∀ w, Calls Tryd.prog 14 #[.int .u8 d, .int .u8 v] w fun e w' => e = .returned (.tuple #[.int .i64 a, .int .i64 x]) ∧ w = w') ∧ (x = 0 ∨ x = 2) := by
    by_cases h : d < 4 ∧ v < 4
    · exact ⟨_, _, fun w => find_yes d v h.1 h.2 w, fun w => rfind_yes d v h.1 h.2 w, .inl rfl⟩
    · exact ⟨_, _, fun w => find_no d v (by omega) w, fun w => rfind_no d v (by omega) w, .inr rfl⟩
  have D1 := Lib.hid ha.1; have D2 := Lib.hid ha.2.1; have V1 := Lib.hid hb.1; have V2 := Lib.hid hb.2.1; have F1 := Lib.hid hc.1; have F2 := Lib.hid hc.2.1
  have ex : IntKind.i64.wrap x = x := by rcases ha.2.2 with rfl | rfl <;> rfl
  have ey : IntKind.i64.wrap y = y := by rcases hb.2.2 with rfl | rfl <;> rfl
  have ez : IntKind.i64.wrap z = z := by rcases hc.2.2 with rfl | rfl <;> rfl
  clear ha hb hc he hd hv
  go_enter Tryd.func3, Tryd.ntmps3
  go_wp2_with (first | (go_at_call 9; refine (D1.out _).mono ?_; rintro e w9 ⟨rfl, rfl⟩) | (go_at_call 10; refine (D2.out _).mono ?_; rintro e w9 ⟨rfl, rfl⟩) | (go_at_call 11; refine (V1.out _).mono ?_; rintro e w9 ⟨rfl, rfl⟩) | (go_at_call 12; refine (V2.out _).mono ?_; rintro e w9 ⟨rfl, rfl⟩) | (go_at_call 13; refine (F1.out _).mono ?_; rintro e w9 ⟨rfl, rfl⟩) | (go_at_call 14; refine (F2.out _).mono ?_; rintro e w9 ⟨rfl, rfl⟩) | (go_at_call 15; refine A.out.mono ?_; rintro e w9 ⟨rfl, hbel⟩; obtain ⟨o1, j1, rfl⟩ := grow_of_below hbel; clear hbel))
  refine bodyPost_ret (by simp [results, Tryd.results3, go_sem]) rfl ⟨rfl, ?_⟩
  repeat (first | (with_reducible exact Below.refl _ _) | ((with_reducible refine below_grow ?_ ?_); rotate_left; focus (first | omega | (simp [go_sem]; done) | (simp [go_sem]; omega))) | ((with_reducible refine Below.alloc ?_ ?_ _); rotate_left; focus (first | omega | (simp [go_sem]; done) | (simp [go_sem]; omega))) | ((with_reducible refine Below.setCell ?_ ?_ _); rotate_left; focus (first | omega | (simp [go_sem]; done) | (simp [go_sem]; omega))) | (with_reducible refine Below.drew ?_) | (with_reducible refine below_drewN _ ?_))
end Go.Proofs.YtalklogopepjpaaDoor.Ca
