/- Dealer, Vulnerability, Find. -/
import Derived.Test.YtalklogopepjpaaDoorBC
import Derived.Test.YtalklogopepjpaaDoorG
import Derived.Test.YtalklogopepjpaaDoorProg
import Derived.Lib.Hide
import Derived.Deep.RegionWith
import Derived.Deep.Cut
import Derived.Deep.DeepCutAuto
namespace Go.Proofs.YtalklogopepjpaaDoor.Ca
open Go.RowKit
open Go.Proofs.DB (dlr vul fnd)

theorem u8w {n : Int} (h0 : 0 ≤ n) (h1 : n < 256) : IntKind.u8.wrap n = n := by
  rw [IntKind.wrap_u8', Int.emod_eq_of_lt h0 h1]
theorem isBoard_calls (n : Int) (w : World) : Calls Tryd.prog 24 #[.int .i64 n] w fun e w' => e = .returned (.bool (decide (1 ≤ n ∧ n ≤ 128))) ∧ w = w' := by
  go_enter Tryd.func24, Tryd.ntmps24
  by_cases h1 : n < 1
  · have : decide (1 ≤ n ∧ n ≤ 128) = false := decide_eq_false (by omega)
    rw [this]
    have h2 : ¬ 1 ≤ n := by omega
    go_wp2
    refine bodyPost_ret (by simp [results, Tryd.results24, go_sem]) rfl ⟨rfl, ?_⟩
    rfl
  · have h1' : 1 ≤ n := by omega
    have e : decide (1 ≤ n ∧ n ≤ 128) = decide (n ≤ 128) := by simp [h1']
    rw [e]
    go_wp2
    refine bodyPost_ret (by simp [results, Tryd.results24, go_sem]) rfl ⟨rfl, ?_⟩
    rfl
theorem isBoard_yes (n : Nat) (h1 : 1 ≤ n) (h2 : n ≤ 128) (w : World) : Calls Tryd.prog 24 #[.int .i64 n] w fun e w' => e = .returned (.bool true) ∧ w = w' := by
  have := isBoard_calls n w
  rwa [decide_eq_true (by omega)] at this
theorem isBoard_no (n : Int) (h : n < 1 ∨ 128 < n) (w : World) : Calls Tryd.prog 24 #[.int .i64 n] w fun e w' => e = .returned (.bool false) ∧ w = w' := by
  have := isBoard_calls n w
  rwa [decide_eq_false (by omega)] at this
theorem dealer_yes (n : Nat) (h1 : 1 ≤ n) (h2 : n ≤ 128) (w : World) : Calls Tryd.prog 9 #[.int .i64 n] w fun e w' => e = .returned (.tuple #[.int .u8 (dlr n : Nat), .int .i64 0]) ∧ w = w' := by
  have B := Lib.hid (isBoard_yes n h1 h2)
  have e1 : IntKind.i64.wrap ((n : Int) - 1) = (n : Int) - 1 := IntWalk.i64_in _ (by omega)
  have e2 : ((n : Int) - 1).tmod 4 = ((dlr n : Nat) : Int) := by
    rw [Int.tmod_eq_emod_of_nonneg (by omega)]; unfold dlr; omega
  have e3 : IntKind.u8.wrap ((dlr n : Nat) : Int) = ((dlr n : Nat) : Int) := u8w (by omega) (by have := DB.dlr_lt n; omega)
  obtain ⟨d, hd⟩ : ∃ d, dlr n = d := ⟨_, rfl⟩
  rw [hd] at e2 e3 ⊢
  have e4 : IntKind.i64.wrap ((d : Nat) : Int) = ((d : Nat) : Int) := IntWalk.i64_in _ (by have := DB.dlr_lt n; omega)
  clear hd h1 h2
  go_enter Tryd.func9, Tryd.ntmps9
  go_wp2_with (go_at_call 24; refine (B.out _).mono ?_; rintro e w9 ⟨rfl, rfl⟩)
  refine bodyPost_ret (by simp [results, Tryd.results9, go_sem]) rfl ⟨rfl, ?_⟩
  rfl
theorem dealer_no (n : Int) (h : n < 1 ∨ 128 < n) (w : World) : Calls Tryd.prog 9 #[.int .i64 n] w fun e w' => e = .returned (.tuple #[.int .u8 0, .int .i64 70]) ∧ w = w' := by
  have B := Lib.hid (isBoard_no n h)
  clear h
  go_enter Tryd.func9, Tryd.ntmps9
  go_wp2_with (go_at_call 24; refine (B.out _).mono ?_; rintro e w9 ⟨rfl, rfl⟩)
  refine bodyPost_ret (by simp [results, Tryd.results9, go_sem]) rfl ⟨rfl, ?_⟩
  rfl
theorem vul_yes (n : Nat) (h1 : 1 ≤ n) (h2 : n ≤ 128) (w : World) : Calls Tryd.prog 11 #[.int .i64 n] w fun e w' => e = .returned (.tuple #[.int .u8 (vul n : Nat), .int .i64 0]) ∧ w = w' := by
  have B := Lib.hid (isBoard_yes n h1 h2)
  have e1 : IntKind.i64.wrap ((n : Int) - 1) = (n : Int) - 1 := IntWalk.i64_in _ (by omega)
  have e5 : ((n : Int) - 1).tdiv 4 = ((n : Int) - 1) / 4 := by rw [Int.tdiv_eq_ediv_of_nonneg (by omega)]
  have e6 : IntKind.i64.wrap (((n : Int) - 1) / 4) = ((n : Int) - 1) / 4 := IntWalk.i64_in _ (by omega)
  have e7 : IntKind.i64.wrap (((n : Int) - 1) + (((n : Int) - 1) / 4)) = ((n : Int) - 1) + ((n : Int) - 1) / 4 := IntWalk.i64_in _ (by omega)
  have e2 : (((n : Int) - 1) + ((n : Int) - 1) / 4).tmod 4 = ((vul n : Nat) : Int) := by
    rw [Int.tmod_eq_emod_of_nonneg (by omega)]; unfold vul
    have : ((n : Int) - 1) = ((n - 1 : Nat) : Int) := by omega
    rw [this]
    omega
  have e3 : IntKind.u8.wrap ((vul n : Nat) : Int) = ((vul n : Nat) : Int) := u8w (by omega) (by have := DB.vul_lt n; omega)
  obtain ⟨d, hd⟩ : ∃ d, vul n = d := ⟨_, rfl⟩
  rw [hd] at e2 e3 ⊢
  have e4 : IntKind.i64.wrap ((d : Nat) : Int) = ((d : Nat) : Int) := IntWalk.i64_in _ (by have := DB.vul_lt n; omega)
  obtain ⟨m, hm⟩ : ∃ m, (n : Int) - 1 = m := ⟨_, rfl⟩
  obtain ⟨q, hq⟩ : ∃ q, m / 4 = q := ⟨_, rfl⟩
  obtain ⟨s, hs⟩ : ∃ s, m + q = s := ⟨_, rfl⟩
  rw [hm] at e1 e5 e6 e7 e2
  rw [hq] at e5 e6 e7 e2
  rw [hs] at e7 e2
  clear hd h1 h2
  go_enter Tryd.func11, Tryd.ntmps11
  go_wp2_with (go_at_call 24; refine (B.out _).mono ?_; rintro e w9 ⟨rfl, rfl⟩)
  refine bodyPost_ret (by simp [results, Tryd.results11, go_sem]) rfl ⟨rfl, ?_⟩
  rfl
theorem vul_no (n : Int) (h : n < 1 ∨ 128 < n) (w : World) : Calls Tryd.prog 11 #[.int .i64 n] w fun e w' => e = .returned (.tuple #[.int .u8 0, .int .i64 70]) ∧ w = w' := by
  have B := Lib.hid (isBoard_no n h)
  clear h
  go_enter Tryd.func11, Tryd.ntmps11
  go_wp2_with (go_at_call 24; refine (B.out _).mono ?_; rintro e w9 ⟨rfl, rfl⟩)
  refine bodyPost_ret (by simp [results, Tryd.results11, go_sem]) rfl ⟨rfl, ?_⟩
  rfl
theorem find_yes (d v : Nat) (hd : d < 4) (hv : v < 4) (w : World) : Calls Tryd.prog 13 #[.int .u8 d, .int .u8 v] w fun e w' => e = .returned (.tuple #[.int .i64 (fnd d v : Nat), .int .i64 0]) ∧ w = w' := by
  have h1 : ¬ (4 : Int) ≤ d := by omega
  have h2 : ¬ (4 : Int) ≤ v := by omega
  have e1 : IntKind.i64.wrap (d : Int) = d := IntWalk.i64_in _ (by omega)
  have e2 : IntKind.i64.wrap (v : Int) = v := IntWalk.i64_in _ (by omega)
  have e3 : IntKind.i64.wrap ((v : Int) - d) = (v : Int) - d := IntWalk.i64_in _ (by omega)
  have e4 : IntKind.i64.wrap ((v : Int) - d + 4) = (v : Int) - d + 4 := IntWalk.i64_in _ (by omega)
  have e5 : ((v : Int) - d + 4).tmod 4 = (((v + 4 - d) % 4 : Nat) : Int) := by rw [Int.tmod_eq_emod_of_nonneg (by omega)]; omega
  have hr : (v + 4 - d) % 4 < 4 := Nat.mod_lt _ (by decide)
  have hf : fnd d v = (v + 4 - d) % 4 * 4 + d + 1 := rfl
  obtain ⟨r, he⟩ : ∃ r, (v + 4 - d) % 4 = r := ⟨_, rfl⟩
  rw [he] at e5 hr hf
  have e6 : IntKind.i64.wrap ((r : Nat) : Int) = (r : Int) := IntWalk.i64_in _ (by omega)
  have e7 : IntKind.i64.wrap ((r : Int) * 4) = (r : Int) * 4 := IntWalk.i64_in _ (by omega)
  have e8 : IntKind.i64.wrap ((r : Int) * 4 + d) = (r : Int) * 4 + d := IntWalk.i64_in _ (by omega)
  have e9 : IntKind.i64.wrap ((r : Int) * 4 + d + 1) = (r : Int) * 4 + d + 1 := IntWalk.i64_in _ (by omega)
  rw [hf]
  clear he hf hd hv hr
  go_enter Tryd.func13, Tryd.ntmps13
  go_wp2
  refine bodyPost_ret (by simp [results, Tryd.results13, go_sem]) rfl ⟨rfl, ?_⟩
  rfl
theorem find_no (d v : Nat) (h : 4 ≤ d ∨ 4 ≤ v) (w : World) : Calls Tryd.prog 13 #[.int .u8 d, .int .u8 v] w fun e w' => e = .returned (.tuple #[.int .i64 0, .int .i64 2]) ∧ w = w' := by
  by_cases hd : 4 ≤ d
  · have h1 : (4 : Int) ≤ d := by omega
    clear h hd
    go_enter Tryd.func13, Tryd.ntmps13
    go_wp2
    refine bodyPost_ret (by simp [results, Tryd.results13, go_sem]) rfl ⟨rfl, ?_⟩
    rfl
  · have h1 : ¬ (4 : Int) ≤ d := by omega
    have h2 : (4 : Int) ≤ v := by omega
    clear h hd
    go_enter Tryd.func13, Tryd.ntmps13
    go_wp2
    refine bodyPost_ret (by simp [results, Tryd.results13, go_sem]) rfl ⟨rfl, ?_⟩
    rfl
end Go.Proofs.YtalklogopepjpaaDoor.Ca
