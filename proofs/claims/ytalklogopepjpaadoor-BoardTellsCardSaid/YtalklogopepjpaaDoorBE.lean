/- The reference's Dealer, Vulnerability, Find. -/
import Derived.Test.YtalklogopepjpaaDoorBD
import Derived.Deep.LoopGhost
namespace Go.Proofs.YtalklogopepjpaaDoor.Ca
open Go.RowKit
open Go.Proofs.DB (dlr vul fnd)

set_option maxHeartbeats 1000000 in
theorem rdealer_yes (n : Nat) (h1 : 1 ≤ n) (h2 : n ≤ 128) (w : World) : Calls Tryd.prog 10 #[.int .i64 n] w fun e w' => e = .returned (.tuple #[.int .u8 (dlr n : Nat), .int .i64 0]) ∧ w = w' := by
  have g1 : ¬ (n : Int) < 1 := by omega
  have g2 : ¬ (128 : Int) < n := by omega
  go_enter Tryd.func10, Tryd.ntmps10
  go_wp2
  go_loopw [4, 5] (fun s4 s5 wr => ∃ i : Nat, s5 = .int .i64 i ∧ 1 ≤ i ∧ i ≤ n ∧ s4 = .int .u8 (dlr i : Nat) ∧ wr = w) (fun _ s5 _ => n - (intOf s5).toNat)
  case atStart => exact ⟨1, rfl, Nat.le_refl _, h1, rfl, rfl⟩
  case round =>
    obtain ⟨i, rfl, hi1, hi, rfl, rfl⟩ := hrel
    by_cases hlt : i < n
    · have hlt2 : (i : Int) < n := by omega
      have e1 : IntKind.i64.wrap ((i : Int) + 1) = (i : Int) + 1 := IntWalk.i64_in _ (by omega)
      have hd := DB.dlr_lt i
      have e2 : IntKind.u8.wrap ((dlr i : Nat) + 1 : Int) = (dlr i : Int) + 1 := u8w (by omega) (by omega)
      by_cases h3 : dlr i = 3
      · have h4 : dlr (i + 1) = 0 := by unfold DB.dlr at h3 ⊢; omega
        rw [h3] at e2 ⊢
        go_wp2
        go_roundw
        case rel => exact ⟨i + 1, by go_num, by omega, by omega, by rw [h4]; rfl, trivial⟩
        case measure => simp [intOf]; omega
      · have h4 : dlr (i + 1) = dlr i + 1 := by unfold DB.dlr at h3 ⊢; omega
        have h5 : ¬ (dlr i : Int) + 1 = 4 := by omega
        go_wp2
        go_roundw
        case rel => exact ⟨i + 1, by go_num, by omega, by omega, by rw [h4]; go_num, trivial⟩
        case measure => simp [intOf]; omega
    · obtain rfl : i = n := by omega
      go_wp2
      refine bodyPost_ret (by simp [results, Tryd.results10, go_sem]) rfl ⟨rfl, ?_⟩
      rfl
theorem rdealer_no (n : Int) (h : n < 1 ∨ 128 < n) (w : World) : Calls Tryd.prog 10 #[.int .i64 n] w fun e w' => e = .returned (.tuple #[.int .u8 0, .int .i64 70]) ∧ w = w' := by
  by_cases h1 : n < 1
  · go_enter Tryd.func10, Tryd.ntmps10
    go_wp2
    refine bodyPost_ret (by simp [results, Tryd.results10, go_sem]) rfl ⟨rfl, ?_⟩
    rfl
  · have h2 : 128 < n := by omega
    go_enter Tryd.func10, Tryd.ntmps10
    go_wp2
    refine bodyPost_ret (by simp [results, Tryd.results10, go_sem]) rfl ⟨rfl, ?_⟩
    rfl
/-- What the reference counts up. -/
def vsum (i : Nat) : Nat := (i - 1) + (i - 1) / 4
set_option maxHeartbeats 1000000 in
theorem rvul_yes (n : Nat) (h1 : 1 ≤ n) (h2 : n ≤ 128) (w : World) : Calls Tryd.prog 12 #[.int .i64 n] w fun e w' => e = .returned (.tuple #[.int .u8 (vul n : Nat), .int .i64 0]) ∧ w = w' := by
  have g1 : ¬ (n : Int) < 1 := by omega
  have g2 : ¬ (128 : Int) < n := by omega
  go_enter Tryd.func12, Tryd.ntmps12
  go_wp2
  go_loopw [4, 5] (fun s4 s5 wr => ∃ i : Nat, s5 = .int .i64 i ∧ 1 ≤ i ∧ i ≤ n ∧ s4 = .int .i64 (vsum i : Nat) ∧ wr = w) (fun _ s5 _ => n - (intOf s5).toNat)
  case atStart => exact ⟨1, rfl, Nat.le_refl _, h1, rfl, rfl⟩
  case round =>
    obtain ⟨i, rfl, hi1, hi, rfl, rfl⟩ := hrel
    by_cases hlt : i < n
    · have hlt2 : (i : Int) < n := by omega
      have e1 : IntKind.i64.wrap ((i : Int) + 1) = (i : Int) + 1 := IntWalk.i64_in _ (by omega)
      have hv : vsum i < 400 := by unfold vsum; omega
      have e2 : IntKind.i64.wrap ((vsum i : Int) + 1) = (vsum i : Int) + 1 := IntWalk.i64_in _ (by omega)
      have e3 : IntKind.i64.wrap ((vsum i : Int) + 1 + 1) = (vsum i : Int) + 1 + 1 := IntWalk.i64_in _ (by omega)
      have e4 : (i : Int).tmod 4 = ((i % 4 : Nat) : Int) := by rw [Int.tmod_eq_emod_of_nonneg (by omega)]; omega
      have e5 : IntKind.i64.wrap ((i % 4 : Nat) : Int) = ((i % 4 : Nat) : Int) := IntWalk.i64_in _ (by omega)
      by_cases h3 : i % 4 = 0
      · have h4 : vsum (i + 1) = vsum i + 1 + 1 := by unfold vsum; omega
        rw [h3] at e4
        obtain ⟨v, hv'⟩ : ∃ v, vsum i = v := ⟨_, rfl⟩
        rw [hv'] at e2 e3 h4 ⊢
        clear hv hv' e5
        go_wp2
        go_roundw
        case rel => exact ⟨i + 1, by go_num, by omega, by omega, by rw [h4]; go_num, trivial⟩
        case measure => simp [intOf]; omega
      · have h4 : vsum (i + 1) = vsum i + 1 := by unfold vsum; omega
        have h5 : ¬ ((i % 4 : Nat) : Int) = 0 := by omega
        obtain ⟨v, hv'⟩ : ∃ v, vsum i = v := ⟨_, rfl⟩
        rw [hv'] at e2 e3 h4 ⊢
        obtain ⟨m, hm'⟩ : ∃ m, i % 4 = m := ⟨_, rfl⟩
        rw [hm'] at e4 e5 h5
        clear hv hv' hm'
        go_wp2
        go_roundw
        case rel => exact ⟨i + 1, by go_num, by omega, by omega, by rw [h4]; go_num, trivial⟩
        case measure => simp [intOf]; omega
    · obtain rfl : i = n := by omega
      have e4 : (vsum i : Int).tmod 4 = ((vul i : Nat) : Int) := by rw [Int.tmod_eq_emod_of_nonneg (by omega)]; unfold vsum DB.vul; omega
      have hv := DB.vul_lt i
      have e5 : IntKind.i64.wrap ((vul i : Nat) : Int) = ((vul i : Nat) : Int) := IntWalk.i64_in _ (by omega)
      have e6 : IntKind.u8.wrap ((vul i : Nat) : Int) = ((vul i : Nat) : Int) := u8w (by omega) (by omega)
      go_wp2
      refine bodyPost_ret (by simp [results, Tryd.results12, go_sem]) rfl ⟨rfl, ?_⟩
      rfl
theorem rvul_no (n : Int) (h : n < 1 ∨ 128 < n) (w : World) : Calls Tryd.prog 12 #[.int .i64 n] w fun e w' => e = .returned (.tuple #[.int .u8 0, .int .i64 70]) ∧ w = w' := by
  by_cases h1 : n < 1
  · go_enter Tryd.func12, Tryd.ntmps12
    go_wp2
    refine bodyPost_ret (by simp [results, Tryd.results12, go_sem]) rfl ⟨rfl, ?_⟩
    rfl
  · have h2 : 128 < n := by omega
    go_enter Tryd.func12, Tryd.ntmps12
    go_wp2
    refine bodyPost_ret (by simp [results, Tryd.results12, go_sem]) rfl ⟨rfl, ?_⟩
    rfl
theorem fnd_first : ∀ d : Fin 4, ∀ v : Fin 4, 1 ≤ fnd d.val v.val ∧ fnd d.val v.val ≤ 16 ∧ dlr (fnd d.val v.val) = d.val ∧ vul (fnd d.val v.val) = v.val ∧ ∀ n : Fin 17, 1 ≤ n.val → n.val < fnd d.val v.val → ¬ (dlr n.val = d.val ∧ vul n.val = v.val) := by decide +kernel
set_option maxHeartbeats 1000000 in
theorem rfind_yes (d v : Nat) (hd : d < 4) (hv : v < 4) (w : World) : Calls Tryd.prog 14 #[.int .u8 d, .int .u8 v] w fun e w' => e = .returned (.tuple #[.int .i64 (fnd d v : Nat), .int .i64 0]) ∧ w = w' := by
  obtain ⟨f1, f2, f3, f4, f5⟩ := fnd_first ⟨d, hd⟩ ⟨v, hv⟩
  dsimp only at f1 f2 f3 f4 f5
  have RD := Lib.hid rdealer_yes
  have RV := Lib.hid rvul_yes
  go_enter Tryd.func14, Tryd.ntmps14
  go_wp2
  go_loopw [6, 7, 8, 9, 10] (fun s6 _ _ _ _ wr => ∃ i : Nat, s6 = .int .i64 i ∧ 1 ≤ i ∧ i ≤ fnd d v ∧ wr = w) (fun s6 _ _ _ _ _ => 129 - (intOf s6).toNat)
  case atStart => exact ⟨1, rfl, Nat.le_refl _, f1, rfl⟩
  case round =>
    obtain ⟨i, rfl, hi1, hi, rfl⟩ := hrel
    have hle : (i : Int) ≤ 128 := by omega
    have e1 : IntKind.i64.wrap ((i : Int) + 1) = (i : Int) + 1 := IntWalk.i64_in _ (by omega)
    have CD := Lib.hid (RD.out i hi1 (by omega))
    have CV := Lib.hid (RV.out i hi1 (by omega))
    by_cases hlt : i < fnd d v
    · have hn := f5 ⟨i, by omega⟩ hi1 hlt
      dsimp only at hn
      by_cases h1 : dlr i = d
      · have h2 : ¬ (vul i : Int) = v := by omega
        rw [h1] at CD
        clear RD RV f5 hn
        go_wp2_with (first | (go_at_call 10; refine (CD.out _).mono ?_; rintro e w9 ⟨rfl, rfl⟩) | (go_at_call 12; refine (CV.out _).mono ?_; rintro e w9 ⟨rfl, rfl⟩))
        go_roundw
        case rel => exact ⟨i + 1, by go_num, by omega, by omega, trivial⟩
        case measure => simp [intOf]; omega
      · have h2 : ¬ (dlr i : Int) = d := by omega
        clear RD RV f5 hn
        go_wp2_with (first | (go_at_call 10; refine (CD.out _).mono ?_; rintro e w9 ⟨rfl, rfl⟩) | (go_at_call 12; refine (CV.out _).mono ?_; rintro e w9 ⟨rfl, rfl⟩))
        go_roundw
        case rel => exact ⟨i + 1, by go_num, by omega, by omega, trivial⟩
        case measure => simp [intOf]; omega
    · obtain rfl : i = fnd d v := by omega
      rw [f3] at CD
      rw [f4] at CV
      clear RD RV f5
      go_wp2_with (first | (go_at_call 10; refine (CD.out _).mono ?_; rintro e w9 ⟨rfl, rfl⟩) | (go_at_call 12; refine (CV.out _).mono ?_; rintro e w9 ⟨rfl, rfl⟩))
      refine bodyPost_ret (by simp [results, Tryd.results14, go_sem]) rfl ⟨rfl, ?_⟩
      rfl
set_option maxHeartbeats 1000000 in
theorem rfind_no (d v : Nat) (h : 4 ≤ d ∨ 4 ≤ v) (w : World) : Calls Tryd.prog 14 #[.int .u8 d, .int .u8 v] w fun e w' => e = .returned (.tuple #[.int .i64 0, .int .i64 2]) ∧ w = w' := by
  have RD := Lib.hid rdealer_yes
  have RV := Lib.hid rvul_yes
  go_enter Tryd.func14, Tryd.ntmps14
  go_wp2
  go_loopw [6, 7, 8, 9, 10] (fun s6 _ _ _ _ wr => ∃ i : Nat, s6 = .int .i64 i ∧ 1 ≤ i ∧ i ≤ 129 ∧ wr = w) (fun s6 _ _ _ _ _ => 129 - (intOf s6).toNat)
  case atStart => exact ⟨1, rfl, Nat.le_refl _, by omega, rfl⟩
  case round =>
    obtain ⟨i, rfl, hi1, hi, rfl⟩ := hrel
    by_cases hle' : i ≤ 128
    · have hle : (i : Int) ≤ 128 := by omega
      have e1 : IntKind.i64.wrap ((i : Int) + 1) = (i : Int) + 1 := IntWalk.i64_in _ (by omega)
      have CD := Lib.hid (RD.out i hi1 (by omega))
      have CV := Lib.hid (RV.out i hi1 (by omega))
      have ld := DB.dlr_lt i
      have lv := DB.vul_lt i
      by_cases h1 : dlr i = d
      · have h2 : ¬ (vul i : Int) = v := by omega
        rw [h1] at CD
        clear RD RV
        go_wp2_with (first | (go_at_call 10; refine (CD.out _).mono ?_; rintro e w9 ⟨rfl, rfl⟩) | (go_at_call 12; refine (CV.out _).mono ?_; rintro e w9 ⟨rfl, rfl⟩))
        go_roundw
        case rel => exact ⟨i + 1, by go_num, by omega, by omega, trivial⟩
        case measure => simp [intOf]; omega
      · have h2 : ¬ (dlr i : Int) = d := by omega
        clear RD RV
        go_wp2_with (first | (go_at_call 10; refine (CD.out _).mono ?_; rintro e w9 ⟨rfl, rfl⟩) | (go_at_call 12; refine (CV.out _).mono ?_; rintro e w9 ⟨rfl, rfl⟩))
        go_roundw
        case rel => exact ⟨i + 1, by go_num, by omega, by omega, trivial⟩
        case measure => simp [intOf]; omega
    · have hle : ¬ (i : Int) ≤ 128 := by omega
      go_wp2
      refine bodyPost_ret (by simp [results, Tryd.results14, go_sem]) rfl ⟨rfl, ?_⟩
      rfl
end Go.Proofs.YtalklogopepjpaaDoor.Ca
