/- HandSmall: its closures. -/
import Derived.Test.YtgndhdcnofblaaaDoorRG
namespace Go.Proofs.YtgndhdcnofblaaaDoor
open Go.RowKit

theorem u64_nat (x : Nat) (h : x < 18446744073709551616) : IntKind.u64.wrap (x : Int) = (x : Int) := by rw [IntKind.wrap_u64]; omega
theorem u64_pow (k : Nat) (h : k < 64) : IntKind.u64.wrap ((2 : Int) ^ k) = ((2 ^ k : Nat) : Int) := by
  have e : ((2 : Int) ^ k) = ((2 ^ k : Nat) : Int) := by simp
  have p : 2 ^ k < 2 ^ 64 := Nat.pow_lt_pow_right (by decide) h
  rw [e]
  exact u64_nat _ p
theorem low_calls (n : Nat) (hn : n ≤ 13) (w : World) : Calls Tryd.prog 15 #[.int .i64 n] w fun e w' => e = .returned (.int .u64 (2 ^ n - 1 : Nat)) ∧ w = w' := by
  have hp : 2 ^ n ≤ 2 ^ 13 := Nat.pow_le_pow_right (by decide) hn
  have hp0 : 0 < 2 ^ n := Nat.pow_pos (by decide)
  have e := u64_pow n (by omega)
  have e2 : IntKind.u64.wrap (((2 ^ n : Nat) : Int) - 1) = ((2 ^ n - 1 : Nat) : Int) := by
    generalize 2 ^ n = p at *
    rw [IntKind.wrap_u64]; omega
  obtain ⟨p, hpp⟩ : ∃ p, 2 ^ n = p := ⟨_, rfl⟩
  rw [hpp] at e e2 ⊢
  obtain ⟨q, hq⟩ : ∃ q, p - 1 = q := ⟨_, rfl⟩
  rw [hq] at e2 ⊢
  clear hp hp0 hpp hq
  go_enter Tryd.func15, Tryd.ntmps15
  go_wp2
  go_ret
  exact ⟨rfl, rfl⟩
theorem high_calls (n : Nat) (hn : n ≤ 13) (w : World) : Calls Tryd.prog 16 #[.int .i64 n] w fun e w' => e = .returned (.int .u64 (8192 - 2 ^ (13 - n) : Nat)) ∧ w = w' := by
  have hp : 2 ^ (13 - n) ≤ 2 ^ 13 := Nat.pow_le_pow_right (by decide) (by omega)
  have e := u64_pow (13 - n) (by omega)
  have e2 : IntKind.u64.wrap (8192 - ((2 ^ (13 - n) : Nat) : Int)) = ((8192 - 2 ^ (13 - n) : Nat) : Int) := by
    generalize 2 ^ (13 - n) = p at *
    rw [IntKind.wrap_u64]; omega
  have e1 : IntKind.i64.wrap (13 - (n : Int)) = ((13 - n : Nat) : Int) := by rw [IntWalk.i64_in _ (by omega)]; omega
  obtain ⟨k, hk⟩ : ∃ k, 13 - n = k := ⟨_, rfl⟩
  rw [hk] at e e1 e2 ⊢
  obtain ⟨p, hpp⟩ : ∃ p, 2 ^ k = p := ⟨_, rfl⟩
  rw [hpp] at e e2 ⊢
  obtain ⟨q, hq⟩ : ∃ q, 8192 - p = q := ⟨_, rfl⟩
  rw [hq] at e2 ⊢
  have k13 : k ≤ 13 := by omega
  clear hp hpp hk hq
  go_enter Tryd.func16, Tryd.ntmps16
  go_wp2
  go_ret
  exact ⟨rfl, rfl⟩
theorem low_lt (n : Nat) (hn : n ≤ 13) : 2 ^ n - 1 < 8192 := by
  have hp : 2 ^ n ≤ 2 ^ 13 := Nat.pow_le_pow_right (by decide) hn
  have : 0 < 2 ^ n := Nat.pow_pos (by decide)
  omega
theorem high_lt (n : Nat) : 8192 - 2 ^ (13 - n) < 8192 := by
  have : 0 < 2 ^ (13 - n) := Nat.pow_pos (by decide)
  omega
theorem lows (n : Nat) (hn : n ≤ 13) : ∃ x : Nat, x < 8192 ∧ ∀ w, Calls Tryd.prog 15 #[.int .i64 n] w fun e w' => e = .returned (.int .u64 x) ∧ w = w' := ⟨_, low_lt n hn, low_calls n hn⟩
theorem highs (n : Nat) (hn : n ≤ 13) : ∃ x : Nat, x < 8192 ∧ ∀ w, Calls Tryd.prog 16 #[.int .i64 n] w fun e w' => e = .returned (.int .u64 x) ∧ w = w' := ⟨_, high_lt n, high_calls n hn⟩
end Go.Proofs.YtgndhdcnofblaaaDoor
