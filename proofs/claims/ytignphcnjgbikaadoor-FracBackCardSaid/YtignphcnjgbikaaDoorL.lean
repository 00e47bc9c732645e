/- frac.Near; powerOfTen, decimal. -/
import Derived.Test.YtignphcnjgbikaaDoorK
namespace Go.Proofs.YtignphcnjgbikaaDoor
open Go.RowKit Go.Shelf

/-- n u / d, rounded; halves up. -/
def roundN (n u d : Nat) : Nat := (2 * (n * u) + d) / (2 * d)
theorem round_parts (n u d : Nat) (hd : 0 < d) :
    roundN n u d = n / d * u + n % d * u / d + if d - (n % d * u % d) ≤ n % d * u % d then 1 else 0 := by
  unfold roundN
  have h1 : n * u = n / d * u * d + n % d * u := by
    have := Nat.div_add_mod n d
    calc n * u = (d * (n / d) + n % d) * u := by rw [this]
      _ = n / d * u * d + n % d * u := by rw [Nat.add_mul, Nat.mul_comm d (n / d), Nat.mul_assoc, Nat.mul_comm d u, Nat.mul_assoc]
  have h2 : n % d * u = n % d * u / d * d + n % d * u % d := by
    have := Nat.div_add_mod (n % d * u) d
    rw [Nat.mul_comm] at this; exact this.symm
  have h3 : n % d * u % d < d := Nat.mod_lt _ hd
  have h4 : 2 * (n * u) + d = (2 * (n % d * u % d) + d) + 2 * d * (n / d * u + n % d * u / d) := by
    rw [h1, Nat.mul_add, Nat.mul_add]
    generalize n / d * u = A
    generalize hx : n % d * u = X at *
    generalize X / d = B at *
    generalize X % d = C at *
    rw [h2]
    have : 2 * d * A = 2 * (A * d) := by rw [Nat.mul_assoc, Nat.mul_comm d A]
    have : 2 * d * B = 2 * (B * d) := by rw [Nat.mul_assoc, Nat.mul_comm d B]
    omega
  rw [h4, Nat.add_mul_div_left _ _ (by omega)]
  generalize n % d * u % d = C at *
  have h5 : (2 * C + d) / (2 * d) = if d - C ≤ C then 1 else 0 := by
    by_cases h : d - C ≤ C
    · rw [if_pos h]
      have : (2 * C + d) / (2 * d) = 1 := Nat.div_eq_of_lt_le (by omega) (by omega)
      exact this
    · rw [if_neg h]
      exact Nat.div_eq_of_lt (by omega)
  rw [h5]; omega

set_option maxHeartbeats 400000 in
theorem power_calls (k : Nat) (hk : k ≤ 9) (w : World) :
    Calls Tryd.prog 47 #[.int .i64 k] w fun e w' => e = .returned (.int .u64 ((10 ^ k : Nat) : Int)) ∧ Below w.heap.size w w' := by
  go_enter Tryd.func47, Tryd.ntmps47
  go_wp2
  go_loopw [3, 5] (fun x y wr => ∃ i p : Nat, i ≤ k ∧ p ≤ 1000000000 ∧ Hid (p = 10 ^ i) ∧ x = .int .u64 p ∧ y = .int .i64 i ∧ Below w.heap.size w wr) (fun _ y _ => k - (intOf y).toNat)
  case atStart => exact ⟨0, 1, Nat.zero_le _, by omega, Lib.hid rfl, rfl, rfl, Below.refl _ _⟩
  case round =>
    obtain ⟨i, p, hi, hp, HP, rfl, rfl, hb⟩ := hrel
    by_cases hlt : i < k
    · have h2 : p * 10 ≤ 1000000000 := by
        have := HP.out
        subst this
        calc 10 ^ i * 10 = 10 ^ (i + 1) := rfl
          _ ≤ 10 ^ 9 := Nat.pow_le_pow_right (by decide) (by omega)
      go_wp2
      go_roundw
      case rel => exact ⟨i + 1, p * 10, by omega, h2, Lib.hid (by rw [HP.out]; rfl), by go_num, by go_num, hb⟩
      case measure => simp [intOf]; omega
    · have : i = k := by omega
      subst this
      go_wp2
      go_ret
      exact ⟨by have := HP.out; subst this; rfl, hb⟩

theorem up_callsB (b u : Bool) (n d r : Int) (hu : Hid (decide (d - r ≤ r) = u)) (n0 : 0 ≤ n) (r0 : 0 ≤ r) (hr : r ≤ d) (hd : d < 18446744073709551616) (w : World) :
    Calls Tryd.prog 45 #[.agg #[.bool b, .int .u64 n, .int .u64 d], .int .u64 r] w fun e w' => e = .returned (.bool u) ∧ Below w.heap.size w w' := by
  obtain ⟨n, rfl⟩ := Int.eq_ofNat_of_zero_le n0
  obtain ⟨r, rfl⟩ := Int.eq_ofNat_of_zero_le r0
  obtain ⟨d, rfl⟩ := Int.eq_ofNat_of_zero_le (by omega : 0 ≤ d)
  have h := up_calls b n d r (by omega) (by omega) w
  rw [hu.out] at h
  exact h

/-- what decimal returns, in numbers -/
theorem decimal_parts (n u d : Nat) (hd : 0 < d) (hu : 0 < u) :
    (if n % d * u / d + (if d - (n % d * u % d) ≤ n % d * u % d then 1 else 0) = u then n / d + 1 else n / d) = roundN n u d / u ∧
    (if n % d * u / d + (if d - (n % d * u % d) ≤ n % d * u % d then 1 else 0) = u then 0 else n % d * u / d + (if d - (n % d * u % d) ≤ n % d * u % d then 1 else 0)) = roundN n u d % u := by
  rw [round_parts n u d hd]
  have h1 : n % d * u / d < u := by
    rw [Nat.div_lt_iff_lt_mul hd, Nat.mul_comm u d]
    exact Nat.mul_lt_mul_of_pos_right (Nat.mod_lt _ hd) hu
  generalize n % d * u % d = C
  generalize n % d * u / d = P at *
  generalize n / d = q
  have h2 : ∀ P, P ≤ u → (if P = u then q + 1 else q) = (q * u + P) / u ∧ (if P = u then 0 else P) = (q * u + P) % u := by
    intro P hP
    rw [Nat.mul_comm q u]
    by_cases h : P = u
    · subst h
      rw [if_pos rfl, if_pos rfl]
      constructor
      · rw [Nat.mul_add_div hu, Nat.div_self hu]
      · rw [Nat.mul_add_mod, Nat.mod_self]
    · rw [if_neg h, if_neg h]
      have hlt : P < u := by omega
      constructor
      · rw [Nat.mul_add_div hu, Nat.div_eq_of_lt hlt]; rfl
      · rw [Nat.mul_add_mod, Nat.mod_eq_of_lt hlt]
  have := h2 (P + if d - C ≤ C then 1 else 0) (by split <;> omega)
  rw [← Nat.add_assoc] at this
  exact this
end Go.Proofs.YtignphcnjgbikaaDoor
