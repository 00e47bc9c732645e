/- The generator's plain mathematics: steps modulo 2^31 - 1. -/
import Derived.Test.YtcgecgagecobeaaG
namespace Go.Proofs.Ytcgecgagecobeaa
open Go.RowKit

/-- The next state. -/
def nxt (s : Nat) : Nat := s * 48271 % 2147483647
/-- A state that is right. -/
def St (s : Nat) : Prop := 1 ≤ s ∧ s ≤ 2147483646
theorem inv_a : 48271 * 1899818559 % 2147483647 = 1 := by decide
theorem nxt_St {s : Nat} (h : St s) : St (nxt s) := by
  unfold St nxt at *
  have hlt := Nat.mod_lt (s * 48271) (show 0 < 2147483647 by decide)
  have hne : s * 48271 % 2147483647 ≠ 0 := by
    intro e
    have h1 : s * (48271 * 1899818559) % 2147483647 = 0 := by
      rw [← Nat.mul_assoc, Nat.mul_mod, e, Nat.zero_mul, Nat.zero_mod]
    have h2 : s * (48271 * 1899818559) % 2147483647 = s % 2147483647 := by
      rw [Nat.mul_mod, inv_a, Nat.mul_one, Nat.mod_mod]
    rw [h2] at h1
    rw [Nat.mod_eq_of_lt (by omega)] at h1
    omega
  omega
/-- The powers that make up k steps, the lowest first. -/
def pows (p left : Nat) : List Nat :=
  if h : left = 0 then [] else if left % 2 = 1 then p :: pows (p * p % 2147483647) (left / 2) else pows (p * p % 2147483647) (left / 2)
termination_by left
decreasing_by all_goals omega
theorem pows_zero (p : Nat) : pows p 0 = [] := by rw [pows]; exact dif_pos rfl
theorem pows_odd (p left : Nat) (h : left % 2 = 1) : pows p left = p :: pows (p * p % 2147483647) (left / 2) := by
  rw [pows, dif_neg (by omega), if_pos h]
theorem pows_even (p left : Nat) (h0 : left ≠ 0) (h : left % 2 ≠ 1) : pows p left = pows (p * p % 2147483647) (left / 2) := by
  rw [pows, dif_neg h0, if_neg h]
def times (s p : Nat) : Nat := s * p % 2147483647
theorem pow_step (p left : Nat) : (p * p % 2147483647) ^ (left / 2) % 2147483647 = p ^ (2 * (left / 2)) % 2147483647 := by
  rw [← Nat.pow_mod, Nat.pow_mul, Nat.pow_two]
theorem pows_fold : ∀ (left : Nat) (p s : Nat), s < 2147483647 → (pows p left).foldl times s = s * p ^ left % 2147483647 := by
  intro left
  induction left using Nat.strongRecOn with
  | _ left ih =>
    intro p s hs
    by_cases h0 : left = 0
    · subst h0
      rw [pows_zero]
      simp only [List.foldl_nil, Nat.pow_zero, Nat.mul_one]
      exact (Nat.mod_eq_of_lt hs).symm
    · by_cases h1 : left % 2 = 1
      · rw [pows_odd p left h1, List.foldl_cons, ih (left / 2) (by omega) _ (times s p) (show times s p < _ from Nat.mod_lt _ (by decide))]
        have e : p ^ left = p * p ^ (2 * (left / 2)) := by
          rw [← Nat.pow_succ']
          congr 1
          omega
        rw [e]
        unfold times
        rw [Nat.mul_mod, pow_step, ← Nat.mul_mod, Nat.mul_mod, Nat.mod_mod, ← Nat.mul_mod, Nat.mul_assoc]
      · rw [pows_even p left h0 h1, ih (left / 2) (by omega) _ _ hs]
        have e : p ^ left = p ^ (2 * (left / 2)) := by
          congr 1
          omega
        rw [e, Nat.mul_mod, pow_step, ← Nat.mul_mod]
theorem pows_lt : ∀ (left : Nat) (p : Nat), p < 2147483647 → ∀ x ∈ pows p left, x < 2147483647 := by
  intro left
  induction left using Nat.strongRecOn with
  | _ left ih =>
    intro p hp x hx
    by_cases h0 : left = 0
    · subst h0
      rw [pows_zero] at hx
      cases hx
    · by_cases h1 : left % 2 = 1
      · rw [pows_odd p left h1] at hx
        rcases List.mem_cons.1 hx with e | hx
        · rw [e]; exact hp
        · exact ih (left / 2) (by omega) _ (Nat.mod_lt _ (by decide)) x hx
      · rw [pows_even p left h0 h1] at hx
        exact ih (left / 2) (by omega) _ (Nat.mod_lt _ (by decide)) x hx
/-- The state after k steps, k at least 0. -/
def jmp (s k : Nat) : Nat := s * 48271 ^ k % 2147483647
theorem jmp_fold (s k : Nat) (hs : s < 2147483647) : (pows 48271 k).foldl times s = jmp s k := pows_fold k 48271 s hs
theorem jmp_zero {s : Nat} (hs : St s) : jmp s 0 = s := by unfold jmp St at *; rw [Nat.pow_zero, Nat.mul_one, Nat.mod_eq_of_lt (by omega)]
theorem jmp_one (s : Nat) : jmp s 1 = nxt s := by unfold jmp nxt; rw [Nat.pow_one]
theorem jmp_jmp (s i j : Nat) : jmp (jmp s i) j = jmp s (i + j) := by
  unfold jmp
  rw [Nat.pow_add, ← Nat.mul_assoc, Nat.mul_mod, Nat.mod_mod, ← Nat.mul_mod]
theorem jmp_succ (s k : Nat) : jmp s (k + 1) = nxt (jmp s k) := by rw [← jmp_jmp, jmp_one]
theorem jmp_St {s : Nat} (h : St s) : ∀ k, St (jmp s k)
  | 0 => by rw [jmp_zero h]; exact h
  | k + 1 => by rw [jmp_succ]; exact nxt_St (jmp_St h k)
theorem cycle_fold : (pows 48271 2147483646).foldl times 1 = 1 := by decide +kernel
theorem cycle (c : Nat) (hc : c = 2147483646) : 48271 ^ c % 2147483647 = 1 := by
  have h := pows_fold c 48271 1 (by decide)
  rw [Nat.one_mul] at h
  rw [← h, hc, cycle_fold]
theorem jmp_cyc (s k c : Nat) (hc : c = 2147483646) : jmp s (c + k) = jmp s k := by
  unfold jmp
  rw [Nat.pow_add, ← Nat.mul_assoc, Nat.mul_mod, Nat.mul_mod s, cycle c hc, Nat.mul_one, Nat.mod_mod, ← Nat.mul_mod]
theorem jmp_cycle (s k : Nat) : jmp s (2147483646 + k) = jmp s k := jmp_cyc s k _ rfl
theorem jmp_mod (s k : Nat) : jmp s (k % 2147483646) = jmp s k := by
  have h : ∀ q, jmp s (2147483646 * q + k % 2147483646) = jmp s (k % 2147483646) := by
    intro q
    induction q with
    | zero => rw [Nat.mul_zero, Nat.zero_add]
    | succ q ih => rw [Nat.mul_succ, Nat.add_comm (2147483646 * q), Nat.add_assoc, jmp_cycle, ih]
  rw [← h (k / 2147483646), Nat.div_add_mod]
/-- k steps modulo a cycle. -/
def stp (k : Int) : Nat := (k % 2147483646).toNat
theorem stp_lt (k : Int) : stp k < 2147483646 := by unfold stp; omega
theorem jmp_add (s : Nat) (a b : Int) : jmp (jmp s (stp a)) (stp b) = jmp s (stp (a + b)) := by
  rw [jmp_jmp, ← jmp_mod s (stp a + stp b)]
  congr 1
  unfold stp
  omega
theorem stp_zero : stp 0 = 0 := by decide
theorem stp_one : stp 1 = 1 := by decide
theorem stp_cycle : stp 2147483646 = 0 := by decide
end Go.Proofs.Ytcgecgagecobeaa
