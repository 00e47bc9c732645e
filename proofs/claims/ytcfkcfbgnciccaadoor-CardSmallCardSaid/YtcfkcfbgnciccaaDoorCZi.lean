/- What the reference's Parse says. -/
import Derived.Test.YtcfkcfbgnciccaaDoorCZh
namespace Go.Proofs.YtcfkcfbgnciccaaDoor
open Go.RowKit

/-- Parse, character by character. -/
def rp : Nat → Nat → Nat → List UInt8 → Option Nat
  | s, _, m, [] => if s = 0 then some m else none
  | s, la, m, b :: l => if b = 46 then (if s = 0 then none else rp (s - 1) 13 m l) else if idx b < 0 ∨ (la : Int) ≤ idx b then none else rp s (idx b).toNat (m + 2 ^ (13 * s + (idx b).toNat)) l
theorem rp_cons (s la m : Nat) (b : UInt8) (l : List UInt8) : rp s la m (b :: l) = if b = 46 then (if s = 0 then none else rp (s - 1) 13 m l) else if idx b < 0 ∨ (la : Int) ≤ idx b then none else rp s (idx b).toNat (m + 2 ^ (13 * s + (idx b).toNat)) l := rfl
theorem rp_count : ∀ (l : List UInt8) (s la m h : Nat), rp s la m l = some h → l.count 46 = s
  | [], s, la, m, h, e => by
    unfold rp at e
    split at e
    · rename_i hs; rw [hs]; rfl
    · simp at e
  | b :: l, s, la, m, h, e => by
    rw [rp_cons] at e
    split at e
    · rename_i hb
      split at e
      · simp at e
      · rename_i hs
        have := rp_count l _ _ _ _ e
        rw [hb, List.count_cons_self, this]
        omega
    · rename_i hb
      split at e
      · simp at e
      · have := rp_count l _ _ _ _ e
        rw [List.count_cons_of_ne (by simpa using hb), this]
theorem rp_part (s : Nat) (t : List UInt8) (ht : ∀ la lb m, rp s la m t = rp s lb m t) : ∀ (a : List UInt8) (ab acc m0 : Nat), 46 ∉ a → (∀ i, i < ab → acc.testBit i = false) →
    rp s ab (m0 + acc * 2 ^ (13 * s)) (a ++ t) = match held ab acc a with | none => none | some h => rp s 0 (m0 + h * 2 ^ (13 * s)) t
  | [], ab, acc, m0, _, _ => by simp only [List.nil_append, held]; exact ht _ _ _
  | b :: a, ab, acc, m0, hn, hz => by
    rw [List.mem_cons, not_or] at hn
    rw [List.cons_append, rp_cons, if_neg (fun e => hn.1 e.symm)]
    unfold held
    by_cases hx : idx b < 0 ∨ (ab : Int) ≤ idx b
    · rw [if_pos hx, if_pos hx]
    · rw [if_neg hx, if_neg hx]
      obtain ⟨k, hk⟩ : ∃ k : Nat, idx b = k := ⟨(idx b).toNat, by omega⟩
      rw [hk, Int.toNat_natCast]
      have ha := add_bit k acc (hz k (by omega))
      have e : m0 + acc * 2 ^ (13 * s) + 2 ^ (13 * s + k) = m0 + (acc ||| 2 ^ k) * 2 ^ (13 * s) := by
        rw [← ha, Nat.add_mul, Nat.pow_add, Nat.mul_comm (2 ^ (13 * s)) (2 ^ k)]; omega
      rw [e]
      refine rp_part s t ht a k (acc ||| 2 ^ k) m0 hn.2 fun i hi => ?_
      rw [Nat.testBit_or, hz i (by omega), Nat.testBit_two_pow_of_ne (by omega)]; rfl
theorem rp_dot (s la m : Nat) (r : List UInt8) : rp (s + 1) la m (46 :: r) = rp s 13 m r := by
  rw [rp_cons, if_pos rfl, if_neg (by omega)]; rfl
theorem rp_step (s : Nat) (a r : List UInt8) (m0 : Nat) (hn : 46 ∉ a) : rp (s + 1) 13 m0 (a ++ 46 :: r) = match held 13 0 a with | none => none | some h => rp s 13 (m0 + h * 2 ^ (13 * (s + 1))) r := by
  have h := rp_part (s + 1) (46 :: r) (fun la lb m => by rw [rp_dot, rp_dot]) a 13 0 m0 hn (fun i _ => Nat.zero_testBit i)
  simp only [Nat.zero_mul, Nat.add_zero] at h
  rw [h]
  cases held 13 0 a with
  | none => rfl
  | some x => exact rp_dot s 0 _ r
theorem rp_last (a : List UInt8) (m0 : Nat) (hn : 46 ∉ a) : rp 0 13 m0 a = match held 13 0 a with | none => none | some h => some (m0 + h) := by
  have h := rp_part 0 [] (fun la lb m => rfl) a 13 0 m0 hn (fun i _ => Nat.zero_testBit i)
  rw [Nat.zero_mul, Nat.add_zero, List.append_nil] at h
  rw [h]
  cases held 13 0 a with
  | none => rfl
  | some x =>
    show rp 0 0 (m0 + x * 2 ^ (13 * 0)) [] = some (m0 + x)
    simp [rp]
theorem comb_sum (x0 x1 x2 x3 : Nat) (h0 : x0 < 8192) (h1 : x1 < 8192) (h2 : x2 < 8192) : comb x0 x1 x2 x3 = 0 + x3 * 2 ^ (13 * 3) + x2 * 2 ^ (13 * 2) + x1 * 2 ^ (13 * 1) + x0 := by
  unfold comb
  have e1 : x1 <<< 13 + x0 = x1 <<< 13 ||| x0 := Nat.shiftLeft_add_eq_or_of_lt (i := 13) h0 x1
  have l1 : x1 <<< 13 + x0 < 2 ^ 26 := by rw [Nat.shiftLeft_eq]; omega
  have e2 : x2 <<< 26 + (x1 <<< 13 + x0) = x2 <<< 26 ||| (x1 <<< 13 + x0) := Nat.shiftLeft_add_eq_or_of_lt (i := 26) l1 x2
  have l2 : x2 <<< 26 + (x1 <<< 13 + x0) < 2 ^ 39 := by rw [Nat.shiftLeft_eq, Nat.shiftLeft_eq]; omega
  have e3 : x3 <<< 39 + (x2 <<< 26 + (x1 <<< 13 + x0)) = x3 <<< 39 ||| (x2 <<< 26 + (x1 <<< 13 + x0)) := Nat.shiftLeft_add_eq_or_of_lt (i := 39) l2 x3
  rw [Nat.or_comm x0, ← e1, Nat.or_comm _ (x2 <<< 26), ← e2, Nat.or_comm _ (x3 <<< 39), ← e3]
  simp only [Nat.shiftLeft_eq]
  omega
theorem rp_prs (l : List UInt8) : rp 3 13 0 l = prs l := by
  unfold prs
  by_cases h : l.count 46 = 3
  · rw [if_pos h]
    obtain ⟨a, b, c, d, hs, rfl, ha, hb, hc, hd⟩ := split_three h
    rw [hs]
    show _ = prs4 a b c d
    rw [rp_step 2 a _ 0 ha]
    unfold prs4
    cases h3 : held 13 0 a with
    | none =>
      cases held 13 0 d <;> cases held 13 0 c <;> cases held 13 0 b <;> rfl
    | some x3 =>
      show rp 2 13 _ _ = _
      rw [rp_step 1 b _ _ hb]
      cases h2 : held 13 0 b with
      | none => cases held 13 0 d <;> cases held 13 0 c <;> rfl
      | some x2 =>
        show rp 1 13 _ _ = _
        rw [rp_step 0 c _ _ hc]
        cases h1 : held 13 0 c with
        | none => cases held 13 0 d <;> rfl
        | some x1 =>
          show rp 0 13 _ _ = _
          rw [rp_last d _ hd]
          cases h0 : held 13 0 d with
          | none => rfl
          | some x0 =>
            show some _ = some _
            rw [comb_sum x0 x1 x2 x3 (held_zero_lt h0).1 (held_zero_lt h1).1 (held_zero_lt h2).1]
  · rw [if_neg h]
    cases e : rp 3 13 0 l with
    | none => rfl
    | some m => exact absurd (rp_count l _ _ _ _ e) h
end Go.Proofs.YtcfkcfbgnciccaaDoor
