/- The order of suits and the pattern: the mathematics. -/
import Derived.Test.YtgndhdcnofblaaaDoorHO
namespace Go.Proofs.YtgndhdcnofblaaaDoor
open Go.RowKit

/-- What the sort leaves, in numbers. -/
theorem srt_key (m : Nat) : ∃ a b c d : Fin 4, srt m = #[a, b, c, d] ∧
    4 * lens m b + b.val < 4 * lens m a + a.val ∧ 4 * lens m c + c.val < 4 * lens m b + b.val ∧ 4 * lens m d + d.val < 4 * lens m c + c.val := insS (lens m)
def dig (n : Nat) : List UInt8 := (if 9 < n then [49] else []) ++ [UInt8.ofNat (48 + n % 10)]
theorem dig_dec : ∀ n : Fin 14, Lib.decDigits n.val = dig n.val := by decide +kernel
theorem dig_len (n : Nat) : (dig n).length ≤ 2 := by unfold dig; split <;> simp
/-- The text of the first lengths. -/
def txt (n : Nat → Nat) : Nat → List UInt8
  | 0 => []
  | i + 1 => txt n i ++ (if 0 < i then [45] else []) ++ dig (n i)
theorem txt_len (n : Nat → Nat) : ∀ i, (txt n i).length ≤ 3 * i
  | 0 => Nat.le_refl _
  | i + 1 => by
    have := txt_len n i
    have := dig_len (n i)
    unfold txt
    split <;> simp <;> omega
def met (s : Nat → Nat) : Nat → Nat
  | 0 => 0
  | i + 1 => met s i ||| 2 ^ s i
theorem met_lt (s : Nat → Nat) (h : ∀ i, s i < 4) : ∀ i, met s i < 16
  | 0 => by simp [met]
  | i + 1 => by
    have := met_lt s h i
    have h2 : 2 ^ s i < 2 ^ 4 := Nat.pow_lt_pow_right (by decide) (h i)
    exact Nat.or_lt_two_pow (n := 4) this h2
def at4 (a b c d : Fin 4) (i : Nat) : Nat := ([a, b, c, d].getD i 0).val
theorem at4_lt (a b c d : Fin 4) (i : Nat) : at4 a b c d i < 4 := Fin.isLt _
theorem met_all0 : ∀ a b c d : Fin 4, (a = b ∨ a = c ∨ a = d ∨ b = c ∨ b = d ∨ c = d) ∨ ((((0 ||| 2 ^ a.val) ||| 2 ^ b.val) ||| 2 ^ c.val) ||| 2 ^ d.val) = 15 := by decide +kernel
/-- All four suits are met. -/
theorem met_all {l : Fin 4 → Nat} {a b c d : Fin 4} (k1 : 4 * l b + b.val < 4 * l a + a.val) (k2 : 4 * l c + c.val < 4 * l b + b.val) (k3 : 4 * l d + d.val < 4 * l c + c.val) : met (at4 a b c d) 4 = 15 := by
  rcases met_all0 a b c d with (h | h | h | h | h | h) | h
  · subst h; omega
  · subst h; omega
  · subst h; omega
  · subst h; omega
  · subst h; omega
  · subst h; omega
  · exact h
theorem or_small : ∀ x : Fin 16, ∀ s : Fin 4, bits .or .i64 (x.val : Int) ((2 ^ s.val : Nat) : Int) = ((x.val ||| 2 ^ s.val : Nat) : Int) := by decide +kernel
theorem pat_txt {m : Nat} {a b c d : Fin 4} (h : srt m = #[a, b, c, d]) : pat m = txt (fun i => len (hol m (at4 a b c d i))) 4 := by
  rw [pat_of h]
  have e := fun i : Fin 4 => dig_dec ⟨lens m i, lens_lt m i⟩
  simp only at e
  rw [e a, e b, e c, e d]
  simp [Lib.join, txt, at4, lens, List.intercalate, List.intersperse]
end Go.Proofs.YtgndhdcnofblaaaDoor
