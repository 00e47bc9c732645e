/- Add, Sub, Mul, Div and Cmp on fractions whose parts are bounded: no error. -/
import Derived.Test.YtignphcnjgbikaaDoorAr
namespace Go.Proofs.YtignphcnjgbikaaDoor
open Go.RowKit

/-- the fraction with these parts -/
def isR (r : Rat) (n d : Int) : Prop := r.num = n ∧ (r.den : Int) = d
theorem bnd_small2 {A B C D : Nat} {r s : Rat} (hr : bndR A B r) (hs : bndR C D s) (h1 : A * D ≤ 9223372036854775807) (h2 : C * B ≤ 9223372036854775807) : small2 r s := by
  obtain ⟨a1, a2⟩ := hr
  obtain ⟨b1, b2⟩ := hs
  unfold small2
  have e1 := Nat.mul_le_mul a1 (Nat.le_trans (Nat.div_le_self s.den (Nat.gcd r.den s.den)) b2)
  have e2 := Nat.mul_le_mul b1 (Nat.le_trans (Nat.div_le_self r.den (Nat.gcd r.den s.den)) a2)
  exact ⟨by omega, by omega⟩
theorem addB (r s : Rat) {n d m e a b : Int} (hr : isR r n d) (hs : isR s m e) (hq : isR (r + s) a b) (A B C D : Nat) (br : bndR A B r) (bs : bndR C D s)
    (h : A ≤ 9223372036854775807 ∧ B ≤ 9223372036854775807 ∧ C ≤ 9223372036854775807 ∧ D ≤ 9223372036854775807 ∧ A * D ≤ 9223372036854775807 ∧ C * B ≤ 9223372036854775807 ∧ A * D + C * B ≤ 9223372036854775807 ∧ B * D ≤ 9223372036854775807) (w : World) :
    Calls Tryd.prog 14 #[.agg #[.int .i64 n, .int .i64 d], .agg #[.int .i64 m, .int .i64 e]] w fun x w' => x = .returned (.tuple #[.agg #[.int .i64 a, .int .i64 b], .int .i64 0]) ∧ Below w.heap.size w w' := by
  obtain ⟨rfl, rfl⟩ := hr
  obtain ⟨rfl, rfl⟩ := hs
  obtain ⟨rfl, rfl⟩ := hq
  have := add_calls r s (bnd_fits br h.1 h.2.1) (bnd_fits bs h.2.2.1 h.2.2.2.1) (bnd_small2 br bs h.2.2.2.2.1 h.2.2.2.2.2.1) w
  obtain ⟨o1, o2, o3⟩ := out_fits (bnd_fits (bnd_add br bs) h.2.2.2.2.2.2.1 h.2.2.2.2.2.2.2)
  rw [o1, o2, o3] at this
  exact this
theorem subB (r s : Rat) {n d m e a b : Int} (hr : isR r n d) (hs : isR s m e) (hq : isR (r - s) a b) (A B C D : Nat) (br : bndR A B r) (bs : bndR C D s)
    (h : A ≤ 9223372036854775807 ∧ B ≤ 9223372036854775807 ∧ C ≤ 9223372036854775807 ∧ D ≤ 9223372036854775807 ∧ A * D ≤ 9223372036854775807 ∧ C * B ≤ 9223372036854775807 ∧ A * D + C * B ≤ 9223372036854775807 ∧ B * D ≤ 9223372036854775807) (w : World) :
    Calls Tryd.prog 16 #[.agg #[.int .i64 n, .int .i64 d], .agg #[.int .i64 m, .int .i64 e]] w fun x w' => x = .returned (.tuple #[.agg #[.int .i64 a, .int .i64 b], .int .i64 0]) ∧ Below w.heap.size w w' := by
  obtain ⟨rfl, rfl⟩ := hr
  obtain ⟨rfl, rfl⟩ := hs
  obtain ⟨rfl, rfl⟩ := hq
  have := sub_calls r s (bnd_fits br h.1 h.2.1) (bnd_fits bs h.2.2.1 h.2.2.2.1) (bnd_small2 br bs h.2.2.2.2.1 h.2.2.2.2.2.1) w
  obtain ⟨o1, o2, o3⟩ := out_fits (bnd_fits (bnd_sub br bs) h.2.2.2.2.2.2.1 h.2.2.2.2.2.2.2)
  rw [o1, o2, o3] at this
  exact this
theorem mulB (r s : Rat) {n d m e a b : Int} (hr : isR r n d) (hs : isR s m e) (hq : isR (r * s) a b) (A B C D : Nat) (br : bndR A B r) (bs : bndR C D s)
    (h : A ≤ 9223372036854775807 ∧ B ≤ 9223372036854775807 ∧ C ≤ 9223372036854775807 ∧ D ≤ 9223372036854775807 ∧ A * C ≤ 9223372036854775807 ∧ B * D ≤ 9223372036854775807) (w : World) :
    Calls Tryd.prog 15 #[.agg #[.int .i64 n, .int .i64 d], .agg #[.int .i64 m, .int .i64 e]] w fun x w' => x = .returned (.tuple #[.agg #[.int .i64 a, .int .i64 b], .int .i64 0]) ∧ Below w.heap.size w w' := by
  obtain ⟨rfl, rfl⟩ := hr
  obtain ⟨rfl, rfl⟩ := hs
  obtain ⟨rfl, rfl⟩ := hq
  have := mul_calls r s (bnd_fits br h.1 h.2.1) (bnd_fits bs h.2.2.1 h.2.2.2.1) w
  obtain ⟨o1, o2, o3⟩ := out_fits (bnd_fits (bnd_mul br bs) h.2.2.2.2.1 h.2.2.2.2.2)
  rw [o1, o2, o3] at this
  exact this
theorem cmpB (r s : Rat) {n d m e a : Int} (hr : isR r n d) (hs : isR s m e) (hq : cmpR r s = a) (A B C D : Nat) (br : bndR A B r) (bs : bndR C D s)
    (h : A ≤ 9223372036854775807 ∧ B ≤ 9223372036854775807 ∧ C ≤ 9223372036854775807 ∧ D ≤ 9223372036854775807) (w : World) :
    Calls Tryd.prog 21 #[.agg #[.int .i64 n, .int .i64 d], .agg #[.int .i64 m, .int .i64 e]] w fun x w' => x = .returned (.tuple #[.int .i64 a, .int .i64 0]) ∧ Below w.heap.size w w' := by
  obtain ⟨rfl, rfl⟩ := hr
  obtain ⟨rfl, rfl⟩ := hs
  subst hq
  exact cmp_calls r s (bnd_fits br h.1 h.2.1) (bnd_fits bs h.2.2.1 h.2.2.2) w
theorem someB (n d : Int) (hn : -32768 ≤ n ∧ n ≤ 32767) (hd : -32768 ≤ d ∧ d ≤ 32767) {a b : Int} (h : isR (someR n d) a b) (w : World) :
    Calls Tryd.prog 12 #[.int .i16 n, .int .i16 d] w fun e w' => e = .returned (.agg #[.int .i64 a, .int .i64 b]) ∧ Below w.heap.size w w' := by
  obtain ⟨rfl, rfl⟩ := h
  exact some_calls n d hn hd w
theorem isR_ex (r : Rat) : ∃ n d : Int, isR r n d := ⟨_, _, rfl, rfl⟩
theorem some_bnd (n d : Int) (hn : -32768 ≤ n ∧ n ≤ 32767) : bndR 32768 32768 (someR n d) := (someR_fits n d hn).2
theorem isR_eq {r s : Rat} {a b c d : Int} (h1 : isR r a b) (h2 : isR s c d) : r = s ↔ a = c ∧ b = d := by
  obtain ⟨rfl, rfl⟩ := h1
  obtain ⟨rfl, rfl⟩ := h2
  constructor
  · rintro rfl; exact ⟨rfl, rfl⟩
  · rintro ⟨h1, h2⟩
    exact Rat.ext h1 (by omega)
end Go.Proofs.YtignphcnjgbikaaDoor
