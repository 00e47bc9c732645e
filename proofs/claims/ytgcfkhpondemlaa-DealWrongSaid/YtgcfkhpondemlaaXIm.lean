/- Complete: the mathematics of the walk. -/
import Derived.Test.YtgcfkhpondemlaaXF0
namespace Go.Proofs.Ytgcfkhpondemlaa.Ca
open Go.RowKit
open Go.Proofs.DB (ct bt Pd lack W2 W3 W4 un Sb left Dj cp0 cp1 cp2)

def iS (p : Nat → Nat) (n : Nat) : Nat → Nat
  | 0 => n
  | s + 1 => iS p n s % Wv p (s + 1)
def LS (p : Nat → Nat) (n : Nat) : Nat → Nat
  | 0 => left p
  | s + 1 => LS p n s - un bin (LS p n s) 52 (lack p s) (iS p n s / Wv p (s + 1))
def xS (p : Nat → Nat) (n s : Nat) : Nat := un bin (LS p n s) 52 (lack p s) (iS p n s / Wv p (s + 1))
def dS (p : Nat → Nat) (n s j : Nat) : Nat := if j < s then p j ||| xS p n j else p j
theorem dS_succ (p : Nat → Nat) (n s j : Nat) : dS p n (s + 1) j = if j = s then dS p n s j ||| un bin (LS p n s) 52 (lack p s) (iS p n s / Wv p (s + 1)) else dS p n s j := by
  unfold dS
  by_cases e : j = s
  · subst e
    rw [if_pos (by omega), if_pos rfl, if_neg (by omega)]; rfl
  · rw [if_neg e]
    by_cases l : j < s
    · rw [if_pos (by omega), if_pos l]
    · rw [if_neg (by omega), if_neg l]
theorem iS_le (p : Nat → Nat) (n : Nat) : ∀ s, iS p n s ≤ n
  | 0 => Nat.le_refl _
  | s + 1 => Nat.le_trans (Nat.mod_le _ _) (iS_le p n s)
theorem LS_lt (p : Nat → Nat) (n : Nat) : ∀ s, LS p n s < 2 ^ 52
  | 0 => DB.left_lt p
  | s + 1 => Nat.lt_of_le_of_lt (Nat.sub_le _ _) (LS_lt p n s)
theorem xS0 (p : Nat → Nat) (n : Nat) : xS p n 0 = cp0 bin (lack p 0) (lack p 1) (lack p 2) (lack p 3) (left p) n := rfl
theorem xS1 (p : Nat → Nat) (n : Nat) : xS p n 1 = cp1 bin (lack p 0) (lack p 1) (lack p 2) (lack p 3) (left p) n := rfl
theorem xS2 (p : Nat → Nat) (n : Nat) : xS p n 2 = cp2 bin (lack p 0) (lack p 1) (lack p 2) (lack p 3) (left p) n := by
  show un bin (LS p n 2) 52 (lack p 2) (iS p n 2 / 1) = _
  rw [Nat.div_one]; rfl
theorem xS_all {p : Nat → Nat} (hp : Pd p) {n : Nat} (hn : n < DB.ways bin p) :
    (∀ s, s < 4 → iS p n s / Wv p (s + 1) < bin (ct (LS p n s) 52) (lack p s)) ∧ ∀ j, j < 4 → dS p n 4 j = DB.complete bin p n j := by
  have q := DB.complete_parts pas_bin hp hn
  have q' := q
  rw [← xS0, ← xS1, ← xS2] at q
  have c0 := DB.left_ct hp
  have c1 := q.p0.rest c0
  have c2 := q.p1.rest c1
  have c3 := q.p2.rest c2
  have z3 := DB.W3_pos pas_bin (lack p 1) (lack p 2) (lack p 3)
  have z2 := DB.W2_pos pas_bin (lack p 2) (lack p 3)
  have i3 : iS p n 3 = 0 := Nat.mod_one _
  have d3 : iS p n 3 / Wv p 4 = 0 := by rw [i3]; exact Nat.zero_div _
  have x3 : xS p n 3 = left p - xS p n 0 - xS p n 1 - xS p n 2 := by
    show un bin (LS p n 3) 52 (lack p 3) (iS p n 3 / Wv p 4) = _
    rw [d3]
    have e : LS p n 3 = left p - xS p n 0 - xS p n 1 - xS p n 2 := rfl
    rw [← e] at c3 ⊢
    rw [← c3, DB.un_full pas_bin, Nat.mod_eq_of_lt (LS_lt p n 3)]
  refine ⟨fun s hs => ?_, fun j hj => ?_⟩
  · match s, hs with
    | 0, _ =>
      show n / W3 bin _ _ _ < bin (ct (left p) 52) _
      rw [c0]; exact Nat.div_lt_of_lt_mul (by rw [Nat.mul_comm]; exact hn)
    | 1, _ =>
      show n % W3 bin _ _ _ / W2 bin _ _ < bin (ct (left p - xS p n 0) 52) _
      rw [c1]; exact Nat.div_lt_of_lt_mul (by rw [Nat.mul_comm]; exact Nat.mod_lt _ z3)
    | 2, _ =>
      show n % W3 bin _ _ _ % W2 bin _ _ / 1 < bin (ct (left p - xS p n 0 - xS p n 1) 52) _
      rw [c2, Nat.div_one]; exact Nat.mod_lt _ z2
    | 3, _ =>
      rw [d3]
      show 0 < bin (ct (left p - xS p n 0 - xS p n 1 - xS p n 2) 52) (lack p 3)
      rw [c3, (pas_bin.self _).1]; decide
  · have dj := q.dj hp j hj
    have h0 : dS p n 4 j = p j ||| xS p n j := if_pos hj
    rw [h0]
    unfold DB.complete
    rw [← xS0, ← xS1, ← xS2]
    match j, hj with
    | 0, _ => exact DB.or_eq_add dj.1
    | 1, _ => exact DB.or_eq_add dj.2.1
    | 2, _ => exact DB.or_eq_add dj.2.2.1
    | 3, _ =>
      have d := dj.2.2.2
      rw [← x3] at d
      rw [DB.or_eq_add d, x3]; rfl
end Go.Proofs.Ytgcfkhpondemlaa.Ca
