/- Three defects of a deal. -/
import Derived.Test.YtgcfkhpondemlaaXV0
namespace Go.Proofs.Ytgcfkhpondemlaa.Ca
open Go.RowKit
open Go.Proofs.DB (ct bt Pd Rd lack wo Dj)

def up (d : Nat → Nat) (i x : Nat) : Nat → Nat := fun j => if j = i then x else d j
theorem up_at (d : Nat → Nat) (i x : Nat) : up d i x i = x := if_pos rfl
theorem up_ne (d : Nat → Nat) {i x j : Nat} (h : j ≠ i) : up d i x j = d j := if_neg h
theorem up_lt {d : Nat → Nat} {i x B : Nat} (hd : ∀ j, j < 4 → d j < B) (hx : x < B) : ∀ j, j < 4 → up d i x j < B := fun j hj => by
  unfold up; split
  · exact hx
  · exact hd j hj
theorem low_ne : ∀ (n x : Nat), 0 < x → x < 2 ^ n → x &&& (2 ^ n - x) ≠ 0
  | 0, x, h0, h => by simp at h; omega
  | n + 1, x, h0, h => fun e => by
    have p2 : 2 ^ (n + 1) = 2 * 2 ^ n := by rw [Nat.pow_succ, Nat.mul_comm]
    rcases Nat.mod_two_eq_zero_or_one x with m | m
    · have ih := low_ne n (x / 2) (by omega) (by omega)
      have hh : (x &&& (2 ^ (n + 1) - x)) / 2 = 0 := by rw [e]
      rw [Nat.and_div_two, show (2 ^ (n + 1) - x) / 2 = 2 ^ n - x / 2 by omega] at hh
      exact ih hh
    · have hb := DB.bt_and x (2 ^ (n + 1) - x) 0
      rw [e] at hb
      simp [bt] at hb
      omega
theorem defect0 {d : Nat → Nat} (i g : Nat) (hi : i < 4) (hg : 52 ≤ g) : ¬ Pd (up d i (d i ||| 2 ^ g)) := fun h => by
  have := h.lt i hi
  rw [up_at] at this
  have h1 : 2 ^ g ≤ d i ||| 2 ^ g := Nat.right_le_or
  have h2 : 2 ^ 52 ≤ 2 ^ g := Nat.pow_le_pow_right (by decide) hg
  omega
theorem defect1 {d : Nat → Nat} (hd : Rd d) (i j : Nat) (hi : i < 4) (hj : j < 4) (hn : i ≠ j) : ¬ Pd (up (up d i (d i ||| d j)) j 0) := fun h => by
  have := h.few i hi
  have dj : Dj (d i) (d j) := by
    rcases Nat.lt_or_ge i j with l | l
    · exact hd.dj i j l hj
    · exact (hd.dj j i (by omega) hi).symm
  rw [up_ne _ hn, up_at, DB.or_eq_add dj, DB.ct_add dj, hd.all i hi, hd.all j hj] at this
  omega
theorem defect2 {d : Nat → Nat} (hd : Rd d) (i j y : Nat) (hi : i < 4) (hj : j < 4) (hn : i ≠ j) : ¬ Pd (up d j (y ||| (d i &&& (18446744073709551616 - d i)))) := fun h => by
  have hl := hd.lt i hi
  have hz : 0 < d i := by
    have := hd.all i hi
    rcases Nat.eq_zero_or_pos (d i) with z | z
    · rw [z, DB.ct_end (L := 0) (c := 52) fun j _ => by simp [bt]] at this; omega
    · exact z
  have hc := low_ne 64 (d i) hz (Nat.lt_trans hl (by decide))
  rw [show (2 : Nat) ^ 64 = 18446744073709551616 from rfl] at hc
  obtain ⟨m, hm⟩ : ∃ m, 18446744073709551616 - d i = m := ⟨_, rfl⟩
  rw [hm] at hc h
  have dj : Dj (d i) (y ||| (d i &&& m)) := by
    have e1 : up d j (y ||| (d i &&& m)) i = d i := up_ne _ hn
    have e2 : up d j (y ||| (d i &&& m)) j = y ||| (d i &&& m) := up_at _ _ _
    rcases Nat.lt_or_ge i j with l | l
    · have := h.dj i j l hj; rwa [e1, e2] at this
    · have := (h.dj j i (by omega) hi).symm; rwa [e1, e2] at this
  apply hc
  refine DB.bt_ext fun t => ?_
  have a := dj t
  rw [DB.bt_or, DB.bt_and] at a
  rw [DB.bt_and, show bt 0 t = 0 by simp [bt]]
  omega
end Go.Proofs.Ytgcfkhpondemlaa.Ca
