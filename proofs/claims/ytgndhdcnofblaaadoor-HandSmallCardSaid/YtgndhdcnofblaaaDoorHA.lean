/- The mathematics of a hand: holdings, lengths, what a suit counts. -/
import Derived.WalkKit
namespace Go.Proofs.YtgndhdcnofblaaaDoor

/-- The cards of a suit by rank. -/
def hol (m s : Nat) : Nat := m / 2 ^ (13 * s) % 8192
/-- How many of the 13 ranks. -/
def len (h : Nat) : Nat := h % 2 + h / 2 % 2 + h / 4 % 2 + h / 8 % 2 + h / 16 % 2 + h / 32 % 2 + h / 64 % 2 + h / 128 % 2 + h / 256 % 2 + h / 512 % 2 + h / 1024 % 2 + h / 2048 % 2 + h / 4096 % 2
def pts (h : Nat) : Nat := h / 512 % 2 + 2 * (h / 1024 % 2) + 3 * (h / 2048 % 2) + 4 * (h / 4096 % 2)
def ctl (h : Nat) : Nat := h / 2048 % 2 + 2 * (h / 4096 % 2)
def los (h : Nat) : Nat := (if 1 ≤ len h ∧ h / 4096 % 2 = 0 then 1 else 0) + (if 2 ≤ len h ∧ h / 2048 % 2 = 0 then 1 else 0) + (if 3 ≤ len h ∧ h / 1024 % 2 = 0 then 1 else 0)
def qck (h : Nat) : Nat :=
  if h / 4096 % 2 = 1 ∧ h / 2048 % 2 = 1 then 4
  else if h / 4096 % 2 = 1 ∧ h / 1024 % 2 = 1 then 3
  else if h / 4096 % 2 = 1 ∨ (h / 2048 % 2 = 1 ∧ h / 1024 % 2 = 1) then 2
  else if h / 2048 % 2 = 1 ∧ 2 ≤ len h then 1 else 0
/-- The sum over the four suits. -/
def tot (g : Nat → Nat) (m : Nat) : Nat := g (hol m 0) + g (hol m 1) + g (hol m 2) + g (hol m 3)

theorem hol_lt (m s : Nat) : hol m s < 8192 := Nat.mod_lt _ (by decide)
theorem len_le (h : Nat) : len h ≤ 13 := by unfold len; omega
theorem hol0 (m : Nat) : hol m 0 = m % 8192 := by simp [hol]
theorem hol1 (m : Nat) : hol m 1 = m / 8192 % 8192 := by simp [hol]
theorem hol2 (m : Nat) : hol m 2 = m / 67108864 % 8192 := by simp [hol]
theorem hol3 (m : Nat) : hol m 3 = m / 549755813888 % 8192 := by simp [hol]
theorem los_le (h : Nat) : los h ≤ 3 := by unfold los; split <;> split <;> split <;> omega
theorem los_len (h : Nat) : los h ≤ len h := by
  unfold los
  generalize len h = n
  split <;> split <;> split <;> omega
theorem los_tops {h : Nat} (h3 : 3 ≤ len h) : los h + (h / 4096 % 2 + h / 2048 % 2 + h / 1024 % 2) = 3 := by
  unfold los
  generalize len h = n at *
  split <;> split <;> split <;> omega
theorem los_one {h : Nat} (h1 : len h = 1) : los h = 1 ↔ h / 4096 % 2 = 0 := by
  unfold los
  rw [h1]
  split <;> simp <;> omega
theorem los_zero : los 0 = 0 := by decide
theorem pts_le (h : Nat) : pts h ≤ 10 := by unfold pts; omega
theorem ctl_le (h : Nat) : ctl h ≤ 3 := by unfold ctl; omega
theorem qck_le (h : Nat) : qck h ≤ 4 := by unfold qck; split <;> (try split) <;> (try split) <;> (try split) <;> omega
end Go.Proofs.YtgndhdcnofblaaaDoor
