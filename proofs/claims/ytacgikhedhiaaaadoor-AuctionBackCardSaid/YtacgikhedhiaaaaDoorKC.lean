/- Right, isBid, Parts, Bid, Cheapest, Jump. -/
import Derived.Test.YtacgikhedhiaaaaDoorKB
import Derived.Test.YtacgikhedhiaaaaDoorKA
import Derived.Lib.MinMax
namespace Go.Proofs.YtacgikhedhiaaaaDoor
open Go.RowKit

theorem right_calls (c : Nat) (w : World) : Calls Tryd.prog 70 #[.int .u8 c] w fun e w' => e = .returned (.bool (decide (c < 38))) ∧ w = w' := by
  go_enter Tryd.func70, Tryd.ntmps70
  go_wp2
  go_ret
  refine ⟨?_, rfl⟩
  first | rfl | (congr 2; simp; omega)
theorem right_yes (c : Nat) (h : c < 38) (w : World) : Calls Tryd.prog 70 #[.int .u8 c] w fun e w' => e = .returned (.bool true) ∧ w = w' := by
  have := right_calls c w
  rwa [decide_eq_true h] at this
theorem right_no (c : Nat) (h : ¬ c < 38) (w : World) : Calls Tryd.prog 70 #[.int .u8 c] w fun e w' => e = .returned (.bool false) ∧ w = w' := by
  have := right_calls c w
  rwa [decide_eq_false h] at this
def isb (c : Nat) : Bool := decide (3 ≤ c ∧ c ≤ 37)
theorem isb_iff {c : Nat} : isb c = true ↔ 3 ≤ c ∧ c ≤ 37 := by simp [isb]
theorem isBid_calls (c : Nat) (w : World) : Calls Tryd.prog 49 #[.int .u8 c] w fun e w' => e = .returned (.bool (isb c)) ∧ w = w' := by
  by_cases h3 : 3 ≤ c
  · have h3' : (3 : Int) ≤ c := by omega
    have R := Lib.hid (right_calls c)
    have hh : isb c = decide (c < 38) := by unfold isb; by_cases h : c < 38 <;> simp [h, h3] <;> omega
    rw [hh]
    go_enter Tryd.func49, Tryd.ntmps49
    go_wp2_with (go_at_call 70; refine (R.out _).mono ?_; rintro e w9 ⟨rfl, rfl⟩)
    go_ret
    exact ⟨rfl, rfl⟩
  · have h3' : ¬ (3 : Int) ≤ c := by omega
    have hh : isb c = false := by unfold isb; simp; omega
    rw [hh]
    go_enter Tryd.func49, Tryd.ntmps49
    go_wp2
    go_ret
    exact ⟨rfl, rfl⟩
/-- The level and the denomination of a bid. -/
def prL (c : Nat) : Nat := if isb c then (c - 3) / 5 + 1 else 0
def prD (c : Nat) : Nat := if isb c then (c - 3) % 5 else 0
theorem parts_calls (c : Nat) (w : World) : Calls Tryd.prog 21 #[.int .u8 c] w fun e w' => e = .returned (.tuple #[.int .u8 (prL c : Nat), .int .u8 (prD c : Nat), .bool (isb c)]) ∧ w = w' := by
  have R := Lib.hid (isBid_calls c)
  unfold prL prD
  by_cases h : isb c = true
  · have h' := isb_iff.1 h
    rw [h] at R ⊢
    obtain ⟨d, rfl⟩ : ∃ d, c = d + 3 := ⟨c - 3, by omega⟩
    have e1 : IntKind.u8.wrap (((d + 3 : Nat) : Int) - 3) = d := by rw [u8_wrap (by omega) (by omega)]; omega
    have e2 : (d : Int).tdiv 5 = ((d / 5 : Nat) : Int) := by rw [Int.tdiv_eq_ediv_of_nonneg (by omega)]; omega
    have e3 : (d : Int).tmod 5 = ((d % 5 : Nat) : Int) := by rw [Int.tmod_eq_emod_of_nonneg (by omega)]; omega
    have e4 : IntKind.u8.wrap ((d / 5 : Nat) : Int) = ((d / 5 : Nat) : Int) := u8_wrap (by omega) (by omega)
    have e5 : IntKind.u8.wrap ((d % 5 : Nat) : Int) = ((d % 5 : Nat) : Int) := u8_wrap (by omega) (by omega)
    have e6 : IntKind.u8.wrap (((d / 5 : Nat) : Int) + 1) = ((d / 5 + 1 : Nat) : Int) := by rw [u8_wrap (by omega) (by omega)]; omega
    rw [if_pos rfl, if_pos rfl, Nat.add_sub_cancel]
    clear h h'
    obtain ⟨q, hq⟩ : ∃ q, d / 5 = q := ⟨_, rfl⟩
    obtain ⟨r, hr⟩ : ∃ q, d % 5 = q := ⟨_, rfl⟩
    obtain ⟨q1, hq1⟩ : ∃ x, q + 1 = x := ⟨_, rfl⟩
    obtain ⟨c, hc⟩ : ∃ x, d + 3 = x := ⟨_, rfl⟩
    rw [hq] at e2 e4 e6 ⊢
    rw [hr] at e3 e5 ⊢
    rw [hq1] at e6 ⊢
    rw [hc] at e1 R ⊢
    clear hq hr hq1 hc
    go_enter Tryd.func21, Tryd.ntmps21
    go_wp2_with (go_at_call 49; refine (R.out _).mono ?_; rintro e w9 ⟨rfl, rfl⟩)
    refine bodyPost_ret (by simp [results, Tryd.results21, go_sem]) rfl ⟨rfl, rfl⟩
  · have h' : isb c = false := by simpa using h
    rw [h'] at R ⊢
    rw [if_neg (by decide), if_neg (by decide)]
    go_enter Tryd.func21, Tryd.ntmps21
    go_wp2_with (go_at_call 49; refine (R.out _).mono ?_; rintro e w9 ⟨rfl, rfl⟩)
    refine bodyPost_ret (by simp [results, Tryd.results21, go_sem]) rfl ⟨rfl, rfl⟩
/-- The bid of a level and a denomination. -/
def bdOk (l d : Nat) : Bool := decide (1 ≤ l ∧ l ≤ 7 ∧ d < 5)
def bdV (l d : Nat) : Nat := if bdOk l d then 3 + 5 * (l - 1) + d else 0
def bdE (l d : Nat) : Int := if bdOk l d then 0 else 2
/-- The next bid of a denomination over a call, which may be too great. -/
def cand (o d : Nat) : Nat := max (o + 1) 3 + (d + 5 - (max (o + 1) 3 - 3) % 5) % 5
def chB (o d : Nat) : Nat := if o < 38 ∧ d < 5 ∧ cand o d < 38 then cand o d else 0
def chE (o d : Nat) : Int := if o < 38 then (if d < 5 then (if cand o d < 38 then 0 else 6) else 2) else 80
def jmN (o b : Nat) : Nat := if o < 38 ∧ isb b = true ∧ o < b then prL b - prL (chB o (prD b)) else 0
def jmE (o b : Nat) : Int := if o < 38 ∧ isb b = true then (if o < b then 0 else 6) else 80
/-- Over a call the cheapest bid of a higher bid's denomination is a bid of it, no higher than the bid. -/
theorem cheap_le {o b : Nat} (ho : o < 38) (hb : isb b = true) (h : o < b) : o < cand o (prD b) ∧ cand o (prD b) ≤ b ∧ isb (cand o (prD b)) = true ∧ prD (cand o (prD b)) = prD b ∧ chB o (prD b) = cand o (prD b) := by
  have h' := isb_iff.1 hb
  have hd : prD b = (b - 3) % 5 := by unfold prD; rw [if_pos hb]
  rw [hd]
  have h5 : (b - 3) % 5 < 5 := Nat.mod_lt _ (by decide)
  have hc : cand o ((b - 3) % 5) = max (o + 1) 3 + ((b - 3) % 5 + 5 - (max (o + 1) 3 - 3) % 5) % 5 := rfl
  have h1 : o < cand o ((b - 3) % 5) ∧ cand o ((b - 3) % 5) ≤ b ∧ 3 ≤ cand o ((b - 3) % 5) ∧ (cand o ((b - 3) % 5) - 3) % 5 = (b - 3) % 5 := by
    rw [hc]
    omega
  have h2 : isb (cand o ((b - 3) % 5)) = true := isb_iff.2 ⟨h1.2.2.1, by omega⟩
  refine ⟨h1.1, h1.2.1, h2, by unfold prD; rw [if_pos h2]; exact h1.2.2.2, ?_⟩
  unfold chB
  rw [if_pos ⟨ho, h5, by omega⟩]
theorem prL_le (c : Nat) : prL c ≤ 7 := by
  unfold prL
  split
  · rename_i h; have := isb_iff.1 h; omega
  · omega
theorem prD_lt (c : Nat) : prD c < 5 := by
  unfold prD
  split
  · exact Nat.mod_lt _ (by decide)
  · omega
theorem chB_le (o d : Nat) : chB o d < 38 := by
  unfold chB
  split <;> omega
end Go.Proofs.YtacgikhedhiaaaaDoor
