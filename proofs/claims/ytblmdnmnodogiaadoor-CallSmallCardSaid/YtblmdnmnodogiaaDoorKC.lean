/- Right, isBid, Parts, Bid, Cheapest, Jump. -/
import Derived.Test.YtblmdnmnodogiaaDoorKB
import Derived.Test.YtblmdnmnodogiaaDoorKA
import Derived.Lib.MinMax
namespace Go.Proofs.YtblmdnmnodogiaaDoor
open Go.RowKit

theorem right_calls (c : Nat) (w : World) : Calls Tryd.prog 24 #[.int .u8 c] w fun e w' => e = .returned (.bool (decide (c < 38))) ∧ w = w' := by
  go_enter Tryd.func24, Tryd.ntmps24
  go_wp2
  go_ret
  refine ⟨?_, rfl⟩
  first | rfl | (congr 2; simp; omega)
theorem right_yes (c : Nat) (h : c < 38) (w : World) : Calls Tryd.prog 24 #[.int .u8 c] w fun e w' => e = .returned (.bool true) ∧ w = w' := by
  have := right_calls c w
  rwa [decide_eq_true h] at this
theorem right_no (c : Nat) (h : ¬ c < 38) (w : World) : Calls Tryd.prog 24 #[.int .u8 c] w fun e w' => e = .returned (.bool false) ∧ w = w' := by
  have := right_calls c w
  rwa [decide_eq_false h] at this
def isb (c : Nat) : Bool := decide (3 ≤ c ∧ c ≤ 37)
theorem isb_iff {c : Nat} : isb c = true ↔ 3 ≤ c ∧ c ≤ 37 := by simp [isb]
theorem isBid_calls (c : Nat) (w : World) : Calls Tryd.prog 51 #[.int .u8 c] w fun e w' => e = .returned (.bool (isb c)) ∧ w = w' := by
  by_cases h3 : 3 ≤ c
  · have h3' : (3 : Int) ≤ c := by omega
    have R := Lib.hid (right_calls c)
    have hh : isb c = decide (c < 38) := by unfold isb; by_cases h : c < 38 <;> simp [h, h3] <;> omega
    rw [hh]
    go_enter Tryd.func51, Tryd.ntmps51
    go_wp2_with (go_at_call 24; refine (R.out _).mono ?_; rintro e w9 ⟨rfl, rfl⟩)
    go_ret
    exact ⟨rfl, rfl⟩
  · have h3' : ¬ (3 : Int) ≤ c := by omega
    have hh : isb c = false := by unfold isb; simp; omega
    rw [hh]
    go_enter Tryd.func51, Tryd.ntmps51
    go_wp2
    go_ret
    exact ⟨rfl, rfl⟩
/-- The level and the denomination of a bid. -/
def prL (c : Nat) : Nat := if isb c then (c - 3) / 5 + 1 else 0
def prD (c : Nat) : Nat := if isb c then (c - 3) % 5 else 0
theorem parts_calls (c : Nat) (w : World) : Calls Tryd.prog 19 #[.int .u8 c] w fun e w' => e = .returned (.tuple #[.int .u8 (prL c : Nat), .int .u8 (prD c : Nat), .bool (isb c)]) ∧ w = w' := by
  have R := Lib.hid (isBid_calls c)
  unfold prL prD
  by_cases h : isb c = true
  · have h' := isb_iff.1 h
    rw [h] at R ⊢
    obtain ⟨d, rfl⟩ : ∃ d, c = d + 3 := ⟨c - 3, by omega⟩
    have e1 : IntKind.u8.wrap (((d + 3 : Nat) : Int) - 3) = d := by rw [u8_wrap (by omega) (by omega)]; omega
    have e2 : (d : Int).tdiv 5 = ((d / 5 : Nat) : Int) := by rw [Int.tdiv_eq_ediv_of_nonneg (by omega)]; omega
    have e3 : (d : Int).tmod 5 = ((d % 5 : Nat) : Int) := by rw [Int.tmod_eq_emod_of_nonneg (by omega)]; omega
    have e4 : IntKind.u8.wrap ((d / 5 : Nat) : Int) = ((d / 5 : Nat) : Int) := u8_wrap (by omega) (by omega)
    have e5 : IntKind.u8.wrap ((d % 5 : Nat) : Int) = ((d % 5 : Nat) : Int) := u8_wrap (by omega) (by omega)
    have e6 : IntKind.u8.wrap (((d / 5 : Nat) : Int) + 1) = ((d / 5 + 1 : Nat) : Int) := by rw [u8_wrap (by omega) (by omega)]; omega
    rw [if_pos rfl, if_pos rfl, Nat.add_sub_cancel]
    clear h h'
    obtain ⟨q, hq⟩ : ∃ q, d / 5 = q := ⟨_, rfl⟩
    obtain ⟨r, hr⟩ : ∃ q, d % 5 = q := ⟨_, rfl⟩
    obtain ⟨q1, hq1⟩ : ∃ x, q + 1 = x := ⟨_, rfl⟩
    obtain ⟨c, hc⟩ : ∃ x, d + 3 = x := ⟨_, rfl⟩
    rw [hq] at e2 e4 e6 ⊢
    rw [hr] at e3 e5 ⊢
    rw [hq1] at e6 ⊢
    rw [hc] at e1 R ⊢
    clear hq hr hq1 hc
    go_enter Tryd.func19, Tryd.ntmps19
    go_wp2_with (go_at_call 51; refine (R.out _).mono ?_; rintro e w9 ⟨rfl, rfl⟩)
    refine bodyPost_ret (by simp [results, Tryd.results19, go_sem]) rfl ⟨rfl, rfl⟩
  · have h' : isb c = false := by simpa using h
    rw [h'] at R ⊢
    rw [if_neg (by decide), if_neg (by decide)]
    go_enter Tryd.func19, Tryd.ntmps19
    go_wp2_with (go_at_call 51; refine (R.out _).mono ?_; rintro e w9 ⟨rfl, rfl⟩)
    refine bodyPost_ret (by simp [results, Tryd.results19, go_sem]) rfl ⟨rfl, rfl⟩
/-- The bid of a level and a denomination. -/
def bdOk (l d : Nat) : Bool := decide (1 ≤ l ∧ l ≤ 7 ∧ d < 5)
def bdV (l d : Nat) : Nat := if bdOk l d then 3 + 5 * (l - 1) + d else 0
def bdE (l d : Nat) : Int := if bdOk l d then 0 else 2
theorem bid_calls (l d : Nat) (hl : l < 256) (hd : d < 256) (w : World) : Calls Tryd.prog 20 #[.int .u8 l, .int .u8 d] w fun e w' => e = .returned (.tuple #[.int .u8 (bdV l d : Nat), .int .i64 (bdE l d)]) ∧ w = w' := by
  unfold bdV bdE
  by_cases h : bdOk l d = true
  · have h' : 1 ≤ l ∧ l ≤ 7 ∧ d < 5 := by simpa [bdOk] using h
    rw [if_pos h, if_pos h]
    clear h
    obtain ⟨h1, h2, h3⟩ := h'
    obtain ⟨k, rfl⟩ : ∃ k, l = k + 1 := ⟨l - 1, by omega⟩
    have b1 : ¬ ((k + 1 : Nat) : Int) < 1 := by omega
    have b2 : ¬ (7 : Int) < ((k + 1 : Nat) : Int) := by omega
    have b3 : ¬ (5 : Int) ≤ d := by omega
    have e1 : IntKind.u8.wrap (((k + 1 : Nat) : Int) - 1) = (k : Int) := by rw [u8_wrap (by omega) (by omega)]; omega
    have e2 : IntKind.u8.wrap ((5 : Int) * k) = 5 * k := u8_wrap (by omega) (by omega)
    have e3 : IntKind.u8.wrap ((3 : Int) + 5 * k) = 3 + 5 * k := u8_wrap (by omega) (by omega)
    have e4 : IntKind.u8.wrap ((3 : Int) + 5 * k + d) = ((3 + 5 * (k + 1 - 1) + d : Nat) : Int) := by rw [u8_wrap (by omega) (by omega)]; omega
    obtain ⟨v, hv⟩ : ∃ v, 3 + 5 * (k + 1 - 1) + d = v := ⟨_, rfl⟩
    obtain ⟨l, hl⟩ : ∃ v, k + 1 = v := ⟨_, rfl⟩
    rw [hv] at e4 ⊢
    rw [hl] at b1 b2 e1 ⊢
    clear hv hl h1 h2 h3
    go_enter Tryd.func20, Tryd.ntmps20
    go_wp2
    refine bodyPost_ret (by simp [results, Tryd.results20, go_sem]) rfl ⟨rfl, rfl⟩
  · have h' : ¬ (1 ≤ l ∧ l ≤ 7 ∧ d < 5) := by simpa [bdOk] using h
    rw [if_neg h, if_neg h]
    clear h
    by_cases h1 : l < 1
    · have b1 : (l : Int) < 1 := by omega
      go_enter Tryd.func20, Tryd.ntmps20
      go_wp2
      refine bodyPost_ret (by simp [results, Tryd.results20, go_sem]) rfl ⟨rfl, rfl⟩
    · by_cases h2 : 7 < l
      · have b1 : ¬ (l : Int) < 1 := by omega
        have b2 : (7 : Int) < (l : Int) := by omega
        go_enter Tryd.func20, Tryd.ntmps20
        go_wp2
        refine bodyPost_ret (by simp [results, Tryd.results20, go_sem]) rfl ⟨rfl, rfl⟩
      · have b1 : ¬ (l : Int) < 1 := by omega
        have b2 : ¬ (7 : Int) < (l : Int) := by omega
        have b3 : (5 : Int) ≤ d := by omega
        go_enter Tryd.func20, Tryd.ntmps20
        go_wp2
        refine bodyPost_ret (by simp [results, Tryd.results20, go_sem]) rfl ⟨rfl, rfl⟩
/-- The next bid of a denomination over a call, which may be too great. -/
def cand (o d : Nat) : Nat := max (o + 1) 3 + (d + 5 - (max (o + 1) 3 - 3) % 5) % 5
def chB (o d : Nat) : Nat := if o < 38 ∧ d < 5 ∧ cand o d < 38 then cand o d else 0
def chE (o d : Nat) : Int := if o < 38 then (if d < 5 then (if cand o d < 38 then 0 else 6) else 2) else 80
theorem cheapest_calls (o d : Nat) (ho : o < 256) (hd : d < 256) (w : World) : Calls Tryd.prog 21 #[.int .u8 o, .int .u8 d] w fun e w' => e = .returned (.tuple #[.int .u8 (chB o d : Nat), .int .i64 (chE o d)]) ∧ w = w' := by
  by_cases h1 : o < 38
  · by_cases h2 : d < 5
    · have b3 : ¬ (5 : Int) ≤ d := by omega
      have R := Lib.hid (right_yes o h1)
      have R2 := Lib.hid (right_calls (cand o d))
      obtain ⟨n, hn⟩ : ∃ n, max (o + 1) 3 = n := ⟨_, rfl⟩
      obtain ⟨r, hr⟩ : ∃ r, (n - 3) % 5 = r := ⟨_, rfl⟩
      obtain ⟨s, hs⟩ : ∃ s, (d + 5 - r) % 5 = s := ⟨_, rfl⟩
      have hc : cand o d = n + s := by unfold cand; rw [hn, hr, hs]
      have e1 : IntKind.u8.wrap ((o : Int) + 1) = o + 1 := u8_wrap (by omega) (by omega)
      have e2 : max ((o : Int) + 1) 3 = n := by omega
      have e3 : IntKind.u8.wrap ((d : Int) + 5) = d + 5 := u8_wrap (by omega) (by omega)
      have e4 : IntKind.u8.wrap ((n : Int) - 3) = n - 3 := u8_wrap (by omega) (by omega)
      have e5 : ((n : Int) - 3).tmod 5 = r := by rw [Int.tmod_eq_emod_of_nonneg (by omega)]; omega
      have e6 : IntKind.u8.wrap (r : Int) = r := u8_wrap (by omega) (by omega)
      have e7 : IntKind.u8.wrap ((d : Int) + 5 - r) = d + 5 - r := u8_wrap (by omega) (by omega)
      have e8 : ((d : Int) + 5 - r).tmod 5 = s := by rw [Int.tmod_eq_emod_of_nonneg (by omega)]; omega
      have e9 : IntKind.u8.wrap (s : Int) = s := u8_wrap (by omega) (by omega)
      have e10 : IntKind.u8.wrap ((n : Int) + s) = ((n + s : Nat) : Int) := by rw [u8_wrap (by omega) (by omega)]; omega
      obtain ⟨t, ht⟩ : ∃ t, n + s = t := ⟨_, rfl⟩
      rw [ht] at hc e10
      rw [hc] at R2
      clear ht hn hr hs
      by_cases h3 : t < 38
      · have hB : chB o d = t := by unfold chB; rw [hc, if_pos ⟨h1, h2, h3⟩]
        have hE : chE o d = 0 := by unfold chE; rw [hc, if_pos h1, if_pos h2, if_pos h3]
        rw [hB, hE]
        clear hB hE hc
        rw [decide_eq_true h3] at R2
        clear h1 h2 h3 ho hd
        go_enter Tryd.func21, Tryd.ntmps21
        go_upto_region 5 with (go_at_call 24; refine (R.out _).mono ?_; rintro e w9 ⟨rfl, rfl⟩)
        go_wp2_with (go_at_call 24; refine (R2.out _).mono ?_; rintro e w9 ⟨rfl, rfl⟩)
        refine bodyPost_ret (by simp [results, Tryd.results21, go_sem]) rfl ⟨rfl, rfl⟩
      · have hB : chB o d = 0 := by unfold chB; rw [hc, if_neg (fun h => h3 h.2.2)]
        have hE : chE o d = 6 := by unfold chE; rw [hc, if_pos h1, if_pos h2, if_neg h3]
        rw [hB, hE]
        clear hB hE hc
        rw [decide_eq_false h3] at R2
        clear h1 h2 h3 ho hd
        go_enter Tryd.func21, Tryd.ntmps21
        go_upto_region 5 with (go_at_call 24; refine (R.out _).mono ?_; rintro e w9 ⟨rfl, rfl⟩)
        go_wp2_with (go_at_call 24; refine (R2.out _).mono ?_; rintro e w9 ⟨rfl, rfl⟩)
        refine bodyPost_ret (by simp [results, Tryd.results21, go_sem]) rfl ⟨rfl, rfl⟩
    · have b3 : (5 : Int) ≤ d := by omega
      have R := Lib.hid (right_yes o h1)
      have hB : chB o d = 0 := by unfold chB; rw [if_neg (fun h => h2 h.2.1)]
      have hE : chE o d = 2 := by unfold chE; rw [if_pos h1, if_neg h2]
      rw [hB, hE]
      clear hB hE
      go_enter Tryd.func21, Tryd.ntmps21
      go_wp2_with (go_at_call 24; refine (R.out _).mono ?_; rintro e w9 ⟨rfl, rfl⟩)
      refine bodyPost_ret (by simp [results, Tryd.results21, go_sem]) rfl ⟨rfl, rfl⟩
  · have R := Lib.hid (right_no o h1)
    have hB : chB o d = 0 := by unfold chB; rw [if_neg (fun h => h1 h.1)]
    have hE : chE o d = 80 := by unfold chE; rw [if_neg h1]
    rw [hB, hE]
    clear hB hE
    go_enter Tryd.func21, Tryd.ntmps21
    go_wp2_with (go_at_call 24; refine (R.out _).mono ?_; rintro e w9 ⟨rfl, rfl⟩)
    refine bodyPost_ret (by simp [results, Tryd.results21, go_sem]) rfl ⟨rfl, rfl⟩
def jmN (o b : Nat) : Nat := if o < 38 ∧ isb b = true ∧ o < b then prL b - prL (chB o (prD b)) else 0
def jmE (o b : Nat) : Int := if o < 38 ∧ isb b = true then (if o < b then 0 else 6) else 80
/-- Over a call the cheapest bid of a higher bid's denomination is a bid of it, no higher than the bid. -/
theorem cheap_le {o b : Nat} (ho : o < 38) (hb : isb b = true) (h : o < b) : o < cand o (prD b) ∧ cand o (prD b) ≤ b ∧ isb (cand o (prD b)) = true ∧ prD (cand o (prD b)) = prD b ∧ chB o (prD b) = cand o (prD b) := by
  have h' := isb_iff.1 hb
  have hd : prD b = (b - 3) % 5 := by unfold prD; rw [if_pos hb]
  rw [hd]
  have h5 : (b - 3) % 5 < 5 := Nat.mod_lt _ (by decide)
  have hc : cand o ((b - 3) % 5) = max (o + 1) 3 + ((b - 3) % 5 + 5 - (max (o + 1) 3 - 3) % 5) % 5 := rfl
  have h1 : o < cand o ((b - 3) % 5) ∧ cand o ((b - 3) % 5) ≤ b ∧ 3 ≤ cand o ((b - 3) % 5) ∧ (cand o ((b - 3) % 5) - 3) % 5 = (b - 3) % 5 := by
    rw [hc]
    omega
  have h2 : isb (cand o ((b - 3) % 5)) = true := isb_iff.2 ⟨h1.2.2.1, by omega⟩
  refine ⟨h1.1, h1.2.1, h2, by unfold prD; rw [if_pos h2]; exact h1.2.2.2, ?_⟩
  unfold chB
  rw [if_pos ⟨ho, h5, by omega⟩]
theorem prL_le (c : Nat) : prL c ≤ 7 := by
  unfold prL
  split
  · rename_i h; have := isb_iff.1 h; omega
  · omega
theorem prD_lt (c : Nat) : prD c < 5 := by
  unfold prD
  split
  · exact Nat.mod_lt _ (by decide)
  · omega
theorem chB_le (o d : Nat) : chB o d < 38 := by
  unfold chB
  split <;> omega
theorem jump_calls (o b : Nat) (ho : o < 256) (_hb : b < 256) (w : World) : Calls Tryd.prog 22 #[.int .u8 o, .int .u8 b] w fun e w' => e = .returned (.tuple #[.int .i64 (jmN o b : Nat), .int .i64 (jmE o b)]) ∧ w = w' := by
  have P := Lib.hid (parts_calls b)
  have R := Lib.hid (right_calls o)
  by_cases h1 : o < 38
  · by_cases h2 : isb b = true
    · by_cases h3 : o < b
      · have hN : jmN o b = prL b - prL (chB o (prD b)) := by unfold jmN; rw [if_pos ⟨h1, h2, h3⟩]
        have hE : jmE o b = 0 := by unfold jmE; rw [if_pos ⟨h1, h2⟩, if_pos h3]
        have hle : prL (chB o (prD b)) ≤ prL b := by
          obtain ⟨c1, c2, c3, c4, c5⟩ := cheap_le h1 h2 h3
          rw [c5]
          unfold prL
          rw [if_pos c3, if_pos h2]
          have := Nat.div_le_div_right (c := 5) (Nat.sub_le_sub_right c2 3)
          omega
        have C := Lib.hid (cheapest_calls o (prD b) ho (by have := prD_lt b; omega))
        have P2 := Lib.hid (parts_calls (chB o (prD b)))
        have b3 : ¬ (b : Int) ≤ o := by omega
        have hl7 := prL_le b
        have e1 : IntKind.u8.wrap ((prL b : Int) - (prL (chB o (prD b)) : Int)) = ((jmN o b : Nat) : Int) := by
          rw [hN, u8_wrap (by omega) (by omega)]; omega
        have e2 : IntKind.i64.wrap ((jmN o b : Nat) : Int) = ((jmN o b : Nat) : Int) := IntWalk.i64_in _ (by omega)
        rw [hE]
        rw [h2] at P
        rw [decide_eq_true h1] at R
        obtain ⟨j, hj⟩ : ∃ j, jmN o b = j := ⟨_, rfl⟩
        obtain ⟨l, hl⟩ : ∃ j, prL b = j := ⟨_, rfl⟩
        obtain ⟨d, hd⟩ : ∃ j, prD b = j := ⟨_, rfl⟩
        rw [hj] at e1 e2 ⊢
        rw [hl] at P e1
        rw [hd] at P C P2 e1
        obtain ⟨q, hq⟩ : ∃ j, chB o d = j := ⟨_, rfl⟩
        rw [hq] at C P2 e1
        obtain ⟨l2, hl2⟩ : ∃ j, prL q = j := ⟨_, rfl⟩
        rw [hl2] at P2 e1
        clear hN hE hle hj hl hd hq hl2 hl7 h1 h2 h3
        go_enter Tryd.func22, Tryd.ntmps22
        go_upto_region 2 with (go_at_call 19; refine (P.out _).mono ?_; rintro e w9 ⟨rfl, rfl⟩)
        go_upto_region 7 with (first | (go_at_call 24; refine (R.out _).mono ?_; rintro e w9 ⟨rfl, rfl⟩) | (go_at_call 21; refine (C.out _).mono ?_; rintro e w9 ⟨rfl, rfl⟩))
        go_wp2_with (go_at_call 19; refine (P2.out _).mono ?_; rintro e w9 ⟨rfl, rfl⟩)
        refine bodyPost_ret (by simp [results, Tryd.results22, go_sem]) rfl ⟨rfl, rfl⟩
      · have hN : jmN o b = 0 := by unfold jmN; rw [if_neg (fun h => h3 h.2.2)]
        have hE : jmE o b = 6 := by unfold jmE; rw [if_pos ⟨h1, h2⟩, if_neg h3]
        have b3 : (b : Int) ≤ o := by omega
        rw [hN, hE]
        rw [h2] at P
        rw [decide_eq_true h1] at R
        go_enter Tryd.func22, Tryd.ntmps22
        go_wp2_with (first | (go_at_call 19; refine (P.out _).mono ?_; rintro e w9 ⟨rfl, rfl⟩) | (go_at_call 24; refine (R.out _).mono ?_; rintro e w9 ⟨rfl, rfl⟩))
        refine bodyPost_ret (by simp [results, Tryd.results22, go_sem]) rfl ⟨rfl, rfl⟩
    · have hN : jmN o b = 0 := by unfold jmN; rw [if_neg (fun h => h2 h.2.1)]
      have hE : jmE o b = 80 := by unfold jmE; rw [if_neg (fun h => h2 h.2)]
      have h2' : isb b = false := by simpa using h2
      rw [hN, hE]
      rw [h2'] at P
      rw [decide_eq_true h1] at R
      go_enter Tryd.func22, Tryd.ntmps22
      go_wp2_with (first | (go_at_call 19; refine (P.out _).mono ?_; rintro e w9 ⟨rfl, rfl⟩) | (go_at_call 24; refine (R.out _).mono ?_; rintro e w9 ⟨rfl, rfl⟩))
      refine bodyPost_ret (by simp [results, Tryd.results22, go_sem]) rfl ⟨rfl, rfl⟩
  · have hN : jmN o b = 0 := by unfold jmN; rw [if_neg (fun h => h1 h.1)]
    have hE : jmE o b = 80 := by unfold jmE; rw [if_neg (fun h => h1 h.1)]
    rw [hN, hE]
    rw [decide_eq_false h1] at R
    go_enter Tryd.func22, Tryd.ntmps22
    go_wp2_with (first | (go_at_call 19; refine (P.out _).mono ?_; rintro e w9 ⟨rfl, rfl⟩) | (go_at_call 24; refine (R.out _).mono ?_; rintro e w9 ⟨rfl, rfl⟩))
    refine bodyPost_ret (by simp [results, Tryd.results22, go_sem]) rfl ⟨rfl, rfl⟩
end Go.Proofs.YtblmdnmnodogiaaDoor
