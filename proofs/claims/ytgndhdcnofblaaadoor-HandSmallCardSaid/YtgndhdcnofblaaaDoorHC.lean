/- OnesCount64, length, Right, Holding, total. -/
import Derived.Test.YtgndhdcnofblaaaDoorHB
namespace Go.Proofs.YtgndhdcnofblaaaDoor
open Go.RowKit

theorem and_mask_i64 (d : Int) (m k : Nat) (hm : m + 1 = 2 ^ k) (hk : k < 63) : bits .and .i64 d (m : Int) = d % ((2 ^ k : Nat) : Int) := by
  have hp : 2 ^ k ≤ 2 ^ 62 := Nat.pow_le_pow_right (by omega) (by omega)
  have h0 : 0 < 2 ^ k := Nat.pos_of_ne_zero (by simp)
  have h2 : (BitVec.ofInt 64 (m : Int)).toNat = m := by
    rw [BitVec.ofInt_natCast, BitVec.toNat_ofNat]; exact Nat.mod_eq_of_lt (by omega)
  have h1 : (BitVec.ofInt 64 d).toNat = (d % 18446744073709551616).toNat := by
    rw [BitVec.toNat_ofInt]; rfl
  show IntKind.i64.wrap ((BitVec.ofInt 64 d &&& BitVec.ofInt 64 (m : Int)).toNat : Int) = _
  have hm' : m = 2 ^ k - 1 := by omega
  rw [BitVec.toNat_and, h1, h2]
  rw [hm', Nat.and_two_pow_sub_one_eq_mod]
  have e : (((d % 18446744073709551616).toNat % 2 ^ k : Nat) : Int) = d % ((2 ^ k : Nat) : Int) := by
    rw [Int.natCast_emod, Int.toNat_of_nonneg (Int.emod_nonneg _ (by omega))]
    exact Int.emod_emod_of_dvd _ (by
      have : (18446744073709551616 : Int) = ((2 ^ 64 : Nat) : Int) := by decide
      rw [this]; exact Int.natCast_dvd_natCast.2 (Nat.pow_dvd_pow 2 (by omega)))
  rw [e]
  have a1 := Int.emod_nonneg d (b := ((2 ^ k : Nat) : Int)) (by omega)
  have a2 := Int.emod_lt_of_pos d (b := ((2 ^ k : Nat) : Int)) (by omega)
  generalize d % ((2 ^ k : Nat) : Int) = x at *
  generalize 2 ^ k = y at *
  rw [IntKind.wrap_i64]
  omega
/-- the fraction that 'some' makes -/
def someR (n d : Int) : Rat := Rat.divInt n (d % 32768 + 1)
set_option maxRecDepth 100000 in
theorem ones64_calls (m : Nat) (hm : m < 4503599627370496) (w : World) : Calls Tryd.prog 45 #[.int .u64 m] w fun e w' => e = .returned (.int .i64 (cnt m)) ∧ w = w' := by
  obtain ⟨hlt, hc⟩ := ones64_cnt m hm
  have a1 : bits .and .u64 ((m : Int) / 2) 6148914691236517205 = ((m / 2 &&& 6148914691236517205 : Nat) : Int) := by
    have := u64_and_nat (m / 2) 6148914691236517205 (by omega) (by decide)
    simpa using this
  have a2 : bits .and .u64 (m : Int) 6148914691236517205 = ((m &&& 6148914691236517205 : Nat) : Int) := by
    have := u64_and_nat m 6148914691236517205 (by omega) (by decide)
    simpa using this
  have l1 : m / 2 &&& 6148914691236517205 ≤ m / 2 := Nat.and_le_left
  have l2 : m &&& 6148914691236517205 ≤ m := Nat.and_le_left
  have a3 : IntKind.u64.wrap (((m / 2 &&& 6148914691236517205 : Nat) : Int) + ((m &&& 6148914691236517205 : Nat) : Int)) = ((g1 m 6148914691236517205 : Nat) : Int) := by
    unfold g1
    rw [IntKind.wrap_u64]
    omega
  have l3 : g1 m 6148914691236517205 ≤ 2 * m := by unfold g1; omega
  unfold ones64 at hc
  obtain ⟨x1, hx1⟩ : ∃ x, g1 m 6148914691236517205 = x := ⟨_, rfl⟩
  rw [hx1] at hlt hc a3 l3
  clear hx1
  obtain ⟨c1, hc1⟩ : ∃ x, m / 2 &&& 6148914691236517205 = x := ⟨_, rfl⟩
  obtain ⟨c2, hc2⟩ : ∃ x, m &&& 6148914691236517205 = x := ⟨_, rfl⟩
  rw [hc1] at a1 a3
  rw [hc2] at a2 a3
  clear hc1 hc2 l1 l2
  have b1 : bits .and .u64 ((x1 : Int) / 4) 3689348814741910323 = ((x1 / 4 &&& 3689348814741910323 : Nat) : Int) := by
    have := u64_and_nat (x1 / 4) 3689348814741910323 (by omega) (by decide)
    simpa using this
  have b2 : bits .and .u64 (x1 : Int) 3689348814741910323 = ((x1 &&& 3689348814741910323 : Nat) : Int) := by
    have := u64_and_nat x1 3689348814741910323 (by omega) (by decide)
    simpa using this
  have l1 : x1 / 4 &&& 3689348814741910323 ≤ x1 / 4 := Nat.and_le_left
  have l2 : x1 &&& 3689348814741910323 ≤ x1 := Nat.and_le_left
  have b3 : IntKind.u64.wrap (((x1 / 4 &&& 3689348814741910323 : Nat) : Int) + ((x1 &&& 3689348814741910323 : Nat) : Int)) = ((g2 x1 3689348814741910323 : Nat) : Int) := by
    unfold g2
    rw [IntKind.wrap_u64]
    omega
  have l4 : g2 x1 3689348814741910323 ≤ 2 * x1 := by unfold g2; omega
  obtain ⟨x2, hx2⟩ : ∃ x, g2 x1 3689348814741910323 = x := ⟨_, rfl⟩
  rw [hx2] at hlt hc b3 l4
  clear hx2
  obtain ⟨d1, hd1⟩ : ∃ x, x1 / 4 &&& 3689348814741910323 = x := ⟨_, rfl⟩
  obtain ⟨d2, hd2⟩ : ∃ x, x1 &&& 3689348814741910323 = x := ⟨_, rfl⟩
  rw [hd1] at b1 b3
  rw [hd2] at b2 b3
  clear hd1 hd2 l1 l2
  have e0 : IntKind.u64.wrap ((x2 : Int) / 16 + x2) = ((x2 / 16 + x2 : Nat) : Int) := by rw [IntKind.wrap_u64]; omega
  have e1 : bits .and .u64 ((x2 / 16 + x2 : Nat) : Int) 1085102592571150095 = ((g3 x2 1085102592571150095 : Nat) : Int) := by
    have := u64_and_nat (x2 / 16 + x2) 1085102592571150095 (by omega) (by decide)
    unfold g3
    exact this
  obtain ⟨x3, hx3⟩ : ∃ x, g3 x2 1085102592571150095 = x := ⟨_, rfl⟩
  rw [hx3] at hlt hc e1
  dsimp only at hc
  clear hx3
  obtain ⟨y2, hy2⟩ : ∃ x, x2 / 16 + x2 = x := ⟨_, rfl⟩
  rw [hy2] at e0 e1
  clear hy2
  have f1 : IntKind.u64.wrap ((x3 : Int) + (x3 : Int) / 256) = ((x3 + x3 / 256 : Nat) : Int) := by rw [IntKind.wrap_u64]; omega
  obtain ⟨x4, hx4⟩ : ∃ x, x3 + x3 / 256 = x := ⟨_, rfl⟩
  have l5 : x4 ≤ 700000000000000000 := by omega
  rw [hx4] at f1 hc
  clear hx4
  have f2 : IntKind.u64.wrap ((x4 : Int) + (x4 : Int) / 65536) = ((x4 + x4 / 65536 : Nat) : Int) := by rw [IntKind.wrap_u64]; omega
  obtain ⟨x5, hx5⟩ : ∃ x, x4 + x4 / 65536 = x := ⟨_, rfl⟩
  have l6 : x5 ≤ 800000000000000000 := by omega
  rw [hx5] at f2 hc
  clear hx5
  have f3 : IntKind.u64.wrap ((x5 : Int) + (x5 : Int) / 4294967296) = ((x5 + x5 / 4294967296 : Nat) : Int) := by rw [IntKind.wrap_u64]; omega
  obtain ⟨x6, hx6⟩ : ∃ x, x5 + x5 / 4294967296 = x := ⟨_, rfl⟩
  have l7 : x6 ≤ 900000000000000000 := by omega
  rw [hx6] at f3 hc
  clear hx6
  have f4 : IntKind.i64.wrap (x6 : Int) = (x6 : Int) := IntWalk.i64_in _ (by omega)
  have f5 : bits .and .i64 (x6 : Int) 127 = (cnt m : Int) := by
    have := and_mask_i64 (x6 : Int) 127 7 (by decide) (by decide)
    rw [← hc]
    exact this
  obtain ⟨n, hn⟩ : ∃ x, cnt m = x := ⟨_, rfl⟩
  rw [hn] at f5 ⊢
  clear hn hc hlt l3 l4 l5 l6 l7
  go_enter Tryd.func45, Tryd.ntmps45
  go_wp2
  go_ret
  refine ⟨?_, rfl⟩
  simp [f5]
theorem length_calls (h : Nat) (hh : h < 8192) (w : World) : Calls Tryd.prog 46 #[.int .u16 h] w fun e w' => e = .returned (.int .i64 (len h)) ∧ Below w.heap.size w w' := by
  have O := Lib.hid (ones16_calls h hh)
  go_enter Tryd.func46, Tryd.ntmps46
  go_wp2_with (go_at_call 58; refine (O.out _).mono ?_; rintro e w1 ⟨rfl, hbel⟩; obtain ⟨o1, j1, rfl⟩ := grow_of_below hbel; clear hbel)
  go_ret
  exact ⟨rfl, by repeat (first | (with_reducible exact Below.refl _ _) | ((with_reducible refine below_grow ?_ ?_); rotate_left; focus (first | omega | (simp [go_sem]; done) | (simp [go_sem]; omega))) | ((with_reducible refine Below.alloc ?_ ?_ _); rotate_left; focus (first | omega | (simp [go_sem]; done) | (simp [go_sem]; omega))) | ((with_reducible refine Below.setCell ?_ ?_ _); rotate_left; focus (first | omega | (simp [go_sem]; done) | (simp [go_sem]; omega))) | (with_reducible refine Below.drew ?_) | (with_reducible refine below_drewN _ ?_))⟩
theorem hand_right_calls (m : Nat) (w : World) : Calls Tryd.prog 25 #[.int .u64 m] w fun e w' => e = .returned (.bool (decide (m < 4503599627370496 ∧ cnt m = 13))) ∧ w = w' := by
  by_cases hm : m < 4503599627370496
  · have O := Lib.hid (ones64_calls m hm)
    have hz : (m : Int) ≤ 4503599627370495 := by omega
    have hd : decide ((m : Int) ≤ 4503599627370495) = true := decide_eq_true hz
    have e1 : ((cnt m : Int) == 13) = decide (m < 4503599627370496 ∧ cnt m = 13) := by
      by_cases hq : cnt m = 13
      · rw [hq, decide_eq_true ⟨hm, rfl⟩]; rfl
      · rw [decide_eq_false (fun h => hq h.2), beq_eq_false_iff_ne]; omega
    rw [← e1]
    obtain ⟨n, hn⟩ : ∃ x, cnt m = x := ⟨_, rfl⟩
    rw [hn] at O ⊢
    clear e1 hn
    go_enter Tryd.func25, Tryd.ntmps25
    go_wp2_with (go_at_call 45; refine (O.out _).mono ?_; rintro e w1 ⟨rfl, rfl⟩)
    go_ret
    exact ⟨rfl, rfl⟩
  · have hz : ¬ (m : Int) ≤ 4503599627370495 := by omega
    have hd : decide ((m : Int) ≤ 4503599627370495) = false := decide_eq_false hz
    rw [decide_eq_false (fun h => hm h.1)]
    go_enter Tryd.func25, Tryd.ntmps25
    go_wp2
    go_ret
    exact ⟨rfl, rfl⟩
theorem holding_yes (m s : Nat) (hm : m < 18446744073709551616) (hs : s < 4) (w : World) : Calls Tryd.prog 12 #[.int .u64 m, .int .u8 s] w fun e w' => e = .returned (.int .u16 (hol m s)) ∧ w = w' := by
  have b1 : ¬ (4 : Int) ≤ s := by omega
  have e1 : IntKind.i64.wrap (s : Int) = s := IntWalk.i64_in _ (by omega)
  have e2 : IntKind.i64.wrap ((s : Int) * 13) = ((13 * s : Nat) : Int) := by rw [IntWalk.i64_in _ (by omega)]; omega
  have e3 : (m : Int) / 2 ^ (13 * s) = ((m / 2 ^ (13 * s) : Nat) : Int) := by simp
  have hmn : min (13 * s) 64 = 13 * s := by omega
  have h2 : m / 2 ^ (13 * s) ≤ m := Nat.div_le_self _ _
  unfold hol
  obtain ⟨q, hq⟩ : ∃ q, m / 2 ^ (13 * s) = q := ⟨_, rfl⟩
  rw [hq] at e3 h2 ⊢
  have e4 : bits .and .u64 (q : Int) 8191 = ((q % 8192 : Nat) : Int) := by
    have := u64_and_nat q 8191 (by omega) (by decide)
    rw [show 8191 = 2 ^ 13 - 1 from rfl, Nat.and_two_pow_sub_one_eq_mod] at this
    exact this
  have l : q % 8192 < 8192 := Nat.mod_lt _ (by decide)
  obtain ⟨r, hr⟩ : ∃ q', q % 8192 = q' := ⟨_, rfl⟩
  rw [hr] at e4 l ⊢
  have e5 : (q : Int) % 8192 = (r : Int) := by omega
  have e6 : IntKind.u16.wrap (r : Int) = r := by rw [IntKind.wrap_u16]; omega
  obtain ⟨t, ht⟩ : ∃ t, 13 * s = t := ⟨_, rfl⟩
  rw [ht] at e2 e3 hmn
  clear hq hr
  go_enter Tryd.func12, Tryd.ntmps12
  go_wp2
  go_ret
  refine ⟨?_, rfl⟩
  first | rfl | simp [*]
theorem holding_no (m s : Nat) (hs : 4 ≤ s) (w : World) : Calls Tryd.prog 12 #[.int .u64 m, .int .u8 s] w fun e w' => e = .returned (.int .u16 0) ∧ w = w' := by
  have b1 : (4 : Int) ≤ s := by omega
  go_enter Tryd.func12, Tryd.ntmps12
  go_wp2
  go_ret
  exact ⟨rfl, rfl⟩
end Go.Proofs.YtgndhdcnofblaaaDoor
