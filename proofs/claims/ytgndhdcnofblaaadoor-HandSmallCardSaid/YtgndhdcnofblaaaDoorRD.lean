/- The reference: Holding, Shape, digits. -/
import Derived.Test.YtgndhdcnofblaaaDoorRA
import Derived.Test.YtgndhdcnofblaaaDoorHR
namespace Go.Proofs.YtgndhdcnofblaaaDoor
open Go.RowKit

set_option maxRecDepth 100000 in
set_option maxHeartbeats 2000000 in
theorem refHolding (m s : Nat) (hm : m < 18446744073709551616) (hs : s < 4) (w : World) : Calls Tryd.prog 13 #[.int .u64 m, .int .u8 s] w fun e w' => e = .returned (.int .u16 (hol m s)) ∧ w = w' := by
  have H := Lib.hid fun r hr => refHas m s r hm hs hr
  have hh := hol_lt m s
  have b1 : ¬ (s : Int) > 3 := by omega
  have b2 : IntKind.i64.wrap (s : Int) = s := IntWalk.i64_in _ (by omega)
  have b3 : ¬ 3 < s := by omega
  obtain ⟨h, hhh⟩ : ∃ h, hol m s = h := ⟨_, rfl⟩
  rw [hhh] at H hh ⊢
  have h0 : h / 2 ^ 13 = 0 := Nat.div_eq_of_lt hh
  clear hhh hm hs
  go_enter Tryd.func13, Tryd.ntmps13
  go_wp2
  go_loopw [5, 6] (fun s5 s6 wr => ∃ i : Nat, s5 = .int .u16 ((h / 2 ^ i : Nat) : Int) ∧ s6 = .int .i64 ((i : Int) - 1) ∧ i ≤ 13 ∧ wr = w) (fun _ s6 _ => (intOf s6 + 1).toNat)
  case atStart => exact ⟨13, by rw [h0]; rfl, rfl, by decide, rfl⟩
  case round =>
    obtain ⟨i, rfl, rfl, hi, rfl⟩ := hrel
    by_cases hlt : 0 < i
    · obtain ⟨j, hj⟩ : ∃ j, i - 1 = j := ⟨_, rfl⟩
      have hij : i = j + 1 := by omega
      have zj : (i : Int) - 1 = (j : Int) := by omega
      have hq : h / 2 ^ i = h / 2 ^ j / 2 := by rw [hij, Nat.pow_succ, Nat.div_div_eq_div_mul]
      have HH := H.out j (by omega)
      have hle : h / 2 ^ j ≤ h := Nat.div_le_self _ _
      rw [hq, zj]
      obtain ⟨q, hqq⟩ : ∃ q, h / 2 ^ j = q := ⟨_, rfl⟩
      rw [hqq] at HH hle ⊢
      obtain ⟨z, hz⟩ : ∃ z, q / 2 = z := ⟨_, rfl⟩
      rw [hz]
      have d1 : IntKind.u16.wrap ((z : Int) * 2) = ((z * 2 : Nat) : Int) := by rw [IntKind.wrap_u16]; omega
      have j13 : j < 13 := by omega
      obtain ⟨y, hy⟩ : ∃ y, z * 2 = y := ⟨_, rfl⟩
      rw [hy] at d1
      have d2 : IntKind.u16.wrap ((y : Int) + 1) = ((y + 1 : Nat) : Int) := by rw [IntKind.wrap_u16]; omega
      have d3 : IntKind.i64.wrap ((j : Int) - 1) = (j : Int) - 1 := IntWalk.i64_in _ (by omega)
      have d4 : (0 : Int) ≤ (j : Int) := by omega
      have HQ := Lib.hid hqq
      have HJ := Lib.hid j13
      by_cases hb : q % 2 = 1
      · rw [decide_eq_true hb] at HH
        have HH := Lib.hid HH
        have e : y + 1 = q := by omega
        rw [e] at d2
        clear hj hij zj hq hqq hz hy hb e hle hi hlt j13
        go_wp2_with (go_at_call 38; refine (HH.out _).mono ?_; rintro e w1 ⟨rfl, rfl⟩)
        go_roundw
        case rel => exact ⟨j, by rw [HQ.out], rfl, by have := HJ.out; omega, by first | rfl | trivial⟩
        case measure => simp [intOf]
      · rw [decide_eq_false hb] at HH
        have HH := Lib.hid HH
        have e : y = q := by omega
        subst e
        clear hj hij zj hq hqq hz hy hb hle hi hlt j13
        go_wp2_with (go_at_call 38; refine (HH.out _).mono ?_; rintro e w1 ⟨rfl, rfl⟩)
        go_roundw
        case rel => exact ⟨j, by rw [HQ.out], rfl, by have := HJ.out; omega, by first | rfl | trivial⟩
        case measure => simp [intOf]
    · obtain rfl : i = 0 := by omega
      simp only [Nat.pow_zero, Nat.div_one]
      go_wp2
      go_ret
      exact ⟨rfl, rfl⟩
theorem refHolding_no (m s : Nat) (hs : 4 ≤ s) (w : World) : Calls Tryd.prog 13 #[.int .u64 m, .int .u8 s] w fun e w' => e = .returned (.int .u16 0) ∧ w = w' := by
  have b1 : (s : Int) > 3 := by omega
  have b2 : 3 < s := by omega
  go_enter Tryd.func13, Tryd.ntmps13
  go_wp2
  go_ret
  exact ⟨rfl, rfl⟩
set_option maxRecDepth 100000 in
set_option maxHeartbeats 2000000 in
theorem refShape (m : Nat) (hm : m < 18446744073709551616) (w : World) : Calls Tryd.prog 34 #[.int .u64 m] w fun e w' => e = .returned (shp m) ∧ Below w.heap.size w w' := by
  have L0 : ∀ w, Calls Tryd.prog 50 #[.int .u64 m, .int .i64 0] w fun e w' => e = .returned (.int .i64 (len (hol m 0))) ∧ w = w' := refLength m 0 hm (by decide)
  have L1 : ∀ w, Calls Tryd.prog 50 #[.int .u64 m, .int .i64 1] w fun e w' => e = .returned (.int .i64 (len (hol m 1))) ∧ w = w' := refLength m 1 hm (by decide)
  have L2 : ∀ w, Calls Tryd.prog 50 #[.int .u64 m, .int .i64 2] w fun e w' => e = .returned (.int .i64 (len (hol m 2))) ∧ w = w' := refLength m 2 hm (by decide)
  have L3 : ∀ w, Calls Tryd.prog 50 #[.int .u64 m, .int .i64 3] w fun e w' => e = .returned (.int .i64 (len (hol m 3))) ∧ w = w' := refLength m 3 hm (by decide)
  unfold shp
  obtain ⟨n0, hn0⟩ : ∃ n, len (hol m 0) = n := ⟨_, rfl⟩
  obtain ⟨n1, hn1⟩ : ∃ n, len (hol m 1) = n := ⟨_, rfl⟩
  obtain ⟨n2, hn2⟩ : ∃ n, len (hol m 2) = n := ⟨_, rfl⟩
  obtain ⟨n3, hn3⟩ : ∃ n, len (hol m 3) = n := ⟨_, rfl⟩
  rw [hn0] at L0
  rw [hn1] at L1
  rw [hn2] at L2
  rw [hn3] at L3
  rw [hn0, hn1, hn2, hn3]
  have L0 := Lib.hid L0
  have L1 := Lib.hid L1
  have L2 := Lib.hid L2
  have L3 := Lib.hid L3
  clear hn0 hn1 hn2 hn3
  go_enter Tryd.func34, Tryd.ntmps34
  go_wp2_with (first | (go_at_call_of 50 (Value.int .i64 0); refine (L0.out _).mono ?_; rintro e w1 ⟨rfl, rfl⟩) | (go_at_call_of 50 (Value.int .i64 1); refine (L1.out _).mono ?_; rintro e w1 ⟨rfl, rfl⟩) | (go_at_call_of 50 (Value.int .i64 2); refine (L2.out _).mono ?_; rintro e w1 ⟨rfl, rfl⟩) | (go_at_call_of 50 (Value.int .i64 3); refine (L3.out _).mono ?_; rintro e w1 ⟨rfl, rfl⟩))
  refine bodyPost_ret (by simp [results, Tryd.results34, go_sem]) rfl ⟨rfl, ?_⟩
  repeat (first | (with_reducible exact Below.refl _ _) | ((with_reducible refine below_grow ?_ ?_); rotate_left; focus (first | omega | (simp [go_sem]; done) | (simp [go_sem]; omega))) | ((with_reducible refine Below.alloc ?_ ?_ _); rotate_left; focus (first | omega | (simp [go_sem]; done) | (simp [go_sem]; omega))) | ((with_reducible refine Below.setCell ?_ ?_ _); rotate_left; focus (first | omega | (simp [go_sem]; done) | (simp [go_sem]; omega))) | (with_reducible refine Below.drew ?_) | (with_reducible refine below_drewN _ ?_))
set_option maxRecDepth 100000 in
set_option maxHeartbeats 2000000 in
theorem refDigits9 (n : Nat) (hn : n ≤ 9) (w : World) : Calls Tryd.prog 51 #[.int .i64 n] w fun e w' => e = .returned (.string ⟨#[UInt8.ofNat (48 + n)]⟩) ∧ Below w.heap.size w w' := by
  have b1 : ¬ (n : Int) > 9 := by omega
  have b2 : ¬ 9 < n := by omega
  have d2 : IntKind.i64.wrap (48 + (n : Int)) = ((48 + n : Nat) : Int) := by rw [IntWalk.i64_in _ (by omega)]; omega
  have d3 : IntKind.u8.wrap ((48 + n : Nat) : Int) = ((48 + n : Nat) : Int) := by rw [IntKind.wrap_u8', Int.emod_eq_of_lt (by omega) (by omega)]
  have hy0 : 48 + n < 256 := by omega
  obtain ⟨y, hy⟩ : ∃ y, 48 + n = y := ⟨_, rfl⟩
  rw [hy] at d2 d3 hy0 ⊢
  have cv : (convert 36 9 (.slice (some ⟨w.heap.size, 0, none⟩) 1 1)).run Tryd.prog (w.alloc (.cells #[.int .u8 y] 5)) = .ok (.string ⟨#[UInt8.ofNat y]⟩) (w.alloc (.cells #[.int .u8 y] 5)) := conv1 w y hy0 _ rfl
  clear hy hy0
  go_enter Tryd.func51, Tryd.ntmps51
  go_wp2
  go_ret
  refine ⟨rfl, by repeat (first | (with_reducible exact Below.refl _ _) | ((with_reducible refine below_grow ?_ ?_); rotate_left; focus (first | omega | (simp [go_sem]; done) | (simp [go_sem]; omega))) | ((with_reducible refine Below.alloc ?_ ?_ _); rotate_left; focus (first | omega | (simp [go_sem]; done) | (simp [go_sem]; omega))) | ((with_reducible refine Below.setCell ?_ ?_ _); rotate_left; focus (first | omega | (simp [go_sem]; done) | (simp [go_sem]; omega))) | (with_reducible refine Below.drew ?_) | (with_reducible refine below_drewN _ ?_))⟩
theorem refDigits (n : Nat) (hn : n < 14) (w : World) : Calls Tryd.prog 51 #[.int .i64 n] w fun e w' => e = .returned (.string ⟨(dig n).toArray⟩) ∧ Below w.heap.size w w' := by
  by_cases h9 : n ≤ 9
  · have e : dig n = [UInt8.ofNat (48 + n)] := by
      unfold dig
      rw [if_neg (by omega), Nat.mod_eq_of_lt (by omega)]
      rfl
    rw [e]
    exact refDigits9 n h9 w
  · have e : dig n = [49] ++ [UInt8.ofNat (48 + (n - 10))] := by
      unfold dig
      rw [if_pos (by omega), show n % 10 = n - 10 by omega]
    have D := refDigits9 (n - 10) (by omega)
    have b1 : (n : Int) > 9 := by omega
    have b2 : 9 < n := by omega
    have d1 : IntKind.i64.wrap ((n : Int) - 10) = ((n - 10 : Nat) : Int) := by rw [IntWalk.i64_in _ (by omega)]; omega
    have ad := fun W => run_string_add_lists (P := Tryd.prog) (w := W) [49] [UInt8.ofNat (48 + (n - 10))] (by simp) (by simp)
    rw [← e] at ad
    obtain ⟨k, hk⟩ : ∃ k, n - 10 = k := ⟨_, rfl⟩
    rw [hk] at D d1 ad
    obtain ⟨c, hc⟩ : ∃ c, UInt8.ofNat (48 + k) = c := ⟨_, rfl⟩
    rw [hc] at D ad
    obtain ⟨T, hT⟩ : ∃ c, dig n = c := ⟨_, rfl⟩
    rw [hT] at ad ⊢
    have D := Lib.hid D
    clear hk hc hT e hn h9
    go_enter Tryd.func51, Tryd.ntmps51
    go_wp2_with (go_at_call 51; refine (D.out _).mono ?_; rintro e w1 ⟨rfl, hbel⟩; obtain ⟨o1, j1, rfl⟩ := grow_of_below hbel; clear hbel)
    go_ret
    refine ⟨rfl, by repeat (first | (with_reducible exact Below.refl _ _) | ((with_reducible refine below_grow ?_ ?_); rotate_left; focus (first | omega | (simp [go_sem]; done) | (simp [go_sem]; omega))) | ((with_reducible refine Below.alloc ?_ ?_ _); rotate_left; focus (first | omega | (simp [go_sem]; done) | (simp [go_sem]; omega))) | ((with_reducible refine Below.setCell ?_ ?_ _); rotate_left; focus (first | omega | (simp [go_sem]; done) | (simp [go_sem]; omega))) | (with_reducible refine Below.drew ?_) | (with_reducible refine below_drewN _ ?_))⟩
end Go.Proofs.YtgndhdcnofblaaaDoor
