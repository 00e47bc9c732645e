/- The reference's Top and Low. -/
import Derived.Test.YtcfkcfbgnciccaaDoorCZf
import Derived.Test.YtcfkcfbgnciccaaDoorCU
namespace Go.Proofs.YtcfkcfbgnciccaaDoor
open Go.RowKit

theorem sui_at {m s k : Nat} (hk : k < 13) : (sui m s).testBit (13 * s + k) = m.testBit (13 * s + k) := by
  rw [sui_bit, decide_eq_true (show 13 * s ≤ 13 * s + k by omega), decide_eq_true (show 13 * s + k < 13 * s + 13 by omega)]; simp
theorem grt_sui {m s k : Nat} (h0 : sui m s ≠ 0) (hk : k < 13) (hb : m.testBit (13 * s + k) = true) (hz : ∀ j, k < j → j < 13 → m.testBit (13 * s + j) = false) : grt (sui m s) = 13 * s + k := by
  have h1 := grt_bit h0
  have h2 := h1
  rw [sui_bit] at h2
  simp only [Bool.and_eq_true, decide_eq_true_eq] at h2
  rcases Nat.lt_trichotomy (grt (sui m s)) (13 * s + k) with h | h | h
  · have h3 := grt_above h
    rw [sui_at hk, hb] at h3
    simp at h3
  · exact h
  · have h3 := hz (grt (sui m s) - 13 * s) (by omega) (by omega)
    rw [show 13 * s + (grt (sui m s) - 13 * s) = grt (sui m s) by omega] at h3
    rw [h3] at h2
    simp at h2
theorem lst_sui {m s k : Nat} (hm : m < 4503599627370496) (h0 : sui m s ≠ 0) (hk : k < 13) (hb : m.testBit (13 * s + k) = true) (hz : ∀ j, j < k → m.testBit (13 * s + j) = false) : lst (sui m s) = 13 * s + k := by
  obtain ⟨-, h2, h4⟩ := lst_facts h0 (sui_lt hm s)
  rw [sui_bit] at h2
  simp only [Bool.and_eq_true, decide_eq_true_eq] at h2
  rcases Nat.lt_trichotomy (lst (sui m s)) (13 * s + k) with h | h | h
  · have h3 := hz (lst (sui m s) - 13 * s) (by omega)
    rw [show 13 * s + (lst (sui m s) - 13 * s) = lst (sui m s) by omega] at h3
    rw [h3] at h2
    simp at h2
  · exact h
  · have h3 := h4 _ h
    rw [sui_at hk, hb] at h3
    simp at h3
theorem sui_none {m s k : Nat} (h0 : sui m s = 0) (hk : k < 13) : m.testBit (13 * s + k) = false := by
  rw [← sui_at hk, h0, Nat.zero_testBit]
theorem sui_some {m s : Nat} (hz : ∀ j, j < 13 → m.testBit (13 * s + j) = false) : sui m s = 0 := by
  refine Nat.eq_of_testBit_eq fun i => ?_
  rw [Nat.zero_testBit, sui_bit]
  by_cases h : 13 * s ≤ i ∧ i < 13 * s + 13
  · have h3 := hz (i - 13 * s) (by omega)
    rw [show 13 * s + (i - 13 * s) = i by omega] at h3
    rw [h3]; simp
  · simp; intro _ _; omega
theorem dn_step {f : Nat → Bool} {k : Nat} (h : ∀ j, k + 1 ≤ j → j < 13 → f j = false) (hk : f k = false) : ∀ j, k ≤ j → j < 13 → f j = false := fun j h1 h2 => by
  rcases Nat.lt_or_ge k j with e | e
  · exact h j e h2
  · rw [show j = k by omega]; exact hk
theorem up_step {f : Nat → Bool} {k : Nat} (h : ∀ j, j < k → f j = false) (hk : f k = false) : ∀ j, j < k + 1 → f j = false := fun j h1 => by
  rcases Nat.lt_or_ge j k with e | e
  · exact h j e
  · rw [show j = k by omega]; exact hk
set_option maxRecDepth 100000 in
set_option maxHeartbeats 4000000 in
theorem ref_top_some (m s : Nat) (hm : m < 4503599627370496) (hs : s < 4) (h0 : sui m s ≠ 0) (w : World) : Calls Tryd.prog 37 #[.int .u64 m, .int .u8 s] w fun e w' => e = .returned (.tuple #[.int .u8 (grt (sui m s)), .bool true]) ∧ Below w.heap.size w w' := by
  have WH := Lib.hid (whole_calls m)
  rw [decide_eq_true hm] at WH
  have HAS := Lib.hid (fun c hc => has_calls m c (by omega) hc)
  have b0 : ¬ (3 : Int) < (s : Int) := by omega
  have e2 : IntKind.i64.wrap (13 * (s : Int)) = 13 * (s : Int) := IntWalk.i64_in _ (by omega)
  have e7 : IntKind.u8.wrap (13 * (s : Int)) = 13 * (s : Int) := u8_wrap (by omega) (by omega)
  have e8 : IntKind.i64.wrap (s : Int) = (s : Int) := IntWalk.i64_in _ (by omega)
  have HS := Lib.hid (And.intro hm (And.intro hs h0))
  obtain ⟨g, hg⟩ : ∃ g : Int, ((grt (sui m s) : Nat) : Int) = g := ⟨_, rfl⟩
  rw [hg]
  have HG := Lib.hid hg
  clear hg
  clear hm hs h0
  go_enter Tryd.func37, Tryd.ntmps37
  go_wp2_with (first | (go_at_call 39; refine (WH.out _).mono ?_; rintro e w1 ⟨rfl, rfl⟩))
  go_loopw [6] (fun s6 wr => ∃ n : Nat, s6 = .int .i64 ((n : Int) - 1) ∧ n ≤ 13 ∧ (∀ j, n ≤ j → j < 13 → m.testBit (13 * s + j) = false) ∧ Below w.heap.size w wr) (fun s6 _ => (intOf s6 + 1).toNat)
  case atStart => exact ⟨13, rfl, by decide, fun j h1 h2 => by omega, by repeat (first | (with_reducible exact Below.refl _ _) | ((with_reducible refine below_grow ?_ ?_); rotate_left; focus (first | omega | (simp [go_sem]; done) | (simp [go_sem]; omega))) | ((with_reducible refine Below.alloc ?_ ?_ _); rotate_left; focus (first | omega | (simp [go_sem]; done) | (simp [go_sem]; omega))) | ((with_reducible refine Below.setCell ?_ ?_ _); rotate_left; focus (first | omega | (simp [go_sem]; done) | (simp [go_sem]; omega))) | (with_reducible refine Below.drew ?_) | (with_reducible refine below_drewN _ ?_))⟩
  case round =>
    obtain ⟨n, rfl, hn, hz, hb⟩ := hrel
    have hsz := hb.size
    match n, hn, hz with
    | 0, hn, hz =>
      exact absurd (sui_some (fun j hj => hz j (Nat.zero_le _) hj)) HS.out.2.2
    | k + 1, hn, hz =>
      obtain ⟨z, hzz⟩ : ∃ z : Int, ((k + 1 : Nat) : Int) - 1 = z := ⟨_, rfl⟩
      rw [hzz]
      obtain rfl : z = k := by omega
      have b2 : (0 : Int) ≤ (k : Int) := by omega
      have e3 : IntKind.i64.wrap ((k : Int) - 1) = (k : Int) - 1 := IntWalk.i64_in _ (by omega)
      have hk13 : k < 13 := by omega
      have hs4 := HS.out.2.1
      have e4 : IntKind.i64.wrap (13 * (s : Int) + (k : Int)) = 13 * (s : Int) + (k : Int) := IntWalk.i64_in _ (by omega)
      have e5 : IntKind.u8.wrap (13 * (s : Int) + (k : Int)) = 13 * (s : Int) + (k : Int) := u8_wrap (by omega) (by omega)
      have e6 : IntKind.u8.wrap (k : Int) = (k : Int) := u8_wrap (by omega) (by omega)
      have H := HAS.out (13 * s + k) (by omega)
      rw [show ((13 * s + k : Nat) : Int) = 13 * (s : Int) + (k : Int) by omega] at H
      cases htb : m.testBit (13 * s + k) with
      | true =>
        rw [htb] at H
        have H := Lib.hid H
        have hgk0 := grt_sui HS.out.2.2 hk13 htb (fun j h1 h2 => hz j (by omega) h2)
        obtain rfl : g = 13 * (s : Int) + (k : Int) := by have := HG.out; omega
        clear hz htb hk13 hn hzz
        go_wp2_with (first | (go_at_call 40; refine (H.out _).mono ?_; rintro e w1 ⟨rfl, hbel⟩; obtain ⟨o1, j1, rfl⟩ := grow_of_below hbel; clear hbel))
        refine bodyPost_ret (by simp [results, Tryd.results37, go_sem]) rfl ⟨rfl, ?_⟩
        repeat (first | (with_reducible exact hb) | ((with_reducible refine below_grow ?_ ?_); rotate_left; focus (first | omega | (simp [go_sem]; done) | (simp [go_sem]; omega))) | ((with_reducible refine Below.alloc ?_ ?_ _); rotate_left; focus (first | omega | (simp [go_sem]; done) | (simp [go_sem]; omega))) | ((with_reducible refine Below.setCell ?_ ?_ _); rotate_left; focus (first | omega | (simp [go_sem]; done) | (simp [go_sem]; omega))) | (with_reducible refine Below.drew ?_) | (with_reducible refine below_drewN _ ?_))
      | false =>
        rw [htb] at H
        have H := Lib.hid H
        have HK := Lib.hid (And.intro hk13 (And.intro hz htb))
        clear hz htb hk13 hn hzz
        go_wp2_with (first | (go_at_call 40; refine (H.out _).mono ?_; rintro e w1 ⟨rfl, hbel⟩; obtain ⟨o1, j1, rfl⟩ := grow_of_below hbel; clear hbel))
        go_roundw
        case rel => exact ⟨k, by go_num, by have := HK.out; omega, dn_step (f := fun j => m.testBit (13 * s + j)) HK.out.2.1 HK.out.2.2, by repeat (first | (with_reducible exact hb) | ((with_reducible refine below_grow ?_ ?_); rotate_left; focus (first | omega | (simp [go_sem]; done) | (simp [go_sem]; omega))) | ((with_reducible refine Below.alloc ?_ ?_ _); rotate_left; focus (first | omega | (simp [go_sem]; done) | (simp [go_sem]; omega))) | ((with_reducible refine Below.setCell ?_ ?_ _); rotate_left; focus (first | omega | (simp [go_sem]; done) | (simp [go_sem]; omega))) | (with_reducible refine Below.drew ?_) | (with_reducible refine below_drewN _ ?_))⟩
        case measure => simp [intOf] <;> omega
set_option maxRecDepth 100000 in
set_option maxHeartbeats 4000000 in
theorem ref_top_zero (m s : Nat) (hm : m < 4503599627370496) (hs : s < 4) (h0 : sui m s = 0) (w : World) : Calls Tryd.prog 37 #[.int .u64 m, .int .u8 s] w fun e w' => e = .returned (.tuple #[.int .u8 0, .bool false]) ∧ Below w.heap.size w w' := by
  have WH := Lib.hid (whole_calls m)
  rw [decide_eq_true hm] at WH
  have HAS := Lib.hid (fun c hc => has_calls m c (by omega) hc)
  have b0 : ¬ (3 : Int) < (s : Int) := by omega
  have e2 : IntKind.i64.wrap (13 * (s : Int)) = 13 * (s : Int) := IntWalk.i64_in _ (by omega)
  have e7 : IntKind.u8.wrap (13 * (s : Int)) = 13 * (s : Int) := u8_wrap (by omega) (by omega)
  have e8 : IntKind.i64.wrap (s : Int) = (s : Int) := IntWalk.i64_in _ (by omega)
  have HS := Lib.hid (And.intro hm (And.intro hs h0))
  clear hm hs h0
  go_enter Tryd.func37, Tryd.ntmps37
  go_wp2_with (first | (go_at_call 39; refine (WH.out _).mono ?_; rintro e w1 ⟨rfl, rfl⟩))
  go_loopw [6] (fun s6 wr => ∃ n : Nat, s6 = .int .i64 ((n : Int) - 1) ∧ n ≤ 13 ∧ (∀ j, n ≤ j → j < 13 → m.testBit (13 * s + j) = false) ∧ Below w.heap.size w wr) (fun s6 _ => (intOf s6 + 1).toNat)
  case atStart => exact ⟨13, rfl, by decide, fun j h1 h2 => by omega, by repeat (first | (with_reducible exact Below.refl _ _) | ((with_reducible refine below_grow ?_ ?_); rotate_left; focus (first | omega | (simp [go_sem]; done) | (simp [go_sem]; omega))) | ((with_reducible refine Below.alloc ?_ ?_ _); rotate_left; focus (first | omega | (simp [go_sem]; done) | (simp [go_sem]; omega))) | ((with_reducible refine Below.setCell ?_ ?_ _); rotate_left; focus (first | omega | (simp [go_sem]; done) | (simp [go_sem]; omega))) | (with_reducible refine Below.drew ?_) | (with_reducible refine below_drewN _ ?_))⟩
  case round =>
    obtain ⟨n, rfl, hn, hz, hb⟩ := hrel
    have hsz := hb.size
    match n, hn, hz with
    | 0, hn, hz =>
      have b2 : ¬ (0 : Int) ≤ ((0 : Nat) : Int) - 1 := by decide
      clear hz hn
      go_wp2
      refine bodyPost_ret (by simp [results, Tryd.results37, go_sem]) rfl ⟨rfl, ?_⟩
      exact hb
    | k + 1, hn, hz =>
      obtain ⟨z, hzz⟩ : ∃ z : Int, ((k + 1 : Nat) : Int) - 1 = z := ⟨_, rfl⟩
      rw [hzz]
      obtain rfl : z = k := by omega
      have b2 : (0 : Int) ≤ (k : Int) := by omega
      have e3 : IntKind.i64.wrap ((k : Int) - 1) = (k : Int) - 1 := IntWalk.i64_in _ (by omega)
      have hk13 : k < 13 := by omega
      have hs4 := HS.out.2.1
      have e4 : IntKind.i64.wrap (13 * (s : Int) + (k : Int)) = 13 * (s : Int) + (k : Int) := IntWalk.i64_in _ (by omega)
      have e5 : IntKind.u8.wrap (13 * (s : Int) + (k : Int)) = 13 * (s : Int) + (k : Int) := u8_wrap (by omega) (by omega)
      have e6 : IntKind.u8.wrap (k : Int) = (k : Int) := u8_wrap (by omega) (by omega)
      have H := HAS.out (13 * s + k) (by omega)
      rw [show ((13 * s + k : Nat) : Int) = 13 * (s : Int) + (k : Int) by omega] at H
      have htb := sui_none HS.out.2.2 hk13
      rw [htb] at H
      have H := Lib.hid H
      have HK := Lib.hid (And.intro hk13 (And.intro hz htb))
      clear hz htb hk13 hn hzz
      go_wp2_with (first | (go_at_call 40; refine (H.out _).mono ?_; rintro e w1 ⟨rfl, hbel⟩; obtain ⟨o1, j1, rfl⟩ := grow_of_below hbel; clear hbel))
      go_roundw
      case rel => exact ⟨k, by go_num, by have := HK.out; omega, dn_step (f := fun j => m.testBit (13 * s + j)) HK.out.2.1 HK.out.2.2, by repeat (first | (with_reducible exact hb) | ((with_reducible refine below_grow ?_ ?_); rotate_left; focus (first | omega | (simp [go_sem]; done) | (simp [go_sem]; omega))) | ((with_reducible refine Below.alloc ?_ ?_ _); rotate_left; focus (first | omega | (simp [go_sem]; done) | (simp [go_sem]; omega))) | ((with_reducible refine Below.setCell ?_ ?_ _); rotate_left; focus (first | omega | (simp [go_sem]; done) | (simp [go_sem]; omega))) | (with_reducible refine Below.drew ?_) | (with_reducible refine below_drewN _ ?_))⟩
      case measure => simp [intOf] <;> omega
set_option maxRecDepth 100000 in
set_option maxHeartbeats 4000000 in
theorem ref_low_some (m s : Nat) (hm : m < 4503599627370496) (hs : s < 4) (h0 : sui m s ≠ 0) (w : World) : Calls Tryd.prog 38 #[.int .u64 m, .int .u8 s] w fun e w' => e = .returned (.tuple #[.int .u8 (lst (sui m s)), .bool true]) ∧ Below w.heap.size w w' := by
  have WH := Lib.hid (whole_calls m)
  rw [decide_eq_true hm] at WH
  have HAS := Lib.hid (fun c hc => has_calls m c (by omega) hc)
  have b0 : ¬ (3 : Int) < (s : Int) := by omega
  have e2 : IntKind.i64.wrap (13 * (s : Int)) = 13 * (s : Int) := IntWalk.i64_in _ (by omega)
  have e7 : IntKind.u8.wrap (13 * (s : Int)) = 13 * (s : Int) := u8_wrap (by omega) (by omega)
  have e8 : IntKind.i64.wrap (s : Int) = (s : Int) := IntWalk.i64_in _ (by omega)
  have HS := Lib.hid (And.intro hm (And.intro hs h0))
  obtain ⟨g, hg⟩ : ∃ g : Int, ((lst (sui m s) : Nat) : Int) = g := ⟨_, rfl⟩
  rw [hg]
  have HG := Lib.hid hg
  clear hg
  clear hm hs h0
  go_enter Tryd.func38, Tryd.ntmps38
  go_wp2_with (first | (go_at_call 39; refine (WH.out _).mono ?_; rintro e w1 ⟨rfl, rfl⟩))
  go_loopw [6] (fun s6 wr => ∃ n : Nat, s6 = .int .i64 (n) ∧ n ≤ 13 ∧ (∀ j, j < n → m.testBit (13 * s + j) = false) ∧ Below w.heap.size w wr) (fun s6 _ => (13 - intOf s6).toNat)
  case atStart => exact ⟨0, rfl, by decide, fun j h1 => by omega, by repeat (first | (with_reducible exact Below.refl _ _) | ((with_reducible refine below_grow ?_ ?_); rotate_left; focus (first | omega | (simp [go_sem]; done) | (simp [go_sem]; omega))) | ((with_reducible refine Below.alloc ?_ ?_ _); rotate_left; focus (first | omega | (simp [go_sem]; done) | (simp [go_sem]; omega))) | ((with_reducible refine Below.setCell ?_ ?_ _); rotate_left; focus (first | omega | (simp [go_sem]; done) | (simp [go_sem]; omega))) | (with_reducible refine Below.drew ?_) | (with_reducible refine below_drewN _ ?_))⟩
  case round =>
    obtain ⟨n, rfl, hn, hz, hb⟩ := hrel
    have hsz := hb.size
    by_cases hlt : n < 13
    · obtain ⟨k, hkn⟩ : ∃ k, n = k := ⟨n, rfl⟩
      subst hkn
      have b2 : (n : Int) < 13 := by omega
      have e3 : IntKind.i64.wrap ((n : Int) + 1) = (n : Int) + 1 := IntWalk.i64_in _ (by omega)
      have hk13 : n < 13 := hlt
      have hs4 := HS.out.2.1
      have e4 : IntKind.i64.wrap (13 * (s : Int) + (n : Int)) = 13 * (s : Int) + (n : Int) := IntWalk.i64_in _ (by omega)
      have e5 : IntKind.u8.wrap (13 * (s : Int) + (n : Int)) = 13 * (s : Int) + (n : Int) := u8_wrap (by omega) (by omega)
      have e6 : IntKind.u8.wrap (n : Int) = (n : Int) := u8_wrap (by omega) (by omega)
      have H := HAS.out (13 * s + n) (by omega)
      rw [show ((13 * s + n : Nat) : Int) = 13 * (s : Int) + (n : Int) by omega] at H
      cases htb : m.testBit (13 * s + n) with
      | true =>
        rw [htb] at H
        have H := Lib.hid H
        have hgk0 := lst_sui HS.out.1 HS.out.2.2 hk13 htb hz
        obtain rfl : g = 13 * (s : Int) + (n : Int) := by have := HG.out; omega
        clear hz htb hk13 hn hlt
        go_wp2_with (first | (go_at_call 40; refine (H.out _).mono ?_; rintro e w1 ⟨rfl, hbel⟩; obtain ⟨o1, j1, rfl⟩ := grow_of_below hbel; clear hbel))
        refine bodyPost_ret (by simp [results, Tryd.results38, go_sem]) rfl ⟨rfl, ?_⟩
        repeat (first | (with_reducible exact hb) | ((with_reducible refine below_grow ?_ ?_); rotate_left; focus (first | omega | (simp [go_sem]; done) | (simp [go_sem]; omega))) | ((with_reducible refine Below.alloc ?_ ?_ _); rotate_left; focus (first | omega | (simp [go_sem]; done) | (simp [go_sem]; omega))) | ((with_reducible refine Below.setCell ?_ ?_ _); rotate_left; focus (first | omega | (simp [go_sem]; done) | (simp [go_sem]; omega))) | (with_reducible refine Below.drew ?_) | (with_reducible refine below_drewN _ ?_))
      | false =>
        rw [htb] at H
        have H := Lib.hid H
        have HK := Lib.hid (And.intro hk13 (And.intro hz htb))
        clear hz htb hk13 hn hlt
        go_wp2_with (first | (go_at_call 40; refine (H.out _).mono ?_; rintro e w1 ⟨rfl, hbel⟩; obtain ⟨o1, j1, rfl⟩ := grow_of_below hbel; clear hbel))
        go_roundw
        case rel => exact ⟨n + 1, by go_num, by have := HK.out; omega, up_step (f := fun j => m.testBit (13 * s + j)) HK.out.2.1 HK.out.2.2, by repeat (first | (with_reducible exact hb) | ((with_reducible refine below_grow ?_ ?_); rotate_left; focus (first | omega | (simp [go_sem]; done) | (simp [go_sem]; omega))) | ((with_reducible refine Below.alloc ?_ ?_ _); rotate_left; focus (first | omega | (simp [go_sem]; done) | (simp [go_sem]; omega))) | ((with_reducible refine Below.setCell ?_ ?_ _); rotate_left; focus (first | omega | (simp [go_sem]; done) | (simp [go_sem]; omega))) | (with_reducible refine Below.drew ?_) | (with_reducible refine below_drewN _ ?_))⟩
        case measure => simp [intOf] <;> omega
    · obtain rfl : n = 13 := by omega
      exact absurd (sui_some (fun j hj => hz j (by omega))) HS.out.2.2
set_option maxRecDepth 100000 in
set_option maxHeartbeats 4000000 in
theorem ref_low_zero (m s : Nat) (hm : m < 4503599627370496) (hs : s < 4) (h0 : sui m s = 0) (w : World) : Calls Tryd.prog 38 #[.int .u64 m, .int .u8 s] w fun e w' => e = .returned (.tuple #[.int .u8 0, .bool false]) ∧ Below w.heap.size w w' := by
  have WH := Lib.hid (whole_calls m)
  rw [decide_eq_true hm] at WH
  have HAS := Lib.hid (fun c hc => has_calls m c (by omega) hc)
  have b0 : ¬ (3 : Int) < (s : Int) := by omega
  have e2 : IntKind.i64.wrap (13 * (s : Int)) = 13 * (s : Int) := IntWalk.i64_in _ (by omega)
  have e7 : IntKind.u8.wrap (13 * (s : Int)) = 13 * (s : Int) := u8_wrap (by omega) (by omega)
  have e8 : IntKind.i64.wrap (s : Int) = (s : Int) := IntWalk.i64_in _ (by omega)
  have HS := Lib.hid (And.intro hm (And.intro hs h0))
  clear hm hs h0
  go_enter Tryd.func38, Tryd.ntmps38
  go_wp2_with (first | (go_at_call 39; refine (WH.out _).mono ?_; rintro e w1 ⟨rfl, rfl⟩))
  go_loopw [6] (fun s6 wr => ∃ n : Nat, s6 = .int .i64 (n) ∧ n ≤ 13 ∧ (∀ j, j < n → m.testBit (13 * s + j) = false) ∧ Below w.heap.size w wr) (fun s6 _ => (13 - intOf s6).toNat)
  case atStart => exact ⟨0, rfl, by decide, fun j h1 => by omega, by repeat (first | (with_reducible exact Below.refl _ _) | ((with_reducible refine below_grow ?_ ?_); rotate_left; focus (first | omega | (simp [go_sem]; done) | (simp [go_sem]; omega))) | ((with_reducible refine Below.alloc ?_ ?_ _); rotate_left; focus (first | omega | (simp [go_sem]; done) | (simp [go_sem]; omega))) | ((with_reducible refine Below.setCell ?_ ?_ _); rotate_left; focus (first | omega | (simp [go_sem]; done) | (simp [go_sem]; omega))) | (with_reducible refine Below.drew ?_) | (with_reducible refine below_drewN _ ?_))⟩
  case round =>
    obtain ⟨n, rfl, hn, hz, hb⟩ := hrel
    have hsz := hb.size
    by_cases hlt : n < 13
    · obtain ⟨k, hkn⟩ : ∃ k, n = k := ⟨n, rfl⟩
      subst hkn
      have b2 : (n : Int) < 13 := by omega
      have e3 : IntKind.i64.wrap ((n : Int) + 1) = (n : Int) + 1 := IntWalk.i64_in _ (by omega)
      have hk13 : n < 13 := hlt
      have hs4 := HS.out.2.1
      have e4 : IntKind.i64.wrap (13 * (s : Int) + (n : Int)) = 13 * (s : Int) + (n : Int) := IntWalk.i64_in _ (by omega)
      have e5 : IntKind.u8.wrap (13 * (s : Int) + (n : Int)) = 13 * (s : Int) + (n : Int) := u8_wrap (by omega) (by omega)
      have e6 : IntKind.u8.wrap (n : Int) = (n : Int) := u8_wrap (by omega) (by omega)
      have H := HAS.out (13 * s + n) (by omega)
      rw [show ((13 * s + n : Nat) : Int) = 13 * (s : Int) + (n : Int) by omega] at H
      have htb := sui_none HS.out.2.2 hk13
      rw [htb] at H
      have H := Lib.hid H
      have HK := Lib.hid (And.intro hk13 (And.intro hz htb))
      clear hz htb hk13 hn hlt
      go_wp2_with (first | (go_at_call 40; refine (H.out _).mono ?_; rintro e w1 ⟨rfl, hbel⟩; obtain ⟨o1, j1, rfl⟩ := grow_of_below hbel; clear hbel))
      go_roundw
      case rel => exact ⟨n + 1, by go_num, by have := HK.out; omega, up_step (f := fun j => m.testBit (13 * s + j)) HK.out.2.1 HK.out.2.2, by repeat (first | (with_reducible exact hb) | ((with_reducible refine below_grow ?_ ?_); rotate_left; focus (first | omega | (simp [go_sem]; done) | (simp [go_sem]; omega))) | ((with_reducible refine Below.alloc ?_ ?_ _); rotate_left; focus (first | omega | (simp [go_sem]; done) | (simp [go_sem]; omega))) | ((with_reducible refine Below.setCell ?_ ?_ _); rotate_left; focus (first | omega | (simp [go_sem]; done) | (simp [go_sem]; omega))) | (with_reducible refine Below.drew ?_) | (with_reducible refine below_drewN _ ?_))⟩
      case measure => simp [intOf] <;> omega
    · obtain rfl : n = 13 := by omega
      clear hz hn hlt
      go_wp2
      refine bodyPost_ret (by simp [results, Tryd.results38, go_sem]) rfl ⟨rfl, ?_⟩
      exact hb
end Go.Proofs.YtcfkcfbgnciccaaDoor
