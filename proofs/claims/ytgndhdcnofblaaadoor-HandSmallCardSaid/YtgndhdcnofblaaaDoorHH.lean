/- quick, Losers, Quick. -/
import Derived.Test.YtgndhdcnofblaaaDoorHG
namespace Go.Proofs.YtgndhdcnofblaaaDoor
open Go.RowKit

theorem hasK (h : Nat) (hh : h < 8192) (r : Nat) (hr : r < 16) (b : Bool) (hb : decide (h / 2 ^ r % 2 = 1) = b) (w : World) : Calls Tryd.prog 53 #[.int .u16 h, .int .i64 r] w fun e w' => e = .returned (.bool b) ∧ w = w' :=
  hb ▸ has_calls h r (by omega) hr w
set_option maxRecDepth 100000 in
set_option maxHeartbeats 4000000 in
theorem quick_calls (h : Nat) (hh : h < 8192) (w : World) : Calls Tryd.prog 42 #[.int .u16 h] w fun e w' => e = .returned (.int .i64 (qck h)) ∧ Below w.heap.size w w' := by
  have LN := Lib.hid (length_calls h hh)
  have A0 : ∀ (b : Bool) (hb : decide (h / 2 ^ 12 % 2 = 1) = b) (w : World), Calls Tryd.prog 53 #[.int .u16 h, .int .i64 12] w fun e w' => e = .returned (.bool b) ∧ w = w' := hasK h hh 12 (by decide)
  have K0 : ∀ (b : Bool) (hb : decide (h / 2 ^ 11 % 2 = 1) = b) (w : World), Calls Tryd.prog 53 #[.int .u16 h, .int .i64 11] w fun e w' => e = .returned (.bool b) ∧ w = w' := hasK h hh 11 (by decide)
  have Q0 : ∀ (b : Bool) (hb : decide (h / 2 ^ 10 % 2 = 1) = b) (w : World), Calls Tryd.prog 53 #[.int .u16 h, .int .i64 10] w fun e w' => e = .returned (.bool b) ∧ w = w' := hasK h hh 10 (by decide)
  have hle := len_le h
  unfold qck
  simp only [Nat.reducePow] at A0 K0 Q0
  obtain ⟨n, hnn⟩ : ∃ x, len h = x := ⟨_, rfl⟩
  rw [hnn] at LN hle ⊢
  clear hnn
  by_cases ha : h / 4096 % 2 = 1
  · have A := Lib.hid (A0 true (decide_eq_true ha))
    by_cases hk : h / 2048 % 2 = 1
    · have K := Lib.hid (K0 true (decide_eq_true hk))
      rw [if_pos ⟨ha, hk⟩]
      clear A0 K0 Q0 ha hk
      go_enter Tryd.func42, Tryd.ntmps42
      go_wp2_with (first | (go_at_call_of 53 (Value.int .i64 12); refine (A.out _).mono ?_; rintro e w1 ⟨rfl, rfl⟩) | (go_at_call_of 53 (Value.int .i64 11); refine (K.out _).mono ?_; rintro e w1 ⟨rfl, rfl⟩))
      go_ret
      exact ⟨rfl, by repeat (first | (with_reducible exact Below.refl _ _) | ((with_reducible refine below_grow ?_ ?_); rotate_left; focus (first | omega | (simp [go_sem]; done) | (simp [go_sem]; omega))) | ((with_reducible refine Below.alloc ?_ ?_ _); rotate_left; focus (first | omega | (simp [go_sem]; done) | (simp [go_sem]; omega))) | ((with_reducible refine Below.setCell ?_ ?_ _); rotate_left; focus (first | omega | (simp [go_sem]; done) | (simp [go_sem]; omega))) | (with_reducible refine Below.drew ?_) | (with_reducible refine below_drewN _ ?_))⟩
    · have K := Lib.hid (K0 false (decide_eq_false hk))
      rw [if_neg (fun hx => hk hx.2)]
      by_cases hq : h / 1024 % 2 = 1
      · have Q := Lib.hid (Q0 true (decide_eq_true hq))
        rw [if_pos ⟨ha, hq⟩]
        clear A0 K0 Q0 ha hk hq
        go_enter Tryd.func42, Tryd.ntmps42
        go_wp2_with (first | (go_at_call_of 53 (Value.int .i64 12); refine (A.out _).mono ?_; rintro e w1 ⟨rfl, rfl⟩) | (go_at_call_of 53 (Value.int .i64 11); refine (K.out _).mono ?_; rintro e w1 ⟨rfl, rfl⟩) | (go_at_call_of 53 (Value.int .i64 10); refine (Q.out _).mono ?_; rintro e w1 ⟨rfl, rfl⟩))
        go_ret
        exact ⟨rfl, by repeat (first | (with_reducible exact Below.refl _ _) | ((with_reducible refine below_grow ?_ ?_); rotate_left; focus (first | omega | (simp [go_sem]; done) | (simp [go_sem]; omega))) | ((with_reducible refine Below.alloc ?_ ?_ _); rotate_left; focus (first | omega | (simp [go_sem]; done) | (simp [go_sem]; omega))) | ((with_reducible refine Below.setCell ?_ ?_ _); rotate_left; focus (first | omega | (simp [go_sem]; done) | (simp [go_sem]; omega))) | (with_reducible refine Below.drew ?_) | (with_reducible refine below_drewN _ ?_))⟩
      · have Q := Lib.hid (Q0 false (decide_eq_false hq))
        rw [if_neg (fun hx => hq hx.2), if_pos (Or.inl ha)]
        clear A0 K0 Q0 ha hk hq
        go_enter Tryd.func42, Tryd.ntmps42
        go_wp2_with (first | (go_at_call_of 53 (Value.int .i64 12); refine (A.out _).mono ?_; rintro e w1 ⟨rfl, rfl⟩) | (go_at_call_of 53 (Value.int .i64 11); refine (K.out _).mono ?_; rintro e w1 ⟨rfl, rfl⟩) | (go_at_call_of 53 (Value.int .i64 10); refine (Q.out _).mono ?_; rintro e w1 ⟨rfl, rfl⟩))
        go_ret
        exact ⟨rfl, by repeat (first | (with_reducible exact Below.refl _ _) | ((with_reducible refine below_grow ?_ ?_); rotate_left; focus (first | omega | (simp [go_sem]; done) | (simp [go_sem]; omega))) | ((with_reducible refine Below.alloc ?_ ?_ _); rotate_left; focus (first | omega | (simp [go_sem]; done) | (simp [go_sem]; omega))) | ((with_reducible refine Below.setCell ?_ ?_ _); rotate_left; focus (first | omega | (simp [go_sem]; done) | (simp [go_sem]; omega))) | (with_reducible refine Below.drew ?_) | (with_reducible refine below_drewN _ ?_))⟩
  · have A := Lib.hid (A0 false (decide_eq_false ha))
    rw [if_neg (fun hx => ha hx.1), if_neg (fun hx => ha hx.1)]
    by_cases hk : h / 2048 % 2 = 1
    · have K := Lib.hid (K0 true (decide_eq_true hk))
      by_cases hq : h / 1024 % 2 = 1
      · have Q := Lib.hid (Q0 true (decide_eq_true hq))
        rw [if_pos (Or.inr ⟨hk, hq⟩)]
        clear A0 K0 Q0 ha hk hq
        go_enter Tryd.func42, Tryd.ntmps42
        go_wp2_with (first | (go_at_call_of 53 (Value.int .i64 12); refine (A.out _).mono ?_; rintro e w1 ⟨rfl, rfl⟩) | (go_at_call_of 53 (Value.int .i64 11); refine (K.out _).mono ?_; rintro e w1 ⟨rfl, rfl⟩) | (go_at_call_of 53 (Value.int .i64 10); refine (Q.out _).mono ?_; rintro e w1 ⟨rfl, rfl⟩))
        go_ret
        exact ⟨rfl, by repeat (first | (with_reducible exact Below.refl _ _) | ((with_reducible refine below_grow ?_ ?_); rotate_left; focus (first | omega | (simp [go_sem]; done) | (simp [go_sem]; omega))) | ((with_reducible refine Below.alloc ?_ ?_ _); rotate_left; focus (first | omega | (simp [go_sem]; done) | (simp [go_sem]; omega))) | ((with_reducible refine Below.setCell ?_ ?_ _); rotate_left; focus (first | omega | (simp [go_sem]; done) | (simp [go_sem]; omega))) | (with_reducible refine Below.drew ?_) | (with_reducible refine below_drewN _ ?_))⟩
      · have Q := Lib.hid (Q0 false (decide_eq_false hq))
        rw [if_neg (fun hx => hx.elim ha (fun hy => hq hy.2))]
        by_cases hn : 2 ≤ n
        · rw [if_pos ⟨hk, hn⟩]
          have hz : (2 : Int) ≤ n := by omega
          have hd : decide ((n : Int) ≥ 2) = true := decide_eq_true (by omega)
          clear A0 K0 Q0 ha hk hq hn
          go_enter Tryd.func42, Tryd.ntmps42
          go_wp2_with (first | (go_at_call_of 53 (Value.int .i64 12); refine (A.out _).mono ?_; rintro e w1 ⟨rfl, rfl⟩) | (go_at_call_of 53 (Value.int .i64 11); refine (K.out _).mono ?_; rintro e w1 ⟨rfl, rfl⟩) | (go_at_call_of 53 (Value.int .i64 10); refine (Q.out _).mono ?_; rintro e w1 ⟨rfl, rfl⟩) | (go_at_call 46; refine (LN.out _).mono ?_; rintro e w1 ⟨rfl, hbel⟩; obtain ⟨o1, j1, rfl⟩ := grow_of_below hbel; clear hbel))
          go_ret
          exact ⟨rfl, by repeat (first | (with_reducible exact Below.refl _ _) | ((with_reducible refine below_grow ?_ ?_); rotate_left; focus (first | omega | (simp [go_sem]; done) | (simp [go_sem]; omega))) | ((with_reducible refine Below.alloc ?_ ?_ _); rotate_left; focus (first | omega | (simp [go_sem]; done) | (simp [go_sem]; omega))) | ((with_reducible refine Below.setCell ?_ ?_ _); rotate_left; focus (first | omega | (simp [go_sem]; done) | (simp [go_sem]; omega))) | (with_reducible refine Below.drew ?_) | (with_reducible refine below_drewN _ ?_))⟩
        · rw [if_neg (fun hx => hn hx.2)]
          have hz : ¬ (2 : Int) ≤ n := by omega
          have hd : decide ((n : Int) ≥ 2) = false := decide_eq_false (by omega)
          clear A0 K0 Q0 ha hk hq hn
          go_enter Tryd.func42, Tryd.ntmps42
          go_wp2_with (first | (go_at_call_of 53 (Value.int .i64 12); refine (A.out _).mono ?_; rintro e w1 ⟨rfl, rfl⟩) | (go_at_call_of 53 (Value.int .i64 11); refine (K.out _).mono ?_; rintro e w1 ⟨rfl, rfl⟩) | (go_at_call_of 53 (Value.int .i64 10); refine (Q.out _).mono ?_; rintro e w1 ⟨rfl, rfl⟩) | (go_at_call 46; refine (LN.out _).mono ?_; rintro e w1 ⟨rfl, hbel⟩; obtain ⟨o1, j1, rfl⟩ := grow_of_below hbel; clear hbel))
          go_ret
          exact ⟨rfl, by repeat (first | (with_reducible exact Below.refl _ _) | ((with_reducible refine below_grow ?_ ?_); rotate_left; focus (first | omega | (simp [go_sem]; done) | (simp [go_sem]; omega))) | ((with_reducible refine Below.alloc ?_ ?_ _); rotate_left; focus (first | omega | (simp [go_sem]; done) | (simp [go_sem]; omega))) | ((with_reducible refine Below.setCell ?_ ?_ _); rotate_left; focus (first | omega | (simp [go_sem]; done) | (simp [go_sem]; omega))) | (with_reducible refine Below.drew ?_) | (with_reducible refine below_drewN _ ?_))⟩
    · have K := Lib.hid (K0 false (decide_eq_false hk))
      rw [if_neg (fun hx => hx.elim ha (fun hy => hk hy.1)), if_neg (fun hx => hk hx.1)]
      clear A0 K0 Q0 ha hk
      go_enter Tryd.func42, Tryd.ntmps42
      go_wp2_with (first | (go_at_call_of 53 (Value.int .i64 12); refine (A.out _).mono ?_; rintro e w1 ⟨rfl, rfl⟩) | (go_at_call_of 53 (Value.int .i64 11); refine (K.out _).mono ?_; rintro e w1 ⟨rfl, rfl⟩))
      go_ret
      exact ⟨rfl, by repeat (first | (with_reducible exact Below.refl _ _) | ((with_reducible refine below_grow ?_ ?_); rotate_left; focus (first | omega | (simp [go_sem]; done) | (simp [go_sem]; omega))) | ((with_reducible refine Below.alloc ?_ ?_ _); rotate_left; focus (first | omega | (simp [go_sem]; done) | (simp [go_sem]; omega))) | ((with_reducible refine Below.setCell ?_ ?_ _); rotate_left; focus (first | omega | (simp [go_sem]; done) | (simp [go_sem]; omega))) | (with_reducible refine Below.drew ?_) | (with_reducible refine below_drewN _ ?_))⟩
theorem losersT (m : Nat) (hm : m < 18446744073709551616) (w : World) : Calls Tryd.prog 21 #[.int .u64 m] w fun e w' => e = .returned (.int .i64 (tot los m)) ∧ Below w.heap.size w w' := by
  have T := Lib.hid fun w => total_calls m hm 41 #[] los (fun h => by have := los_le h; omega) w eg_losers (fun h W hh _ => losers_calls h hh W)
  obtain ⟨n, hn⟩ : ∃ n, tot los m = n := ⟨_, rfl⟩
  rw [hn] at T ⊢
  clear hn hm
  go_enter Tryd.func21, Tryd.ntmps21
  go_wp2_with (go_at_call 39; refine (T.out _).mono ?_; rintro e w1 ⟨rfl, hbel⟩; obtain ⟨o1, j1, rfl⟩ := grow_of_below hbel; clear hbel)
  go_ret
  exact ⟨rfl, by repeat (first | (with_reducible exact Below.refl _ _) | ((with_reducible refine below_grow ?_ ?_); rotate_left; focus (first | omega | (simp [go_sem]; done) | (simp [go_sem]; omega))) | ((with_reducible refine Below.alloc ?_ ?_ _); rotate_left; focus (first | omega | (simp [go_sem]; done) | (simp [go_sem]; omega))) | ((with_reducible refine Below.setCell ?_ ?_ _); rotate_left; focus (first | omega | (simp [go_sem]; done) | (simp [go_sem]; omega))) | (with_reducible refine Below.drew ?_) | (with_reducible refine below_drewN _ ?_))⟩
theorem quickT (m : Nat) (hm : m < 18446744073709551616) (w : World) : Calls Tryd.prog 22 #[.int .u64 m] w fun e w' => e = .returned (.int .i64 (tot qck m)) ∧ Below w.heap.size w w' := by
  have T := Lib.hid fun w => total_calls m hm 42 #[] qck (fun h => by have := qck_le h; omega) w eg_quick (fun h W hh _ => quick_calls h hh W)
  obtain ⟨n, hn⟩ : ∃ n, tot qck m = n := ⟨_, rfl⟩
  rw [hn] at T ⊢
  clear hn hm
  go_enter Tryd.func22, Tryd.ntmps22
  go_wp2_with (go_at_call 39; refine (T.out _).mono ?_; rintro e w1 ⟨rfl, hbel⟩; obtain ⟨o1, j1, rfl⟩ := grow_of_below hbel; clear hbel)
  go_ret
  exact ⟨rfl, by repeat (first | (with_reducible exact Below.refl _ _) | ((with_reducible refine below_grow ?_ ?_); rotate_left; focus (first | omega | (simp [go_sem]; done) | (simp [go_sem]; omega))) | ((with_reducible refine Below.alloc ?_ ?_ _); rotate_left; focus (first | omega | (simp [go_sem]; done) | (simp [go_sem]; omega))) | ((with_reducible refine Below.setCell ?_ ?_ _); rotate_left; focus (first | omega | (simp [go_sem]; done) | (simp [go_sem]; omega))) | (with_reducible refine Below.drew ?_) | (with_reducible refine below_drewN _ ?_))⟩
end Go.Proofs.YtgndhdcnofblaaaDoor
