/- Auctions: left, sameSide, isBid, riskOf, over, allows, refuses, take. -/
import Derived.Test.YtacgikhedhiaaaaDoorLA
import Derived.Test.YtacgikhedhiaaaaDoorKD
namespace Go.Proofs.YtacgikhedhiaaaaDoor
open Go.RowKit

abbrev stC (s : St) : Array Value := #[.int .u8 s.bid, .int .u8 s.seat, .int .u8 s.risk, .int .u8 s.turn, .int .i64 s.pas]
abbrev stV (s : St) : Value := .agg (stC s)
theorem left_calls (t : Nat) (h : t < 4) (w : World) : Calls Tryd.prog 50 #[.int .u8 t] w fun e w' => e = .returned (.int .u8 ((t + 1) % 4 : Nat)) ∧ w = w' := by
  have e1 : IntKind.u8.wrap ((t : Int) + 1) = (t : Int) + 1 := u8_wrap (by omega) (by omega)
  have e2 : ((t : Int) + 1).tmod 4 = ((t + 1) % 4 : Nat) := by rw [Int.tmod_eq_emod_of_nonneg (by omega)]; omega
  have e3 : IntKind.u8.wrap (((t + 1) % 4 : Nat) : Int) = ((t + 1) % 4 : Nat) := u8_wrap (by omega) (by omega)
  obtain ⟨r, hr⟩ : ∃ r, (t + 1) % 4 = r := ⟨_, rfl⟩
  rw [hr] at e2 e3 ⊢
  clear hr h
  go_enter Tryd.func50, Tryd.ntmps50
  go_wp2
  go_ret
  exact ⟨rfl, rfl⟩
theorem sameSide_calls (a b : Nat) (ha : a < 256) (hb : b < 256) (w : World) : Calls Tryd.prog 68 #[.int .u8 a, .int .u8 b] w fun e w' => e = .returned (.bool (sd a b)) ∧ w = w' := by
  have e1 : (a : Int).tmod 2 = ((a % 2 : Nat) : Int) := by rw [Int.tmod_eq_emod_of_nonneg (by omega)]; omega
  have e2 : (b : Int).tmod 2 = ((b % 2 : Nat) : Int) := by rw [Int.tmod_eq_emod_of_nonneg (by omega)]; omega
  have e3 : IntKind.u8.wrap ((a % 2 : Nat) : Int) = ((a % 2 : Nat) : Int) := u8_wrap (by omega) (by omega)
  have e4 : IntKind.u8.wrap ((b % 2 : Nat) : Int) = ((b % 2 : Nat) : Int) := u8_wrap (by omega) (by omega)
  have hh : sd a b = decide ((a % 2 : Nat) = (b % 2 : Nat)) := rfl
  rw [hh]
  obtain ⟨x, hx⟩ : ∃ r, a % 2 = r := ⟨_, rfl⟩
  obtain ⟨y, hy⟩ : ∃ r, b % 2 = r := ⟨_, rfl⟩
  rw [hx] at e1 e3 ⊢
  rw [hy] at e2 e4 ⊢
  clear hx hy hh ha hb
  by_cases hxy : x = y
  · subst hxy
    go_enter Tryd.func68, Tryd.ntmps68
    go_wp2
    go_ret
    exact ⟨by simp, rfl⟩
  · have hxy2 : ¬ (x : Int) = y := by omega
    go_enter Tryd.func68, Tryd.ntmps68
    go_wp2
    go_ret
    exact ⟨by simp [hxy]; try omega, rfl⟩
theorem aisBid_calls (c : Nat) (w : World) : Calls Tryd.prog 48 #[.int .u8 c] w fun e w' => e = .returned (.bool (isb c)) ∧ w = w' := by
  have P := Lib.hid (parts_calls c)
  go_enter Tryd.func48, Tryd.ntmps48
  go_wp2_with (go_at_call 21; refine (P.out _).mono ?_; rintro e w9 ⟨rfl, rfl⟩)
  go_ret
  exact ⟨rfl, rfl⟩
theorem riskOf_calls (c : Nat) (w : World) : Calls Tryd.prog 86 #[.int .u8 c] w fun e w' => e = .returned (.int .u8 ((if c = 1 then 1 else if c = 2 then 2 else 0 : Nat))) ∧ w = w' := by
  by_cases h1 : c = 1
  · subst h1
    go_enter Tryd.func86, Tryd.ntmps86
    go_wp2
    go_ret
    exact ⟨rfl, rfl⟩
  · have h1' : ¬ (c : Int) = 1 := by omega
    by_cases h2 : c = 2
    · subst h2
      go_enter Tryd.func86, Tryd.ntmps86
      go_wp2
      go_ret
      exact ⟨rfl, rfl⟩
    · have h2' : ¬ (c : Int) = 2 := by omega
      rw [if_neg h1, if_neg h2]
      go_enter Tryd.func86, Tryd.ntmps86
      go_wp2
      go_ret
      exact ⟨rfl, rfl⟩
theorem over_calls (s : St) (w : World) : Calls Tryd.prog 46 #[stV s] w fun e w' => e = .returned (.bool s.over) ∧ Below w.heap.size w w' := by
  obtain ⟨b, x, r, t, p⟩ := s
  unfold St.over
  by_cases h0 : b = 0
  · subst h0
    by_cases h4 : p = 4
    · subst h4
      go_enter Tryd.func46, Tryd.ntmps46
      go_wp2
      go_ret
      exact ⟨rfl, by repeat (first | (with_reducible exact Below.refl _ _) | ((with_reducible refine below_grow ?_ ?_); rotate_left; focus (first | omega | (simp [go_sem]; done) | (simp [go_sem]; omega))) | ((with_reducible refine Below.alloc ?_ ?_ _); rotate_left; focus (first | omega | (simp [go_sem]; done) | (simp [go_sem]; omega))) | ((with_reducible refine Below.setCell ?_ ?_ _); rotate_left; focus (first | omega | (simp [go_sem]; done) | (simp [go_sem]; omega))) | (with_reducible refine Below.drew ?_) | (with_reducible refine below_drewN _ ?_))⟩
    · have h4' : ¬ (p : Int) = 4 := by omega
      go_enter Tryd.func46, Tryd.ntmps46
      go_wp2
      go_ret
      exact ⟨by simp [h4]; try omega, by repeat (first | (with_reducible exact Below.refl _ _) | ((with_reducible refine below_grow ?_ ?_); rotate_left; focus (first | omega | (simp [go_sem]; done) | (simp [go_sem]; omega))) | ((with_reducible refine Below.alloc ?_ ?_ _); rotate_left; focus (first | omega | (simp [go_sem]; done) | (simp [go_sem]; omega))) | ((with_reducible refine Below.setCell ?_ ?_ _); rotate_left; focus (first | omega | (simp [go_sem]; done) | (simp [go_sem]; omega))) | (with_reducible refine Below.drew ?_) | (with_reducible refine below_drewN _ ?_))⟩
  · have h0' : ¬ (b : Int) = 0 := by omega
    by_cases h4 : p = 3
    · subst h4
      go_enter Tryd.func46, Tryd.ntmps46
      go_wp2
      go_ret
      exact ⟨by simp [h0]; try omega, by repeat (first | (with_reducible exact Below.refl _ _) | ((with_reducible refine below_grow ?_ ?_); rotate_left; focus (first | omega | (simp [go_sem]; done) | (simp [go_sem]; omega))) | ((with_reducible refine Below.alloc ?_ ?_ _); rotate_left; focus (first | omega | (simp [go_sem]; done) | (simp [go_sem]; omega))) | ((with_reducible refine Below.setCell ?_ ?_ _); rotate_left; focus (first | omega | (simp [go_sem]; done) | (simp [go_sem]; omega))) | (with_reducible refine Below.drew ?_) | (with_reducible refine below_drewN _ ?_))⟩
    · have h4' : ¬ (p : Int) = 3 := by omega
      go_enter Tryd.func46, Tryd.ntmps46
      go_wp2
      go_ret
      exact ⟨by simp [h0, h4]; try omega, by repeat (first | (with_reducible exact Below.refl _ _) | ((with_reducible refine below_grow ?_ ?_); rotate_left; focus (first | omega | (simp [go_sem]; done) | (simp [go_sem]; omega))) | ((with_reducible refine Below.alloc ?_ ?_ _); rotate_left; focus (first | omega | (simp [go_sem]; done) | (simp [go_sem]; omega))) | ((with_reducible refine Below.setCell ?_ ?_ _); rotate_left; focus (first | omega | (simp [go_sem]; done) | (simp [go_sem]; omega))) | (with_reducible refine Below.drew ?_) | (with_reducible refine below_drewN _ ?_))⟩
/-- A state's numbers are bytes. -/
def St.by (s : St) : Prop := s.bid < 256 ∧ s.seat < 256 ∧ s.risk < 256 ∧ s.turn < 4 ∧ s.pas < 1000
theorem St.Ok.by {s : St} {d n : Nat} (h : s.Ok d n) : s.by := ⟨by have := h.bid; omega, by have := h.seat; omega, by have := h.risk; omega, h.turn_lt, by have := h.pas_le; omega⟩
theorem allows_calls (s : St) (hs : s.by) (c : Nat) (hc : c < 256) (w : World) : Calls Tryd.prog 42 #[stV s, .int .u8 c] w fun e w' => e = .returned (.bool (s.alw c)) ∧ Below w.heap.size w w' := by
  obtain ⟨b, x, r, t, p⟩ := s
  obtain ⟨hb, hx, hr, ht, hp⟩ := hs
  simp only at hb hx hr ht hp
  have SS := Lib.hid (sameSide_calls t x (by omega) hx)
  unfold St.alw
  simp only
  by_cases h0 : c = 0
  · subst h0
    go_enter Tryd.func42, Tryd.ntmps42
    go_wp2
    go_ret
    exact ⟨rfl, by repeat (first | (with_reducible exact Below.refl _ _) | ((with_reducible refine below_grow ?_ ?_); rotate_left; focus (first | omega | (simp [go_sem]; done) | (simp [go_sem]; omega))) | ((with_reducible refine Below.alloc ?_ ?_ _); rotate_left; focus (first | omega | (simp [go_sem]; done) | (simp [go_sem]; omega))) | ((with_reducible refine Below.setCell ?_ ?_ _); rotate_left; focus (first | omega | (simp [go_sem]; done) | (simp [go_sem]; omega))) | (with_reducible refine Below.drew ?_) | (with_reducible refine below_drewN _ ?_))⟩
  · have h0' : ¬ (c : Int) = 0 := by omega
    rw [if_neg h0]
    by_cases h1 : c = 1
    · subst h1
      rw [if_pos rfl]
      clear hb hx hr ht hp
      by_cases b0 : b = 0
      · subst b0
        go_enter Tryd.func42, Tryd.ntmps42
        go_wp2
        go_ret
        exact ⟨rfl, by repeat (first | (with_reducible exact Below.refl _ _) | ((with_reducible refine below_grow ?_ ?_); rotate_left; focus (first | omega | (simp [go_sem]; done) | (simp [go_sem]; omega))) | ((with_reducible refine Below.alloc ?_ ?_ _); rotate_left; focus (first | omega | (simp [go_sem]; done) | (simp [go_sem]; omega))) | ((with_reducible refine Below.setCell ?_ ?_ _); rotate_left; focus (first | omega | (simp [go_sem]; done) | (simp [go_sem]; omega))) | (with_reducible refine Below.drew ?_) | (with_reducible refine below_drewN _ ?_))⟩
      · have b0' : ¬ (b : Int) = 0 := by omega
        by_cases r0 : r = 0
        · subst r0
          cases hsd : sd t x with
          | true =>
            rw [hsd] at SS
            go_enter Tryd.func42, Tryd.ntmps42
            go_wp2_with (go_at_call 68; refine (SS.out _).mono ?_; rintro e w9 ⟨rfl, rfl⟩)
            go_ret
            exact ⟨by simp; try omega, by repeat (first | (with_reducible exact Below.refl _ _) | ((with_reducible refine below_grow ?_ ?_); rotate_left; focus (first | omega | (simp [go_sem]; done) | (simp [go_sem]; omega))) | ((with_reducible refine Below.alloc ?_ ?_ _); rotate_left; focus (first | omega | (simp [go_sem]; done) | (simp [go_sem]; omega))) | ((with_reducible refine Below.setCell ?_ ?_ _); rotate_left; focus (first | omega | (simp [go_sem]; done) | (simp [go_sem]; omega))) | (with_reducible refine Below.drew ?_) | (with_reducible refine below_drewN _ ?_))⟩
          | false =>
            rw [hsd] at SS
            go_enter Tryd.func42, Tryd.ntmps42
            go_wp2_with (go_at_call 68; refine (SS.out _).mono ?_; rintro e w9 ⟨rfl, rfl⟩)
            go_ret
            exact ⟨by simp [b0]; try omega, by repeat (first | (with_reducible exact Below.refl _ _) | ((with_reducible refine below_grow ?_ ?_); rotate_left; focus (first | omega | (simp [go_sem]; done) | (simp [go_sem]; omega))) | ((with_reducible refine Below.alloc ?_ ?_ _); rotate_left; focus (first | omega | (simp [go_sem]; done) | (simp [go_sem]; omega))) | ((with_reducible refine Below.setCell ?_ ?_ _); rotate_left; focus (first | omega | (simp [go_sem]; done) | (simp [go_sem]; omega))) | (with_reducible refine Below.drew ?_) | (with_reducible refine below_drewN _ ?_))⟩
        · have r0' : ¬ (r : Int) = 0 := by omega
          go_enter Tryd.func42, Tryd.ntmps42
          go_wp2
          go_ret
          exact ⟨by simp [r0]; try omega, by repeat (first | (with_reducible exact Below.refl _ _) | ((with_reducible refine below_grow ?_ ?_); rotate_left; focus (first | omega | (simp [go_sem]; done) | (simp [go_sem]; omega))) | ((with_reducible refine Below.alloc ?_ ?_ _); rotate_left; focus (first | omega | (simp [go_sem]; done) | (simp [go_sem]; omega))) | ((with_reducible refine Below.setCell ?_ ?_ _); rotate_left; focus (first | omega | (simp [go_sem]; done) | (simp [go_sem]; omega))) | (with_reducible refine Below.drew ?_) | (with_reducible refine below_drewN _ ?_))⟩
    · have h1' : ¬ (c : Int) = 1 := by omega
      rw [if_neg h1]
      by_cases h2 : c = 2
      · subst h2
        rw [if_pos rfl]
        clear hb hx hr ht hp
        by_cases r1 : r = 1
        · subst r1
          cases hsd : sd t x with
          | true =>
            rw [hsd] at SS
            go_enter Tryd.func42, Tryd.ntmps42
            go_wp2_with (go_at_call 68; refine (SS.out _).mono ?_; rintro e w9 ⟨rfl, rfl⟩)
            go_ret
            exact ⟨by simp; try omega, by repeat (first | (with_reducible exact Below.refl _ _) | ((with_reducible refine below_grow ?_ ?_); rotate_left; focus (first | omega | (simp [go_sem]; done) | (simp [go_sem]; omega))) | ((with_reducible refine Below.alloc ?_ ?_ _); rotate_left; focus (first | omega | (simp [go_sem]; done) | (simp [go_sem]; omega))) | ((with_reducible refine Below.setCell ?_ ?_ _); rotate_left; focus (first | omega | (simp [go_sem]; done) | (simp [go_sem]; omega))) | (with_reducible refine Below.drew ?_) | (with_reducible refine below_drewN _ ?_))⟩
          | false =>
            rw [hsd] at SS
            go_enter Tryd.func42, Tryd.ntmps42
            go_wp2_with (go_at_call 68; refine (SS.out _).mono ?_; rintro e w9 ⟨rfl, rfl⟩)
            go_ret
            exact ⟨by simp; try omega, by repeat (first | (with_reducible exact Below.refl _ _) | ((with_reducible refine below_grow ?_ ?_); rotate_left; focus (first | omega | (simp [go_sem]; done) | (simp [go_sem]; omega))) | ((with_reducible refine Below.alloc ?_ ?_ _); rotate_left; focus (first | omega | (simp [go_sem]; done) | (simp [go_sem]; omega))) | ((with_reducible refine Below.setCell ?_ ?_ _); rotate_left; focus (first | omega | (simp [go_sem]; done) | (simp [go_sem]; omega))) | (with_reducible refine Below.drew ?_) | (with_reducible refine below_drewN _ ?_))⟩
        · have r1' : ¬ (r : Int) = 1 := by omega
          go_enter Tryd.func42, Tryd.ntmps42
          go_wp2
          go_ret
          exact ⟨by simp [r1]; try omega, by repeat (first | (with_reducible exact Below.refl _ _) | ((with_reducible refine below_grow ?_ ?_); rotate_left; focus (first | omega | (simp [go_sem]; done) | (simp [go_sem]; omega))) | ((with_reducible refine Below.alloc ?_ ?_ _); rotate_left; focus (first | omega | (simp [go_sem]; done) | (simp [go_sem]; omega))) | ((with_reducible refine Below.setCell ?_ ?_ _); rotate_left; focus (first | omega | (simp [go_sem]; done) | (simp [go_sem]; omega))) | (with_reducible refine Below.drew ?_) | (with_reducible refine below_drewN _ ?_))⟩
      · have h2' : ¬ (c : Int) = 2 := by omega
        rw [if_neg h2]
        by_cases hlt : b < c
        · have hlt' : (b : Int) < c := by omega
          go_enter Tryd.func42, Tryd.ntmps42
          go_wp2
          go_ret
          exact ⟨by simp [hlt]; try omega, by repeat (first | (with_reducible exact Below.refl _ _) | ((with_reducible refine below_grow ?_ ?_); rotate_left; focus (first | omega | (simp [go_sem]; done) | (simp [go_sem]; omega))) | ((with_reducible refine Below.alloc ?_ ?_ _); rotate_left; focus (first | omega | (simp [go_sem]; done) | (simp [go_sem]; omega))) | ((with_reducible refine Below.setCell ?_ ?_ _); rotate_left; focus (first | omega | (simp [go_sem]; done) | (simp [go_sem]; omega))) | (with_reducible refine Below.drew ?_) | (with_reducible refine below_drewN _ ?_))⟩
        · have hlt' : ¬ (b : Int) < c := by omega
          go_enter Tryd.func42, Tryd.ntmps42
          go_wp2
          go_ret
          exact ⟨by simp [hlt]; try omega, by repeat (first | (with_reducible exact Below.refl _ _) | ((with_reducible refine below_grow ?_ ?_); rotate_left; focus (first | omega | (simp [go_sem]; done) | (simp [go_sem]; omega))) | ((with_reducible refine Below.alloc ?_ ?_ _); rotate_left; focus (first | omega | (simp [go_sem]; done) | (simp [go_sem]; omega))) | ((with_reducible refine Below.setCell ?_ ?_ _); rotate_left; focus (first | omega | (simp [go_sem]; done) | (simp [go_sem]; omega))) | (with_reducible refine Below.drew ?_) | (with_reducible refine below_drewN _ ?_))⟩
theorem refuses_calls (s : St) (hs : s.by) (c : Nat) (hc : c < 256) (w : World) : Calls Tryd.prog 71 #[stV s, .int .u8 c] w fun e w' => e = .returned (.int .i64 (s.ref c : Nat)) ∧ Below w.heap.size w w' := by
  have R := Lib.hid (right_calls c)
  have O := Lib.hid (over_calls s)
  have A := Lib.hid (allows_calls s hs c hc)
  unfold St.ref
  obtain ⟨b, x, r, t, p⟩ := s
  clear hs
  by_cases h : c < 38
  · rw [decide_eq_true h] at R
    rw [if_pos h]
    cases ho : St.over ⟨b, x, r, t, p⟩ with
    | true =>
      rw [ho] at O
      go_enter Tryd.func71, Tryd.ntmps71
      go_wp2_with (first | (go_at_call 70; refine (R.out _).mono ?_; rintro e w9 ⟨rfl, rfl⟩) | (go_at_call 46; refine (O.out _).mono ?_; rintro e w9 ⟨rfl, hbel⟩; obtain ⟨o1, j1, rfl⟩ := grow_of_below hbel; clear hbel))
      go_ret
      exact ⟨rfl, by repeat (first | (with_reducible exact Below.refl _ _) | ((with_reducible refine below_grow ?_ ?_); rotate_left; focus (first | omega | (simp [go_sem]; done) | (simp [go_sem]; omega))) | ((with_reducible refine Below.alloc ?_ ?_ _); rotate_left; focus (first | omega | (simp [go_sem]; done) | (simp [go_sem]; omega))) | ((with_reducible refine Below.setCell ?_ ?_ _); rotate_left; focus (first | omega | (simp [go_sem]; done) | (simp [go_sem]; omega))) | (with_reducible refine Below.drew ?_) | (with_reducible refine below_drewN _ ?_))⟩
    | false =>
      rw [ho] at O
      cases ha : St.alw ⟨b, x, r, t, p⟩ c with
      | true =>
        rw [ha] at A
        go_enter Tryd.func71, Tryd.ntmps71
        go_wp2_with (first | (go_at_call 70; refine (R.out _).mono ?_; rintro e w9 ⟨rfl, rfl⟩) | (go_at_call 46; refine (O.out _).mono ?_; rintro e w9 ⟨rfl, hbel⟩; obtain ⟨o1, j1, rfl⟩ := grow_of_below hbel; clear hbel) | (go_at_call 42; refine (A.out _).mono ?_; rintro e w9 ⟨rfl, hbel⟩; obtain ⟨o2, j2, rfl⟩ := grow_of_below hbel; clear hbel))
        go_ret
        exact ⟨rfl, by repeat (first | (with_reducible exact Below.refl _ _) | ((with_reducible refine below_grow ?_ ?_); rotate_left; focus (first | omega | (simp [go_sem]; done) | (simp [go_sem]; omega))) | ((with_reducible refine Below.alloc ?_ ?_ _); rotate_left; focus (first | omega | (simp [go_sem]; done) | (simp [go_sem]; omega))) | ((with_reducible refine Below.setCell ?_ ?_ _); rotate_left; focus (first | omega | (simp [go_sem]; done) | (simp [go_sem]; omega))) | (with_reducible refine Below.drew ?_) | (with_reducible refine below_drewN _ ?_))⟩
      | false =>
        rw [ha] at A
        go_enter Tryd.func71, Tryd.ntmps71
        go_wp2_with (first | (go_at_call 70; refine (R.out _).mono ?_; rintro e w9 ⟨rfl, rfl⟩) | (go_at_call 46; refine (O.out _).mono ?_; rintro e w9 ⟨rfl, hbel⟩; obtain ⟨o1, j1, rfl⟩ := grow_of_below hbel; clear hbel) | (go_at_call 42; refine (A.out _).mono ?_; rintro e w9 ⟨rfl, hbel⟩; obtain ⟨o2, j2, rfl⟩ := grow_of_below hbel; clear hbel))
        go_ret
        exact ⟨rfl, by repeat (first | (with_reducible exact Below.refl _ _) | ((with_reducible refine below_grow ?_ ?_); rotate_left; focus (first | omega | (simp [go_sem]; done) | (simp [go_sem]; omega))) | ((with_reducible refine Below.alloc ?_ ?_ _); rotate_left; focus (first | omega | (simp [go_sem]; done) | (simp [go_sem]; omega))) | ((with_reducible refine Below.setCell ?_ ?_ _); rotate_left; focus (first | omega | (simp [go_sem]; done) | (simp [go_sem]; omega))) | (with_reducible refine Below.drew ?_) | (with_reducible refine below_drewN _ ?_))⟩
  · rw [decide_eq_false h] at R
    rw [if_neg h]
    go_enter Tryd.func71, Tryd.ntmps71
    go_wp2_with (go_at_call 70; refine (R.out _).mono ?_; rintro e w9 ⟨rfl, rfl⟩)
    go_ret
    exact ⟨rfl, by repeat (first | (with_reducible exact Below.refl _ _) | ((with_reducible refine below_grow ?_ ?_); rotate_left; focus (first | omega | (simp [go_sem]; done) | (simp [go_sem]; omega))) | ((with_reducible refine Below.alloc ?_ ?_ _); rotate_left; focus (first | omega | (simp [go_sem]; done) | (simp [go_sem]; omega))) | ((with_reducible refine Below.setCell ?_ ?_ _); rotate_left; focus (first | omega | (simp [go_sem]; done) | (simp [go_sem]; omega))) | (with_reducible refine Below.drew ?_) | (with_reducible refine below_drewN _ ?_))⟩
end Go.Proofs.YtacgikhedhiaaaaDoor
