/- Below. -/
import Derived.Test.YtcgecgagecobeaaSD
namespace Go.Proofs.Ytcgecgagecobeaa
open Go.RowKit Go.Shelf

/-- The state of the first value that is less than L; after k that are not, of the next one. -/
def fsm (L : Nat) : Nat → Nat → Nat
  | 0, s => nxt s
  | k + 1, s => if nxt s - 1 < L then nxt s else fsm L k (nxt s)
theorem fsm_St (L : Nat) : ∀ (k s : Nat), St s → St (fsm L k s)
  | 0, _, h => nxt_St h
  | k + 1, s, h => by
    unfold fsm
    split
    · exact nxt_St h
    · exact fsm_St L k _ (nxt_St h)
theorem below1_calls (v : Int) (L b : Nat) (w : World) (hc : w.cell? ⟨b, 0, none⟩ = some (.int .i64 L)) :
    Calls Try.prog 41 #[.int .i64 v, .pointer (some ⟨b, 0, none⟩)] w fun e w' => e = .returned (.bool (decide (v < L))) ∧ w = w' := by
  go_enter Try.func41, Try.ntmps41
  go_wp2
  go_ret
  exact ⟨rfl, rfl⟩
set_option maxRecDepth 100000 in
set_option maxHeartbeats 4000000 in
theorem first_calls (s : Nat) (hs : St s) (L b : Nat) (w : World) (hc : w.cell? ⟨b, 0, none⟩ = some (.int .i64 L)) (hb : b < w.heap.size) :
    Calls Try.prog 40 #[.int .i64 s, .func (.func 39) #[] #[], .func (.func 41) #[] #[.pointer (some ⟨b, 0, none⟩)]] w fun e w' => e = .returned (.tuple #[.int .i64 (fsm L 100 s), .int .i64 ((fsm L 100 s - 1 : Nat) : Int)]) ∧ Below w.heap.size w w' := by
  obtain ⟨T, hT⟩ : ∃ T, fsm L 100 s = T := ⟨_, rfl⟩
  rw [hT]
  go_enter Try.func40, Try.ntmps40
  go_wp2
  go_loopw [9, 0] (fun s9 s0 wr => ∃ i t : Nat, s9 = .int .i64 i ∧ s0 = .int .i64 t ∧ i ≤ 100 ∧ St t ∧ fsm L (100 - i) t = T ∧ Below w.heap.size w wr) (fun s9 _ _ => 100 - (intOf s9).toNat)
  case atStart => exact ⟨0, s, rfl, rfl, by decide, hs, hT, by repeat (first | (with_reducible exact Below.refl _ _) | ((with_reducible refine below_grow ?_ ?_); rotate_left; focus (first | omega | (simp [go_sem]; done) | (simp [go_sem]; omega))) | ((with_reducible refine Below.alloc ?_ ?_ _); rotate_left; focus (first | omega | (simp [go_sem]; done) | (simp [go_sem]; omega))) | ((with_reducible refine Below.setCell ?_ ?_ _); rotate_left; focus (first | omega | (simp [go_sem]; done) | (simp [go_sem]; omega))) | (with_reducible refine Below.drew ?_) | (with_reducible refine below_drewN _ ?_))⟩
  case round =>
    obtain ⟨i, t, rfl, rfl, hi, ht, hTt, hbw⟩ := hrel
    have R := Lib.hid (step_calls t ht)
    have hcr : wr.cell? ⟨b, 0, none⟩ = some (.int .i64 L) := (hbw.cell (p := ⟨b, 0, none⟩) hb).trans hc
    have hbs := hbw.size
    have iB : NeZero (inW b wr) := inW_mk (by omega)
    by_cases hlt : i < 100
    · have h1 : (i : Int) < 100 := by omega
      obtain ⟨k, hk⟩ : ∃ k, 100 - i = k + 1 := ⟨99 - i, by omega⟩
      rw [hk] at hTt
      by_cases hv : nxt t - 1 < L
      · have hT2 : nxt t = T := by rw [← hTt]; exact (if_pos hv).symm
        have hv2 : decide (((nxt t - 1 : Nat) : Int) < L) = true := decide_eq_true (by omega)
        rw [hT2] at R hv2
        go_wp2_with (first | (go_at_call 39; refine (R.out _).mono ?_; rintro e w1 ⟨rfl, hbel⟩; obtain ⟨o1, j1, rfl⟩ := grow_of_below hbel; clear hbel) | (go_at_call 41; refine (below1_calls _ L _ _ (by simp [go_sem, hcr])).mono ?_; rintro e w2 ⟨rfl, rfl⟩))
        refine bodyPost_ret (by simp [results, Try.results40, go_sem]) rfl ⟨rfl, ?_⟩
        repeat (first | (with_reducible exact hbw) | ((with_reducible refine below_grow ?_ ?_); rotate_left; focus (first | omega | (simp [go_sem]; done) | (simp [go_sem]; omega))) | ((with_reducible refine Below.alloc ?_ ?_ _); rotate_left; focus (first | omega | (simp [go_sem]; done) | (simp [go_sem]; omega))) | ((with_reducible refine Below.setCell ?_ ?_ _); rotate_left; focus (first | omega | (simp [go_sem]; done) | (simp [go_sem]; omega))) | (with_reducible refine Below.drew ?_) | (with_reducible refine below_drewN _ ?_))
      · have hT2 : fsm L k (nxt t) = T := by rw [← hTt]; exact (if_neg hv).symm
        have hv2 : decide (((nxt t - 1 : Nat) : Int) < L) = false := decide_eq_false (by omega)
        go_wp2_with (first | (go_at_call 39; refine (R.out _).mono ?_; rintro e w1 ⟨rfl, hbel⟩; obtain ⟨o1, j1, rfl⟩ := grow_of_below hbel; clear hbel) | (go_at_call 41; refine (below1_calls _ L _ _ (by simp [go_sem, hcr])).mono ?_; rintro e w2 ⟨rfl, rfl⟩))
        go_roundw
        case rel => exact ⟨i + 1, nxt t, by go_num, rfl, by omega, nxt_St ht, by rw [show 100 - (i + 1) = k from by omega]; exact hT2, by repeat (first | (with_reducible exact hbw) | ((with_reducible refine below_grow ?_ ?_); rotate_left; focus (first | omega | (simp [go_sem]; done) | (simp [go_sem]; omega))) | ((with_reducible refine Below.alloc ?_ ?_ _); rotate_left; focus (first | omega | (simp [go_sem]; done) | (simp [go_sem]; omega))) | ((with_reducible refine Below.setCell ?_ ?_ _); rotate_left; focus (first | omega | (simp [go_sem]; done) | (simp [go_sem]; omega))) | (with_reducible refine Below.drew ?_) | (with_reducible refine below_drewN _ ?_))⟩
        case measure => simp [intOf]; omega
    · obtain rfl : i = 100 := by omega
      have hT2 : nxt t = T := hTt
      rw [hT2] at R
      go_wp2_with (first | (go_at_call 39; refine (R.out _).mono ?_; rintro e w1 ⟨rfl, hbel⟩; obtain ⟨o1, j1, rfl⟩ := grow_of_below hbel; clear hbel))
      refine bodyPost_ret (by simp [results, Try.results40, go_sem]) rfl ⟨rfl, ?_⟩
      repeat (first | (with_reducible exact hbw) | ((with_reducible refine below_grow ?_ ?_); rotate_left; focus (first | omega | (simp [go_sem]; done) | (simp [go_sem]; omega))) | ((with_reducible refine Below.alloc ?_ ?_ _); rotate_left; focus (first | omega | (simp [go_sem]; done) | (simp [go_sem]; omega))) | ((with_reducible refine Below.setCell ?_ ?_ _); rotate_left; focus (first | omega | (simp [go_sem]; done) | (simp [go_sem]; omega))) | (with_reducible refine Below.drew ?_) | (with_reducible refine below_drewN _ ?_))
/-- The greatest multiple of n up to Values. -/
def limN (n : Nat) : Nat := 2147483646 - 2147483646 % n
theorem lim_num (n : Nat) (h1 : 1 ≤ n) (h2 : n ≤ 2147483646) : (2147483646 : Int).tmod n = ((2147483646 % n : Nat) : Int) ∧ IntKind.i64.wrap (2147483646 - ((2147483646 % n : Nat) : Int)) = (limN n : Int) := by
  have hl : 2147483646 % n < n := Nat.mod_lt _ (by omega)
  refine ⟨?_, ?_⟩
  · rw [Int.tmod_eq_emod_of_nonneg (by omega)]
    rfl
  · rw [IntWalk.i64_in _ (by omega)]
    unfold limN
    omega
/-- What is drawn below n: the state after it. -/
def blwS (s n : Nat) : Nat := fsm (limN n) 100 s
theorem blwS_St {s : Nat} (h : St s) (n : Nat) : St (blwS s n) := fsm_St _ _ _ h
set_option maxRecDepth 100000 in
theorem below_yes (s n : Nat) (hs : St s) (h1 : 1 ≤ n) (h2 : n ≤ 2147483646) (w : World) :
    Calls Try.prog 18 #[.int .i64 s, .int .i64 n] w fun e w' => e = .returned (.tuple #[.int .i64 (blwS s n), .int .i64 (((blwS s n - 1) % n : Nat) : Int), .int .i64 0]) ∧ Below w.heap.size w w' := by
  obtain ⟨e0, e1⟩ := lim_num n h1 h2
  have R1 := Lib.hid (right_yes s hs)
  unfold blwS
  obtain ⟨r, hr⟩ : ∃ r, 2147483646 % n = r := ⟨_, rfl⟩
  obtain ⟨L, hL⟩ : ∃ L, limN n = L := ⟨_, rfl⟩
  have R2 := Lib.hid (first_calls s hs L)
  rw [hL, hr] at e1
  rw [hr] at e0
  rw [hL]
  obtain ⟨m, hm⟩ : ∃ m, fsm L 100 s - 1 = m := ⟨_, rfl⟩
  rw [hm] at R2 ⊢
  obtain ⟨q, hq⟩ : ∃ q, m % n = q := ⟨_, rfl⟩
  have e2 : (m : Int).tmod n = (q : Int) := by
    rw [Int.tmod_eq_emod_of_nonneg (by omega), ← hq]
    rfl
  rw [hq]
  clear hm hL hr hq
  have b1 : (1 : Int) ≤ n := by omega
  have b2 : (n : Int) ≤ 2147483646 := by omega
  have b3 : ¬ (n : Int) = 0 := by omega
  go_enter Try.func18, Try.ntmps18
  go_wp2_with (first | (go_at_call 16; refine (R1.out _).mono ?_; rintro e w1 ⟨rfl, rfl⟩) | (go_at_call 40; refine (R2.out _ _ (by simp [go_sem]) (by simp [go_sem])).mono ?_; rintro e w2 ⟨rfl, hbel⟩; obtain ⟨o2, j2, rfl⟩ := grow_of_below hbel; clear hbel))
  go_region
  go_wp2
  refine bodyPost_ret (by simp [results, Try.results18, go_sem]) rfl ⟨rfl, ?_⟩
  repeat (first | (with_reducible exact Below.refl _ _) | ((with_reducible refine below_grow ?_ ?_); rotate_left; focus (first | omega | (simp [go_sem]; done) | (simp [go_sem]; omega))) | ((with_reducible refine Below.alloc ?_ ?_ _); rotate_left; focus (first | omega | (simp [go_sem]; done) | (simp [go_sem]; omega))) | ((with_reducible refine Below.setCell ?_ ?_ _); rotate_left; focus (first | omega | (simp [go_sem]; done) | (simp [go_sem]; omega))) | (with_reducible refine Below.drew ?_) | (with_reducible refine below_drewN _ ?_))
theorem below_no (s n : Int) (h : ¬ (1 ≤ s ∧ s ≤ 2147483646) ∨ n < 1 ∨ 2147483646 < n) (w : World) :
    Calls Try.prog 18 #[.int .i64 s, .int .i64 n] w fun e w' => e = .returned (.tuple #[.int .i64 0, .int .i64 0, .int .i64 2]) ∧ Below w.heap.size w w' := by
  by_cases h0 : 1 ≤ s ∧ s ≤ 2147483646
  · have R1 := Lib.hid (right_calls s)
    rw [decide_eq_true h0] at R1
    by_cases h1 : n < 1
    · clear h
      go_enter Try.func18, Try.ntmps18
      go_wp2_with (first | (go_at_call 16; refine (R1.out _).mono ?_; rintro e w1 ⟨rfl, rfl⟩))
      refine bodyPost_ret (by simp [results, Try.results18, go_sem]) rfl ⟨rfl, ?_⟩
      repeat (first | (with_reducible exact Below.refl _ _) | ((with_reducible refine below_grow ?_ ?_); rotate_left; focus (first | omega | (simp [go_sem]; done) | (simp [go_sem]; omega))) | ((with_reducible refine Below.alloc ?_ ?_ _); rotate_left; focus (first | omega | (simp [go_sem]; done) | (simp [go_sem]; omega))) | ((with_reducible refine Below.setCell ?_ ?_ _); rotate_left; focus (first | omega | (simp [go_sem]; done) | (simp [go_sem]; omega))) | (with_reducible refine Below.drew ?_) | (with_reducible refine below_drewN _ ?_))
    · have h2 : 2147483646 < n := by omega
      clear h
      go_enter Try.func18, Try.ntmps18
      go_wp2_with (first | (go_at_call 16; refine (R1.out _).mono ?_; rintro e w1 ⟨rfl, rfl⟩))
      refine bodyPost_ret (by simp [results, Try.results18, go_sem]) rfl ⟨rfl, ?_⟩
      repeat (first | (with_reducible exact Below.refl _ _) | ((with_reducible refine below_grow ?_ ?_); rotate_left; focus (first | omega | (simp [go_sem]; done) | (simp [go_sem]; omega))) | ((with_reducible refine Below.alloc ?_ ?_ _); rotate_left; focus (first | omega | (simp [go_sem]; done) | (simp [go_sem]; omega))) | ((with_reducible refine Below.setCell ?_ ?_ _); rotate_left; focus (first | omega | (simp [go_sem]; done) | (simp [go_sem]; omega))) | (with_reducible refine Below.drew ?_) | (with_reducible refine below_drewN _ ?_))
  · have R1 := Lib.hid (right_no s h0)
    clear h
    go_enter Try.func18, Try.ntmps18
    go_wp2_with (first | (go_at_call 16; refine (R1.out _).mono ?_; rintro e w1 ⟨rfl, rfl⟩))
    refine bodyPost_ret (by simp [results, Try.results18, go_sem]) rfl ⟨rfl, ?_⟩
    repeat (first | (with_reducible exact Below.refl _ _) | ((with_reducible refine below_grow ?_ ?_); rotate_left; focus (first | omega | (simp [go_sem]; done) | (simp [go_sem]; omega))) | ((with_reducible refine Below.alloc ?_ ?_ _); rotate_left; focus (first | omega | (simp [go_sem]; done) | (simp [go_sem]; omega))) | ((with_reducible refine Below.setCell ?_ ?_ _); rotate_left; focus (first | omega | (simp [go_sem]; done) | (simp [go_sem]; omega))) | (with_reducible refine Below.drew ?_) | (with_reducible refine below_drewN _ ?_))
end Go.Proofs.Ytcgecgagecobeaa
