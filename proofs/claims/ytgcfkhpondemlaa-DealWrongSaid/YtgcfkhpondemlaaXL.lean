/- Random; Complete of a number below Ways. -/
import Derived.Test.YtgcfkhpondemlaaXI
namespace Go.Proofs.Ytgcfkhpondemlaa.Ca
open Go.RowKit
open Go.Proofs.DB (ct bt Pd lack)
open Go.Proofs.Ytgcfkhpondemlaa.Se (St digs vp fsN limV k120 numb)

theorem complete_yes (p : Nat → Nat) (n : Nat) (hp : Pd p) (hn : n < DB.ways bin p) (dz : Nat → Nat) (he : ∀ i, i < 4 → dz i = DB.complete bin p n i) (w : World) : Calls Try.prog 12 #[.agg #[.int .u64 (p 0 : Nat), .int .u64 (p 1 : Nat), .int .u64 (p 2 : Nat), .int .u64 (p 3 : Nat)], .agg #[.int .u32 (pt n 0), .int .u32 (pt n 1), .int .u32 (pt n 2), .int .u32 (pt n 3)]] w fun e w' =>
    e = .returned (.tuple #[.agg #[.int .u64 (dz 0 : Nat), .int .u64 (dz 1 : Nat), .int .u64 (dz 2 : Nat), .int .u64 (dz 3 : Nat)], .int .i64 0]) ∧ Below w.heap.size w w' :=
  (complete_all p n hp (by have := ways_le p; unfold isN; omega) dz (fun _ => he) w).mono fun e w' h => ⟨h.1 hn, h.2.2⟩
theorem complete_big (p : Nat → Nat) (n : Nat) (hp : Pd p) (hN : isN n) (hn : ¬ n < DB.ways bin p) (w : World) : Calls Try.prog 12 #[.agg #[.int .u64 (p 0 : Nat), .int .u64 (p 1 : Nat), .int .u64 (p 2 : Nat), .int .u64 (p 3 : Nat)], .agg #[.int .u32 (pt n 0), .int .u32 (pt n 1), .int .u32 (pt n 2), .int .u32 (pt n 3)]] w fun e w' =>
    e = .returned (.tuple #[.agg #[.int .u64 0, .int .u64 0, .int .u64 0, .int .u64 0], .int .i64 6]) ∧ Below w.heap.size w w' :=
  (complete_all p n hp hN (fun _ => 0) (fun h => absurd h hn) w).mono fun _e _w' h => ⟨h.2.1 hn, h.2.2⟩
/-- How many digits a number below a takes. -/
def dg (a : Nat) : Nat := if a ≤ vp 1 then 1 else if a ≤ vp 2 then 2 else if a ≤ vp 3 then 3 else 4
theorem digs_dg {a d : Nat} (h : digs a d) : d = dg a := by
  obtain ⟨h1, h2, h3, h4⟩ := h
  have a1 := h4 1 (by omega)
  have a2 := h4 2 (by omega)
  have a3 := h4 3 (by omega)
  have e : d = 1 ∨ d = 2 ∨ d = 3 ∨ d = 4 := by omega
  unfold dg
  rcases e with rfl | rfl | rfl | rfl
  · rw [if_pos h3]
  · have := a1 (by decide); rw [if_neg (by omega), if_pos h3]
  · have := a1 (by decide); have := a2 (by decide); rw [if_neg (by omega), if_neg (by omega), if_pos h3]
  · have := a1 (by decide); have := a2 (by decide); have := a3 (by decide); rw [if_neg (by omega), if_neg (by omega), if_neg (by omega)]
/-- The state behind a draw below a, and what is drawn. -/
def rS (s a : Nat) : Nat := (fsN (limV a (dg a)) (dg a) 100 s).1
def rV (s a : Nat) : Nat := (fsN (limV a (dg a)) (dg a) 100 s).2 % a
theorem dg_le (a : Nat) : dg a ≤ 4 := by unfold dg; split <;> (try split) <;> (try split) <;> decide
theorem rS_St {s : Nat} (h : St s) (a : Nat) : St (rS s a) := (Se.fsN_good (limV a (dg a)) (dg a) (dg_le a) 100 s h).1
theorem rV_lt (s : Nat) {a : Nat} (h : 0 < a) : rV s a < a := Nat.mod_lt _ h
theorem below_ways (p : Nat → Nat) (s : Nat) (hs : St s) (w : World) : Calls Try.prog 25 #[.int .i64 s, .agg #[.int .u32 (pt ((DB.ways bin p)) 0), .int .u32 (pt ((DB.ways bin p)) 1), .int .u32 (pt ((DB.ways bin p)) 2), .int .u32 (pt ((DB.ways bin p)) 3)]] w fun e w' => e = .returned (.tuple #[.int .i64 (rS s (DB.ways bin p)), .agg #[.int .u32 (pt ((rV s (DB.ways bin p))) 0), .int .u32 (pt ((rV s (DB.ways bin p))) 1), .int .u32 (pt ((rV s (DB.ways bin p))) 2), .int .u32 (pt ((rV s (DB.ways bin p))) 3)], .int .i64 0]) ∧ Below w.heap.size w w' := by
  have h1 := ways_le p
  have h2 := ways_pos p
  refine (Se.belowNat_yes s (DB.ways bin p) hs (by unfold isN; omega) (by omega) (by unfold k120; omega) w).mono ?_
  rintro e w' ⟨d, hd, rfl, hb⟩
  have := digs_dg hd
  subst this
  exact ⟨rfl, hb⟩
set_option maxRecDepth 100000 in
set_option maxHeartbeats 4000000 in
theorem random_yes (s : Nat) (p : Nat → Nat) (hs : St s) (hp : Pd p) (dz : Nat → Nat) (hz : ∀ i, i < 4 → dz i = DB.complete bin p (rV s (DB.ways bin p)) i) (w : World) :
    Calls Try.prog 23 #[.int .i64 s, .agg #[.int .u64 (p 0 : Nat), .int .u64 (p 1 : Nat), .int .u64 (p 2 : Nat), .int .u64 (p 3 : Nat)]] w fun e w' => e = .returned (.tuple #[.int .i64 (rS s (DB.ways bin p)), .agg #[.int .u64 (dz 0 : Nat), .int .u64 (dz 1 : Nat), .int .u64 (dz 2 : Nat), .int .u64 (dz 3 : Nat)], .int .i64 0]) ∧ Below w.heap.size w w' := by
  have R := Lib.hid (Se.right_yes s hs)
  have W := Lib.hid (ways_yes p hp)
  have B := Lib.hid (below_ways p s hs)
  have C := Lib.hid (complete_yes p _ hp (rV_lt s (ways_pos p)) dz hz)
  obtain ⟨m, hm⟩ : ∃ m, DB.ways bin p = m := ⟨_, rfl⟩
  rw [hm] at W B C ⊢
  obtain ⟨t, ht⟩ : ∃ t, rS s m = t := ⟨_, rfl⟩
  obtain ⟨v, hv⟩ : ∃ v, rV s m = v := ⟨_, rfl⟩
  rw [ht, hv] at B
  rw [hv] at C
  rw [ht]
  clear hm ht hv hz hp hs
  go_enter Try.func23, Try.ntmps23
  go_wp2_with (first | (go_at_call 24; refine (R.out _).mono ?_; rintro e w9 ⟨rfl, rfl⟩) | (go_at_call 10; refine (W.out _).mono ?_; rintro e w9 ⟨rfl, hbel⟩; obtain ⟨o1, j1, rfl⟩ := grow_of_below hbel; clear hbel) | (go_at_call 25; refine (B.out _).mono ?_; rintro e w9 ⟨rfl, hbel⟩; obtain ⟨o2, j2, rfl⟩ := grow_of_below hbel; clear hbel) | (go_at_call 12; refine (C.out _).mono ?_; rintro e w9 ⟨rfl, hbel⟩; obtain ⟨o3, j3, rfl⟩ := grow_of_below hbel; clear hbel))
  go_region
  all_goals go_wp2
  all_goals
    refine bodyPost_ret (by simp [results, Try.results23, go_sem]) rfl ⟨rfl, ?_⟩
    repeat (first | (with_reducible exact Below.refl _ _) | ((with_reducible refine below_grow ?_ ?_); rotate_left; focus (first | omega | (simp [go_sem]; done) | (simp [go_sem]; omega))) | ((with_reducible refine Below.alloc ?_ ?_ _); rotate_left; focus (first | omega | (simp [go_sem]; done) | (simp [go_sem]; omega))) | ((with_reducible refine Below.setCell ?_ ?_ _); rotate_left; focus (first | omega | (simp [go_sem]; done) | (simp [go_sem]; omega))) | (with_reducible refine Below.drew ?_) | (with_reducible refine below_drewN _ ?_))
theorem random_state (s : Int) (p : Nat → Nat) (hs : ¬ (1 ≤ s ∧ s ≤ 2147483646)) (w : World) :
    Calls Try.prog 23 #[.int .i64 s, .agg #[.int .u64 (p 0 : Nat), .int .u64 (p 1 : Nat), .int .u64 (p 2 : Nat), .int .u64 (p 3 : Nat)]] w fun e w' => e = .returned (.tuple #[.int .i64 0, .agg #[.int .u64 0, .int .u64 0, .int .u64 0, .int .u64 0], .int .i64 2]) ∧ Below w.heap.size w w' := by
  have R := Lib.hid (Se.right_no s hs)
  clear hs
  go_enter Try.func23, Try.ntmps23
  go_wp2_with (go_at_call 24; refine (R.out _).mono ?_; rintro e w9 ⟨rfl, rfl⟩)
  refine bodyPost_ret (by simp [results, Try.results23, go_sem]) rfl ⟨rfl, ?_⟩
  repeat (first | (with_reducible exact Below.refl _ _) | ((with_reducible refine below_grow ?_ ?_); rotate_left; focus (first | omega | (simp [go_sem]; done) | (simp [go_sem]; omega))) | ((with_reducible refine Below.alloc ?_ ?_ _); rotate_left; focus (first | omega | (simp [go_sem]; done) | (simp [go_sem]; omega))) | ((with_reducible refine Below.setCell ?_ ?_ _); rotate_left; focus (first | omega | (simp [go_sem]; done) | (simp [go_sem]; omega))) | (with_reducible refine Below.drew ?_) | (with_reducible refine below_drewN _ ?_))
theorem random_no (s : Nat) (p : Nat → Nat) (hs : St s) (h64 : ∀ i, i < 4 → p i < 18446744073709551616) (hp : ¬ Pd p) (w : World) :
    Calls Try.prog 23 #[.int .i64 s, .agg #[.int .u64 (p 0 : Nat), .int .u64 (p 1 : Nat), .int .u64 (p 2 : Nat), .int .u64 (p 3 : Nat)]] w fun e w' => e = .returned (.tuple #[.int .i64 0, .agg #[.int .u64 0, .int .u64 0, .int .u64 0, .int .u64 0], .int .i64 60]) ∧ Below w.heap.size w w' := by
  have R := Lib.hid (Se.right_yes s hs)
  have W := Lib.hid (ways_no p h64 hp)
  clear hs hp h64
  go_enter Try.func23, Try.ntmps23
  go_wp2_with (first | (go_at_call 24; refine (R.out _).mono ?_; rintro e w9 ⟨rfl, rfl⟩) | (go_at_call 10; refine (W.out _).mono ?_; rintro e w9 ⟨rfl, hbel⟩; obtain ⟨o1, j1, rfl⟩ := grow_of_below hbel; clear hbel))
  refine bodyPost_ret (by simp [results, Try.results23, go_sem]) rfl ⟨rfl, ?_⟩
  repeat (first | (with_reducible exact Below.refl _ _) | ((with_reducible refine below_grow ?_ ?_); rotate_left; focus (first | omega | (simp [go_sem]; done) | (simp [go_sem]; omega))) | ((with_reducible refine Below.alloc ?_ ?_ _); rotate_left; focus (first | omega | (simp [go_sem]; done) | (simp [go_sem]; omega))) | ((with_reducible refine Below.setCell ?_ ?_ _); rotate_left; focus (first | omega | (simp [go_sem]; done) | (simp [go_sem]; omega))) | (with_reducible refine Below.drew ?_) | (with_reducible refine below_drewN _ ?_))
end Go.Proofs.Ytgcfkhpondemlaa.Ca
