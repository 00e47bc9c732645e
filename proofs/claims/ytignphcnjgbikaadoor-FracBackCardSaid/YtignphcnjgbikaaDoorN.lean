/- frac.Near; decimal where what comes up on the way is below 2^64. -/
import Derived.Test.YtignphcnjgbikaaDoorL
namespace Go.Proofs.YtignphcnjgbikaaDoor
open Go.RowKit Go.Shelf

theorem whole_callsN (b : Bool) (n d q r : Nat) (hq : Hid (n / d = q)) (hr : Hid (n % d = r)) (hn : n < 18446744073709551616) (hd : 0 < d) (hd2 : d < 18446744073709551616) (w : World) :
    Calls Tryd.prog 44 #[.agg #[.bool b, .int .u64 n, .int .u64 d]] w fun e w' => e = .returned (.tuple #[.int .u64 q, .int .u64 r]) ∧ Below w.heap.size w w' := by
  have h1 := hq.out; have h2 := hr.out
  subst h1 h2
  exact (whole_calls b n d hn hd hd2 w).mono fun e w' h => by simpa using h
theorem over_smallN (lo n q r : Nat) (hq : Hid (lo / n = q)) (hr : Hid (lo % n = r)) (hl : lo < 18446744073709551616) (hn0 : 0 < n) (hn : n < 18446744073709551616) (w : World) :
    Calls Tryd.prog 63 #[.agg #[.int .u64 0, .int .u64 lo], .int .u64 n] w fun e w' => e = .returned (.tuple #[.agg #[.int .u64 0, .int .u64 q], .int .u64 r]) ∧ Below w.heap.size w w' := by
  have h1 := hq.out; have h2 := hr.out
  subst h1 h2
  exact (over_small lo n (by omega) (by omega) (by omega) (by omega) w).mono fun e w' h => by simpa using h

set_option maxHeartbeats 1000000 in
theorem decimal_small (b : Bool) (n d u : Nat) (hn : n < 18446744073709551616) (hd : 0 < d) (hd2 : d < 18446744073709551616) (hu : 0 < u) (hu2 : u ≤ 1000000000) (hp2 : n % d * u < 18446744073709551616) (w : World) :
    Calls Tryd.prog 48 #[.agg #[.bool b, .int .u64 n, .int .u64 d], .int .u64 u] w fun e w' => e = .returned (.tuple #[.int .u64 ((roundN n u d / u : Nat) : Int), .int .u64 ((roundN n u d % u : Nat) : Int)]) ∧ Below w.heap.size w w' := by
  obtain ⟨k1, k2⟩ := decimal_parts n u d hd hu
  rw [← k1, ← k2]
  clear k1 k2
  have hP : n % d * u / d < u := by
    rw [Nat.div_lt_iff_lt_mul hd, Nat.mul_comm u d]
    exact Nat.mul_lt_mul_of_pos_right (Nat.mod_lt _ hd) hu
  have hC : n % d * u % d < d := Nat.mod_lt _ hd
  have hR : n % d < d := Nat.mod_lt _ hd
  have hQ : n / d ≤ n := Nat.div_le_self n d
  have hQ2 : n / d + 1 < 18446744073709551616 ∨ n % d = 0 := by
    by_cases h : d = 1
    · right; subst h; omega
    · left
      have : n / d ≤ n / 2 := Nat.div_le_div_left (by omega) (by decide)
      omega
  obtain ⟨q, eq⟩ : ∃ q, n / d = q := ⟨_, rfl⟩
  obtain ⟨r, er⟩ : ∃ r, n % d = r := ⟨_, rfl⟩
  rw [er] at hP hC hp2 hR hQ2 ⊢
  rw [eq] at hQ hQ2 ⊢
  obtain ⟨p, ep⟩ : ∃ p, r * u = p := ⟨_, rfl⟩
  have hrp : r = 0 → p = 0 := fun h => by rw [← ep, h, Nat.zero_mul]
  rw [ep] at hP hC hp2 ⊢
  obtain ⟨P, eP⟩ : ∃ P, p / d = P := ⟨_, rfl⟩
  obtain ⟨C, eC⟩ : ∃ C, p % d = C := ⟨_, rfl⟩
  have hrC : p = 0 → C = 0 := fun h => by rw [← eC, h, Nat.zero_mod]
  rw [eP] at hP ⊢
  rw [eC] at hC ⊢
  have Hq := Lib.hid eq; have Hr := Lib.hid er; have HP := Lib.hid eP; have HC := Lib.hid eC
  have Hp : Hid ((r : Int) * (u : Int) = (p : Int)) := Lib.hid (by rw [← ep]; simp)
  clear eq er ep eP eC
  have hpI : (p : Int) < 18446744073709551616 := by omega
  by_cases hup : d - C ≤ C
  · have HU : Hid (decide ((d : Int) - (C : Int) ≤ (C : Int)) = true) := Lib.hid (by simp; omega)
    have hq1 : q + 1 < 18446744073709551616 := by
      rcases hQ2 with h | h
      · exact h
      · have := hrC (hrp h); omega
    rw [if_pos hup]
    clear hQ2 hrp hrC hQ
    by_cases hPu : P + 1 = u
    · rw [if_pos hPu, if_pos hPu]
      subst hPu
      go_enter Tryd.func48, Tryd.ntmps48
      go_wp2_with (go_at_call 44; refine (whole_callsN b n d q r Hq Hr hn hd hd2 _).mono ?_; rintro e w1 ⟨rfl, hb⟩; obtain ⟨o1, j1, rfl⟩ := grow_of_below hb; clear hb)
      go_region_held3 (fun w' => w'.cell? ⟨w.heap.size, 2, none⟩ = some (.int .u64 d)) (simp [*, go_sem])
        (first
          | (go_at_call 59; refine (product_small _ _ p Hp (by omega) (by omega) (by omega) (by omega) (by omega) hpI _).mono ?_; rintro e w2 ⟨rfl, hb⟩; obtain ⟨o2, j2, rfl⟩ := grow_of_below hb; clear hb)
          | (go_at_call 63; refine (over_smallN p d P C HP HC hp2 hd hd2 _).mono ?_; rintro e w3 ⟨rfl, hb⟩; obtain ⟨o3, j3, rfl⟩ := grow_of_below hb; clear hb))
      all_goals
        go_wp2_with (go_at_call 45; refine (up_callsB b true n d C HU (by omega) (by omega) (by omega) (by omega) _).mono ?_; rintro e w4 ⟨rfl, hb⟩; obtain ⟨o4, j4, rfl⟩ := grow_of_below hb; clear hb)
        go_ret2
        exact ⟨by simp, by repeat (first | exact Below.refl _ _ | refine Below.setCell ?_ (by first | omega | (simp [go_sem]; done) | (simp [go_sem]; omega)) _ | refine Below.alloc ?_ (by first | omega | (simp [go_sem]; done) | (simp [go_sem]; omega)) _ | refine Below.drew ?_ | refine below_drewN _ ?_ | refine below_grow ?_ (by first | omega | (simp [go_sem]; done) | (simp [go_sem]; omega)))⟩
    · rw [if_neg hPu, if_neg hPu]
      have hne : ((P : Int) + 1 == (u : Int)) = false := by rw [beq_eq_false_iff_ne]; omega
      go_enter Tryd.func48, Tryd.ntmps48
      go_wp2_with (go_at_call 44; refine (whole_callsN b n d q r Hq Hr hn hd hd2 _).mono ?_; rintro e w1 ⟨rfl, hb⟩; obtain ⟨o1, j1, rfl⟩ := grow_of_below hb; clear hb)
      go_region_held3 (fun w' => w'.cell? ⟨w.heap.size, 2, none⟩ = some (.int .u64 d)) (simp [*, go_sem])
        (first
          | (go_at_call 59; refine (product_small _ _ p Hp (by omega) (by omega) (by omega) (by omega) (by omega) hpI _).mono ?_; rintro e w2 ⟨rfl, hb⟩; obtain ⟨o2, j2, rfl⟩ := grow_of_below hb; clear hb)
          | (go_at_call 63; refine (over_smallN p d P C HP HC hp2 hd hd2 _).mono ?_; rintro e w3 ⟨rfl, hb⟩; obtain ⟨o3, j3, rfl⟩ := grow_of_below hb; clear hb))
      all_goals
        go_wp2_with (go_at_call 45; refine (up_callsB b true n d C HU (by omega) (by omega) (by omega) (by omega) _).mono ?_; rintro e w4 ⟨rfl, hb⟩; obtain ⟨o4, j4, rfl⟩ := grow_of_below hb; clear hb)
        go_ret2
        exact ⟨by simp, by repeat (first | exact Below.refl _ _ | refine Below.setCell ?_ (by first | omega | (simp [go_sem]; done) | (simp [go_sem]; omega)) _ | refine Below.alloc ?_ (by first | omega | (simp [go_sem]; done) | (simp [go_sem]; omega)) _ | refine Below.drew ?_ | refine below_drewN _ ?_ | refine below_grow ?_ (by first | omega | (simp [go_sem]; done) | (simp [go_sem]; omega)))⟩
  · have HU : Hid (decide ((d : Int) - (C : Int) ≤ (C : Int)) = false) := Lib.hid (by simp; omega)
    rw [if_neg hup, Nat.add_zero]
    have hPu : ¬ P = u := by omega
    rw [if_neg hPu, if_neg hPu]
    have hne : ((P : Int) == (u : Int)) = false := by rw [beq_eq_false_iff_ne]; omega
    go_enter Tryd.func48, Tryd.ntmps48
    go_wp2_with (go_at_call 44; refine (whole_callsN b n d q r Hq Hr hn hd hd2 _).mono ?_; rintro e w1 ⟨rfl, hb⟩; obtain ⟨o1, j1, rfl⟩ := grow_of_below hb; clear hb)
    go_region_held3 (fun w' => w'.cell? ⟨w.heap.size, 2, none⟩ = some (.int .u64 d)) (simp [*, go_sem])
      (first
        | (go_at_call 59; refine (product_small _ _ p Hp (by omega) (by omega) (by omega) (by omega) (by omega) hpI _).mono ?_; rintro e w2 ⟨rfl, hb⟩; obtain ⟨o2, j2, rfl⟩ := grow_of_below hb; clear hb)
        | (go_at_call 63; refine (over_smallN p d P C HP HC hp2 hd hd2 _).mono ?_; rintro e w3 ⟨rfl, hb⟩; obtain ⟨o3, j3, rfl⟩ := grow_of_below hb; clear hb))
    all_goals
      go_wp2_with (go_at_call 45; refine (up_callsB b false n d C HU (by omega) (by omega) (by omega) (by omega) _).mono ?_; rintro e w4 ⟨rfl, hb⟩; obtain ⟨o4, j4, rfl⟩ := grow_of_below hb; clear hb)
      go_ret2
      exact ⟨by simp, by repeat (first | exact Below.refl _ _ | refine Below.setCell ?_ (by first | omega | (simp [go_sem]; done) | (simp [go_sem]; omega)) _ | refine Below.alloc ?_ (by first | omega | (simp [go_sem]; done) | (simp [go_sem]; omega)) _ | refine Below.drew ?_ | refine below_drewN _ ?_ | refine below_grow ?_ (by first | omega | (simp [go_sem]; done) | (simp [go_sem]; omega)))⟩

/-- the integer next to r -/
def nearR (r : Rat) : Int := if r.num < 0 then -(roundN r.num.natAbs 1 r.den : Int) else roundN r.num.natAbs 1 r.den

set_option maxHeartbeats 1000000 in
theorem near_calls (r : Rat) (hr : fitsR r) (w : World) :
    Calls Tryd.prog 23 #[.agg #[.int .i64 r.num, .int .i64 r.den]] w fun e w' => e = .returned (.tuple #[.int .i64 (nearR r), .int .i64 0]) ∧ Below w.heap.size w w' := by
  obtain ⟨a1, a2, a3, a4⟩ := fits64 hr
  have hR := Lib.hid (right_rat r)
  have hd := r.den_pos
  have hrp := round_parts r.num.natAbs 1 r.den hd
  rw [Nat.mul_one, Nat.mul_one, Nat.div_eq_of_lt (Nat.mod_lt _ hd), Nat.add_zero, Nat.mod_mod] at hrp
  unfold nearR
  rw [hrp]
  clear hrp
  have hQ : r.num.natAbs / r.den ≤ r.num.natAbs := Nat.div_le_self _ _
  have hM : r.num.natAbs % r.den < r.den := Nat.mod_lt _ hd
  have hQ2 : r.num.natAbs / r.den ≤ 4611686018427387904 ∨ r.num.natAbs % r.den = 0 := by
    by_cases h : r.den = 1
    · right; rw [h]; omega
    · left
      have : r.num.natAbs / r.den ≤ r.num.natAbs / 2 := Nat.div_le_div_left (by omega) (by decide)
      omega
  have en : ((r.den : Int).natAbs : Int) = r.den := by omega
  obtain ⟨q, eq⟩ : ∃ q, r.num.natAbs / r.den = q := ⟨_, rfl⟩
  obtain ⟨C, eC⟩ : ∃ C, r.num.natAbs % r.den = C := ⟨_, rfl⟩
  rw [eq] at hQ hQ2 ⊢
  rw [eC] at hM hQ2 ⊢
  have Hq := Lib.hid eq; have HC := Lib.hid eC
  clear eq eC
  have b1 := a1.1; have b2 := a1.2
  have hn1 : r.num.natAbs < 18446744073709551616 := by omega
  have hd1 : r.den < 18446744073709551616 := by omega
  by_cases hup : r.den - C ≤ C
  · have HU : Hid (decide ((r.den : Int) - (C : Int) ≤ (C : Int)) = true) := Lib.hid (by simp; omega)
    rw [if_pos hup]
    have hq1 : q ≤ 4611686018427387904 := by rcases hQ2 with h | h <;> omega
    clear hQ2
    by_cases hneg : r.num < 0
    · rw [if_pos hneg]
      go_enter Tryd.func23, Tryd.ntmps23
      go_wp2_with (first
        | (go_at_call 20; refine (right_callsB _ _ true hR a1 a2 _).mono ?_; rintro e w1 ⟨rfl, hb⟩; obtain ⟨o1, j1, rfl⟩ := grow_of_below hb; clear hb)
        | (go_at_call 35; refine (split_calls r.num r.den _ a1.1 a1.2 a2.1 a2.2).mono ?_; rintro e w2 ⟨rfl, hb⟩; obtain ⟨o2, j2, rfl⟩ := grow_of_below hb; clear hb)
        | (go_at_call 44; refine (whole_callsN _ _ _ q C Hq HC hn1 hd hd1 _).mono ?_; rintro e w1 ⟨rfl, hb⟩; obtain ⟨o3, j3, rfl⟩ := grow_of_below hb; clear hb)
        | (go_at_call 45; refine (up_callsB _ true _ _ C HU (by omega) (by omega) (by omega) (by omega) _).mono ?_; rintro e w4 ⟨rfl, hb⟩; obtain ⟨o4, j4, rfl⟩ := grow_of_below hb; clear hb)
        | (go_at_call 46; refine (signed_neg _ _ (by omega) (by omega)).mono ?_; rintro e w' ⟨rfl, rfl⟩))
      go_ret2
      exact ⟨by simp, by repeat (first | exact Below.refl _ _ | refine Below.setCell ?_ (by first | omega | (simp [go_sem]; done) | (simp [go_sem]; omega)) _ | refine Below.alloc ?_ (by first | omega | (simp [go_sem]; done) | (simp [go_sem]; omega)) _ | refine Below.drew ?_ | refine below_drewN _ ?_ | refine below_grow ?_ (by first | omega | (simp [go_sem]; done) | (simp [go_sem]; omega)))⟩
    · rw [if_neg hneg]
      have hnb : decide (r.num < 0) = false := by simpa using hneg
      go_enter Tryd.func23, Tryd.ntmps23
      go_wp2_with (first
        | (go_at_call 20; refine (right_callsB _ _ true hR a1 a2 _).mono ?_; rintro e w1 ⟨rfl, hb⟩; obtain ⟨o1, j1, rfl⟩ := grow_of_below hb; clear hb)
        | (go_at_call 35; refine (split_calls r.num r.den _ a1.1 a1.2 a2.1 a2.2).mono ?_; rintro e w2 ⟨rfl, hb⟩; obtain ⟨o2, j2, rfl⟩ := grow_of_below hb; clear hb)
        | (go_at_call 44; refine (whole_callsN _ _ _ q C Hq HC hn1 hd hd1 _).mono ?_; rintro e w1 ⟨rfl, hb⟩; obtain ⟨o3, j3, rfl⟩ := grow_of_below hb; clear hb)
        | (go_at_call 45; refine (up_callsB _ true _ _ C HU (by omega) (by omega) (by omega) (by omega) _).mono ?_; rintro e w4 ⟨rfl, hb⟩; obtain ⟨o4, j4, rfl⟩ := grow_of_below hb; clear hb)
        | (go_at_call 46; refine (signed_pos _ _ (by omega) (by omega)).mono ?_; rintro e w' ⟨rfl, rfl⟩))
      go_ret2
      exact ⟨by simp, by repeat (first | exact Below.refl _ _ | refine Below.setCell ?_ (by first | omega | (simp [go_sem]; done) | (simp [go_sem]; omega)) _ | refine Below.alloc ?_ (by first | omega | (simp [go_sem]; done) | (simp [go_sem]; omega)) _ | refine Below.drew ?_ | refine below_drewN _ ?_ | refine below_grow ?_ (by first | omega | (simp [go_sem]; done) | (simp [go_sem]; omega)))⟩
  · have HU : Hid (decide ((r.den : Int) - (C : Int) ≤ (C : Int)) = false) := Lib.hid (by simp; omega)
    rw [if_neg hup, Nat.add_zero]
    clear hQ2
    by_cases hneg : r.num < 0
    · rw [if_pos hneg]
      go_enter Tryd.func23, Tryd.ntmps23
      go_wp2_with (first
        | (go_at_call 20; refine (right_callsB _ _ true hR a1 a2 _).mono ?_; rintro e w1 ⟨rfl, hb⟩; obtain ⟨o1, j1, rfl⟩ := grow_of_below hb; clear hb)
        | (go_at_call 35; refine (split_calls r.num r.den _ a1.1 a1.2 a2.1 a2.2).mono ?_; rintro e w2 ⟨rfl, hb⟩; obtain ⟨o2, j2, rfl⟩ := grow_of_below hb; clear hb)
        | (go_at_call 44; refine (whole_callsN _ _ _ q C Hq HC hn1 hd hd1 _).mono ?_; rintro e w1 ⟨rfl, hb⟩; obtain ⟨o3, j3, rfl⟩ := grow_of_below hb; clear hb)
        | (go_at_call 45; refine (up_callsB _ false _ _ C HU (by omega) (by omega) (by omega) (by omega) _).mono ?_; rintro e w4 ⟨rfl, hb⟩; obtain ⟨o4, j4, rfl⟩ := grow_of_below hb; clear hb)
        | (go_at_call 46; refine (signed_neg _ _ (by omega) (by omega)).mono ?_; rintro e w' ⟨rfl, rfl⟩))
      go_ret2
      exact ⟨by simp, by repeat (first | exact Below.refl _ _ | refine Below.setCell ?_ (by first | omega | (simp [go_sem]; done) | (simp [go_sem]; omega)) _ | refine Below.alloc ?_ (by first | omega | (simp [go_sem]; done) | (simp [go_sem]; omega)) _ | refine Below.drew ?_ | refine below_drewN _ ?_ | refine below_grow ?_ (by first | omega | (simp [go_sem]; done) | (simp [go_sem]; omega)))⟩
    · rw [if_neg hneg]
      have hnb : decide (r.num < 0) = false := by simpa using hneg
      go_enter Tryd.func23, Tryd.ntmps23
      go_wp2_with (first
        | (go_at_call 20; refine (right_callsB _ _ true hR a1 a2 _).mono ?_; rintro e w1 ⟨rfl, hb⟩; obtain ⟨o1, j1, rfl⟩ := grow_of_below hb; clear hb)
        | (go_at_call 35; refine (split_calls r.num r.den _ a1.1 a1.2 a2.1 a2.2).mono ?_; rintro e w2 ⟨rfl, hb⟩; obtain ⟨o2, j2, rfl⟩ := grow_of_below hb; clear hb)
        | (go_at_call 44; refine (whole_callsN _ _ _ q C Hq HC hn1 hd hd1 _).mono ?_; rintro e w1 ⟨rfl, hb⟩; obtain ⟨o3, j3, rfl⟩ := grow_of_below hb; clear hb)
        | (go_at_call 45; refine (up_callsB _ false _ _ C HU (by omega) (by omega) (by omega) (by omega) _).mono ?_; rintro e w4 ⟨rfl, hb⟩; obtain ⟨o4, j4, rfl⟩ := grow_of_below hb; clear hb)
        | (go_at_call 46; refine (signed_pos _ _ (by omega) (by omega)).mono ?_; rintro e w' ⟨rfl, rfl⟩))
      go_ret2
      exact ⟨by simp, by repeat (first | exact Below.refl _ _ | refine Below.setCell ?_ (by first | omega | (simp [go_sem]; done) | (simp [go_sem]; omega)) _ | refine Below.alloc ?_ (by first | omega | (simp [go_sem]; done) | (simp [go_sem]; omega)) _ | refine Below.drew ?_ | refine below_drewN _ ?_ | refine below_grow ?_ (by first | omega | (simp [go_sem]; done) | (simp [go_sem]; omega)))⟩
end Go.Proofs.YtignphcnjgbikaaDoor
