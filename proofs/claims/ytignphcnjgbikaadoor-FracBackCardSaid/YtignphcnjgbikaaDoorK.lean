/- frac.Cmp. -/
import Derived.Test.YtignphcnjgbikaaDoorJ
namespace Go.Proofs.YtignphcnjgbikaaDoor
open Go.RowKit Go.Shelf

theorem wless_pack (x y : Int) (b : Bool) (hb : Hid (decide (x < y) = b)) (x0 : 0 ≤ x) (y0 : 0 ≤ y) (w : World) :
    Calls Tryd.prog 61 #[.agg #[.int .u64 (x / 18446744073709551616), .int .u64 (x % 18446744073709551616)], .agg #[.int .u64 (y / 18446744073709551616), .int .u64 (y % 18446744073709551616)]] w fun e w' => e = .returned (.bool b) ∧ Below w.heap.size w w' := by
  have h := wless_calls (x / 18446744073709551616) (x % 18446744073709551616) (y / 18446744073709551616) (y % 18446744073709551616) w
  have e : decide (x / 18446744073709551616 < y / 18446744073709551616 ∨ x / 18446744073709551616 = y / 18446744073709551616 ∧ x % 18446744073709551616 < y % 18446744073709551616) = b := by
    rw [← hb.out, decide_eq_decide]; omega
  rw [e] at h
  exact h

theorem lt_pos (r s : Rat) (hr : 0 ≤ r.num) (hs : 0 ≤ s.num) : decide (r < s) = decide ((r.num.natAbs : Int) * s.den < s.num.natAbs * r.den) := by
  rw [decide_eq_decide, Rat.lt_iff]
  rw [show (r.num.natAbs : Int) = r.num by omega, show (s.num.natAbs : Int) = s.num by omega]
theorem lt_neg (r s : Rat) (hr : r.num < 0) (hs : s.num < 0) (hne : r ≠ s) : decide (r < s) = !decide ((r.num.natAbs : Int) * s.den < s.num.natAbs * r.den) := by
  rw [show (r.num.natAbs : Int) = -r.num by omega, show (s.num.natAbs : Int) = -s.num by omega, Int.neg_mul, Int.neg_mul]
  have h1 : r < s ↔ r.num * s.den < s.num * r.den := Rat.lt_iff r s
  have h2 : s < r ↔ s.num * r.den < r.num * s.den := Rat.lt_iff s r
  have h3 : r.num * s.den ≠ s.num * r.den := fun h => hne (by
    have q1 : r ≤ s := (Rat.le_iff r s).2 (by omega)
    have q2 : s ≤ r := (Rat.le_iff s r).2 (by omega)
    exact Rat.le_antisymm q1 q2)
  rw [Bool.eq_iff_iff]
  simp only [decide_eq_true_eq, Bool.not_eq_true', decide_eq_false_iff_not, h1]
  omega
theorem lt_np (r s : Rat) (hr : r.num < 0) (hs : 0 ≤ s.num) : decide (r < s) = true := by
  rw [decide_eq_true_eq, Rat.lt_iff]
  have h1 : r.num * s.den < 0 := Int.mul_neg_of_neg_of_pos hr (by have := s.den_pos; omega)
  have h2 : 0 ≤ s.num * r.den := Int.mul_nonneg hs (by omega)
  omega
theorem lt_pn (r s : Rat) (hr : 0 ≤ r.num) (hs : s.num < 0) : decide (r < s) = false := by
  rw [decide_eq_false_iff_not, Rat.lt_iff]
  have h1 : s.num * r.den < 0 := Int.mul_neg_of_neg_of_pos hs (by have := r.den_pos; omega)
  have h2 : 0 ≤ r.num * s.den := Int.mul_nonneg hr (by omega)
  omega

set_option maxHeartbeats 1000000 in
theorem before_calls (r s : Rat) (hr : fitsR r) (hs : fitsR s) (hne : r ≠ s) (w : World) :
    Calls Tryd.prog 43 #[.agg #[.bool (decide (r.num < 0)), .int .u64 (r.num.natAbs : Int), .int .u64 (r.den : Int)], .agg #[.bool (decide (s.num < 0)), .int .u64 (s.num.natAbs : Int), .int .u64 (s.den : Int)]] w fun e w' => e = .returned (.bool (decide (r < s))) ∧ Below w.heap.size w w' := by
  obtain ⟨a1, a2, a3, a4⟩ := fits64 hr
  obtain ⟨b1, b2, b3, b4⟩ := fits64 hs
  have k1 : (0 : Int) ≤ (r.num.natAbs : Int) := by omega
  have k2 : (r.num.natAbs : Int) < 18446744073709551616 := by omega
  have k3 : (0 : Int) ≤ (s.den : Int) := by omega
  have k4 : (s.den : Int) < 18446744073709551616 := by omega
  have l1 : (0 : Int) ≤ (s.num.natAbs : Int) := by omega
  have l2 : (s.num.natAbs : Int) < 18446744073709551616 := by omega
  have l3 : (0 : Int) ≤ (r.den : Int) := by omega
  have l4 : (r.den : Int) < 18446744073709551616 := by omega
  by_cases h1 : r.num < 0
  · by_cases h2 : s.num < 0
    · rw [lt_neg r s h1 h2 hne]
      rw [show decide (r.num < 0) = true by simpa using h1, show decide (s.num < 0) = true by simpa using h2]
      obtain ⟨b, hb⟩ : ∃ b, decide ((r.num.natAbs : Int) * s.den < s.num.natAbs * r.den) = b := ⟨_, rfl⟩
      rw [hb]
      have HB := Lib.hid hb
      clear hb h1 h2 hne
      generalize r.num.natAbs = n at *
      generalize s.num.natAbs = m at *
      generalize r.den = d at *
      generalize s.den = e at *
      go_enter Tryd.func43, Tryd.ntmps43
      go_wp2
      go_region_held3 (fun w' => w'.cell? ⟨w.heap.size, 1, none⟩ = some (.int .u64 n) ∧ w'.cell? ⟨w.heap.size, 2, none⟩ = some (.int .u64 d) ∧ w'.cell? ⟨w.heap.size + 1, 1, none⟩ = some (.int .u64 m) ∧ w'.cell? ⟨w.heap.size + 1, 2, none⟩ = some (.int .u64 e)) (simp [*, go_sem])
        (first
          | (go_at_call_of 59 (n); refine (product_callsI _ _ k1 k3 k2 k4 _).mono ?_; rintro e w1 ⟨rfl, hb⟩; obtain ⟨o1, j1, rfl⟩ := grow_of_below hb; clear hb)
          | (go_at_call_of 59 (m); refine (product_callsI _ _ l1 l3 l2 l4 _).mono ?_; rintro e w1 ⟨rfl, hb⟩; obtain ⟨o2, j2, rfl⟩ := grow_of_below hb; clear hb)
          | (go_at_call 61; refine (wless_pack _ _ b HB (Int.mul_nonneg k1 k3) (Int.mul_nonneg l1 l3) _).mono ?_; rintro e w2 ⟨rfl, hb⟩; obtain ⟨o3, j3, rfl⟩ := grow_of_below hb; clear hb))
      go_wp2
      go_ret
      exact ⟨by cases b <;> rfl, by repeat (first | exact Below.refl _ _ | refine Below.setCell ?_ (by first | omega | (simp [go_sem]; done) | (simp [go_sem]; omega)) _ | refine Below.alloc ?_ (by first | omega | (simp [go_sem]; done) | (simp [go_sem]; omega)) _ | refine Below.drew ?_ | refine below_drewN _ ?_ | refine below_grow ?_ (by first | omega | (simp [go_sem]; done) | (simp [go_sem]; omega)))⟩
    · rw [lt_np r s h1 (by omega)]
      rw [show decide (r.num < 0) = true by simpa using h1, show decide (s.num < 0) = false by simpa using h2]
      go_enter Tryd.func43, Tryd.ntmps43
      go_wp2
      go_ret
      exact ⟨rfl, by repeat (first | exact Below.refl _ _ | refine Below.setCell ?_ (by first | omega | (simp [go_sem]; done) | (simp [go_sem]; omega)) _ | refine Below.alloc ?_ (by first | omega | (simp [go_sem]; done) | (simp [go_sem]; omega)) _ | refine Below.drew ?_ | refine below_drewN _ ?_ | refine below_grow ?_ (by first | omega | (simp [go_sem]; done) | (simp [go_sem]; omega)))⟩
  · by_cases h2 : s.num < 0
    · rw [lt_pn r s (by omega) h2]
      rw [show decide (r.num < 0) = false by simpa using h1, show decide (s.num < 0) = true by simpa using h2]
      go_enter Tryd.func43, Tryd.ntmps43
      go_wp2
      go_ret
      exact ⟨rfl, by repeat (first | exact Below.refl _ _ | refine Below.setCell ?_ (by first | omega | (simp [go_sem]; done) | (simp [go_sem]; omega)) _ | refine Below.alloc ?_ (by first | omega | (simp [go_sem]; done) | (simp [go_sem]; omega)) _ | refine Below.drew ?_ | refine below_drewN _ ?_ | refine below_grow ?_ (by first | omega | (simp [go_sem]; done) | (simp [go_sem]; omega)))⟩
    · rw [lt_pos r s (by omega) (by omega)]
      rw [show decide (r.num < 0) = false by simpa using h1, show decide (s.num < 0) = false by simpa using h2]
      obtain ⟨b, hb⟩ : ∃ b, decide ((r.num.natAbs : Int) * s.den < s.num.natAbs * r.den) = b := ⟨_, rfl⟩
      rw [hb]
      have HB := Lib.hid hb
      clear hb h1 h2 hne
      generalize r.num.natAbs = n at *
      generalize s.num.natAbs = m at *
      generalize r.den = d at *
      generalize s.den = e at *
      go_enter Tryd.func43, Tryd.ntmps43
      go_wp2
      go_region_held3 (fun w' => w'.cell? ⟨w.heap.size, 1, none⟩ = some (.int .u64 n) ∧ w'.cell? ⟨w.heap.size, 2, none⟩ = some (.int .u64 d) ∧ w'.cell? ⟨w.heap.size + 1, 1, none⟩ = some (.int .u64 m) ∧ w'.cell? ⟨w.heap.size + 1, 2, none⟩ = some (.int .u64 e)) (simp [*, go_sem])
        (first
          | (go_at_call_of 59 (n); refine (product_callsI _ _ k1 k3 k2 k4 _).mono ?_; rintro e w1 ⟨rfl, hb⟩; obtain ⟨o1, j1, rfl⟩ := grow_of_below hb; clear hb)
          | (go_at_call_of 59 (m); refine (product_callsI _ _ l1 l3 l2 l4 _).mono ?_; rintro e w1 ⟨rfl, hb⟩; obtain ⟨o2, j2, rfl⟩ := grow_of_below hb; clear hb)
          | (go_at_call 61; refine (wless_pack _ _ b HB (Int.mul_nonneg k1 k3) (Int.mul_nonneg l1 l3) _).mono ?_; rintro e w2 ⟨rfl, hb⟩; obtain ⟨o3, j3, rfl⟩ := grow_of_below hb; clear hb))
      go_wp2
      go_ret
      exact ⟨by cases b <;> rfl, by repeat (first | exact Below.refl _ _ | refine Below.setCell ?_ (by first | omega | (simp [go_sem]; done) | (simp [go_sem]; omega)) _ | refine Below.alloc ?_ (by first | omega | (simp [go_sem]; done) | (simp [go_sem]; omega)) _ | refine Below.drew ?_ | refine below_drewN _ ?_ | refine below_grow ?_ (by first | omega | (simp [go_sem]; done) | (simp [go_sem]; omega)))⟩

theorem before_callsB (r s : Rat) (b : Bool) (hb : Hid (decide (r < s) = b)) (hr : fitsR r) (hs : fitsR s) (hne : r ≠ s) (w : World) :
    Calls Tryd.prog 43 #[.agg #[.bool (decide (r.num < 0)), .int .u64 (r.num.natAbs : Int), .int .u64 (r.den : Int)], .agg #[.bool (decide (s.num < 0)), .int .u64 (s.num.natAbs : Int), .int .u64 (s.den : Int)]] w fun e w' => e = .returned (.bool b) ∧ Below w.heap.size w w' := by
  have h := before_calls r s hr hs hne w
  rw [hb.out] at h
  exact h
/-- -1, 0 or 1 -/
def cmpR (r s : Rat) : Int := if r = s then 0 else if r < s then -1 else 1

set_option maxHeartbeats 1000000 in
theorem cmp_calls (r s : Rat) (hr : fitsR r) (hs : fitsR s) (w : World) :
    Calls Tryd.prog 21 #[.agg #[.int .i64 r.num, .int .i64 r.den], .agg #[.int .i64 s.num, .int .i64 s.den]] w fun e w' => e = .returned (.tuple #[.int .i64 (cmpR r s), .int .i64 0]) ∧ Below w.heap.size w w' := by
  obtain ⟨a1, a2, a3, a4⟩ := fits64 hr
  obtain ⟨b1, b2, b3, b4⟩ := fits64 hs
  have hall := rats2 r s
  unfold cmpR
  by_cases he : r = s
  · subst he
    rw [if_pos rfl]
    go_enter Tryd.func21, Tryd.ntmps21
    go_wp2_with (go_at_call 34; refine (allRight2 _ r.num r.den r.num r.den true hall a1 a2 b1 b2 _ (by simp [go_sem]) (by simp [go_sem]) (by simp [go_sem]) (by simp [go_sem])).mono ?_; rintro e w1 ⟨rfl, hb⟩; obtain ⟨o1, j1, rfl⟩ := grow_of_below hb; clear hb)
    go_ret2
    exact ⟨rfl, by repeat (first | exact Below.refl _ _ | refine Below.setCell ?_ (by first | omega | (simp [go_sem]; done) | (simp [go_sem]; omega)) _ | refine Below.alloc ?_ (by first | omega | (simp [go_sem]; done) | (simp [go_sem]; omega)) _ | refine Below.drew ?_ | refine below_drewN _ ?_ | refine below_grow ?_ (by first | omega | (simp [go_sem]; done) | (simp [go_sem]; omega)))⟩
  · rw [if_neg he]
    have en : ((r.den : Int).natAbs : Int) = r.den := by omega
    have em : ((s.den : Int).natAbs : Int) = s.den := by omega
    obtain ⟨b, hb⟩ : ∃ b, decide (r < s) = b := ⟨_, rfl⟩
    have hv : (if r < s then (-1 : Int) else 1) = if b then -1 else 1 := by
      rw [← hb]; by_cases h : r < s <;> simp [h]
    rw [hv]
    clear hv
    have hP := fun w => before_callsB r s b (Lib.hid hb) hr hs he w
    clear hb
    by_cases hn : r.num = s.num
    · have hd : ¬ r.den = s.den := fun h => he (Rat.ext hn h)
      clear he
      rw [← hn] at hP hall b1 ⊢
      clear hn
      have HP := Lib.hid hP
      clear hP
      cases b
      · skip
        go_enter Tryd.func21, Tryd.ntmps21
        go_wp2_with (go_at_call 34; refine (allRight2 _ r.num r.den r.num s.den true hall a1 a2 b1 b2 _ (by simp [go_sem]) (by simp [go_sem]) (by simp [go_sem]) (by simp [go_sem])).mono ?_; rintro e w1 ⟨rfl, hb⟩; obtain ⟨o1, j1, rfl⟩ := grow_of_below hb; clear hb)
        go_region_held3 (fun w' => w'.cell? ⟨w.heap.size, 0, none⟩ = some (.int .i64 r.num) ∧ w'.cell? ⟨w.heap.size, 1, none⟩ = some (.int .i64 r.den) ∧ w'.cell? ⟨w.heap.size + 1, 0, none⟩ = some (.int .i64 r.num) ∧ w'.cell? ⟨w.heap.size + 1, 1, none⟩ = some (.int .i64 s.den)) (simp [*, go_sem])
          (first
            | (go_at_call_of 35 (r.den : Int); refine (split_calls r.num r.den _ a1.1 a1.2 a2.1 a2.2).mono ?_; rintro e w2 ⟨rfl, hb⟩; obtain ⟨o2, j2, rfl⟩ := grow_of_below hb; clear hb)
            | (go_at_call_of 35 (s.den : Int); refine (split_calls r.num s.den _ b1.1 b1.2 b2.1 b2.2).mono ?_; rintro e w3 ⟨rfl, hb⟩; obtain ⟨o3, j3, rfl⟩ := grow_of_below hb; clear hb)
            | (go_at_call 43; refine (HP.out _).mono ?_; rintro e w4 ⟨rfl, hb⟩; obtain ⟨o4, j4, rfl⟩ := grow_of_below hb; clear hb))
        go_wp2
        go_ret2
        exact ⟨rfl, by repeat (first | exact Below.refl _ _ | refine Below.setCell ?_ (by first | omega | (simp [go_sem]; done) | (simp [go_sem]; omega)) _ | refine Below.alloc ?_ (by first | omega | (simp [go_sem]; done) | (simp [go_sem]; omega)) _ | refine Below.drew ?_ | refine below_drewN _ ?_ | refine below_grow ?_ (by first | omega | (simp [go_sem]; done) | (simp [go_sem]; omega)))⟩
      · skip
        go_enter Tryd.func21, Tryd.ntmps21
        go_wp2_with (go_at_call 34; refine (allRight2 _ r.num r.den r.num s.den true hall a1 a2 b1 b2 _ (by simp [go_sem]) (by simp [go_sem]) (by simp [go_sem]) (by simp [go_sem])).mono ?_; rintro e w1 ⟨rfl, hb⟩; obtain ⟨o1, j1, rfl⟩ := grow_of_below hb; clear hb)
        go_region_held3 (fun w' => w'.cell? ⟨w.heap.size, 0, none⟩ = some (.int .i64 r.num) ∧ w'.cell? ⟨w.heap.size, 1, none⟩ = some (.int .i64 r.den) ∧ w'.cell? ⟨w.heap.size + 1, 0, none⟩ = some (.int .i64 r.num) ∧ w'.cell? ⟨w.heap.size + 1, 1, none⟩ = some (.int .i64 s.den)) (simp [*, go_sem])
          (first
            | (go_at_call_of 35 (r.den : Int); refine (split_calls r.num r.den _ a1.1 a1.2 a2.1 a2.2).mono ?_; rintro e w2 ⟨rfl, hb⟩; obtain ⟨o2, j2, rfl⟩ := grow_of_below hb; clear hb)
            | (go_at_call_of 35 (s.den : Int); refine (split_calls r.num s.den _ b1.1 b1.2 b2.1 b2.2).mono ?_; rintro e w3 ⟨rfl, hb⟩; obtain ⟨o3, j3, rfl⟩ := grow_of_below hb; clear hb)
            | (go_at_call 43; refine (HP.out _).mono ?_; rintro e w4 ⟨rfl, hb⟩; obtain ⟨o4, j4, rfl⟩ := grow_of_below hb; clear hb))
        go_wp2
        go_ret2
        exact ⟨rfl, by repeat (first | exact Below.refl _ _ | refine Below.setCell ?_ (by first | omega | (simp [go_sem]; done) | (simp [go_sem]; omega)) _ | refine Below.alloc ?_ (by first | omega | (simp [go_sem]; done) | (simp [go_sem]; omega)) _ | refine Below.drew ?_ | refine below_drewN _ ?_ | refine below_grow ?_ (by first | omega | (simp [go_sem]; done) | (simp [go_sem]; omega)))⟩
    · clear he
      have HP := Lib.hid hP
      clear hP
      cases b
      · skip
        go_enter Tryd.func21, Tryd.ntmps21
        go_wp2_with (go_at_call 34; refine (allRight2 _ r.num r.den s.num s.den true hall a1 a2 b1 b2 _ (by simp [go_sem]) (by simp [go_sem]) (by simp [go_sem]) (by simp [go_sem])).mono ?_; rintro e w1 ⟨rfl, hb⟩; obtain ⟨o1, j1, rfl⟩ := grow_of_below hb; clear hb)
        go_region_held3 (fun w' => w'.cell? ⟨w.heap.size, 0, none⟩ = some (.int .i64 r.num) ∧ w'.cell? ⟨w.heap.size, 1, none⟩ = some (.int .i64 r.den) ∧ w'.cell? ⟨w.heap.size + 1, 0, none⟩ = some (.int .i64 s.num) ∧ w'.cell? ⟨w.heap.size + 1, 1, none⟩ = some (.int .i64 s.den)) (simp [*, go_sem])
          (first
            | (go_at_call_of 35 (r.den : Int); refine (split_calls r.num r.den _ a1.1 a1.2 a2.1 a2.2).mono ?_; rintro e w2 ⟨rfl, hb⟩; obtain ⟨o2, j2, rfl⟩ := grow_of_below hb; clear hb)
            | (go_at_call_of 35 (s.den : Int); refine (split_calls s.num s.den _ b1.1 b1.2 b2.1 b2.2).mono ?_; rintro e w3 ⟨rfl, hb⟩; obtain ⟨o3, j3, rfl⟩ := grow_of_below hb; clear hb)
            | (go_at_call 43; refine (HP.out _).mono ?_; rintro e w4 ⟨rfl, hb⟩; obtain ⟨o4, j4, rfl⟩ := grow_of_below hb; clear hb))
        go_wp2
        go_ret2
        exact ⟨rfl, by repeat (first | exact Below.refl _ _ | refine Below.setCell ?_ (by first | omega | (simp [go_sem]; done) | (simp [go_sem]; omega)) _ | refine Below.alloc ?_ (by first | omega | (simp [go_sem]; done) | (simp [go_sem]; omega)) _ | refine Below.drew ?_ | refine below_drewN _ ?_ | refine below_grow ?_ (by first | omega | (simp [go_sem]; done) | (simp [go_sem]; omega)))⟩
      · skip
        go_enter Tryd.func21, Tryd.ntmps21
        go_wp2_with (go_at_call 34; refine (allRight2 _ r.num r.den s.num s.den true hall a1 a2 b1 b2 _ (by simp [go_sem]) (by simp [go_sem]) (by simp [go_sem]) (by simp [go_sem])).mono ?_; rintro e w1 ⟨rfl, hb⟩; obtain ⟨o1, j1, rfl⟩ := grow_of_below hb; clear hb)
        go_region_held3 (fun w' => w'.cell? ⟨w.heap.size, 0, none⟩ = some (.int .i64 r.num) ∧ w'.cell? ⟨w.heap.size, 1, none⟩ = some (.int .i64 r.den) ∧ w'.cell? ⟨w.heap.size + 1, 0, none⟩ = some (.int .i64 s.num) ∧ w'.cell? ⟨w.heap.size + 1, 1, none⟩ = some (.int .i64 s.den)) (simp [*, go_sem])
          (first
            | (go_at_call_of 35 (r.den : Int); refine (split_calls r.num r.den _ a1.1 a1.2 a2.1 a2.2).mono ?_; rintro e w2 ⟨rfl, hb⟩; obtain ⟨o2, j2, rfl⟩ := grow_of_below hb; clear hb)
            | (go_at_call_of 35 (s.den : Int); refine (split_calls s.num s.den _ b1.1 b1.2 b2.1 b2.2).mono ?_; rintro e w3 ⟨rfl, hb⟩; obtain ⟨o3, j3, rfl⟩ := grow_of_below hb; clear hb)
            | (go_at_call 43; refine (HP.out _).mono ?_; rintro e w4 ⟨rfl, hb⟩; obtain ⟨o4, j4, rfl⟩ := grow_of_below hb; clear hb))
        go_wp2
        go_ret2
        exact ⟨rfl, by repeat (first | exact Below.refl _ _ | refine Below.setCell ?_ (by first | omega | (simp [go_sem]; done) | (simp [go_sem]; omega)) _ | refine Below.alloc ?_ (by first | omega | (simp [go_sem]; done) | (simp [go_sem]; omega)) _ | refine Below.drew ?_ | refine below_drewN _ ?_ | refine below_grow ?_ (by first | omega | (simp [go_sem]; done) | (simp [go_sem]; omega)))⟩
end Go.Proofs.YtignphcnjgbikaaDoor
