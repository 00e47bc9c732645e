/- frac.Make, Neg, Add, Sub, Mul, Div. -/
import Derived.Test.YtignphcnjgbikaaDoorH
namespace Go.Proofs.YtignphcnjgbikaaDoor
open Go.RowKit Go.Shelf

theorem allRight2 (p : Nat) (n d m e : Int) (b : Bool) (hb : Hid ((rightB n d && rightB m e) = b)) (hn : I64 n) (hd : I64 d) (hm : I64 m) (he : I64 e) (w : World)
    (c0 : w.cell? ⟨p, 0, none⟩ = some (.int .i64 n)) (c1 : w.cell? ⟨p, 1, none⟩ = some (.int .i64 d)) (c2 : w.cell? ⟨p, 2, none⟩ = some (.int .i64 m)) (c3 : w.cell? ⟨p, 3, none⟩ = some (.int .i64 e)) :
    Calls Tryd.prog 34 #[.slice (some ⟨p, 0, none⟩) 2 2] w fun x w' => x = .returned (.bool b) ∧ Below w.heap.size w w' := by
  have h := allRight_calls p 0 2 [(n, d), (m, e)] (by simp) w (fun i hi => by
    match i, hi with
    | 0, _ => exact ⟨c0, c1, hn, hd⟩
    | 1, _ => exact ⟨c2, c3, hm, he⟩) (World.block_lt_of_cell? w _ c0)
  refine h.mono fun x w' ⟨h1, h2⟩ => ⟨?_, h2⟩
  rw [h1, ← hb.out]
  simp

theorem right_rat (r : Rat) : rightB r.num r.den = true := by
  unfold rightB
  simp only [decide_eq_true_eq]
  refine ⟨by have := r.den_pos; omega, ?_⟩
  have := r.reduced
  exact this
theorem fits64 {r : Rat} (h : fitsR r) : I64 r.num ∧ I64 r.den ∧ r.num.natAbs ≤ 9223372036854775808 ∧ r.den < 9223372036854775808 := by
  obtain ⟨h1, h2, h3⟩ := h
  have := r.den_pos
  exact ⟨⟨h1, h2⟩, ⟨by omega, h3⟩, by omega, by omega⟩
theorem rats2 (r s : Rat) : Hid ((rightB r.num r.den && rightB s.num s.den) = true) := Lib.hid (by rw [right_rat, right_rat]; rfl)

theorem plus_ratM (r s : Rat) (b c : Bool) (hb : signOf r b) (hc : signOf s c) (n d m e : Nat) (hn : Hid (r.num.natAbs = n)) (hd : Hid (r.den = d)) (hm : Hid (s.num.natAbs = m)) (he : Hid (s.den = e)) (r1 : n ≤ 9223372036854775808) (r2 : d < 9223372036854775808) (s1 : m ≤ 9223372036854775808) (s2 : e < 9223372036854775808)
    (hp : n * (e / Nat.gcd d e) < 9223372036854775808) (hq : m * (d / Nat.gcd d e) < 9223372036854775808) (w : World) :
    Calls Tryd.prog 36 #[.agg #[.bool b, .int .u64 (n : Int), .int .u64 (d : Int)], .agg #[.bool c, .int .u64 (m : Int), .int .u64 (e : Int)]] w fun e w' => e = .returned (.tuple #[.agg #[.int .i64 (outN (r + s)), .int .i64 (outD (r + s))], .int .i64 (outE (r + s))]) ∧ Below w.heap.size w w' := by
  have h1 := hn.out; have h2 := hd.out; have h3 := hm.out; have h4 := he.out
  subst h1 h2 h3 h4
  exact plus_rat r s b c hb hc r1 r2 s1 s2 hp hq w
theorem times_ratM (r s : Rat) (b c : Bool) (hb : signOf r b) (hc : signOf s c) (n d m e : Nat) (hn : Hid (r.num.natAbs = n)) (hd : Hid (r.den = d)) (hm : Hid (s.num.natAbs = m)) (he : Hid (s.den = e)) (r1 : n < 18446744073709551616) (r2 : d < 18446744073709551616) (s1 : m < 18446744073709551616) (s2 : e < 18446744073709551616) (w : World) :
    Calls Tryd.prog 37 #[.agg #[.bool b, .int .u64 (n : Int), .int .u64 (d : Int)], .agg #[.bool c, .int .u64 (m : Int), .int .u64 (e : Int)]] w fun e w' => e = .returned (.tuple #[.agg #[.int .i64 (outN (r * s)), .int .i64 (outD (r * s))], .int .i64 (outE (r * s))]) ∧ Below w.heap.size w w' := by
  have h1 := hn.out; have h2 := hd.out; have h3 := hm.out; have h4 := he.out
  subst h1 h2 h3 h4
  exact times_rat r s b c hb hc r1 r2 s1 s2 w
/-- the sums' sizes stay below 2^63 on the way -/
def small2 (r s : Rat) : Prop := r.num.natAbs * (s.den / Nat.gcd r.den s.den) < 9223372036854775808 ∧ s.num.natAbs * (r.den / Nat.gcd r.den s.den) < 9223372036854775808

set_option maxHeartbeats 1000000 in
theorem add_calls (r s : Rat) (hr : fitsR r) (hs : fitsR s) (hq : small2 r s) (w : World) :
    Calls Tryd.prog 14 #[.agg #[.int .i64 r.num, .int .i64 r.den], .agg #[.int .i64 s.num, .int .i64 s.den]] w fun e w' => e = .returned (.tuple #[.agg #[.int .i64 (outN (r + s)), .int .i64 (outD (r + s))], .int .i64 (outE (r + s))]) ∧ Below w.heap.size w w' := by
  obtain ⟨a1, a2, a3, a4⟩ := fits64 hr
  obtain ⟨b1, b2, b3, b4⟩ := fits64 hs
  have hall := rats2 r s
  have hq' : small2 r s := hq
  obtain ⟨q1, q2⟩ := hq
  have sr := signOf_lt r
  have ss := signOf_lt s
  have hP := fun w => plus_ratM r s _ _ sr ss _ _ _ _ (Lib.hid rfl) (Lib.hid rfl) (Lib.hid rfl) (Lib.hid rfl) a3 a4 b3 b4 q1 q2 w
  have HP := Lib.hid hP
  clear hP q1 q2 sr ss
  have en : ((r.den : Int).natAbs : Int) = r.den := by omega
  have em : ((s.den : Int).natAbs : Int) = s.den := by omega
  go_enter Tryd.func14, Tryd.ntmps14
  go_wp2_with (go_at_call 34; refine (allRight2 _ r.num r.den s.num s.den true hall a1 a2 b1 b2 _ (by simp [go_sem]) (by simp [go_sem]) (by simp [go_sem]) (by simp [go_sem])).mono ?_; rintro e w1 ⟨rfl, hb⟩; obtain ⟨o1, j1, rfl⟩ := grow_of_below hb; clear hb)
  go_region_held3 (fun w' => w'.cell? ⟨w.heap.size, 0, none⟩ = some (.int .i64 r.num) ∧ w'.cell? ⟨w.heap.size, 1, none⟩ = some (.int .i64 r.den) ∧ w'.cell? ⟨w.heap.size + 1, 0, none⟩ = some (.int .i64 s.num) ∧ w'.cell? ⟨w.heap.size + 1, 1, none⟩ = some (.int .i64 s.den)) (simp [*, go_sem])
    (first
      | (go_at_call_of 35 (r.num); refine (split_calls r.num r.den _ a1.1 a1.2 a2.1 a2.2).mono ?_; rintro e w2 ⟨rfl, hb⟩; obtain ⟨o2, j2, rfl⟩ := grow_of_below hb; clear hb)
      | (go_at_call_of 35 (s.num); refine (split_calls s.num s.den _ b1.1 b1.2 b2.1 b2.2).mono ?_; rintro e w3 ⟨rfl, hb⟩; obtain ⟨o3, j3, rfl⟩ := grow_of_below hb; clear hb)
      | (go_at_call 36; refine (HP.out _).mono ?_; rintro e w4 ⟨rfl, hb⟩; obtain ⟨o4, j4, rfl⟩ := grow_of_below hb; clear hb))
  go_wp2
  refine bodyPost_ret (by simp [results, Tryd.results14, go_sem]) rfl ⟨rfl, ?_⟩
  repeat (first | exact Below.refl _ _ | refine Below.setCell ?_ (by first | omega | (simp [go_sem]; done) | (simp [go_sem]; omega)) _ | refine Below.alloc ?_ (by first | omega | (simp [go_sem]; done) | (simp [go_sem]; omega)) _ | refine Below.drew ?_ | refine below_drewN _ ?_ | refine below_grow ?_ (by first | omega | (simp [go_sem]; done) | (simp [go_sem]; omega)))

/-- opposite and reciprocal, said of numbers -/
theorem neg_parts (s : Rat) : (-s).num.natAbs = s.num.natAbs ∧ (-s).den = s.den ∧ signOf (-s) (!(decide (s.num < 0))) := by
  have h1 : (-s).num = -s.num := rfl
  have h2 : (-s).den = s.den := rfl
  refine ⟨by rw [h1]; omega, h2, ?_⟩
  unfold signOf; rw [h1]
  by_cases h : s.num < 0 <;> simp [h] <;> omega
theorem inv_parts (s : Rat) (h0 : s.num ≠ 0) : (s⁻¹).num.natAbs = s.den ∧ (s⁻¹).den = s.num.natAbs ∧ signOf (s⁻¹) (decide (s.num < 0)) := by
  have h1 : (s⁻¹).num = s.num.sign * s.den := Rat.num_inv s
  have h2 : (s⁻¹).den = if s.num = 0 then 1 else s.num.natAbs := Rat.den_inv s
  rw [if_neg h0] at h2
  refine ⟨?_, h2, ?_⟩
  · rw [h1]; rcases Int.lt_or_gt_of_ne h0 with h | h
    · rw [Int.sign_eq_neg_one_of_neg h]; omega
    · rw [Int.sign_eq_one_of_pos h]; omega
  · unfold signOf; rw [h1]
    rcases Int.lt_or_gt_of_ne h0 with h | h
    · rw [Int.sign_eq_neg_one_of_neg h]; simp [h]
    · rw [Int.sign_eq_one_of_pos h]; simp [show ¬ s.num < 0 by omega]
set_option maxHeartbeats 1000000 in
theorem sub_calls (r s : Rat) (hr : fitsR r) (hs : fitsR s) (hq : small2 r s) (w : World) :
    Calls Tryd.prog 16 #[.agg #[.int .i64 r.num, .int .i64 r.den], .agg #[.int .i64 s.num, .int .i64 s.den]] w fun e w' => e = .returned (.tuple #[.agg #[.int .i64 (outN (r - s)), .int .i64 (outD (r - s))], .int .i64 (outE (r - s))]) ∧ Below w.heap.size w w' := by
  obtain ⟨a1, a2, a3, a4⟩ := fits64 hr
  obtain ⟨b1, b2, b3, b4⟩ := fits64 hs
  have hall := rats2 r s
  have hq' : small2 r s := hq
  obtain ⟨q1, q2⟩ := hq
  have sr := signOf_lt r
  obtain ⟨m1, m2, ss⟩ := neg_parts s
  have hP := fun w => plus_ratM r (-s) _ _ sr ss _ _ s.num.natAbs s.den (Lib.hid rfl) (Lib.hid rfl) (Lib.hid m1) (Lib.hid m2) a3 a4 b3 b4 q1 q2 w
  rw [← Rat.sub_eq_add_neg] at hP
  clear m1 m2
  have HP := Lib.hid hP
  clear hP q1 q2 sr ss
  have en : ((r.den : Int).natAbs : Int) = r.den := by omega
  have em : ((s.den : Int).natAbs : Int) = s.den := by omega
  go_enter Tryd.func16, Tryd.ntmps16
  go_wp2_with (go_at_call 34; refine (allRight2 _ r.num r.den s.num s.den true hall a1 a2 b1 b2 _ (by simp [go_sem]) (by simp [go_sem]) (by simp [go_sem]) (by simp [go_sem])).mono ?_; rintro e w1 ⟨rfl, hb⟩; obtain ⟨o1, j1, rfl⟩ := grow_of_below hb; clear hb)
  go_region_held3 (fun w' => w'.cell? ⟨w.heap.size, 0, none⟩ = some (.int .i64 r.num) ∧ w'.cell? ⟨w.heap.size, 1, none⟩ = some (.int .i64 r.den) ∧ w'.cell? ⟨w.heap.size + 1, 0, none⟩ = some (.int .i64 s.num) ∧ w'.cell? ⟨w.heap.size + 1, 1, none⟩ = some (.int .i64 s.den)) (simp [*, go_sem])
    (first
      | (go_at_call_of 35 (r.num); refine (split_calls r.num r.den _ a1.1 a1.2 a2.1 a2.2).mono ?_; rintro e w2 ⟨rfl, hb⟩; obtain ⟨o2, j2, rfl⟩ := grow_of_below hb; clear hb)
      | (go_at_call_of 35 (s.num); refine (split_calls s.num s.den _ b1.1 b1.2 b2.1 b2.2).mono ?_; rintro e w3 ⟨rfl, hb⟩; obtain ⟨o3, j3, rfl⟩ := grow_of_below hb; clear hb)
      | (go_at_call 38; refine (opposite_calls _ _ _ _).mono ?_; rintro e w5 ⟨rfl, hb⟩; obtain ⟨o5, j5, rfl⟩ := grow_of_below hb; clear hb)
      | (go_at_call 36; refine (HP.out _).mono ?_; rintro e w4 ⟨rfl, hb⟩; obtain ⟨o4, j4, rfl⟩ := grow_of_below hb; clear hb))
  go_wp2
  refine bodyPost_ret (by simp [results, Tryd.results16, go_sem]) rfl ⟨rfl, ?_⟩
  repeat (first | exact Below.refl _ _ | refine Below.setCell ?_ (by first | omega | (simp [go_sem]; done) | (simp [go_sem]; omega)) _ | refine Below.alloc ?_ (by first | omega | (simp [go_sem]; done) | (simp [go_sem]; omega)) _ | refine Below.drew ?_ | refine below_drewN _ ?_ | refine below_grow ?_ (by first | omega | (simp [go_sem]; done) | (simp [go_sem]; omega)))
set_option maxHeartbeats 1000000 in
theorem mul_calls (r s : Rat) (hr : fitsR r) (hs : fitsR s) (w : World) :
    Calls Tryd.prog 15 #[.agg #[.int .i64 r.num, .int .i64 r.den], .agg #[.int .i64 s.num, .int .i64 s.den]] w fun e w' => e = .returned (.tuple #[.agg #[.int .i64 (outN (r * s)), .int .i64 (outD (r * s))], .int .i64 (outE (r * s))]) ∧ Below w.heap.size w w' := by
  obtain ⟨a1, a2, a3, a4⟩ := fits64 hr
  obtain ⟨b1, b2, b3, b4⟩ := fits64 hs
  have hall := rats2 r s
  have sr := signOf_lt r
  have ss := signOf_lt s
  have hP := fun w => times_ratM r s _ _ sr ss _ _ _ _ (Lib.hid rfl) (Lib.hid rfl) (Lib.hid rfl) (Lib.hid rfl) (by omega) (by omega) (by omega) (by omega) w
  have HP := Lib.hid hP
  clear hP sr ss
  have en : ((r.den : Int).natAbs : Int) = r.den := by omega
  have em : ((s.den : Int).natAbs : Int) = s.den := by omega
  go_enter Tryd.func15, Tryd.ntmps15
  go_wp2_with (go_at_call 34; refine (allRight2 _ r.num r.den s.num s.den true hall a1 a2 b1 b2 _ (by simp [go_sem]) (by simp [go_sem]) (by simp [go_sem]) (by simp [go_sem])).mono ?_; rintro e w1 ⟨rfl, hb⟩; obtain ⟨o1, j1, rfl⟩ := grow_of_below hb; clear hb)
  go_region_held3 (fun w' => w'.cell? ⟨w.heap.size, 0, none⟩ = some (.int .i64 r.num) ∧ w'.cell? ⟨w.heap.size, 1, none⟩ = some (.int .i64 r.den) ∧ w'.cell? ⟨w.heap.size + 1, 0, none⟩ = some (.int .i64 s.num) ∧ w'.cell? ⟨w.heap.size + 1, 1, none⟩ = some (.int .i64 s.den)) (simp [*, go_sem])
    (first
      | (go_at_call_of 35 (r.num); refine (split_calls r.num r.den _ a1.1 a1.2 a2.1 a2.2).mono ?_; rintro e w2 ⟨rfl, hb⟩; obtain ⟨o2, j2, rfl⟩ := grow_of_below hb; clear hb)
      | (go_at_call_of 35 (s.num); refine (split_calls s.num s.den _ b1.1 b1.2 b2.1 b2.2).mono ?_; rintro e w3 ⟨rfl, hb⟩; obtain ⟨o3, j3, rfl⟩ := grow_of_below hb; clear hb)
      | (go_at_call 37; refine (HP.out _).mono ?_; rintro e w4 ⟨rfl, hb⟩; obtain ⟨o4, j4, rfl⟩ := grow_of_below hb; clear hb))
  go_wp2
  refine bodyPost_ret (by simp [results, Tryd.results15, go_sem]) rfl ⟨rfl, ?_⟩
  repeat (first | exact Below.refl _ _ | refine Below.setCell ?_ (by first | omega | (simp [go_sem]; done) | (simp [go_sem]; omega)) _ | refine Below.alloc ?_ (by first | omega | (simp [go_sem]; done) | (simp [go_sem]; omega)) _ | refine Below.drew ?_ | refine below_drewN _ ?_ | refine below_grow ?_ (by first | omega | (simp [go_sem]; done) | (simp [go_sem]; omega)))
set_option maxHeartbeats 1000000 in
theorem div_calls (r s : Rat) (hr : fitsR r) (hs : fitsR s) (h0 : s.num ≠ 0) (w : World) :
    Calls Tryd.prog 17 #[.agg #[.int .i64 r.num, .int .i64 r.den], .agg #[.int .i64 s.num, .int .i64 s.den]] w fun e w' => e = .returned (.tuple #[.agg #[.int .i64 (outN (r / s)), .int .i64 (outD (r / s))], .int .i64 (outE (r / s))]) ∧ Below w.heap.size w w' := by
  obtain ⟨a1, a2, a3, a4⟩ := fits64 hr
  obtain ⟨b1, b2, b3, b4⟩ := fits64 hs
  have hall := rats2 r s
  have sr := signOf_lt r
  obtain ⟨m1, m2, ss⟩ := inv_parts s h0
  have hP := fun w => times_ratM r (s⁻¹) _ _ sr ss _ _ s.den s.num.natAbs (Lib.hid rfl) (Lib.hid rfl) (Lib.hid m1) (Lib.hid m2) (by omega) (by omega) (by omega) (by omega) w
  rw [← Rat.div_def] at hP
  clear m1 m2
  have HP := Lib.hid hP
  have hnz : (s.num == 0) = false := by simpa using h0
  clear hP sr ss
  have en : ((r.den : Int).natAbs : Int) = r.den := by omega
  have em : ((s.den : Int).natAbs : Int) = s.den := by omega
  go_enter Tryd.func17, Tryd.ntmps17
  go_wp2_with (go_at_call 34; refine (allRight2 _ r.num r.den s.num s.den true hall a1 a2 b1 b2 _ (by simp [go_sem]) (by simp [go_sem]) (by simp [go_sem]) (by simp [go_sem])).mono ?_; rintro e w1 ⟨rfl, hb⟩; obtain ⟨o1, j1, rfl⟩ := grow_of_below hb; clear hb)
  go_region_held3 (fun w' => w'.cell? ⟨w.heap.size, 0, none⟩ = some (.int .i64 r.num) ∧ w'.cell? ⟨w.heap.size, 1, none⟩ = some (.int .i64 r.den) ∧ w'.cell? ⟨w.heap.size + 1, 0, none⟩ = some (.int .i64 s.num) ∧ w'.cell? ⟨w.heap.size + 1, 1, none⟩ = some (.int .i64 s.den)) (simp [*, go_sem])
    (first
      | (go_at_call_of 35 (r.num); refine (split_calls r.num r.den _ a1.1 a1.2 a2.1 a2.2).mono ?_; rintro e w2 ⟨rfl, hb⟩; obtain ⟨o2, j2, rfl⟩ := grow_of_below hb; clear hb)
      | (go_at_call_of 35 (s.num); refine (split_calls s.num s.den _ b1.1 b1.2 b2.1 b2.2).mono ?_; rintro e w3 ⟨rfl, hb⟩; obtain ⟨o3, j3, rfl⟩ := grow_of_below hb; clear hb)
      | (go_at_call 39; refine (reciprocal_calls _ _ _ _).mono ?_; rintro e w5 ⟨rfl, hb⟩; obtain ⟨o5, j5, rfl⟩ := grow_of_below hb; clear hb)
      | (go_at_call 37; refine (HP.out _).mono ?_; rintro e w4 ⟨rfl, hb⟩; obtain ⟨o4, j4, rfl⟩ := grow_of_below hb; clear hb))
  go_wp2
  refine bodyPost_ret (by simp [results, Tryd.results17, go_sem]) rfl ⟨rfl, ?_⟩
  repeat (first | exact Below.refl _ _ | refine Below.setCell ?_ (by first | omega | (simp [go_sem]; done) | (simp [go_sem]; omega)) _ | refine Below.alloc ?_ (by first | omega | (simp [go_sem]; done) | (simp [go_sem]; omega)) _ | refine Below.drew ?_ | refine below_drewN _ ?_ | refine below_grow ?_ (by first | omega | (simp [go_sem]; done) | (simp [go_sem]; omega)))
end Go.Proofs.YtignphcnjgbikaaDoor
