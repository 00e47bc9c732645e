/- frac.Make and Neg; what is not right. -/
import Derived.Test.YtignphcnjgbikaaDoorI
namespace Go.Proofs.YtignphcnjgbikaaDoor
open Go.RowKit Go.Shelf

theorem sign_mk (n d : Int) (hd : d ≠ 0) (g : Nat) (hg : g ∣ n.natAbs) :
    d.sign * n / g = if (decide (n < 0) != decide (d < 0)) then -((n.natAbs : Int) / g) else (n.natAbs : Int) / g := by
  have hz : (g : Int) ∣ (n.natAbs : Int) := Int.natCast_dvd_natCast.2 hg
  have hs : d.sign * n = if (decide (n < 0) != decide (d < 0)) then -(n.natAbs : Int) else (n.natAbs : Int) := by
    rcases Int.lt_or_gt_of_ne hd with h | h
    · rw [Int.sign_eq_neg_one_of_neg h]
      by_cases hn : n < 0 <;> simp [hn, h] <;> omega
    · rw [Int.sign_eq_one_of_pos h]
      by_cases hn : n < 0 <;> simp [hn, show ¬ d < 0 by omega] <;> omega
  rw [hs]
  split
  · rw [Int.neg_ediv_of_dvd hz]
  · rfl

set_option maxHeartbeats 1000000 in
theorem make_calls (n d : Int) (hn : I64 n) (hd : I64 d) (h0 : d ≠ 0) (w : World) :
    Calls Tryd.prog 22 #[.int .i64 n, .int .i64 d] w fun e w' => e = .returned (.tuple #[.agg #[.int .i64 (outN (Rat.divInt n d)), .int .i64 (outD (Rat.divInt n d))], .int .i64 (outE (Rat.divInt n d))]) ∧ Below w.heap.size w w' := by
  obtain ⟨n1, n2⟩ := hn
  obtain ⟨d1, d2⟩ := hd
  obtain ⟨g, hg⟩ : ∃ g : Nat, n.natAbs.gcd d.natAbs = g := ⟨_, rfl⟩
  have g0 : 0 < g := hg ▸ Nat.gcd_pos_of_pos_right _ (by omega)
  have gn : g ∣ n.natAbs := hg ▸ Nat.gcd_dvd_left _ _
  have gd : g ∣ d.natAbs := hg ▸ Nat.gcd_dvd_right _ _
  have hgI : Int.gcd (n.natAbs : Int) (d.natAbs : Int) = g := by simpa [Int.gcd] using hg
  have hgI2 : Int.gcd d n = g := by rw [Int.gcd_comm]; simpa [Int.gcd] using hg
  have a0 : (0 : Int) ≤ (n.natAbs : Int) := by omega
  have b0 : (0 : Int) ≤ (d.natAbs : Int) := by omega
  have a1 : (n.natAbs : Int) < 18446744073709551616 := by omega
  have b1 : (d.natAbs : Int) < 18446744073709551616 := by omega
  have g1 : g ≤ d.natAbs := Nat.le_of_dvd (by omega) gd
  obtain ⟨u1, u2, u3, u4⟩ := divI (n.natAbs : Int) g a0 a1 (by omega)
  obtain ⟨v1, v2, v3, v4⟩ := divI (d.natAbs : Int) g b0 b1 (by omega)
  obtain ⟨o1, o2, o3⟩ := pack_out (decide (n < 0) != decide (d < 0)) ((n.natAbs : Int) / g) ((d.natAbs : Int) / g) (Rat.divInt n d) u1
    (by rw [Rat.num_divInt, hgI2, sign_mk n d h0 g gn])
    (by rw [Rat.den_divInt, if_neg h0, hgI2]; simp)
  rw [← o1, ← o2, ← o3]
  clear o1 o2 o3
  have HG := Lib.hid hgI
  clear hgI hgI2 hg
  have gz : ¬ g = 0 := by omega
  have hbn : (d == 0) = false := by simpa using h0
  have hp := fun w => pack_calls0 (decide (n < 0) != decide (d < 0)) _ _ u1 v1 u2 v2 w
  have HP := Lib.hid hp
  clear hp
  go_enter Tryd.func22, Tryd.ntmps22
  go_wp2_with (first
    | (go_at_call_of 42 (n); refine (size_calls n _ n1 n2).mono ?_; rintro e w' ⟨rfl, rfl⟩)
    | (go_at_call_of 42 (d); refine (size_calls d _ d1 d2).mono ?_; rintro e w' ⟨rfl, rfl⟩)
    | (go_at_call 41; refine (gcd_callsI _ _ g HG a0 b0 a1 b1 _).mono ?_; rintro e w1 ⟨rfl, hb⟩; obtain ⟨o1, j1, rfl⟩ := grow_of_below hb; clear hb))
  go_region_held3 (fun w' => True) (trivial)
    (first
      | (go_at_call 40; refine (HP.out _).mono ?_; rintro e w2 ⟨rfl, hb⟩; obtain ⟨o2, j2, rfl⟩ := grow_of_below hb; clear hb))
  go_wp2
  refine bodyPost_ret (by simp [results, Tryd.results22, go_sem]) rfl ⟨rfl, ?_⟩
  repeat (first | exact Below.refl _ _ | refine Below.setCell ?_ (by first | omega | (simp [go_sem]; done) | (simp [go_sem]; omega)) _ | refine Below.alloc ?_ (by first | omega | (simp [go_sem]; done) | (simp [go_sem]; omega)) _ | refine Below.drew ?_ | refine below_drewN _ ?_ | refine below_grow ?_ (by first | omega | (simp [go_sem]; done) | (simp [go_sem]; omega)))
theorem make_zero (n : Int) (w : World) :
    Calls Tryd.prog 22 #[.int .i64 n, .int .i64 0] w fun e w' => e = .returned (.tuple #[.agg #[.int .i64 0, .int .i64 0], .int .i64 2]) ∧ Below w.heap.size w w' := by
  go_enter Tryd.func22, Tryd.ntmps22
  go_wp2
  refine bodyPost_ret (by simp [results, Tryd.results22, go_sem]) rfl ⟨rfl, ?_⟩
  repeat (first | exact Below.refl _ _ | refine Below.setCell ?_ (by first | omega | (simp [go_sem]; done) | (simp [go_sem]; omega)) _ | refine Below.alloc ?_ (by first | omega | (simp [go_sem]; done) | (simp [go_sem]; omega)) _ | refine Below.drew ?_ | refine below_drewN _ ?_ | refine below_grow ?_ (by first | omega | (simp [go_sem]; done) | (simp [go_sem]; omega)))

set_option maxHeartbeats 1000000 in
theorem neg_calls (r : Rat) (hr : fitsR r) (w : World) :
    Calls Tryd.prog 18 #[.agg #[.int .i64 r.num, .int .i64 r.den]] w fun e w' => e = .returned (.tuple #[.agg #[.int .i64 (outN (-r)), .int .i64 (outD (-r))], .int .i64 (outE (-r))]) ∧ Below w.heap.size w w' := by
  obtain ⟨a1, a2, a3, a4⟩ := fits64 hr
  obtain ⟨m1, m2, ss⟩ := neg_parts r
  have hR := Lib.hid (right_rat r)
  unfold signOf at ss
  rw [m1] at ss
  obtain ⟨o1, o2, o3⟩ := pack_out (!(decide (r.num < 0))) (r.num.natAbs : Int) (r.den : Int) (-r) (by omega) ss (by rw [m2])
  rw [← o1, ← o2, ← o3]
  clear o1 o2 o3 ss m1 m2
  have hp := fun w => pack_calls0 (!(decide (r.num < 0))) (r.num.natAbs : Int) (r.den : Int) (by omega) (by omega) (by omega) (by omega) w
  have HP := Lib.hid hp
  clear hp
  have en : ((r.den : Int).natAbs : Int) = r.den := by omega
  go_enter Tryd.func18, Tryd.ntmps18
  go_wp2_with (first
    | (go_at_call 20; refine (right_callsB _ _ true hR a1 a2 _).mono ?_; rintro e w1 ⟨rfl, hb⟩; obtain ⟨o1, j1, rfl⟩ := grow_of_below hb; clear hb)
    | (go_at_call 35; refine (split_calls r.num r.den _ a1.1 a1.2 a2.1 a2.2).mono ?_; rintro e w2 ⟨rfl, hb⟩; obtain ⟨o2, j2, rfl⟩ := grow_of_below hb; clear hb)
    | (go_at_call 38; refine (opposite_calls _ _ _ _).mono ?_; rintro e w5 ⟨rfl, hb⟩; obtain ⟨o5, j5, rfl⟩ := grow_of_below hb; clear hb)
    | (go_at_call 40; refine (HP.out _).mono ?_; rintro e w2 ⟨rfl, hb⟩; obtain ⟨o6, j6, rfl⟩ := grow_of_below hb; clear hb))
  refine bodyPost_ret (by simp [results, Tryd.results18, go_sem]) rfl ⟨rfl, ?_⟩
  repeat (first | exact Below.refl _ _ | refine Below.setCell ?_ (by first | omega | (simp [go_sem]; done) | (simp [go_sem]; omega)) _ | refine Below.alloc ?_ (by first | omega | (simp [go_sem]; done) | (simp [go_sem]; omega)) _ | refine Below.drew ?_ | refine below_drewN _ ?_ | refine below_grow ?_ (by first | omega | (simp [go_sem]; done) | (simp [go_sem]; omega)))

/-! What is not right is rejected. -/
theorem add_bad (n d m e : Int) (hb : (rightB n d && rightB m e) = false) (hn : I64 n) (hd : I64 d) (hm : I64 m) (he : I64 e) (w : World) :
    Calls Tryd.prog 14 #[.agg #[.int .i64 n, .int .i64 d], .agg #[.int .i64 m, .int .i64 e]] w fun e w' => e = .returned (.tuple #[.agg #[.int .i64 0, .int .i64 0], .int .i64 2]) ∧ Below w.heap.size w w' := by
  have hall := Lib.hid hb
  clear hb
  go_enter Tryd.func14, Tryd.ntmps14
  go_wp2_with (go_at_call 34; refine (allRight2 _ n d m e false hall hn hd hm he _ (by simp [go_sem]) (by simp [go_sem]) (by simp [go_sem]) (by simp [go_sem])).mono ?_; rintro e w1 ⟨rfl, hb⟩; obtain ⟨o1, j1, rfl⟩ := grow_of_below hb; clear hb)
  refine bodyPost_ret (by simp [results, Tryd.results14, go_sem]) rfl ⟨rfl, ?_⟩
  repeat (first | exact Below.refl _ _ | refine Below.setCell ?_ (by first | omega | (simp [go_sem]; done) | (simp [go_sem]; omega)) _ | refine Below.alloc ?_ (by first | omega | (simp [go_sem]; done) | (simp [go_sem]; omega)) _ | refine Below.drew ?_ | refine below_drewN _ ?_ | refine below_grow ?_ (by first | omega | (simp [go_sem]; done) | (simp [go_sem]; omega)))
theorem sub_bad (n d m e : Int) (hb : (rightB n d && rightB m e) = false) (hn : I64 n) (hd : I64 d) (hm : I64 m) (he : I64 e) (w : World) :
    Calls Tryd.prog 16 #[.agg #[.int .i64 n, .int .i64 d], .agg #[.int .i64 m, .int .i64 e]] w fun e w' => e = .returned (.tuple #[.agg #[.int .i64 0, .int .i64 0], .int .i64 2]) ∧ Below w.heap.size w w' := by
  have hall := Lib.hid hb
  clear hb
  go_enter Tryd.func16, Tryd.ntmps16
  go_wp2_with (go_at_call 34; refine (allRight2 _ n d m e false hall hn hd hm he _ (by simp [go_sem]) (by simp [go_sem]) (by simp [go_sem]) (by simp [go_sem])).mono ?_; rintro e w1 ⟨rfl, hb⟩; obtain ⟨o1, j1, rfl⟩ := grow_of_below hb; clear hb)
  refine bodyPost_ret (by simp [results, Tryd.results16, go_sem]) rfl ⟨rfl, ?_⟩
  repeat (first | exact Below.refl _ _ | refine Below.setCell ?_ (by first | omega | (simp [go_sem]; done) | (simp [go_sem]; omega)) _ | refine Below.alloc ?_ (by first | omega | (simp [go_sem]; done) | (simp [go_sem]; omega)) _ | refine Below.drew ?_ | refine below_drewN _ ?_ | refine below_grow ?_ (by first | omega | (simp [go_sem]; done) | (simp [go_sem]; omega)))
theorem mul_bad (n d m e : Int) (hb : (rightB n d && rightB m e) = false) (hn : I64 n) (hd : I64 d) (hm : I64 m) (he : I64 e) (w : World) :
    Calls Tryd.prog 15 #[.agg #[.int .i64 n, .int .i64 d], .agg #[.int .i64 m, .int .i64 e]] w fun e w' => e = .returned (.tuple #[.agg #[.int .i64 0, .int .i64 0], .int .i64 2]) ∧ Below w.heap.size w w' := by
  have hall := Lib.hid hb
  clear hb
  go_enter Tryd.func15, Tryd.ntmps15
  go_wp2_with (go_at_call 34; refine (allRight2 _ n d m e false hall hn hd hm he _ (by simp [go_sem]) (by simp [go_sem]) (by simp [go_sem]) (by simp [go_sem])).mono ?_; rintro e w1 ⟨rfl, hb⟩; obtain ⟨o1, j1, rfl⟩ := grow_of_below hb; clear hb)
  refine bodyPost_ret (by simp [results, Tryd.results15, go_sem]) rfl ⟨rfl, ?_⟩
  repeat (first | exact Below.refl _ _ | refine Below.setCell ?_ (by first | omega | (simp [go_sem]; done) | (simp [go_sem]; omega)) _ | refine Below.alloc ?_ (by first | omega | (simp [go_sem]; done) | (simp [go_sem]; omega)) _ | refine Below.drew ?_ | refine below_drewN _ ?_ | refine below_grow ?_ (by first | omega | (simp [go_sem]; done) | (simp [go_sem]; omega)))
theorem div_bad (n d m e : Int) (hb : (rightB n d && rightB m e) = false) (hn : I64 n) (hd : I64 d) (hm : I64 m) (he : I64 e) (w : World) :
    Calls Tryd.prog 17 #[.agg #[.int .i64 n, .int .i64 d], .agg #[.int .i64 m, .int .i64 e]] w fun e w' => e = .returned (.tuple #[.agg #[.int .i64 0, .int .i64 0], .int .i64 2]) ∧ Below w.heap.size w w' := by
  have hall := Lib.hid hb
  clear hb
  go_enter Tryd.func17, Tryd.ntmps17
  go_wp2_with (go_at_call 34; refine (allRight2 _ n d m e false hall hn hd hm he _ (by simp [go_sem]) (by simp [go_sem]) (by simp [go_sem]) (by simp [go_sem])).mono ?_; rintro e w1 ⟨rfl, hb⟩; obtain ⟨o1, j1, rfl⟩ := grow_of_below hb; clear hb)
  refine bodyPost_ret (by simp [results, Tryd.results17, go_sem]) rfl ⟨rfl, ?_⟩
  repeat (first | exact Below.refl _ _ | refine Below.setCell ?_ (by first | omega | (simp [go_sem]; done) | (simp [go_sem]; omega)) _ | refine Below.alloc ?_ (by first | omega | (simp [go_sem]; done) | (simp [go_sem]; omega)) _ | refine Below.drew ?_ | refine below_drewN _ ?_ | refine below_grow ?_ (by first | omega | (simp [go_sem]; done) | (simp [go_sem]; omega)))
theorem div_zero (n d : Int) (hb : rightB n d = true) (hn : I64 n) (hd : I64 d) (w : World) :
    Calls Tryd.prog 17 #[.agg #[.int .i64 n, .int .i64 d], .agg #[.int .i64 0, .int .i64 1]] w fun e w' => e = .returned (.tuple #[.agg #[.int .i64 0, .int .i64 0], .int .i64 2]) ∧ Below w.heap.size w w' := by
  have hall : Hid ((rightB n d && rightB 0 1) = true) := Lib.hid (by rw [hb]; rfl)
  clear hb
  have h0 : I64 0 := by unfold I64; omega
  have h1 : I64 1 := by unfold I64; omega
  go_enter Tryd.func17, Tryd.ntmps17
  go_wp2_with (go_at_call 34; refine (allRight2 _ n d 0 1 true hall hn hd h0 h1 _ (by simp [go_sem]) (by simp [go_sem]) (by simp [go_sem]) (by simp [go_sem])).mono ?_; rintro e w1 ⟨rfl, hb⟩; obtain ⟨o1, j1, rfl⟩ := grow_of_below hb; clear hb)
  refine bodyPost_ret (by simp [results, Tryd.results17, go_sem]) rfl ⟨rfl, ?_⟩
  repeat (first | exact Below.refl _ _ | refine Below.setCell ?_ (by first | omega | (simp [go_sem]; done) | (simp [go_sem]; omega)) _ | refine Below.alloc ?_ (by first | omega | (simp [go_sem]; done) | (simp [go_sem]; omega)) _ | refine Below.drew ?_ | refine below_drewN _ ?_ | refine below_grow ?_ (by first | omega | (simp [go_sem]; done) | (simp [go_sem]; omega)))
theorem neg_bad (n d : Int) (hb : rightB n d = false) (hn : I64 n) (hd : I64 d) (w : World) :
    Calls Tryd.prog 18 #[.agg #[.int .i64 n, .int .i64 d]] w fun e w' => e = .returned (.tuple #[.agg #[.int .i64 0, .int .i64 0], .int .i64 2]) ∧ Below w.heap.size w w' := by
  have hR := Lib.hid hb
  clear hb
  go_enter Tryd.func18, Tryd.ntmps18
  go_wp2_with (go_at_call 20; refine (right_callsB _ _ false hR hn hd _).mono ?_; rintro e w1 ⟨rfl, hb⟩; obtain ⟨o1, j1, rfl⟩ := grow_of_below hb; clear hb)
  refine bodyPost_ret (by simp [results, Tryd.results18, go_sem]) rfl ⟨rfl, ?_⟩
  repeat (first | exact Below.refl _ _ | refine Below.setCell ?_ (by first | omega | (simp [go_sem]; done) | (simp [go_sem]; omega)) _ | refine Below.alloc ?_ (by first | omega | (simp [go_sem]; done) | (simp [go_sem]; omega)) _ | refine Below.drew ?_ | refine below_drewN _ ?_ | refine below_grow ?_ (by first | omega | (simp [go_sem]; done) | (simp [go_sem]; omega)))
theorem near_bad (n d : Int) (hb : rightB n d = false) (hn : I64 n) (hd : I64 d) (w : World) :
    Calls Tryd.prog 23 #[.agg #[.int .i64 n, .int .i64 d]] w fun e w' => e = .returned (.tuple #[.int .i64 0, .int .i64 2]) ∧ Below w.heap.size w w' := by
  have hR := Lib.hid hb
  clear hb
  go_enter Tryd.func23, Tryd.ntmps23
  go_wp2_with (go_at_call 20; refine (right_callsB _ _ false hR hn hd _).mono ?_; rintro e w1 ⟨rfl, hb⟩; obtain ⟨o1, j1, rfl⟩ := grow_of_below hb; clear hb)
  go_ret2
  exact ⟨rfl, by repeat (first | exact Below.refl _ _ | refine Below.setCell ?_ (by first | omega | (simp [go_sem]; done) | (simp [go_sem]; omega)) _ | refine Below.alloc ?_ (by first | omega | (simp [go_sem]; done) | (simp [go_sem]; omega)) _ | refine Below.drew ?_ | refine below_drewN _ ?_ | refine below_grow ?_ (by first | omega | (simp [go_sem]; done) | (simp [go_sem]; omega)))⟩
theorem text_bad (n d : Int) (hb : rightB n d = false) (hn : I64 n) (hd : I64 d) (w : World) :
    Calls Tryd.prog 30 #[.agg #[.int .i64 n, .int .i64 d]] w fun e w' => e = .returned (.tuple #[.string ⟨#[]⟩, .int .i64 2]) ∧ Below w.heap.size w w' := by
  have hR := Lib.hid hb
  clear hb
  go_enter Tryd.func30, Tryd.ntmps30
  go_wp2_with (go_at_call 20; refine (right_callsB _ _ false hR hn hd _).mono ?_; rintro e w1 ⟨rfl, hb⟩; obtain ⟨o1, j1, rfl⟩ := grow_of_below hb; clear hb)
  go_ret2
  exact ⟨rfl, by repeat (first | exact Below.refl _ _ | refine Below.setCell ?_ (by first | omega | (simp [go_sem]; done) | (simp [go_sem]; omega)) _ | refine Below.alloc ?_ (by first | omega | (simp [go_sem]; done) | (simp [go_sem]; omega)) _ | refine Below.drew ?_ | refine below_drewN _ ?_ | refine below_grow ?_ (by first | omega | (simp [go_sem]; done) | (simp [go_sem]; omega)))⟩
theorem round_bad (n d : Int) (k : Int) (hb : rightB n d = false) (hn : I64 n) (hd : I64 d) (w : World) :
    Calls Tryd.prog 24 #[.agg #[.int .i64 n, .int .i64 d], .int .i64 k] w fun e w' => e = .returned (.tuple #[.string ⟨#[]⟩, .int .i64 2]) ∧ Below w.heap.size w w' := by
  have hR := Lib.hid hb
  clear hb
  go_enter Tryd.func24, Tryd.ntmps24
  go_wp2_with (go_at_call 20; refine (right_callsB _ _ false hR hn hd _).mono ?_; rintro e w1 ⟨rfl, hb⟩; obtain ⟨o1, j1, rfl⟩ := grow_of_below hb; clear hb)
  go_ret2
  exact ⟨rfl, by repeat (first | exact Below.refl _ _ | refine Below.setCell ?_ (by first | omega | (simp [go_sem]; done) | (simp [go_sem]; omega)) _ | refine Below.alloc ?_ (by first | omega | (simp [go_sem]; done) | (simp [go_sem]; omega)) _ | refine Below.drew ?_ | refine below_drewN _ ?_ | refine below_grow ?_ (by first | omega | (simp [go_sem]; done) | (simp [go_sem]; omega)))⟩
theorem round_low (n d : Int) (k : Int) (hk : k < 0) (hb : rightB n d = true) (hn : I64 n) (hd : I64 d) (w : World) :
    Calls Tryd.prog 24 #[.agg #[.int .i64 n, .int .i64 d], .int .i64 k] w fun e w' => e = .returned (.tuple #[.string ⟨#[]⟩, .int .i64 2]) ∧ Below w.heap.size w w' := by
  have hR := Lib.hid hb
  clear hb
  go_enter Tryd.func24, Tryd.ntmps24
  go_wp2_with (go_at_call 20; refine (right_callsB _ _ true hR hn hd _).mono ?_; rintro e w1 ⟨rfl, hb⟩; obtain ⟨o1, j1, rfl⟩ := grow_of_below hb; clear hb)
  go_ret2
  exact ⟨rfl, by repeat (first | exact Below.refl _ _ | refine Below.setCell ?_ (by first | omega | (simp [go_sem]; done) | (simp [go_sem]; omega)) _ | refine Below.alloc ?_ (by first | omega | (simp [go_sem]; done) | (simp [go_sem]; omega)) _ | refine Below.drew ?_ | refine below_drewN _ ?_ | refine below_grow ?_ (by first | omega | (simp [go_sem]; done) | (simp [go_sem]; omega)))⟩
theorem round_high (n d : Int) (k : Int) (hk : 9 < k) (hb : rightB n d = true) (hn : I64 n) (hd : I64 d) (w : World) :
    Calls Tryd.prog 24 #[.agg #[.int .i64 n, .int .i64 d], .int .i64 k] w fun e w' => e = .returned (.tuple #[.string ⟨#[]⟩, .int .i64 2]) ∧ Below w.heap.size w w' := by
  have hR := Lib.hid hb
  clear hb
  go_enter Tryd.func24, Tryd.ntmps24
  go_wp2_with (go_at_call 20; refine (right_callsB _ _ true hR hn hd _).mono ?_; rintro e w1 ⟨rfl, hb⟩; obtain ⟨o1, j1, rfl⟩ := grow_of_below hb; clear hb)
  go_ret2
  exact ⟨rfl, by repeat (first | exact Below.refl _ _ | refine Below.setCell ?_ (by first | omega | (simp [go_sem]; done) | (simp [go_sem]; omega)) _ | refine Below.alloc ?_ (by first | omega | (simp [go_sem]; done) | (simp [go_sem]; omega)) _ | refine Below.drew ?_ | refine below_drewN _ ?_ | refine below_grow ?_ (by first | omega | (simp [go_sem]; done) | (simp [go_sem]; omega)))⟩
end Go.Proofs.YtignphcnjgbikaaDoor
