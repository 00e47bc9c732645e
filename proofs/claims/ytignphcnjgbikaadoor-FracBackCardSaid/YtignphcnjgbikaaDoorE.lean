/- ratio.plus, where the products are below 2^63. -/
import Derived.Test.YtignphcnjgbikaaDoorD
import Derived.Deep.DeepCutAuto
namespace Go.Proofs.YtignphcnjgbikaaDoor
open Go.RowKit Go.Shelf

theorem pack_calls1 (neg : Bool) (n d : Int) (n0 : 0 ≤ n) (n1 : n < 18446744073709551616) (d0 : 0 ≤ d) (w : World) :
    Calls Tryd.prog 40 #[.bool neg, .agg #[.int .u64 0, .int .u64 n], .agg #[.int .u64 (d / 18446744073709551616), .int .u64 (d % 18446744073709551616)]] w fun e w' => e = .returned (.tuple #[.agg #[.int .i64 (packN neg n d), .int .i64 (packD neg n d)], .int .i64 (packE neg n d)]) ∧ Below w.heap.size w w' := by
  have h := pack_calls neg n d n0 d0 w
  rw [show n / 18446744073709551616 = 0 by omega, show n % 18446744073709551616 = n by omega] at h
  exact h

set_option maxRecDepth 100000 in
set_option maxHeartbeats 2000000 in
/-- ratio.plus, the signs are the same -/
theorem plus_same (b : Bool) (n d m e : Int) (n0 : 0 ≤ n) (n1 : n < 18446744073709551616) (m0 : 0 ≤ m) (m1 : m < 18446744073709551616) (d0 : 0 < d) (d1 : d < 18446744073709551616) (e0 : 0 < e) (e1 : e < 18446744073709551616)
    (g L : Nat) (hg : Hid (Int.gcd d e = g)) (g0 : 0 < (g : Int)) (p q : Int) (hp : Hid (n * (e / g) = p)) (hq : Hid (m * (d / g) = q)) (p0 : 0 ≤ p) (q0 : 0 ≤ q) (p1 : p < 9223372036854775808) (q1 : q < 9223372036854775808)
    (hL : Hid (Int.gcd ((p + q) % g) g = L)) (L0 : 0 < (L : Int)) (L1 : (L : Int) < 18446744073709551616) (g1 : (g : Int) < 18446744073709551616) (w : World) :
    Calls Tryd.prog 36 #[.agg #[.bool b, .int .u64 n, .int .u64 d], .agg #[.bool b, .int .u64 m, .int .u64 e]] w fun r w' => r = .returned (.tuple #[.agg #[.int .i64 (packN b ((p + q) / L) ((d / g) * (e / L))), .int .i64 (packD b ((p + q) / L) ((d / g) * (e / L)))], .int .i64 (packE b ((p + q) / L) ((d / g) * (e / L)))]) ∧ Below w.heap.size w w' := by
  have t0 : 0 ≤ (p + q) := by omega
  have t1 : (p + q) < 18446744073709551616 := by omega
  obtain ⟨u1, u2, u3, u4⟩ := divI e g (by omega) e1 g0
  obtain ⟨v1, v2, v3, v4⟩ := divI d g (by omega) d1 g0
  obtain ⟨x1, x2, x3, x4⟩ := modI ((p + q)) g t0 g0 g1
  obtain ⟨y1, y2, y3, y4⟩ := divI ((p + q)) L t0 t1 L0
  obtain ⟨z1, z2, z3, z4⟩ := divI e L (by omega) e1 L0
  have gz : ¬ g = 0 := by omega
  have Lz : ¬ L = 0 := by omega
  have x5 : (p + q) % (g : Int) < 18446744073709551616 := by omega
  go_enter Tryd.func36, Tryd.ntmps36
  go_upto_region 2 with (go_at_call 41; refine (gcd_callsI d e g hg (by omega) (by omega) d1 e1 _).mono ?_; rintro e' w1 ⟨rfl, hb⟩; obtain ⟨o1, j1, rfl⟩ := grow_of_below hb; clear hb)
  go_cut [7, 8] (fun s7 s8 wx => ∃ x y : Nat, s7 = .pointer (some ⟨x, 0, none⟩) ∧ s8 = .pointer (some ⟨y, 0, none⟩) ∧ Below w.heap.size w wx ∧ NeZero (inW w.heap.size wx) ∧ NeZero (inW (w.heap.size + 1) wx) ∧ NeZero (inW (w.heap.size + 1 + 1) wx) ∧ NeZero (inW x wx) ∧ NeZero (inW y wx) ∧
    wx.cell? ⟨w.heap.size, 0, none⟩ = some (.bool b) ∧ wx.cell? ⟨w.heap.size, 2, none⟩ = some (.int .u64 d) ∧ wx.cell? ⟨w.heap.size + 1, 0, none⟩ = some (.bool b) ∧ wx.cell? ⟨w.heap.size + 1, 2, none⟩ = some (.int .u64 e) ∧
    wx.cell? ⟨w.heap.size + 1 + 1, 0, none⟩ = some (.int .i64 0) ∧ wx.cell? ⟨w.heap.size + 1 + 1, 1, none⟩ = some (.int .i64 0) ∧ wx.frozen? ⟨w.heap.size + 1 + 1, 0, none⟩ = false ∧ wx.frozen? ⟨w.heap.size + 1 + 1, 1, none⟩ = false ∧
    wx.cell? ⟨x, 0, none⟩ = some (.int .u64 0) ∧ wx.cell? ⟨x, 1, none⟩ = some (.int .u64 p) ∧ wx.cell? ⟨y, 0, none⟩ = some (.int .u64 0) ∧ wx.cell? ⟨y, 1, none⟩ = some (.int .u64 q))
  case first =>
    go_region_held3 (fun w' => w'.cell? ⟨w.heap.size, 1, none⟩ = some (.int .u64 n) ∧ w'.cell? ⟨w.heap.size, 2, none⟩ = some (.int .u64 d) ∧ w'.cell? ⟨w.heap.size + 1, 1, none⟩ = some (.int .u64 m) ∧ w'.cell? ⟨w.heap.size + 1, 2, none⟩ = some (.int .u64 e)) (simp [*, go_sem])
      (first
        | (go_at_call_of 59 (n); refine (product_small _ _ p hp n0 u1 n1 u2 p0 (by omega) _).mono ?_; rintro e' w2 ⟨rfl, hb⟩; obtain ⟨o2, j2, rfl⟩ := grow_of_below hb; clear hb)
        | (go_at_call_of 59 (m); refine (product_small _ _ q hq m0 v1 m1 v2 q0 (by omega) _).mono ?_; rintro e' w3 ⟨rfl, hb⟩; obtain ⟨o3, j3, rfl⟩ := grow_of_below hb; clear hb))
    all_goals
      go_wp2_with fail
      go_meet
      refine ⟨_, _, rfl, rfl, ?_, inferInstance, inferInstance, inferInstance, inferInstance, inferInstance, ?_, ?_, ?_, ?_, ?_, ?_, ?_, ?_, ?_, ?_, ?_, ?_⟩
      · repeat (first | exact Below.refl _ _ | refine Below.setCell ?_ (by first | omega | (simp [go_sem]; done) | (simp [go_sem]; omega)) _ | refine Below.alloc ?_ (by first | omega | (simp [go_sem]; done) | (simp [go_sem]; omega)) _ | refine Below.drew ?_ | refine below_drewN _ ?_ | refine below_grow ?_ (by first | omega | (simp [go_sem]; done) | (simp [go_sem]; omega)))
      all_goals simp [go_sem]
  case rest =>
    obtain ⟨x, y, rfl, rfl, hbw, i0, i1, i2, i3, i4, c00, c02, c10, c12, c20, c21, f20, f21, cx0, cx1, cy0, cy1⟩ := hcut
    go_upto_region 3 with fail
    go_cut [9, 10] (fun s9 s10 wy => ∃ z : Nat, s9 = .bool b ∧ s10 = .pointer (some ⟨z, 0, none⟩) ∧ Below w.heap.size w wy ∧ w.heap.size ≤ z ∧ NeZero (inW w.heap.size wy) ∧ NeZero (inW (w.heap.size + 1) wy) ∧ NeZero (inW (w.heap.size + 1 + 1) wy) ∧ NeZero (inW x wy) ∧ NeZero (inW y wy) ∧ NeZero (inW z wy) ∧
      wy.cell? ⟨w.heap.size, 0, none⟩ = some (.bool b) ∧ wy.cell? ⟨w.heap.size, 2, none⟩ = some (.int .u64 d) ∧ wy.cell? ⟨w.heap.size + 1, 0, none⟩ = some (.bool b) ∧ wy.cell? ⟨w.heap.size + 1, 2, none⟩ = some (.int .u64 e) ∧
      wy.cell? ⟨w.heap.size + 1 + 1, 0, none⟩ = some (.int .i64 0) ∧ wy.cell? ⟨w.heap.size + 1 + 1, 1, none⟩ = some (.int .i64 0) ∧ wy.frozen? ⟨w.heap.size + 1 + 1, 0, none⟩ = false ∧ wy.frozen? ⟨w.heap.size + 1 + 1, 1, none⟩ = false ∧
      wy.cell? ⟨x, 0, none⟩ = some (.int .u64 0) ∧ wy.cell? ⟨x, 1, none⟩ = some (.int .u64 p) ∧ wy.cell? ⟨y, 0, none⟩ = some (.int .u64 0) ∧ wy.cell? ⟨y, 1, none⟩ = some (.int .u64 q) ∧ wy.cell? ⟨z, 0, none⟩ = some (.int .u64 0) ∧ wy.cell? ⟨z, 1, none⟩ = some (.int .u64 (p + q)) ∧ wy.frozen? ⟨z, 0, none⟩ = false ∧ wy.frozen? ⟨z, 1, none⟩ = false ∧
      x ≠ z ∧ y ≠ z ∧ w.heap.size ≠ z ∧ w.heap.size + 1 ≠ z ∧ w.heap.size + 1 + 1 ≠ z)
    case first =>
      have sx := inW_lt i3
      have sy := inW_lt i4
      have s2 := inW_lt i2
      have hs := hbw.size
      go_region_held3 (fun w' => w'.cell? ⟨w.heap.size, 0, none⟩ = some (.bool b) ∧ w'.cell? ⟨x, 0, none⟩ = some (.int .u64 0) ∧ w'.cell? ⟨x, 1, none⟩ = some (.int .u64 p) ∧ w'.cell? ⟨y, 0, none⟩ = some (.int .u64 0) ∧ w'.cell? ⟨y, 1, none⟩ = some (.int .u64 q)) (simp [*, go_sem])
        (first
          | (go_at_call 60; refine (wplus_small p q p0 q0 (by omega) _).mono ?_; rintro e' w4 ⟨rfl, hb⟩; obtain ⟨o4, j4, rfl⟩ := grow_of_below hb; clear hb))
      all_goals
        go_wp2_with fail
        go_meet
        refine ⟨_, rfl, rfl, ?_, ?_, inferInstance, inferInstance, inferInstance, inferInstance, inferInstance, inferInstance, ?_⟩
        · repeat (first | exact hbw | refine Below.setCell ?_ (by first | omega | (simp [go_sem]; done) | (simp [go_sem]; omega)) _ | refine Below.alloc ?_ (by first | omega | (simp [go_sem]; done) | (simp [go_sem]; omega)) _ | refine Below.drew ?_ | refine below_drewN _ ?_ | refine below_grow ?_ (by first | omega | (simp [go_sem]; done) | (simp [go_sem]; omega)))
        · first | omega | (simp [go_sem]; omega) | (simp [go_sem])
        refine ⟨?_, ?_, ?_, ?_, ?_, ?_, ?_, ?_, ?_, ?_, ?_, ?_, ?_, ?_, ?_, ?_, ?_, ?_, ?_, ?_, ?_⟩
        all_goals first | omega | (simp [go_sem, *]; done) | (simp [go_sem]; omega)
    case rest =>
      obtain ⟨z, rfl, rfl, hby, hz, k0, k1, k2, k3, k4, k5, b00, b02, b10, b12, b20, b21, g20, g21, bx0, bx1, by0, by1, bz0, bz1, gz0, gz1, nx, ny, n0z, n1z, n2z⟩ := hcut
      clear hbw i0 i1 i2 i3 i4 c00 c02 c10 c12 c20 c21 f20 f21 cx0 cx1 cy0 cy1
      have sx := inW_lt k3
      have s2 := inW_lt k2
      have hs := hby.size
      go_upto_region 11 with (first
        | (go_at_call_of 63 (g : Int); refine (over_small _ _ t0 t1 g0 g1 _).mono ?_; rintro e' w5 ⟨rfl, hb⟩; obtain ⟨o5, j5, rfl⟩ := grow_of_below hb; clear hb)
        | (go_at_call 41; refine (gcd_callsI _ g L hL x1 (by omega) x5 g1 _).mono ?_; rintro e' w6 ⟨rfl, hb⟩; obtain ⟨o6, j6, rfl⟩ := grow_of_below hb; clear hb)
        | (go_at_call_of 63 (L : Int); refine (over_small _ _ t0 t1 L0 L1 _).mono ?_; rintro e' w7 ⟨rfl, hb⟩; obtain ⟨o7, j7, rfl⟩ := grow_of_below hb; clear hb))
      go_region_held3 (fun w' => w'.cell? ⟨wc.heap.size + sz o5 + 1 + sz (o6 ++ o7), 0, none⟩ = some (.int .u64 0) ∧ w'.cell? ⟨wc.heap.size + sz o5 + 1 + sz (o6 ++ o7), 1, none⟩ = some (.int .u64 ((p + q) / L)) ∧ w'.cell? ⟨w.heap.size, 2, none⟩ = some (.int .u64 d) ∧ w'.cell? ⟨w.heap.size + 1, 2, none⟩ = some (.int .u64 e)) (simp [*, go_sem])
        (first
          | (go_at_call 59; refine (product_callsI _ _ v1 z1 v2 z2 _).mono ?_; rintro e' w8 ⟨rfl, hb⟩; obtain ⟨o8, j8, rfl⟩ := grow_of_below hb; clear hb)
          | (go_at_call 40; refine (pack_calls1 _ _ _ y1 y2 (Int.mul_nonneg v1 z1) _).mono ?_; rintro e' w9 ⟨rfl, hb⟩; obtain ⟨o9, j9, rfl⟩ := grow_of_below hb; clear hb))
      all_goals
        go_wp2
        refine bodyPost_ret (by simp [results, Tryd.results36, go_sem, *]) rfl ⟨rfl, ?_⟩
        repeat (first | exact hby | refine Below.setCell ?_ (by first | omega | (simp [go_sem]; done) | (simp [go_sem]; omega)) _ | refine Below.alloc ?_ (by first | omega | (simp [go_sem]; done) | (simp [go_sem]; omega)) _ | refine Below.drew ?_ | refine below_drewN _ ?_ | refine below_grow ?_ (by first | omega | (simp [go_sem]; done) | (simp [go_sem]; omega)))

set_option maxRecDepth 100000 in
set_option maxHeartbeats 2000000 in
/-- ratio.plus, other signs, the second one is greater -/
theorem plus_less (b : Bool) (n d m e : Int) (n0 : 0 ≤ n) (n1 : n < 18446744073709551616) (m0 : 0 ≤ m) (m1 : m < 18446744073709551616) (d0 : 0 < d) (d1 : d < 18446744073709551616) (e0 : 0 < e) (e1 : e < 18446744073709551616)
    (g L : Nat) (hg : Hid (Int.gcd d e = g)) (g0 : 0 < (g : Int)) (p q : Int) (hp : Hid (n * (e / g) = p)) (hq : Hid (m * (d / g) = q)) (p0 : 0 ≤ p) (q0 : 0 ≤ q) (p1 : p < 9223372036854775808) (q1 : q < 9223372036854775808)
    (hlt : p < q)
    (hL : Hid (Int.gcd ((q - p) % g) g = L)) (L0 : 0 < (L : Int)) (L1 : (L : Int) < 18446744073709551616) (g1 : (g : Int) < 18446744073709551616) (w : World) :
    Calls Tryd.prog 36 #[.agg #[.bool b, .int .u64 n, .int .u64 d], .agg #[.bool (!b), .int .u64 m, .int .u64 e]] w fun r w' => r = .returned (.tuple #[.agg #[.int .i64 (packN (!b) ((q - p) / L) ((d / g) * (e / L))), .int .i64 (packD (!b) ((q - p) / L) ((d / g) * (e / L)))], .int .i64 (packE (!b) ((q - p) / L) ((d / g) * (e / L)))]) ∧ Below w.heap.size w w' := by
  have t0 : 0 ≤ (q - p) := by omega
  have t1 : (q - p) < 18446744073709551616 := by omega
  obtain ⟨u1, u2, u3, u4⟩ := divI e g (by omega) e1 g0
  obtain ⟨v1, v2, v3, v4⟩ := divI d g (by omega) d1 g0
  obtain ⟨x1, x2, x3, x4⟩ := modI ((q - p)) g t0 g0 g1
  obtain ⟨y1, y2, y3, y4⟩ := divI ((q - p)) L t0 t1 L0
  obtain ⟨z1, z2, z3, z4⟩ := divI e L (by omega) e1 L0
  have gz : ¬ g = 0 := by omega
  have Lz : ¬ L = 0 := by omega
  have x5 : (q - p) % (g : Int) < 18446744073709551616 := by omega
  go_enter Tryd.func36, Tryd.ntmps36
  go_upto_region 2 with (go_at_call 41; refine (gcd_callsI d e g hg (by omega) (by omega) d1 e1 _).mono ?_; rintro e' w1 ⟨rfl, hb⟩; obtain ⟨o1, j1, rfl⟩ := grow_of_below hb; clear hb)
  go_cut [7, 8] (fun s7 s8 wx => ∃ x y : Nat, s7 = .pointer (some ⟨x, 0, none⟩) ∧ s8 = .pointer (some ⟨y, 0, none⟩) ∧ Below w.heap.size w wx ∧ NeZero (inW w.heap.size wx) ∧ NeZero (inW (w.heap.size + 1) wx) ∧ NeZero (inW (w.heap.size + 1 + 1) wx) ∧ NeZero (inW x wx) ∧ NeZero (inW y wx) ∧
    wx.cell? ⟨w.heap.size, 0, none⟩ = some (.bool b) ∧ wx.cell? ⟨w.heap.size, 2, none⟩ = some (.int .u64 d) ∧ wx.cell? ⟨w.heap.size + 1, 0, none⟩ = some (.bool (!b)) ∧ wx.cell? ⟨w.heap.size + 1, 2, none⟩ = some (.int .u64 e) ∧
    wx.cell? ⟨w.heap.size + 1 + 1, 0, none⟩ = some (.int .i64 0) ∧ wx.cell? ⟨w.heap.size + 1 + 1, 1, none⟩ = some (.int .i64 0) ∧ wx.frozen? ⟨w.heap.size + 1 + 1, 0, none⟩ = false ∧ wx.frozen? ⟨w.heap.size + 1 + 1, 1, none⟩ = false ∧
    wx.cell? ⟨x, 0, none⟩ = some (.int .u64 0) ∧ wx.cell? ⟨x, 1, none⟩ = some (.int .u64 p) ∧ wx.cell? ⟨y, 0, none⟩ = some (.int .u64 0) ∧ wx.cell? ⟨y, 1, none⟩ = some (.int .u64 q))
  case first =>
    go_region_held3 (fun w' => w'.cell? ⟨w.heap.size, 1, none⟩ = some (.int .u64 n) ∧ w'.cell? ⟨w.heap.size, 2, none⟩ = some (.int .u64 d) ∧ w'.cell? ⟨w.heap.size + 1, 1, none⟩ = some (.int .u64 m) ∧ w'.cell? ⟨w.heap.size + 1, 2, none⟩ = some (.int .u64 e)) (simp [*, go_sem])
      (first
        | (go_at_call_of 59 (n); refine (product_small _ _ p hp n0 u1 n1 u2 p0 (by omega) _).mono ?_; rintro e' w2 ⟨rfl, hb⟩; obtain ⟨o2, j2, rfl⟩ := grow_of_below hb; clear hb)
        | (go_at_call_of 59 (m); refine (product_small _ _ q hq m0 v1 m1 v2 q0 (by omega) _).mono ?_; rintro e' w3 ⟨rfl, hb⟩; obtain ⟨o3, j3, rfl⟩ := grow_of_below hb; clear hb))
    all_goals
      go_wp2_with fail
      go_meet
      refine ⟨_, _, rfl, rfl, ?_, inferInstance, inferInstance, inferInstance, inferInstance, inferInstance, ?_, ?_, ?_, ?_, ?_, ?_, ?_, ?_, ?_, ?_, ?_, ?_⟩
      · repeat (first | exact Below.refl _ _ | refine Below.setCell ?_ (by first | omega | (simp [go_sem]; done) | (simp [go_sem]; omega)) _ | refine Below.alloc ?_ (by first | omega | (simp [go_sem]; done) | (simp [go_sem]; omega)) _ | refine Below.drew ?_ | refine below_drewN _ ?_ | refine below_grow ?_ (by first | omega | (simp [go_sem]; done) | (simp [go_sem]; omega)))
      all_goals simp [go_sem]
  case rest =>
    obtain ⟨x, y, rfl, rfl, hbw, i0, i1, i2, i3, i4, c00, c02, c10, c12, c20, c21, f20, f21, cx0, cx1, cy0, cy1⟩ := hcut
    go_upto_region 3 with fail
    go_cut [9, 10] (fun s9 s10 wy => ∃ z : Nat, s9 = .bool b ∧ s10 = .pointer (some ⟨z, 0, none⟩) ∧ Below w.heap.size w wy ∧ w.heap.size ≤ z ∧ NeZero (inW w.heap.size wy) ∧ NeZero (inW (w.heap.size + 1) wy) ∧ NeZero (inW (w.heap.size + 1 + 1) wy) ∧ NeZero (inW x wy) ∧ NeZero (inW y wy) ∧ NeZero (inW z wy) ∧
      wy.cell? ⟨w.heap.size, 0, none⟩ = some (.bool b) ∧ wy.cell? ⟨w.heap.size, 2, none⟩ = some (.int .u64 d) ∧ wy.cell? ⟨w.heap.size + 1, 0, none⟩ = some (.bool (!b)) ∧ wy.cell? ⟨w.heap.size + 1, 2, none⟩ = some (.int .u64 e) ∧
      wy.cell? ⟨w.heap.size + 1 + 1, 0, none⟩ = some (.int .i64 0) ∧ wy.cell? ⟨w.heap.size + 1 + 1, 1, none⟩ = some (.int .i64 0) ∧ wy.frozen? ⟨w.heap.size + 1 + 1, 0, none⟩ = false ∧ wy.frozen? ⟨w.heap.size + 1 + 1, 1, none⟩ = false ∧
      wy.cell? ⟨x, 0, none⟩ = some (.int .u64 0) ∧ wy.cell? ⟨x, 1, none⟩ = some (.int .u64 p) ∧ wy.cell? ⟨y, 0, none⟩ = some (.int .u64 0) ∧ wy.cell? ⟨y, 1, none⟩ = some (.int .u64 q) ∧ wy.cell? ⟨z, 0, none⟩ = some (.int .u64 0) ∧ wy.cell? ⟨z, 1, none⟩ = some (.int .u64 (p + q)) ∧ wy.frozen? ⟨z, 0, none⟩ = false ∧ wy.frozen? ⟨z, 1, none⟩ = false ∧
      x ≠ z ∧ y ≠ z ∧ w.heap.size ≠ z ∧ w.heap.size + 1 ≠ z ∧ w.heap.size + 1 + 1 ≠ z)
    case first =>
      have sx := inW_lt i3
      have sy := inW_lt i4
      have s2 := inW_lt i2
      have hs := hbw.size
      go_region_held3 (fun w' => w'.cell? ⟨w.heap.size, 0, none⟩ = some (.bool b) ∧ w'.cell? ⟨x, 0, none⟩ = some (.int .u64 0) ∧ w'.cell? ⟨x, 1, none⟩ = some (.int .u64 p) ∧ w'.cell? ⟨y, 0, none⟩ = some (.int .u64 0) ∧ w'.cell? ⟨y, 1, none⟩ = some (.int .u64 q)) (simp [*, go_sem])
        (first
          | (go_at_call 60; refine (wplus_small p q p0 q0 (by omega) _).mono ?_; rintro e' w4 ⟨rfl, hb⟩; obtain ⟨o4, j4, rfl⟩ := grow_of_below hb; clear hb))
      all_goals
        go_wp2_with fail
        go_meet
        refine ⟨_, rfl, rfl, ?_, ?_, inferInstance, inferInstance, inferInstance, inferInstance, inferInstance, inferInstance, ?_⟩
        · repeat (first | exact hbw | refine Below.setCell ?_ (by first | omega | (simp [go_sem]; done) | (simp [go_sem]; omega)) _ | refine Below.alloc ?_ (by first | omega | (simp [go_sem]; done) | (simp [go_sem]; omega)) _ | refine Below.drew ?_ | refine below_drewN _ ?_ | refine below_grow ?_ (by first | omega | (simp [go_sem]; done) | (simp [go_sem]; omega)))
        · first | omega | (simp [go_sem]; omega) | (simp [go_sem])
        refine ⟨?_, ?_, ?_, ?_, ?_, ?_, ?_, ?_, ?_, ?_, ?_, ?_, ?_, ?_, ?_, ?_, ?_, ?_, ?_, ?_, ?_⟩
        all_goals first | omega | (simp [go_sem, *]; done) | (simp [go_sem]; omega)
    case rest =>
      obtain ⟨z, rfl, rfl, hby, hz, k0, k1, k2, k3, k4, k5, b00, b02, b10, b12, b20, b21, g20, g21, bx0, bx1, by0, by1, bz0, bz1, gz0, gz1, nx, ny, n0z, n1z, n2z⟩ := hcut
      clear hbw i0 i1 i2 i3 i4 c00 c02 c10 c12 c20 c21 f20 f21 cx0 cx1 cy0 cy1
      have sx := inW_lt k3
      have s2 := inW_lt k2
      have hs := hby.size
      have hbb : (b != !b) = true := by cases b <;> rfl
      go_upto_region 6 with (go_at_call 61; refine (wless_yes p q hlt _).mono ?_; rintro e' wa ⟨rfl, hb⟩; obtain ⟨o10, j10, rfl⟩ := grow_of_below hb; clear hb)
      go_region_held3 (fun w' => w'.cell? ⟨w.heap.size + 1, 0, none⟩ = some (.bool (!b)) ∧ w'.cell? ⟨x, 0, none⟩ = some (.int .u64 0) ∧ w'.cell? ⟨x, 1, none⟩ = some (.int .u64 p) ∧ w'.cell? ⟨y, 0, none⟩ = some (.int .u64 0) ∧ w'.cell? ⟨y, 1, none⟩ = some (.int .u64 q)) (simp [*, go_sem])
        (first
          | (go_at_call 62; refine (wminus_small q p (by omega) p0 (by omega) _).mono ?_; rintro e' wb ⟨rfl, hb⟩; obtain ⟨o11, j11, rfl⟩ := grow_of_below hb; clear hb))
      go_upto_region 11 with (first
        | (go_at_call_of 63 (g : Int); refine (over_small _ _ t0 t1 g0 g1 _).mono ?_; rintro e' w5 ⟨rfl, hb⟩; obtain ⟨o5, j5, rfl⟩ := grow_of_below hb; clear hb)
        | (go_at_call 41; refine (gcd_callsI _ g L hL x1 (by omega) x5 g1 _).mono ?_; rintro e' w6 ⟨rfl, hb⟩; obtain ⟨o6, j6, rfl⟩ := grow_of_below hb; clear hb)
        | (go_at_call_of 63 (L : Int); refine (over_small _ _ t0 t1 L0 L1 _).mono ?_; rintro e' w7 ⟨rfl, hb⟩; obtain ⟨o7, j7, rfl⟩ := grow_of_below hb; clear hb))
      go_region_held3 (fun w' => w'.cell? ⟨wc.heap.size + sz (o10 ++ (o11 ++ o5)) + 1 + sz (o6 ++ o7), 0, none⟩ = some (.int .u64 0) ∧ w'.cell? ⟨wc.heap.size + sz (o10 ++ (o11 ++ o5)) + 1 + sz (o6 ++ o7), 1, none⟩ = some (.int .u64 ((q - p) / L)) ∧ w'.cell? ⟨w.heap.size, 2, none⟩ = some (.int .u64 d) ∧ w'.cell? ⟨w.heap.size + 1, 2, none⟩ = some (.int .u64 e)) (simp [*, go_sem])
        (first
          | (go_at_call 59; refine (product_callsI _ _ v1 z1 v2 z2 _).mono ?_; rintro e' w8 ⟨rfl, hb⟩; obtain ⟨o8, j8, rfl⟩ := grow_of_below hb; clear hb)
          | (go_at_call 40; refine (pack_calls1 _ _ _ y1 y2 (Int.mul_nonneg v1 z1) _).mono ?_; rintro e' w9 ⟨rfl, hb⟩; obtain ⟨o9, j9, rfl⟩ := grow_of_below hb; clear hb))
      all_goals
        go_wp2
        refine bodyPost_ret (by simp [results, Tryd.results36, go_sem, *]) rfl ⟨rfl, ?_⟩
        repeat (first | exact hby | refine Below.setCell ?_ (by first | omega | (simp [go_sem]; done) | (simp [go_sem]; omega)) _ | refine Below.alloc ?_ (by first | omega | (simp [go_sem]; done) | (simp [go_sem]; omega)) _ | refine Below.drew ?_ | refine below_drewN _ ?_ | refine below_grow ?_ (by first | omega | (simp [go_sem]; done) | (simp [go_sem]; omega)))

set_option maxRecDepth 100000 in
set_option maxHeartbeats 2000000 in
/-- ratio.plus, other signs, the second one is not greater -/
theorem plus_ge (b : Bool) (n d m e : Int) (n0 : 0 ≤ n) (n1 : n < 18446744073709551616) (m0 : 0 ≤ m) (m1 : m < 18446744073709551616) (d0 : 0 < d) (d1 : d < 18446744073709551616) (e0 : 0 < e) (e1 : e < 18446744073709551616)
    (g L : Nat) (hg : Hid (Int.gcd d e = g)) (g0 : 0 < (g : Int)) (p q : Int) (hp : Hid (n * (e / g) = p)) (hq : Hid (m * (d / g) = q)) (p0 : 0 ≤ p) (q0 : 0 ≤ q) (p1 : p < 9223372036854775808) (q1 : q < 9223372036854775808)
    (hle : q ≤ p)
    (hL : Hid (Int.gcd ((p - q) % g) g = L)) (L0 : 0 < (L : Int)) (L1 : (L : Int) < 18446744073709551616) (g1 : (g : Int) < 18446744073709551616) (w : World) :
    Calls Tryd.prog 36 #[.agg #[.bool b, .int .u64 n, .int .u64 d], .agg #[.bool (!b), .int .u64 m, .int .u64 e]] w fun r w' => r = .returned (.tuple #[.agg #[.int .i64 (packN b ((p - q) / L) ((d / g) * (e / L))), .int .i64 (packD b ((p - q) / L) ((d / g) * (e / L)))], .int .i64 (packE b ((p - q) / L) ((d / g) * (e / L)))]) ∧ Below w.heap.size w w' := by
  have t0 : 0 ≤ (p - q) := by omega
  have t1 : (p - q) < 18446744073709551616 := by omega
  obtain ⟨u1, u2, u3, u4⟩ := divI e g (by omega) e1 g0
  obtain ⟨v1, v2, v3, v4⟩ := divI d g (by omega) d1 g0
  obtain ⟨x1, x2, x3, x4⟩ := modI ((p - q)) g t0 g0 g1
  obtain ⟨y1, y2, y3, y4⟩ := divI ((p - q)) L t0 t1 L0
  obtain ⟨z1, z2, z3, z4⟩ := divI e L (by omega) e1 L0
  have gz : ¬ g = 0 := by omega
  have Lz : ¬ L = 0 := by omega
  have x5 : (p - q) % (g : Int) < 18446744073709551616 := by omega
  go_enter Tryd.func36, Tryd.ntmps36
  go_upto_region 2 with (go_at_call 41; refine (gcd_callsI d e g hg (by omega) (by omega) d1 e1 _).mono ?_; rintro e' w1 ⟨rfl, hb⟩; obtain ⟨o1, j1, rfl⟩ := grow_of_below hb; clear hb)
  go_cut [7, 8] (fun s7 s8 wx => ∃ x y : Nat, s7 = .pointer (some ⟨x, 0, none⟩) ∧ s8 = .pointer (some ⟨y, 0, none⟩) ∧ Below w.heap.size w wx ∧ NeZero (inW w.heap.size wx) ∧ NeZero (inW (w.heap.size + 1) wx) ∧ NeZero (inW (w.heap.size + 1 + 1) wx) ∧ NeZero (inW x wx) ∧ NeZero (inW y wx) ∧
    wx.cell? ⟨w.heap.size, 0, none⟩ = some (.bool b) ∧ wx.cell? ⟨w.heap.size, 2, none⟩ = some (.int .u64 d) ∧ wx.cell? ⟨w.heap.size + 1, 0, none⟩ = some (.bool (!b)) ∧ wx.cell? ⟨w.heap.size + 1, 2, none⟩ = some (.int .u64 e) ∧
    wx.cell? ⟨w.heap.size + 1 + 1, 0, none⟩ = some (.int .i64 0) ∧ wx.cell? ⟨w.heap.size + 1 + 1, 1, none⟩ = some (.int .i64 0) ∧ wx.frozen? ⟨w.heap.size + 1 + 1, 0, none⟩ = false ∧ wx.frozen? ⟨w.heap.size + 1 + 1, 1, none⟩ = false ∧
    wx.cell? ⟨x, 0, none⟩ = some (.int .u64 0) ∧ wx.cell? ⟨x, 1, none⟩ = some (.int .u64 p) ∧ wx.cell? ⟨y, 0, none⟩ = some (.int .u64 0) ∧ wx.cell? ⟨y, 1, none⟩ = some (.int .u64 q))
  case first =>
    go_region_held3 (fun w' => w'.cell? ⟨w.heap.size, 1, none⟩ = some (.int .u64 n) ∧ w'.cell? ⟨w.heap.size, 2, none⟩ = some (.int .u64 d) ∧ w'.cell? ⟨w.heap.size + 1, 1, none⟩ = some (.int .u64 m) ∧ w'.cell? ⟨w.heap.size + 1, 2, none⟩ = some (.int .u64 e)) (simp [*, go_sem])
      (first
        | (go_at_call_of 59 (n); refine (product_small _ _ p hp n0 u1 n1 u2 p0 (by omega) _).mono ?_; rintro e' w2 ⟨rfl, hb⟩; obtain ⟨o2, j2, rfl⟩ := grow_of_below hb; clear hb)
        | (go_at_call_of 59 (m); refine (product_small _ _ q hq m0 v1 m1 v2 q0 (by omega) _).mono ?_; rintro e' w3 ⟨rfl, hb⟩; obtain ⟨o3, j3, rfl⟩ := grow_of_below hb; clear hb))
    all_goals
      go_wp2_with fail
      go_meet
      refine ⟨_, _, rfl, rfl, ?_, inferInstance, inferInstance, inferInstance, inferInstance, inferInstance, ?_, ?_, ?_, ?_, ?_, ?_, ?_, ?_, ?_, ?_, ?_, ?_⟩
      · repeat (first | exact Below.refl _ _ | refine Below.setCell ?_ (by first | omega | (simp [go_sem]; done) | (simp [go_sem]; omega)) _ | refine Below.alloc ?_ (by first | omega | (simp [go_sem]; done) | (simp [go_sem]; omega)) _ | refine Below.drew ?_ | refine below_drewN _ ?_ | refine below_grow ?_ (by first | omega | (simp [go_sem]; done) | (simp [go_sem]; omega)))
      all_goals simp [go_sem]
  case rest =>
    obtain ⟨x, y, rfl, rfl, hbw, i0, i1, i2, i3, i4, c00, c02, c10, c12, c20, c21, f20, f21, cx0, cx1, cy0, cy1⟩ := hcut
    go_upto_region 3 with fail
    go_cut [9, 10] (fun s9 s10 wy => ∃ z : Nat, s9 = .bool b ∧ s10 = .pointer (some ⟨z, 0, none⟩) ∧ Below w.heap.size w wy ∧ w.heap.size ≤ z ∧ NeZero (inW w.heap.size wy) ∧ NeZero (inW (w.heap.size + 1) wy) ∧ NeZero (inW (w.heap.size + 1 + 1) wy) ∧ NeZero (inW x wy) ∧ NeZero (inW y wy) ∧ NeZero (inW z wy) ∧
      wy.cell? ⟨w.heap.size, 0, none⟩ = some (.bool b) ∧ wy.cell? ⟨w.heap.size, 2, none⟩ = some (.int .u64 d) ∧ wy.cell? ⟨w.heap.size + 1, 0, none⟩ = some (.bool (!b)) ∧ wy.cell? ⟨w.heap.size + 1, 2, none⟩ = some (.int .u64 e) ∧
      wy.cell? ⟨w.heap.size + 1 + 1, 0, none⟩ = some (.int .i64 0) ∧ wy.cell? ⟨w.heap.size + 1 + 1, 1, none⟩ = some (.int .i64 0) ∧ wy.frozen? ⟨w.heap.size + 1 + 1, 0, none⟩ = false ∧ wy.frozen? ⟨w.heap.size + 1 + 1, 1, none⟩ = false ∧
      wy.cell? ⟨x, 0, none⟩ = some (.int .u64 0) ∧ wy.cell? ⟨x, 1, none⟩ = some (.int .u64 p) ∧ wy.cell? ⟨y, 0, none⟩ = some (.int .u64 0) ∧ wy.cell? ⟨y, 1, none⟩ = some (.int .u64 q) ∧ wy.cell? ⟨z, 0, none⟩ = some (.int .u64 0) ∧ wy.cell? ⟨z, 1, none⟩ = some (.int .u64 (p + q)) ∧ wy.frozen? ⟨z, 0, none⟩ = false ∧ wy.frozen? ⟨z, 1, none⟩ = false ∧
      x ≠ z ∧ y ≠ z ∧ w.heap.size ≠ z ∧ w.heap.size + 1 ≠ z ∧ w.heap.size + 1 + 1 ≠ z)
    case first =>
      have sx := inW_lt i3
      have sy := inW_lt i4
      have s2 := inW_lt i2
      have hs := hbw.size
      go_region_held3 (fun w' => w'.cell? ⟨w.heap.size, 0, none⟩ = some (.bool b) ∧ w'.cell? ⟨x, 0, none⟩ = some (.int .u64 0) ∧ w'.cell? ⟨x, 1, none⟩ = some (.int .u64 p) ∧ w'.cell? ⟨y, 0, none⟩ = some (.int .u64 0) ∧ w'.cell? ⟨y, 1, none⟩ = some (.int .u64 q)) (simp [*, go_sem])
        (first
          | (go_at_call 60; refine (wplus_small p q p0 q0 (by omega) _).mono ?_; rintro e' w4 ⟨rfl, hb⟩; obtain ⟨o4, j4, rfl⟩ := grow_of_below hb; clear hb))
      all_goals
        go_wp2_with fail
        go_meet
        refine ⟨_, rfl, rfl, ?_, ?_, inferInstance, inferInstance, inferInstance, inferInstance, inferInstance, inferInstance, ?_⟩
        · repeat (first | exact hbw | refine Below.setCell ?_ (by first | omega | (simp [go_sem]; done) | (simp [go_sem]; omega)) _ | refine Below.alloc ?_ (by first | omega | (simp [go_sem]; done) | (simp [go_sem]; omega)) _ | refine Below.drew ?_ | refine below_drewN _ ?_ | refine below_grow ?_ (by first | omega | (simp [go_sem]; done) | (simp [go_sem]; omega)))
        · first | omega | (simp [go_sem]; omega) | (simp [go_sem])
        refine ⟨?_, ?_, ?_, ?_, ?_, ?_, ?_, ?_, ?_, ?_, ?_, ?_, ?_, ?_, ?_, ?_, ?_, ?_, ?_, ?_, ?_⟩
        all_goals first | omega | (simp [go_sem, *]; done) | (simp [go_sem]; omega)
    case rest =>
      obtain ⟨z, rfl, rfl, hby, hz, k0, k1, k2, k3, k4, k5, b00, b02, b10, b12, b20, b21, g20, g21, bx0, bx1, by0, by1, bz0, bz1, gz0, gz1, nx, ny, n0z, n1z, n2z⟩ := hcut
      clear hbw i0 i1 i2 i3 i4 c00 c02 c10 c12 c20 c21 f20 f21 cx0 cx1 cy0 cy1
      have sx := inW_lt k3
      have s2 := inW_lt k2
      have hs := hby.size
      have hbb : (b != !b) = true := by cases b <;> rfl
      go_upto_region 11 with (first
        | (go_at_call_of 63 (g : Int); refine (over_small _ _ t0 t1 g0 g1 _).mono ?_; rintro e' w5 ⟨rfl, hb⟩; obtain ⟨o5, j5, rfl⟩ := grow_of_below hb; clear hb)
        | (go_at_call 41; refine (gcd_callsI _ g L hL x1 (by omega) x5 g1 _).mono ?_; rintro e' w6 ⟨rfl, hb⟩; obtain ⟨o6, j6, rfl⟩ := grow_of_below hb; clear hb)
        | (go_at_call_of 63 (L : Int); refine (over_small _ _ t0 t1 L0 L1 _).mono ?_; rintro e' w7 ⟨rfl, hb⟩; obtain ⟨o7, j7, rfl⟩ := grow_of_below hb; clear hb)
        | (go_at_call 61; refine (wless_no p q hle _).mono ?_; rintro e' wa ⟨rfl, hb⟩; obtain ⟨o10, j10, rfl⟩ := grow_of_below hb; clear hb)
        | (go_at_call 62; refine (wminus_small p q hle q0 (by omega) _).mono ?_; rintro e' wb ⟨rfl, hb⟩; obtain ⟨o11, j11, rfl⟩ := grow_of_below hb; clear hb))
      go_region_held3 (fun w' => w'.cell? ⟨wc.heap.size + sz (o10 ++ (o11 ++ o5)) + 1 + sz (o6 ++ o7), 0, none⟩ = some (.int .u64 0) ∧ w'.cell? ⟨wc.heap.size + sz (o10 ++ (o11 ++ o5)) + 1 + sz (o6 ++ o7), 1, none⟩ = some (.int .u64 ((p - q) / L)) ∧ w'.cell? ⟨w.heap.size, 2, none⟩ = some (.int .u64 d) ∧ w'.cell? ⟨w.heap.size + 1, 2, none⟩ = some (.int .u64 e)) (simp [*, go_sem])
        (first
          | (go_at_call 59; refine (product_callsI _ _ v1 z1 v2 z2 _).mono ?_; rintro e' w8 ⟨rfl, hb⟩; obtain ⟨o8, j8, rfl⟩ := grow_of_below hb; clear hb)
          | (go_at_call 40; refine (pack_calls1 _ _ _ y1 y2 (Int.mul_nonneg v1 z1) _).mono ?_; rintro e' w9 ⟨rfl, hb⟩; obtain ⟨o9, j9, rfl⟩ := grow_of_below hb; clear hb))
      all_goals
        go_wp2
        refine bodyPost_ret (by simp [results, Tryd.results36, go_sem, *]) rfl ⟨rfl, ?_⟩
        repeat (first | exact hby | refine Below.setCell ?_ (by first | omega | (simp [go_sem]; done) | (simp [go_sem]; omega)) _ | refine Below.alloc ?_ (by first | omega | (simp [go_sem]; done) | (simp [go_sem]; omega)) _ | refine Below.drew ?_ | refine below_drewN _ ?_ | refine below_grow ?_ (by first | omega | (simp [go_sem]; done) | (simp [go_sem]; omega)))
end Go.Proofs.YtignphcnjgbikaaDoor
