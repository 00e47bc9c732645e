/- Walks of frac: pack, times, plus and what stands above them. -/
import Derived.Test.YtignphcnjgbikaaDoorA
namespace Go.Proofs.YtignphcnjgbikaaDoor
open Go.RowKit Go.Shelf

theorem pack_pos (n d : Int) (w : World) (n0 : 0 ≤ n) (n1 : n ≤ 9223372036854775807) (d0 : 0 ≤ d) (d1 : d ≤ 9223372036854775807) :
    Calls Tryd.prog 40 #[.bool false, .agg #[.int .u64 0, .int .u64 n], .agg #[.int .u64 0, .int .u64 d]] w fun e w' => e = .returned (.tuple #[.agg #[.int .i64 n, .int .i64 d], .int .i64 0]) ∧ Below w.heap.size w w' := by
  have hd : IntKind.i64.wrap d = d := IntWalk.i64_in d (by omega)
  go_enter Tryd.func40, Tryd.ntmps40
  go_wp2
  go_region_held3 (fun w' => w'.cell? ⟨w.heap.size, 1, none⟩ = some (.int .u64 n) ∧ w'.cell? ⟨w.heap.size + 1, 1, none⟩ = some (.int .u64 d)) (simp [go_sem, World.cell?_alloc_past])
    (first | (go_at_call 46; refine (signed_pos _ _ n0 n1).mono ?_; rintro e w' ⟨rfl, rfl⟩))
  go_wp2
  refine bodyPost_ret (by simp [results, Tryd.results40, go_sem]) rfl ⟨rfl, ?_⟩
  repeat (first | exact Below.refl _ _ | refine Below.setCell ?_ (by first | (simp [go_sem]; done) | (simp [go_sem]; omega)) _ | refine Below.alloc ?_ (by first | (simp [go_sem]; done) | (simp [go_sem]; omega)) _ | refine Below.drew ?_ | refine below_drewN _ ?_ | refine below_grow ?_ (by first | (simp [go_sem]; done) | (simp [go_sem]; omega)))
theorem pack_neg (n d : Int) (w : World) (n0 : 0 ≤ n) (n1 : n ≤ 9223372036854775808) (d0 : 0 ≤ d) (d1 : d ≤ 9223372036854775807) :
    Calls Tryd.prog 40 #[.bool true, .agg #[.int .u64 0, .int .u64 n], .agg #[.int .u64 0, .int .u64 d]] w fun e w' => e = .returned (.tuple #[.agg #[.int .i64 (-n), .int .i64 d], .int .i64 0]) ∧ Below w.heap.size w w' := by
  have hd : IntKind.i64.wrap d = d := IntWalk.i64_in d (by omega)
  go_enter Tryd.func40, Tryd.ntmps40
  go_wp2
  go_region_held3 (fun w' => w'.cell? ⟨w.heap.size, 1, none⟩ = some (.int .u64 n) ∧ w'.cell? ⟨w.heap.size + 1, 1, none⟩ = some (.int .u64 d)) (simp [go_sem, World.cell?_alloc_past])
    (first | (go_at_call 46; refine (signed_neg _ _ n0 n1).mono ?_; rintro e w' ⟨rfl, rfl⟩))
  go_wp2
  refine bodyPost_ret (by simp [results, Tryd.results40, go_sem]) rfl ⟨rfl, ?_⟩
  repeat (first | exact Below.refl _ _ | refine Below.setCell ?_ (by first | (simp [go_sem]; done) | (simp [go_sem]; omega)) _ | refine Below.alloc ?_ (by first | (simp [go_sem]; done) | (simp [go_sem]; omega)) _ | refine Below.drew ?_ | refine below_drewN _ ?_ | refine below_grow ?_ (by first | (simp [go_sem]; done) | (simp [go_sem]; omega)))
/-- too long -/
theorem pack_long (neg : Bool) (nh nl dh dl : Int) (w : World) (h0 : 0 ≤ nh) (h1 : 0 ≤ nl) (h2 : 0 ≤ dh) (h3 : 0 ≤ dl)
    (h : nh ≠ 0 ∨ (if neg then 9223372036854775808 else 9223372036854775807) < nl ∨ dh ≠ 0 ∨ 9223372036854775807 < dl) :
    Calls Tryd.prog 40 #[.bool neg, .agg #[.int .u64 nh, .int .u64 nl], .agg #[.int .u64 dh, .int .u64 dl]] w fun e w' => e = .returned (.tuple #[.agg #[.int .i64 0, .int .i64 0], .int .i64 3]) ∧ Below w.heap.size w w' := by
  by_cases g1 : nh = 0
  · subst g1
    by_cases g2 : (if neg then 9223372036854775808 else 9223372036854775807) < nl
    · clear h
      cases neg
      · simp only [Bool.false_eq_true, if_false] at g2
        go_enter Tryd.func40, Tryd.ntmps40
        go_wp2
        refine bodyPost_ret (by simp [results, Tryd.results40, go_sem]) rfl ⟨rfl, ?_⟩
        repeat (first | exact Below.refl _ _ | refine Below.setCell ?_ (by first | (simp [go_sem]; done) | (simp [go_sem]; omega)) _ | refine Below.alloc ?_ (by first | (simp [go_sem]; done) | (simp [go_sem]; omega)) _ | refine Below.drew ?_ | refine below_drewN _ ?_ | refine below_grow ?_ (by first | (simp [go_sem]; done) | (simp [go_sem]; omega)))
      · simp only [if_true] at g2
        go_enter Tryd.func40, Tryd.ntmps40
        go_wp2
        refine bodyPost_ret (by simp [results, Tryd.results40, go_sem]) rfl ⟨rfl, ?_⟩
        repeat (first | exact Below.refl _ _ | refine Below.setCell ?_ (by first | (simp [go_sem]; done) | (simp [go_sem]; omega)) _ | refine Below.alloc ?_ (by first | (simp [go_sem]; done) | (simp [go_sem]; omega)) _ | refine Below.drew ?_ | refine below_drewN _ ?_ | refine below_grow ?_ (by first | (simp [go_sem]; done) | (simp [go_sem]; omega)))
    · by_cases g3 : dh = 0
      · subst g3
        have g4 : 9223372036854775807 < dl := by
          rcases h with h | h | h | h
          · exact absurd rfl h
          · exact absurd h g2
          · exact absurd rfl h
          · exact h
        clear h
        cases neg
        · simp only [Bool.false_eq_true, if_false] at g2
          go_enter Tryd.func40, Tryd.ntmps40
          go_wp2
          refine bodyPost_ret (by simp [results, Tryd.results40, go_sem]) rfl ⟨rfl, ?_⟩
          repeat (first | exact Below.refl _ _ | refine Below.setCell ?_ (by first | (simp [go_sem]; done) | (simp [go_sem]; omega)) _ | refine Below.alloc ?_ (by first | (simp [go_sem]; done) | (simp [go_sem]; omega)) _ | refine Below.drew ?_ | refine below_drewN _ ?_ | refine below_grow ?_ (by first | (simp [go_sem]; done) | (simp [go_sem]; omega)))
        · simp only [if_true] at g2
          go_enter Tryd.func40, Tryd.ntmps40
          go_wp2
          refine bodyPost_ret (by simp [results, Tryd.results40, go_sem]) rfl ⟨rfl, ?_⟩
          repeat (first | exact Below.refl _ _ | refine Below.setCell ?_ (by first | (simp [go_sem]; done) | (simp [go_sem]; omega)) _ | refine Below.alloc ?_ (by first | (simp [go_sem]; done) | (simp [go_sem]; omega)) _ | refine Below.drew ?_ | refine below_drewN _ ?_ | refine below_grow ?_ (by first | (simp [go_sem]; done) | (simp [go_sem]; omega)))
      · have hb : (dh != 0) = true := by simpa using g3
        clear h g3
        cases neg
        · simp only [Bool.false_eq_true, if_false] at g2
          go_enter Tryd.func40, Tryd.ntmps40
          go_wp2
          refine bodyPost_ret (by simp [results, Tryd.results40, go_sem]) rfl ⟨rfl, ?_⟩
          repeat (first | exact Below.refl _ _ | refine Below.setCell ?_ (by first | (simp [go_sem]; done) | (simp [go_sem]; omega)) _ | refine Below.alloc ?_ (by first | (simp [go_sem]; done) | (simp [go_sem]; omega)) _ | refine Below.drew ?_ | refine below_drewN _ ?_ | refine below_grow ?_ (by first | (simp [go_sem]; done) | (simp [go_sem]; omega)))
        · simp only [if_true] at g2
          go_enter Tryd.func40, Tryd.ntmps40
          go_wp2
          refine bodyPost_ret (by simp [results, Tryd.results40, go_sem]) rfl ⟨rfl, ?_⟩
          repeat (first | exact Below.refl _ _ | refine Below.setCell ?_ (by first | (simp [go_sem]; done) | (simp [go_sem]; omega)) _ | refine Below.alloc ?_ (by first | (simp [go_sem]; done) | (simp [go_sem]; omega)) _ | refine Below.drew ?_ | refine below_drewN _ ?_ | refine below_grow ?_ (by first | (simp [go_sem]; done) | (simp [go_sem]; omega)))
  · have hb : (nh != 0) = true := by simpa using g1
    clear h g1
    cases neg
    · go_enter Tryd.func40, Tryd.ntmps40
      go_wp2
      refine bodyPost_ret (by simp [results, Tryd.results40, go_sem]) rfl ⟨rfl, ?_⟩
      repeat (first | exact Below.refl _ _ | refine Below.setCell ?_ (by first | (simp [go_sem]; done) | (simp [go_sem]; omega)) _ | refine Below.alloc ?_ (by first | (simp [go_sem]; done) | (simp [go_sem]; omega)) _ | refine Below.drew ?_ | refine below_drewN _ ?_ | refine below_grow ?_ (by first | (simp [go_sem]; done) | (simp [go_sem]; omega)))
    · go_enter Tryd.func40, Tryd.ntmps40
      go_wp2
      refine bodyPost_ret (by simp [results, Tryd.results40, go_sem]) rfl ⟨rfl, ?_⟩
      repeat (first | exact Below.refl _ _ | refine Below.setCell ?_ (by first | (simp [go_sem]; done) | (simp [go_sem]; omega)) _ | refine Below.alloc ?_ (by first | (simp [go_sem]; done) | (simp [go_sem]; omega)) _ | refine Below.drew ?_ | refine below_drewN _ ?_ | refine below_grow ?_ (by first | (simp [go_sem]; done) | (simp [go_sem]; omega)))

/-- What pack returns of a number and a denominator without a common divisor. -/
def fitsP (neg : Bool) (n d : Int) : Prop := n ≤ (if neg then 9223372036854775808 else 9223372036854775807) ∧ d ≤ 9223372036854775807
instance (neg : Bool) (n d : Int) : Decidable (fitsP neg n d) := by unfold fitsP; infer_instance
def packN (neg : Bool) (n d : Int) : Int := if fitsP neg n d then (if neg then -n else n) else 0
def packD (neg : Bool) (n d : Int) : Int := if fitsP neg n d then d else 0
def packE (neg : Bool) (n d : Int) : Int := if fitsP neg n d then 0 else 3
theorem pack_calls (neg : Bool) (n d : Int) (n0 : 0 ≤ n) (d0 : 0 ≤ d) (w : World) :
    Calls Tryd.prog 40 #[.bool neg, .agg #[.int .u64 (n / 18446744073709551616), .int .u64 (n % 18446744073709551616)], .agg #[.int .u64 (d / 18446744073709551616), .int .u64 (d % 18446744073709551616)]] w fun e w' => e = .returned (.tuple #[.agg #[.int .i64 (packN neg n d), .int .i64 (packD neg n d)], .int .i64 (packE neg n d)]) ∧ Below w.heap.size w w' := by
  unfold packN packD packE
  by_cases h : fitsP neg n d
  · simp only [if_pos h]
    unfold fitsP at h
    obtain ⟨h1, h2⟩ := h
    have hn : n < 18446744073709551616 := by cases neg <;> simp at h1 <;> omega
    have e1 : n / 18446744073709551616 = 0 := by omega
    have e2 : n % 18446744073709551616 = n := by omega
    have e3 : d / 18446744073709551616 = 0 := by omega
    have e4 : d % 18446744073709551616 = d := by omega
    rw [e1, e2, e3, e4]
    cases neg
    · exact pack_pos n d w n0 (by simpa using h1) d0 h2
    · exact pack_neg n d w n0 (by simpa using h1) d0 h2
  · simp only [if_neg h]
    unfold fitsP at h
    refine pack_long neg _ _ _ _ w (by omega) (by omega) (by omega) (by omega) ?_
    cases neg <;> simp only [Bool.false_eq_true, if_false, if_true] at h ⊢ <;> omega
theorem pack_calls0 (neg : Bool) (n d : Int) (n0 : 0 ≤ n) (d0 : 0 ≤ d) (n1 : n < 18446744073709551616) (d1 : d < 18446744073709551616) (w : World) :
    Calls Tryd.prog 40 #[.bool neg, .agg #[.int .u64 0, .int .u64 n], .agg #[.int .u64 0, .int .u64 d]] w fun e w' => e = .returned (.tuple #[.agg #[.int .i64 (packN neg n d), .int .i64 (packD neg n d)], .int .i64 (packE neg n d)]) ∧ Below w.heap.size w w' := by
  have h := pack_calls neg n d n0 d0 w
  rw [show n / 18446744073709551616 = 0 by omega, show n % 18446744073709551616 = n by omega, show d / 18446744073709551616 = 0 by omega, show d % 18446744073709551616 = d by omega] at h
  exact h

theorem product_callsI (x y : Int) (x0 : 0 ≤ x) (y0 : 0 ≤ y) (hx : x < 18446744073709551616) (hy : y < 18446744073709551616) (w : World) :
    Calls Tryd.prog 59 #[.int .u64 x, .int .u64 y] w fun e w' => e = .returned (.agg #[.int .u64 (x * y / 18446744073709551616), .int .u64 (x * y % 18446744073709551616)]) ∧ Below w.heap.size w w' := by
  obtain ⟨x, rfl⟩ := Int.eq_ofNat_of_zero_le x0
  obtain ⟨y, rfl⟩ := Int.eq_ofNat_of_zero_le y0
  exact product_calls x y (by omega) (by omega) w
theorem divb (n d : Nat) (hn : n < 18446744073709551616) : (0 : Int) ≤ (n : Int) / d ∧ (n : Int) / d < 18446744073709551616 := by
  have h1 : (n : Int) / d = ((n / d : Nat) : Int) := by simp
  have h2 : n / d ≤ n := Nat.div_le_self n d
  rw [h1]
  generalize n / d = q at *
  omega
theorem run_quo (x y : Int) (hx : 0 ≤ x) (hx2 : x < 18446744073709551616) (hy : 0 < y) (w : World) :
    (binOp BinOp.quo 65 (.int .u64 x) (.int .u64 y)).run Tryd.prog w = .ok (.int .u64 (x / y)) w := by
  have hy2 : ¬ y = 0 := by omega
  have h3 : x.tdiv y = x / y := Int.tdiv_eq_ediv_of_nonneg hx
  have h4 : 0 ≤ x / y := Int.ediv_nonneg hx (by omega)
  have h5 : x / y ≤ x := Int.ediv_le_self y hx
  have h6 : IntKind.u64.wrap (x / y) = x / y := by rw [u64w]; omega
  simp [go_sem, hy2, h3, h6]
theorem run_rem (x y : Int) (hx : 0 ≤ x) (hx2 : x < 18446744073709551616) (hy : 0 < y) (w : World) :
    (binOp BinOp.rem 65 (.int .u64 x) (.int .u64 y)).run Tryd.prog w = .ok (.int .u64 (x % y)) w := by
  have hy2 : ¬ y = 0 := by omega
  have h3 : x.tmod y = x % y := Int.tmod_eq_emod_of_nonneg hx
  have h4 : 0 ≤ x % y := Int.emod_nonneg x (by omega)
  have h5 : x % y ≤ x := by
    have := Int.mul_ediv_add_emod x y
    have := Int.mul_nonneg (Int.le_of_lt hy) (Int.ediv_nonneg hx (Int.le_of_lt hy))
    omega
  have h6 : IntKind.u64.wrap (x % y) = x % y := by rw [u64w]; generalize x % y = z at *; omega
  simp [go_sem, hy2, h3, h6]

theorem gcd_callsG (a b G : Nat) (hG : Hid (Nat.gcd a b = G)) (w : World) (ha : a < 18446744073709551616) (hb : b < 18446744073709551616) :
    Calls Tryd.prog 41 #[.int .u64 a, .int .u64 b] w fun e w' => e = .returned (.int .u64 G) ∧ ∃ n, w.drewN n = w' := by
  have := hG.out
  subst this
  exact gcd_calls a b w ha hb
end Go.Proofs.YtignphcnjgbikaaDoor
