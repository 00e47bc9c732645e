/- Walks of frac: numbers of 128 bits whose high half is 0; plus. -/
import Derived.Test.YtignphcnjgbikaaDoorC
namespace Go.Proofs.YtignphcnjgbikaaDoor
open Go.RowKit Go.Shelf

theorem divI (x y : Int) (hx : 0 ≤ x) (hx2 : x < 18446744073709551616) (hy : 0 < y) : 0 ≤ x / y ∧ x / y < 18446744073709551616 ∧ IntKind.u64.wrap (x / y) = x / y ∧ x.tdiv y = x / y := by
  have h4 : 0 ≤ x / y := Int.ediv_nonneg hx (by omega)
  have h5 : x / y ≤ x := Int.ediv_le_self y hx
  exact ⟨h4, by omega, IntWalk.u64_in _ (by omega), Int.tdiv_eq_ediv_of_nonneg hx⟩
theorem modI (x y : Int) (hx : 0 ≤ x) (hy : 0 < y) (hy2 : y < 18446744073709551616) : 0 ≤ x % y ∧ x % y < y ∧ IntKind.u64.wrap (x % y) = x % y ∧ x.tmod y = x % y := by
  have h4 : 0 ≤ x % y := Int.emod_nonneg x (by omega)
  have h5 : x % y < y := Int.emod_lt_of_pos x hy
  exact ⟨h4, h5, IntWalk.u64_in _ (by omega), Int.tmod_eq_emod_of_nonneg hx⟩
theorem product_small (x y p : Int) (hp : Hid (x * y = p)) (x0 : 0 ≤ x) (y0 : 0 ≤ y) (hx : x < 18446744073709551616) (hy : y < 18446744073709551616) (p0 : 0 ≤ p) (p1 : p < 18446744073709551616) (w : World) :
    Calls Tryd.prog 59 #[.int .u64 x, .int .u64 y] w fun e w' => e = .returned (.agg #[.int .u64 0, .int .u64 p]) ∧ Below w.heap.size w w' := by
  have h := product_callsI x y x0 y0 hx hy w
  rw [hp.out, show p / 18446744073709551616 = 0 by omega, show p % 18446744073709551616 = p by omega] at h
  exact h
theorem wplus_small (a b : Int) (a0 : 0 ≤ a) (b0 : 0 ≤ b) (h : a + b < 18446744073709551616) (w : World) :
    Calls Tryd.prog 60 #[.agg #[.int .u64 0, .int .u64 a], .agg #[.int .u64 0, .int .u64 b]] w fun e w' => e = .returned (.agg #[.int .u64 0, .int .u64 (a + b)]) ∧ Below w.heap.size w w' := by
  have k := wplus_calls 0 a 0 b (by omega) a0 (by omega) b0 (by omega) (by omega) (by omega) (by omega) w
  rw [show (0 + 0 + (a + b) / 18446744073709551616 : Int) % 18446744073709551616 = 0 by omega, show (a + b) % 18446744073709551616 = a + b by omega] at k
  exact k
theorem wminus_small (a b : Int) (h : b ≤ a) (b0 : 0 ≤ b) (a1 : a < 18446744073709551616) (w : World) :
    Calls Tryd.prog 62 #[.agg #[.int .u64 0, .int .u64 a], .agg #[.int .u64 0, .int .u64 b]] w fun e w' => e = .returned (.agg #[.int .u64 0, .int .u64 (a - b)]) ∧ Below w.heap.size w w' := by
  have k := wminus_calls 0 a 0 b (by omega) (by omega) (by omega) b0 (by omega) a1 (by omega) (by omega) w
  rw [show bor a b = 0 by unfold bor; rw [if_neg (by omega)], show (a - b) % 18446744073709551616 = a - b by omega] at k
  exact k
theorem wless_yes (a b : Int) (h : a < b) (w : World) :
    Calls Tryd.prog 61 #[.agg #[.int .u64 0, .int .u64 a], .agg #[.int .u64 0, .int .u64 b]] w fun e w' => e = .returned (.bool true) ∧ Below w.heap.size w w' := by
  have k := wless_calls 0 a 0 b w
  rw [show decide ((0 : Int) < 0 ∨ (0 : Int) = 0 ∧ a < b) = true by simpa using h] at k
  exact k
theorem wless_no (a b : Int) (h : b ≤ a) (w : World) :
    Calls Tryd.prog 61 #[.agg #[.int .u64 0, .int .u64 a], .agg #[.int .u64 0, .int .u64 b]] w fun e w' => e = .returned (.bool false) ∧ Below w.heap.size w w' := by
  have k := wless_calls 0 a 0 b w
  rw [show decide ((0 : Int) < 0 ∨ (0 : Int) = 0 ∧ a < b) = false by simpa using h] at k
  exact k
theorem div64_smallI (lo y : Int) (l0 : 0 ≤ lo) (hl : lo < 18446744073709551616) (hy : 0 < y) (hy2 : y < 18446744073709551616) (w : World) :
    Calls Tryd.prog 84 #[.int .u64 0, .int .u64 lo, .int .u64 y] w fun e w' => e = .returned (.tuple #[.int .u64 (lo / y), .int .u64 (lo % y)]) ∧ Below w.heap.size w w' := by
  obtain ⟨lo, rfl⟩ := Int.eq_ofNat_of_zero_le l0
  obtain ⟨y, rfl⟩ := Int.eq_ofNat_of_zero_le (Int.le_of_lt hy)
  exact div64_small lo y (by omega) (by omega) (by omega) w
theorem gcd_callsI (a b : Int) (G : Nat) (hG : Hid (Int.gcd a b = G)) (a0 : 0 ≤ a) (b0 : 0 ≤ b) (ha : a < 18446744073709551616) (hb : b < 18446744073709551616) (w : World) :
    Calls Tryd.prog 41 #[.int .u64 a, .int .u64 b] w fun e w' => e = .returned (.int .u64 G) ∧ Below w.heap.size w w' := by
  obtain ⟨a, rfl⟩ := Int.eq_ofNat_of_zero_le a0
  obtain ⟨b, rfl⟩ := Int.eq_ofNat_of_zero_le b0
  exact (gcd_callsG a b G (Lib.hid (by have := hG.out; simpa [Int.gcd] using this)) w (by omega) (by omega)).mono fun e w' ⟨h, n, k⟩ => ⟨h, by subst k; exact below_drewN _ (Below.refl _ _)⟩

/-- wide.over where the high half is 0 -/
theorem over_small (lo n : Int) (l0 : 0 ≤ lo) (hl : lo < 18446744073709551616) (hn0 : 0 < n) (hn : n < 18446744073709551616) (w : World) :
    Calls Tryd.prog 63 #[.agg #[.int .u64 0, .int .u64 lo], .int .u64 n] w fun e w' => e = .returned (.tuple #[.agg #[.int .u64 0, .int .u64 (lo / n)], .int .u64 (lo % n)]) ∧ Below w.heap.size w w' := by
  have z : ¬ n = 0 := by omega
  go_enter Tryd.func63, Tryd.ntmps63
  go_wp2
  go_region_held3 (fun w' => w'.cell? ⟨w.heap.size, 0, none⟩ = some (.int .u64 0) ∧ w'.cell? ⟨w.heap.size, 1, none⟩ = some (.int .u64 lo)) (simp [*, go_sem, World.cell?_alloc_past])
    (first
      | (go_at_call 84; refine (div64_smallI _ _ l0 hl hn0 hn _).mono ?_; rintro e w1 ⟨rfl, hb⟩; obtain ⟨x1, d1, rfl⟩ := grow_of_below hb; clear hb))
  go_wp2
  refine bodyPost_ret (by simp [results, Tryd.results63, go_sem]) rfl ⟨rfl, ?_⟩
  repeat (first | exact Below.refl _ _ | refine Below.setCell ?_ (by first | (simp [go_sem]; done) | (simp [go_sem]; omega)) _ | refine Below.alloc ?_ (by first | (simp [go_sem]; done) | (simp [go_sem]; omega)) _ | refine Below.drew ?_ | refine below_drewN _ ?_ | refine below_grow ?_ (by first | (simp [go_sem]; done) | (simp [go_sem]; omega)))
end Go.Proofs.YtignphcnjgbikaaDoor
