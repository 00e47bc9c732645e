/- Walks of nat's parts: shifted. -/
import Derived.Test.YtcgecgagecobeaaND
import Derived.IntWalk
namespace Go.Proofs.Ytcgecgagecobeaa
open Go.RowKit

theorem orN (X Y : Nat) (hX : X < 4294967296) (hY : Y < 4294967296) : bits .or .u32 (X : Int) (Y : Int) = ((X ||| Y : Nat) : Int) :=
  (bits_nat .u32 32 (by decide) (fun n h0 h1 => by rw [IntKind.wrap_u32]; omega) X Y (by omega) (by omega)).2
theorem sh_at (a q : Nat) (n r : Int) (hr0 : 0 ≤ r) (hn : n = 32 * q + r) : bits .or .u32 (pt a 0 * 2 ^ r.toNat % 4294967296) 0 = pt (a * 2 ^ n.toNat) q := by
  obtain ⟨r, rfl⟩ := Int.eq_ofNat_of_zero_le hr0
  have en : n.toNat = 32 * q + r := by omega
  rw [en]
  unfold pt
  rw [shift_at, Nat.pow_zero, Nat.div_one]
  have hA : a % 4294967296 < 4294967296 := Nat.mod_lt _ (by decide)
  generalize a % 4294967296 = A at *
  have e : (A : Int) * 2 ^ (r : Int).toNat % 4294967296 = ((A * 2 ^ r % 4294967296 : Nat) : Int) := by
    rw [Int.natCast_emod, Int.natCast_mul, Int.natCast_pow]; rfl
  rw [e]
  have := orN (A * 2 ^ r % 4294967296) 0 (Nat.mod_lt _ (by decide)) (by decide)
  rw [Nat.or_zero] at this
  exact this
theorem sh_hi (a q m : Nat) (n r : Int) (hr0 : 0 ≤ r) (hr1 : r < 32) (hn : n = 32 * q + r) : bits .or .u32 (pt a (m + 1) * 2 ^ r.toNat % 4294967296) (pt a m / 2 ^ (32 - r).toNat) = pt (a * 2 ^ n.toNat) (q + (m + 1)) := by
  obtain ⟨r, rfl⟩ := Int.eq_ofNat_of_zero_le hr0
  have en : n.toNat = 32 * q + r := by omega
  have es : (32 - (r : Int)).toNat = 32 - r := by omega
  rw [en, es]
  unfold pt
  rw [shift_hi a q r m (by omega)]
  generalize a / 4294967296 ^ (m + 1) % 4294967296 = A1
  have hA : a / 4294967296 ^ m % 4294967296 < 4294967296 := Nat.mod_lt _ (by decide)
  generalize a / 4294967296 ^ m % 4294967296 = A0 at *
  have e : (A1 : Int) * 2 ^ (r : Int).toNat % 4294967296 = ((A1 * 2 ^ r % 4294967296 : Nat) : Int) := by
    rw [Int.natCast_emod, Int.natCast_mul, Int.natCast_pow]; rfl
  have e2 : (A0 : Int) / 2 ^ (32 - r) = ((A0 / 2 ^ (32 - r) : Nat) : Int) := by
    rw [Int.natCast_ediv, Int.natCast_pow]; rfl
  rw [e, e2]
  have e32 : (4294967296 : Nat) = 2 ^ r * 2 ^ (32 - r) := by rw [← Nat.pow_add, show r + (32 - r) = 32 from by omega]
  have hq : A0 / 2 ^ (32 - r) < 2 ^ r := by
    rw [Nat.div_lt_iff_lt_mul (Nat.pow_pos (by decide)), ← e32]; exact hA
  have hX : A1 * 2 ^ r % 4294967296 = 2 ^ r * (A1 % 2 ^ (32 - r)) := by
    conv => lhs; rhs; rw [e32]
    rw [Nat.mul_comm A1, Nat.mul_mod_mul_left]
  have hlt : A1 * 2 ^ r % 4294967296 < 4294967296 := Nat.mod_lt _ (by decide)
  have hY : A0 / 2 ^ (32 - r) < 4294967296 := Nat.lt_of_le_of_lt (Nat.div_le_self _ _) hA
  rw [orN _ _ hlt hY, hX, Nat.two_pow_add_eq_or_of_lt hq]
theorem sh_lo (a q i : Nat) (n r : Int) (hr0 : 0 ≤ r) (hn : n = 32 * q + r) (h : i < q) : 0 = pt (a * 2 ^ n.toNat) i := by
  have en : n.toNat = 32 * q + r.toNat := by omega
  rw [en]
  unfold pt
  rw [shift_lo _ _ _ _ h]
  rfl
set_option maxHeartbeats 2000000 in
theorem shifted0 (a : Nat) (n r : Int) (hn : 0 ≤ n ∧ n ≤ 127) (hr0 : 0 ≤ r) (hr1 : r < 32) (h1 : n / 32 = 0) (h2 : n % 32 = r) (w : World) :
    Calls Try.prog 70 #[.agg #[.int .u32 (pt a 0), .int .u32 (pt a 1), .int .u32 (pt a 2), .int .u32 (pt a 3)], .int .i64 n] w fun e w' => e = .returned (.agg #[.int .u32 (pt (a * 2 ^ n.toNat) 0), .int .u32 (pt (a * 2 ^ n.toNat) 1), .int .u32 (pt (a * 2 ^ n.toNat) 2), .int .u32 (pt (a * 2 ^ n.toNat) 3)]) ∧ Below w.heap.size w w' := by
  have a0 := pt_bd a 0
  have a1 := pt_bd a 1
  have a2 := pt_bd a 2
  have a3 := pt_bd a 3
  have F := Lib.hid (sh_at a 0 n r hr0 (by omega))
  have H0 := Lib.hid (sh_hi a 0 0 n r hr0 hr1 (by omega))
  have H1 := Lib.hid (sh_hi a 0 1 n r hr0 hr1 (by omega))
  have H2 := Lib.hid (sh_hi a 0 2 n r hr0 hr1 (by omega))
  have k1 : n.tmod 32 = r := by rw [Int.tmod_eq_emod_of_nonneg hn.1]; exact h2
  have k2 : r ≤ 32 := by omega
  have k3 : IntKind.i64.wrap (32 - r) = 32 - r := IntWalk.i64_in _ (by omega)
  have k4 : 0 ≤ 32 - r := by omega
  have k5 : 32 - r ≤ 32 := by omega
  go_enter Try.func70, Try.ntmps70
  go_wp2
  refine wp_loop_rounds 5 ?_
  rw [rounds_succ]
  go_wp2
  go_region_held3 (fun w' => True) (trivial) (fail)
  go_wp2
  rw [rounds_succ]
  go_wp2
  go_region_held3 (fun w' => True) (trivial) (fail)
  go_wp2
  rw [rounds_succ]
  go_wp2
  go_region_held3 (fun w' => True) (trivial) (fail)
  go_wp2
  rw [rounds_succ]
  go_wp2
  go_region_held3 (fun w' => True) (trivial) (fail)
  go_wp2
  rw [rounds_succ]
  go_wp2
  have F := F.out
  have H0 := H0.out
  have H1 := H1.out
  have H2 := H2.out
  try simp only [Nat.reduceAdd, Nat.zero_add] at F H0 H1 H2
  refine bodyPost_ret (by simp [results, Try.results70, go_sem, F, H0, H1, H2]) rfl ⟨rfl, ?_⟩
  repeat (first | (with_reducible exact Below.refl _ _) | ((with_reducible refine below_grow ?_ ?_); rotate_left; focus (first | omega | (simp [go_sem]; done) | (simp [go_sem]; omega))) | ((with_reducible refine Below.alloc ?_ ?_ _); rotate_left; focus (first | omega | (simp [go_sem]; done) | (simp [go_sem]; omega))) | ((with_reducible refine Below.setCell ?_ ?_ _); rotate_left; focus (first | omega | (simp [go_sem]; done) | (simp [go_sem]; omega))) | (with_reducible refine Below.drew ?_) | (with_reducible refine below_drewN _ ?_))

set_option maxHeartbeats 2000000 in
theorem shifted1 (a : Nat) (n r : Int) (hn : 0 ≤ n ∧ n ≤ 127) (hr0 : 0 ≤ r) (hr1 : r < 32) (h1 : n / 32 = 1) (h2 : n % 32 = r) (w : World) :
    Calls Try.prog 70 #[.agg #[.int .u32 (pt a 0), .int .u32 (pt a 1), .int .u32 (pt a 2), .int .u32 (pt a 3)], .int .i64 n] w fun e w' => e = .returned (.agg #[.int .u32 (pt (a * 2 ^ n.toNat) 0), .int .u32 (pt (a * 2 ^ n.toNat) 1), .int .u32 (pt (a * 2 ^ n.toNat) 2), .int .u32 (pt (a * 2 ^ n.toNat) 3)]) ∧ Below w.heap.size w w' := by
  have a0 := pt_bd a 0
  have a1 := pt_bd a 1
  have a2 := pt_bd a 2
  have a3 := pt_bd a 3
  have F := Lib.hid (sh_at a 1 n r hr0 (by omega))
  have L0 := Lib.hid (sh_lo a 1 0 n r hr0 (by omega) (by decide))
  have H0 := Lib.hid (sh_hi a 1 0 n r hr0 hr1 (by omega))
  have H1 := Lib.hid (sh_hi a 1 1 n r hr0 hr1 (by omega))
  have k1 : n.tmod 32 = r := by rw [Int.tmod_eq_emod_of_nonneg hn.1]; exact h2
  have k2 : r ≤ 32 := by omega
  have k3 : IntKind.i64.wrap (32 - r) = 32 - r := IntWalk.i64_in _ (by omega)
  have k4 : 0 ≤ 32 - r := by omega
  have k5 : 32 - r ≤ 32 := by omega
  go_enter Try.func70, Try.ntmps70
  go_wp2
  refine wp_loop_rounds 5 ?_
  rw [rounds_succ]
  go_wp2
  go_region_held3 (fun w' => True) (trivial) (fail)
  go_wp2
  rw [rounds_succ]
  go_wp2
  go_region_held3 (fun w' => True) (trivial) (fail)
  go_wp2
  rw [rounds_succ]
  go_wp2
  go_region_held3 (fun w' => True) (trivial) (fail)
  go_wp2
  rw [rounds_succ]
  go_wp2
  have L0 := L0.out
  have F := F.out
  have H0 := H0.out
  have H1 := H1.out
  try simp only [Nat.reduceAdd, Nat.zero_add] at F H0 H1 L0
  refine bodyPost_ret (by simp [results, Try.results70, go_sem, F, H0, H1, ← L0]) rfl ⟨rfl, ?_⟩
  repeat (first | (with_reducible exact Below.refl _ _) | ((with_reducible refine below_grow ?_ ?_); rotate_left; focus (first | omega | (simp [go_sem]; done) | (simp [go_sem]; omega))) | ((with_reducible refine Below.alloc ?_ ?_ _); rotate_left; focus (first | omega | (simp [go_sem]; done) | (simp [go_sem]; omega))) | ((with_reducible refine Below.setCell ?_ ?_ _); rotate_left; focus (first | omega | (simp [go_sem]; done) | (simp [go_sem]; omega))) | (with_reducible refine Below.drew ?_) | (with_reducible refine below_drewN _ ?_))

set_option maxHeartbeats 2000000 in
theorem shifted2 (a : Nat) (n r : Int) (hn : 0 ≤ n ∧ n ≤ 127) (hr0 : 0 ≤ r) (hr1 : r < 32) (h1 : n / 32 = 2) (h2 : n % 32 = r) (w : World) :
    Calls Try.prog 70 #[.agg #[.int .u32 (pt a 0), .int .u32 (pt a 1), .int .u32 (pt a 2), .int .u32 (pt a 3)], .int .i64 n] w fun e w' => e = .returned (.agg #[.int .u32 (pt (a * 2 ^ n.toNat) 0), .int .u32 (pt (a * 2 ^ n.toNat) 1), .int .u32 (pt (a * 2 ^ n.toNat) 2), .int .u32 (pt (a * 2 ^ n.toNat) 3)]) ∧ Below w.heap.size w w' := by
  have a0 := pt_bd a 0
  have a1 := pt_bd a 1
  have a2 := pt_bd a 2
  have a3 := pt_bd a 3
  have F := Lib.hid (sh_at a 2 n r hr0 (by omega))
  have L0 := Lib.hid (sh_lo a 2 0 n r hr0 (by omega) (by decide))
  have L1 := Lib.hid (sh_lo a 2 1 n r hr0 (by omega) (by decide))
  have H0 := Lib.hid (sh_hi a 2 0 n r hr0 hr1 (by omega))
  have k1 : n.tmod 32 = r := by rw [Int.tmod_eq_emod_of_nonneg hn.1]; exact h2
  have k2 : r ≤ 32 := by omega
  have k3 : IntKind.i64.wrap (32 - r) = 32 - r := IntWalk.i64_in _ (by omega)
  have k4 : 0 ≤ 32 - r := by omega
  have k5 : 32 - r ≤ 32 := by omega
  go_enter Try.func70, Try.ntmps70
  go_wp2
  refine wp_loop_rounds 5 ?_
  rw [rounds_succ]
  go_wp2
  go_region_held3 (fun w' => True) (trivial) (fail)
  go_wp2
  rw [rounds_succ]
  go_wp2
  go_region_held3 (fun w' => True) (trivial) (fail)
  go_wp2
  rw [rounds_succ]
  go_wp2
  have L0 := L0.out
  have L1 := L1.out
  have F := F.out
  have H0 := H0.out
  try simp only [Nat.reduceAdd, Nat.zero_add] at F H0 L0 L1
  refine bodyPost_ret (by simp [results, Try.results70, go_sem, F, H0, ← L0, ← L1]) rfl ⟨rfl, ?_⟩
  repeat (first | (with_reducible exact Below.refl _ _) | ((with_reducible refine below_grow ?_ ?_); rotate_left; focus (first | omega | (simp [go_sem]; done) | (simp [go_sem]; omega))) | ((with_reducible refine Below.alloc ?_ ?_ _); rotate_left; focus (first | omega | (simp [go_sem]; done) | (simp [go_sem]; omega))) | ((with_reducible refine Below.setCell ?_ ?_ _); rotate_left; focus (first | omega | (simp [go_sem]; done) | (simp [go_sem]; omega))) | (with_reducible refine Below.drew ?_) | (with_reducible refine below_drewN _ ?_))

set_option maxHeartbeats 2000000 in
theorem shifted3 (a : Nat) (n r : Int) (hn : 0 ≤ n ∧ n ≤ 127) (hr0 : 0 ≤ r) (_ : r < 32) (h1 : n / 32 = 3) (h2 : n % 32 = r) (w : World) :
    Calls Try.prog 70 #[.agg #[.int .u32 (pt a 0), .int .u32 (pt a 1), .int .u32 (pt a 2), .int .u32 (pt a 3)], .int .i64 n] w fun e w' => e = .returned (.agg #[.int .u32 (pt (a * 2 ^ n.toNat) 0), .int .u32 (pt (a * 2 ^ n.toNat) 1), .int .u32 (pt (a * 2 ^ n.toNat) 2), .int .u32 (pt (a * 2 ^ n.toNat) 3)]) ∧ Below w.heap.size w w' := by
  have a0 := pt_bd a 0
  have a1 := pt_bd a 1
  have a2 := pt_bd a 2
  have a3 := pt_bd a 3
  have F := Lib.hid (sh_at a 3 n r hr0 (by omega))
  have L0 := Lib.hid (sh_lo a 3 0 n r hr0 (by omega) (by decide))
  have L1 := Lib.hid (sh_lo a 3 1 n r hr0 (by omega) (by decide))
  have L2 := Lib.hid (sh_lo a 3 2 n r hr0 (by omega) (by decide))
  have k1 : n.tmod 32 = r := by rw [Int.tmod_eq_emod_of_nonneg hn.1]; exact h2
  have k2 : r ≤ 32 := by omega
  have k3 : IntKind.i64.wrap (32 - r) = 32 - r := IntWalk.i64_in _ (by omega)
  have k4 : 0 ≤ 32 - r := by omega
  have k5 : 32 - r ≤ 32 := by omega
  go_enter Try.func70, Try.ntmps70
  go_wp2
  refine wp_loop_rounds 5 ?_
  rw [rounds_succ]
  go_wp2
  go_region_held3 (fun w' => True) (trivial) (fail)
  go_wp2
  rw [rounds_succ]
  go_wp2
  have L0 := L0.out
  have L1 := L1.out
  have L2 := L2.out
  have F := F.out
  try simp only [Nat.reduceAdd, Nat.zero_add] at F L0 L1 L2
  refine bodyPost_ret (by simp [results, Try.results70, go_sem, F, ← L0, ← L1, ← L2]) rfl ⟨rfl, ?_⟩
  repeat (first | (with_reducible exact Below.refl _ _) | ((with_reducible refine below_grow ?_ ?_); rotate_left; focus (first | omega | (simp [go_sem]; done) | (simp [go_sem]; omega))) | ((with_reducible refine Below.alloc ?_ ?_ _); rotate_left; focus (first | omega | (simp [go_sem]; done) | (simp [go_sem]; omega))) | ((with_reducible refine Below.setCell ?_ ?_ _); rotate_left; focus (first | omega | (simp [go_sem]; done) | (simp [go_sem]; omega))) | (with_reducible refine Below.drew ?_) | (with_reducible refine below_drewN _ ?_))

theorem shifted_calls (a : Nat) (n : Int) (hn : 0 ≤ n ∧ n ≤ 127) (w : World) :
    Calls Try.prog 70 #[.agg #[.int .u32 (pt a 0), .int .u32 (pt a 1), .int .u32 (pt a 2), .int .u32 (pt a 3)], .int .i64 n] w fun e w' => e = .returned (.agg #[.int .u32 (pt (a * 2 ^ n.toNat) 0), .int .u32 (pt (a * 2 ^ n.toNat) 1), .int .u32 (pt (a * 2 ^ n.toNat) 2), .int .u32 (pt (a * 2 ^ n.toNat) 3)]) ∧ Below w.heap.size w w' := by
  have h : n / 32 = 0 ∨ n / 32 = 1 ∨ n / 32 = 2 ∨ n / 32 = 3 := by omega
  rcases h with h | h | h | h
  · exact shifted0 a n (n % 32) hn (by omega) (by omega) h rfl w
  · exact shifted1 a n (n % 32) hn (by omega) (by omega) h rfl w
  · exact shifted2 a n (n % 32) hn (by omega) (by omega) h rfl w
  · exact shifted3 a n (n % 32) hn (by omega) (by omega) h rfl w
end Go.Proofs.Ytcgecgagecobeaa
