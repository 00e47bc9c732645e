/- NF, NG, NH. -/
import Derived.Test.YtjaggclfacbkbaaMA
import Derived.BigRegion
import Derived.Laws.StructEq
/-! NF -/
namespace Go.Proofs.Ytjaggclfacbkbaa
open Go.RowKit

def mulL (a b : Nat) : Nat := a * b % 340282366920938463463374607431768211456
def mulH (a b : Nat) : Nat := a * b / 340282366920938463463374607431768211456
theorem wpt (a i : Nat) : IntKind.u64.wrap (pt a i) = pt a i := by have := pt_bd a i; exact IntWalk.u64_in _ (by omega)
theorem w00 : IntKind.u64.wrap 0 = 0 := by decide
theorem row4 (x y0 y1 y2 y3 : Int) : x * (y0 + 4294967296 * y1 + 18446744073709551616 * y2 + 79228162514264337593543950336 * y3) = x * y0 + 4294967296 * (x * y1) + 18446744073709551616 * (x * y2) + 79228162514264337593543950336 * (x * y3) := by
  rw [Int.mul_add, Int.mul_add, Int.mul_add, Int.mul_left_comm, Int.mul_left_comm x, Int.mul_left_comm x]
theorem col4 (y x0 x1 x2 x3 : Int) : (x0 + 4294967296 * x1 + 18446744073709551616 * x2 + 79228162514264337593543950336 * x3) * y = x0 * y + 4294967296 * (x1 * y) + 18446744073709551616 * (x2 * y) + 79228162514264337593543950336 * (x3 * y) := by
  rw [Int.add_mul, Int.add_mul, Int.add_mul, Int.mul_assoc, Int.mul_assoc, Int.mul_assoc]
theorem times_fin (a b : Nat) (ha : isN a) (hb : isN b) (s00 s01 s02 s03 s10 s11 s12 s13 s20 s21 s22 s23 s30 s31 s32 s33 c00 c01 c02 c03 c10 c11 c12 c13 c20 c21 c22 c23 c30 c31 c32 c33 : Int)
    (h0 : 0 ≤ s00 ∧ s00 ≤ 4294967295)
    (h1 : 0 ≤ s10 ∧ s10 ≤ 4294967295)
    (h2 : 0 ≤ s20 ∧ s20 ≤ 4294967295)
    (h3 : 0 ≤ s30 ∧ s30 ≤ 4294967295)
    (h4 : 0 ≤ s31 ∧ s31 ≤ 4294967295)
    (h5 : 0 ≤ s32 ∧ s32 ≤ 4294967295)
    (h6 : 0 ≤ s33 ∧ s33 ≤ 4294967295)
    (h7 : 0 ≤ c33 ∧ c33 ≤ 4294967295)
    (e00 : s00 + 4294967296 * c00 = pt a 0 * pt b 0)
    (e01 : s01 + 4294967296 * c01 = pt a 0 * pt b 1 + c00)
    (e02 : s02 + 4294967296 * c02 = pt a 0 * pt b 2 + c01)
    (e03 : s03 + 4294967296 * c03 = pt a 0 * pt b 3 + c02)
    (e10 : s10 + 4294967296 * c10 = pt a 1 * pt b 0 + s01)
    (e11 : s11 + 4294967296 * c11 = pt a 1 * pt b 1 + s02 + c10)
    (e12 : s12 + 4294967296 * c12 = pt a 1 * pt b 2 + s03 + c11)
    (e13 : s13 + 4294967296 * c13 = pt a 1 * pt b 3 + c03 + c12)
    (e20 : s20 + 4294967296 * c20 = pt a 2 * pt b 0 + s11)
    (e21 : s21 + 4294967296 * c21 = pt a 2 * pt b 1 + s12 + c20)
    (e22 : s22 + 4294967296 * c22 = pt a 2 * pt b 2 + s13 + c21)
    (e23 : s23 + 4294967296 * c23 = pt a 2 * pt b 3 + c13 + c22)
    (e30 : s30 + 4294967296 * c30 = pt a 3 * pt b 0 + s21)
    (e31 : s31 + 4294967296 * c31 = pt a 3 * pt b 1 + s22 + c30)
    (e32 : s32 + 4294967296 * c32 = pt a 3 * pt b 2 + s23 + c31)
    (e33 : s33 + 4294967296 * c33 = pt a 3 * pt b 3 + c23 + c32) :
    isN (mulL a b) ∧ isN (mulH a b) ∧ (s00 = pt (mulL a b) 0 ∧ s10 = pt (mulL a b) 1 ∧ s20 = pt (mulL a b) 2 ∧ s30 = pt (mulL a b) 3) ∧ (s31 = pt (mulH a b) 0 ∧ s32 = pt (mulH a b) 1 ∧ s33 = pt (mulH a b) 2 ∧ c33 = pt (mulH a b) 3) := by
  have ka := pt_sum a ha
  have kb := pt_sum b hb
  have kp : ((a * b : Nat) : Int) = (a : Int) * b := Int.natCast_mul a b
  rw [ka, col4, kb, row4 (pt a 0), row4 (pt a 1), row4 (pt a 2), row4 (pt a 3)] at kp
  generalize pt a 0 * pt b 0 = m00 at *
  generalize pt a 0 * pt b 1 = m01 at *
  generalize pt a 0 * pt b 2 = m02 at *
  generalize pt a 0 * pt b 3 = m03 at *
  generalize pt a 1 * pt b 0 = m10 at *
  generalize pt a 1 * pt b 1 = m11 at *
  generalize pt a 1 * pt b 2 = m12 at *
  generalize pt a 1 * pt b 3 = m13 at *
  generalize pt a 2 * pt b 0 = m20 at *
  generalize pt a 2 * pt b 1 = m21 at *
  generalize pt a 2 * pt b 2 = m22 at *
  generalize pt a 2 * pt b 3 = m23 at *
  generalize pt a 3 * pt b 0 = m30 at *
  generalize pt a 3 * pt b 1 = m31 at *
  generalize pt a 3 * pt b 2 = m32 at *
  generalize pt a 3 * pt b 3 = m33 at *
  clear ka kb
  unfold mulL mulH
  generalize a * b = X at *
  have tot : (X : Int) = s00 + 4294967296 * s10 + 18446744073709551616 * s20 + 79228162514264337593543950336 * s30 + 340282366920938463463374607431768211456 * (s31 + 4294967296 * s32 + 18446744073709551616 * s33 + 79228162514264337593543950336 * c33) := by omega
  clear kp e00 e01 e02 e03 e10 e11 e12 e13 e20 e21 e22 e23 e30 e31 e32 e33
  have k1 := pt_mk s00 s10 s20 s30 h0 h1 h2 h3 (X % 340282366920938463463374607431768211456) (by omega)
  have k2 := pt_mk s31 s32 s33 c33 h4 h5 h6 h7 (X / 340282366920938463463374607431768211456) (by omega)
  exact ⟨k1.1, k2.1, k1.2, k2.2⟩
set_option maxHeartbeats 8000000 in
theorem times_calls (a b : Nat) (ha : isN a) (hb : isN b) (w : World) :
    Calls Try.prog 42 #[.agg #[.int .u32 (pt a 0), .int .u32 (pt a 1), .int .u32 (pt a 2), .int .u32 (pt a 3)], .agg #[.int .u32 (pt b 0), .int .u32 (pt b 1), .int .u32 (pt b 2), .int .u32 (pt b 3)]] w fun e w' => e = .returned (.tuple #[.agg #[.int .u32 (pt (mulL a b) 0), .int .u32 (pt (mulL a b) 1), .int .u32 (pt (mulL a b) 2), .int .u32 (pt (mulL a b) 3)], .agg #[.int .u32 (pt (mulH a b) 0), .int .u32 (pt (mulH a b) 1), .int .u32 (pt (mulH a b) 2), .int .u32 (pt (mulH a b) 3)]]) ∧ Below w.heap.size w w' := by
  have a0 := pt_bd a 0
  have a1 := pt_bd a 1
  have a2 := pt_bd a 2
  have a3 := pt_bd a 3
  have b0 := pt_bd b 0
  have b1 := pt_bd b 1
  have b2 := pt_bd b 2
  have b3 := pt_bd b 3
  have FIN := Lib.hid (times_fin a b ha hb)
  have q00 : 0 ≤ pt a 0 * pt b 0 ∧ pt a 0 * pt b 0 ≤ 18446744065119617025 := ⟨Int.mul_nonneg a0.1 b0.1, Int.le_trans (Int.mul_le_mul a0.2 b0.2 b0.1 (by decide)) (by decide)⟩
  have q01 : 0 ≤ pt a 0 * pt b 1 ∧ pt a 0 * pt b 1 ≤ 18446744065119617025 := ⟨Int.mul_nonneg a0.1 b1.1, Int.le_trans (Int.mul_le_mul a0.2 b1.2 b1.1 (by decide)) (by decide)⟩
  have q02 : 0 ≤ pt a 0 * pt b 2 ∧ pt a 0 * pt b 2 ≤ 18446744065119617025 := ⟨Int.mul_nonneg a0.1 b2.1, Int.le_trans (Int.mul_le_mul a0.2 b2.2 b2.1 (by decide)) (by decide)⟩
  have q03 : 0 ≤ pt a 0 * pt b 3 ∧ pt a 0 * pt b 3 ≤ 18446744065119617025 := ⟨Int.mul_nonneg a0.1 b3.1, Int.le_trans (Int.mul_le_mul a0.2 b3.2 b3.1 (by decide)) (by decide)⟩
  have q10 : 0 ≤ pt a 1 * pt b 0 ∧ pt a 1 * pt b 0 ≤ 18446744065119617025 := ⟨Int.mul_nonneg a1.1 b0.1, Int.le_trans (Int.mul_le_mul a1.2 b0.2 b0.1 (by decide)) (by decide)⟩
  have q11 : 0 ≤ pt a 1 * pt b 1 ∧ pt a 1 * pt b 1 ≤ 18446744065119617025 := ⟨Int.mul_nonneg a1.1 b1.1, Int.le_trans (Int.mul_le_mul a1.2 b1.2 b1.1 (by decide)) (by decide)⟩
  have q12 : 0 ≤ pt a 1 * pt b 2 ∧ pt a 1 * pt b 2 ≤ 18446744065119617025 := ⟨Int.mul_nonneg a1.1 b2.1, Int.le_trans (Int.mul_le_mul a1.2 b2.2 b2.1 (by decide)) (by decide)⟩
  have q13 : 0 ≤ pt a 1 * pt b 3 ∧ pt a 1 * pt b 3 ≤ 18446744065119617025 := ⟨Int.mul_nonneg a1.1 b3.1, Int.le_trans (Int.mul_le_mul a1.2 b3.2 b3.1 (by decide)) (by decide)⟩
  have q20 : 0 ≤ pt a 2 * pt b 0 ∧ pt a 2 * pt b 0 ≤ 18446744065119617025 := ⟨Int.mul_nonneg a2.1 b0.1, Int.le_trans (Int.mul_le_mul a2.2 b0.2 b0.1 (by decide)) (by decide)⟩
  have q21 : 0 ≤ pt a 2 * pt b 1 ∧ pt a 2 * pt b 1 ≤ 18446744065119617025 := ⟨Int.mul_nonneg a2.1 b1.1, Int.le_trans (Int.mul_le_mul a2.2 b1.2 b1.1 (by decide)) (by decide)⟩
  have q22 : 0 ≤ pt a 2 * pt b 2 ∧ pt a 2 * pt b 2 ≤ 18446744065119617025 := ⟨Int.mul_nonneg a2.1 b2.1, Int.le_trans (Int.mul_le_mul a2.2 b2.2 b2.1 (by decide)) (by decide)⟩
  have q23 : 0 ≤ pt a 2 * pt b 3 ∧ pt a 2 * pt b 3 ≤ 18446744065119617025 := ⟨Int.mul_nonneg a2.1 b3.1, Int.le_trans (Int.mul_le_mul a2.2 b3.2 b3.1 (by decide)) (by decide)⟩
  have q30 : 0 ≤ pt a 3 * pt b 0 ∧ pt a 3 * pt b 0 ≤ 18446744065119617025 := ⟨Int.mul_nonneg a3.1 b0.1, Int.le_trans (Int.mul_le_mul a3.2 b0.2 b0.1 (by decide)) (by decide)⟩
  have q31 : 0 ≤ pt a 3 * pt b 1 ∧ pt a 3 * pt b 1 ≤ 18446744065119617025 := ⟨Int.mul_nonneg a3.1 b1.1, Int.le_trans (Int.mul_le_mul a3.2 b1.2 b1.1 (by decide)) (by decide)⟩
  have q32 : 0 ≤ pt a 3 * pt b 2 ∧ pt a 3 * pt b 2 ≤ 18446744065119617025 := ⟨Int.mul_nonneg a3.1 b2.1, Int.le_trans (Int.mul_le_mul a3.2 b2.2 b2.1 (by decide)) (by decide)⟩
  have q33 : 0 ≤ pt a 3 * pt b 3 ∧ pt a 3 * pt b 3 ≤ 18446744065119617025 := ⟨Int.mul_nonneg a3.1 b3.1, Int.le_trans (Int.mul_le_mul a3.2 b3.2 b3.1 (by decide)) (by decide)⟩
  obtain ⟨m00, hm00⟩ : ∃ m, pt a 0 * pt b 0 = m := ⟨_, rfl⟩
  rw [hm00] at q00
  obtain ⟨m01, hm01⟩ : ∃ m, pt a 0 * pt b 1 = m := ⟨_, rfl⟩
  rw [hm01] at q01
  obtain ⟨m02, hm02⟩ : ∃ m, pt a 0 * pt b 2 = m := ⟨_, rfl⟩
  rw [hm02] at q02
  obtain ⟨m03, hm03⟩ : ∃ m, pt a 0 * pt b 3 = m := ⟨_, rfl⟩
  rw [hm03] at q03
  obtain ⟨m10, hm10⟩ : ∃ m, pt a 1 * pt b 0 = m := ⟨_, rfl⟩
  rw [hm10] at q10
  obtain ⟨m11, hm11⟩ : ∃ m, pt a 1 * pt b 1 = m := ⟨_, rfl⟩
  rw [hm11] at q11
  obtain ⟨m12, hm12⟩ : ∃ m, pt a 1 * pt b 2 = m := ⟨_, rfl⟩
  rw [hm12] at q12
  obtain ⟨m13, hm13⟩ : ∃ m, pt a 1 * pt b 3 = m := ⟨_, rfl⟩
  rw [hm13] at q13
  obtain ⟨m20, hm20⟩ : ∃ m, pt a 2 * pt b 0 = m := ⟨_, rfl⟩
  rw [hm20] at q20
  obtain ⟨m21, hm21⟩ : ∃ m, pt a 2 * pt b 1 = m := ⟨_, rfl⟩
  rw [hm21] at q21
  obtain ⟨m22, hm22⟩ : ∃ m, pt a 2 * pt b 2 = m := ⟨_, rfl⟩
  rw [hm22] at q22
  obtain ⟨m23, hm23⟩ : ∃ m, pt a 2 * pt b 3 = m := ⟨_, rfl⟩
  rw [hm23] at q23
  obtain ⟨m30, hm30⟩ : ∃ m, pt a 3 * pt b 0 = m := ⟨_, rfl⟩
  rw [hm30] at q30
  obtain ⟨m31, hm31⟩ : ∃ m, pt a 3 * pt b 1 = m := ⟨_, rfl⟩
  rw [hm31] at q31
  obtain ⟨m32, hm32⟩ : ∃ m, pt a 3 * pt b 2 = m := ⟨_, rfl⟩
  rw [hm32] at q32
  obtain ⟨m33, hm33⟩ : ∃ m, pt a 3 * pt b 3 = m := ⟨_, rfl⟩
  rw [hm33] at q33
  have wk0 : IntKind.i64.wrap 0 = 0 := IntWalk.i64_in _ (by decide)
  have wk1 : IntKind.i64.wrap 1 = 1 := IntWalk.i64_in _ (by decide)
  have wk2 : IntKind.i64.wrap 2 = 2 := IntWalk.i64_in _ (by decide)
  have wk3 : IntKind.i64.wrap 3 = 3 := IntWalk.i64_in _ (by decide)
  have wk4 : IntKind.i64.wrap 4 = 4 := IntWalk.i64_in _ (by decide)
  have wk5 : IntKind.i64.wrap 5 = 5 := IntWalk.i64_in _ (by decide)
  have wk6 : IntKind.i64.wrap 6 = 6 := IntWalk.i64_in _ (by decide)
  have wk7 : IntKind.i64.wrap 7 = 7 := IntWalk.i64_in _ (by decide)
  go_enter Try.func42, Try.ntmps42
  go_wp2
  refine wp_loop_rounds 5 ?_
  rw [rounds_succ]
  go_wp2
  refine wp_loop_rounds 5 ?_
  obtain ⟨s00, hs00⟩ : ∃ s, (m00) % 4294967296 = s := ⟨_, rfl⟩
  obtain ⟨c00, hc00⟩ : ∃ s, (m00) / 4294967296 = s := ⟨_, rfl⟩
  have bs00 : 0 ≤ s00 ∧ s00 ≤ 4294967295 := by omega
  have bc00 : 0 ≤ c00 ∧ c00 ≤ 4294967295 := by omega
  have E00 : Hid (s00 + 4294967296 * c00 = m00) := Lib.hid (by omega)
  have W0 : IntKind.u64.wrap m00 = m00 := IntWalk.u64_in _ (by omega)
  rw [rounds_succ]
  go_wp2
  go_region_held3 (fun w' => w'.cell? ⟨w.heap.size, 0, none⟩ = some (.int .u32 (pt a 0)) ∧ w'.cell? ⟨w.heap.size + 1, 0, none⟩ = some (.int .u32 (pt b 0)) ∧ w'.cell? ⟨w.heap.size + 1 + 1 + 1 + 1, 0, none⟩ = some (.int .u32 0)) (simp [*, go_sem]) (fail)
  simp only [wpt, w00, hm00, Int.add_zero, W0]
  go_wp2
  try simp only [hs00]
  clear hs00 hc00 W0
  obtain ⟨s01, hs01⟩ : ∃ s, (m01 + c00) % 4294967296 = s := ⟨_, rfl⟩
  obtain ⟨c01, hc01⟩ : ∃ s, (m01 + c00) / 4294967296 = s := ⟨_, rfl⟩
  have bs01 : 0 ≤ s01 ∧ s01 ≤ 4294967295 := by omega
  have bc01 : 0 ≤ c01 ∧ c01 ≤ 4294967295 := by omega
  have E01 : Hid (s01 + 4294967296 * c01 = m01 + c00) := Lib.hid (by omega)
  have W0 : IntKind.u64.wrap m01 = m01 := IntWalk.u64_in _ (by omega)
  have W2 : IntKind.u64.wrap (m01 + c00) = m01 + c00 := IntWalk.u64_in _ (by omega)
  rw [rounds_succ]
  go_wp2
  go_region_held3 (fun w' => w'.cell? ⟨w.heap.size, 0, none⟩ = some (.int .u32 (pt a 0)) ∧ w'.cell? ⟨w.heap.size + 1, 1, none⟩ = some (.int .u32 (pt b 1)) ∧ w'.cell? ⟨w.heap.size + 1 + 1 + 1 + 1, 1, none⟩ = some (.int .u32 0)) (simp [*, go_sem]) (fail)
  simp only [wpt, w00, hm01, Int.add_zero, W0, W2]
  go_wp2
  try simp only [hs01]
  clear hs01 hc01 W0 W2
  obtain ⟨s02, hs02⟩ : ∃ s, (m02 + c01) % 4294967296 = s := ⟨_, rfl⟩
  obtain ⟨c02, hc02⟩ : ∃ s, (m02 + c01) / 4294967296 = s := ⟨_, rfl⟩
  have bs02 : 0 ≤ s02 ∧ s02 ≤ 4294967295 := by omega
  have bc02 : 0 ≤ c02 ∧ c02 ≤ 4294967295 := by omega
  have E02 : Hid (s02 + 4294967296 * c02 = m02 + c01) := Lib.hid (by omega)
  have W0 : IntKind.u64.wrap m02 = m02 := IntWalk.u64_in _ (by omega)
  have W2 : IntKind.u64.wrap (m02 + c01) = m02 + c01 := IntWalk.u64_in _ (by omega)
  rw [rounds_succ]
  go_wp2
  go_region_held3 (fun w' => w'.cell? ⟨w.heap.size, 0, none⟩ = some (.int .u32 (pt a 0)) ∧ w'.cell? ⟨w.heap.size + 1, 2, none⟩ = some (.int .u32 (pt b 2)) ∧ w'.cell? ⟨w.heap.size + 1 + 1 + 1 + 1, 2, none⟩ = some (.int .u32 0)) (simp [*, go_sem]) (fail)
  simp only [wpt, w00, hm02, Int.add_zero, W0, W2]
  go_wp2
  try simp only [hs02]
  clear hs02 hc02 W0 W2
  obtain ⟨s03, hs03⟩ : ∃ s, (m03 + c02) % 4294967296 = s := ⟨_, rfl⟩
  obtain ⟨c03, hc03⟩ : ∃ s, (m03 + c02) / 4294967296 = s := ⟨_, rfl⟩
  have bs03 : 0 ≤ s03 ∧ s03 ≤ 4294967295 := by omega
  have bc03 : 0 ≤ c03 ∧ c03 ≤ 4294967295 := by omega
  have E03 : Hid (s03 + 4294967296 * c03 = m03 + c02) := Lib.hid (by omega)
  have W0 : IntKind.u64.wrap m03 = m03 := IntWalk.u64_in _ (by omega)
  have W2 : IntKind.u64.wrap (m03 + c02) = m03 + c02 := IntWalk.u64_in _ (by omega)
  rw [rounds_succ]
  go_wp2
  go_region_held3 (fun w' => w'.cell? ⟨w.heap.size, 0, none⟩ = some (.int .u32 (pt a 0)) ∧ w'.cell? ⟨w.heap.size + 1, 3, none⟩ = some (.int .u32 (pt b 3)) ∧ w'.cell? ⟨w.heap.size + 1 + 1 + 1 + 1, 3, none⟩ = some (.int .u32 0)) (simp [*, go_sem]) (fail)
  simp only [wpt, w00, hm03, Int.add_zero, W0, W2]
  go_wp2
  try simp only [hs03]
  clear hs03 hc03 W0 W2
  rw [rounds_succ]
  go_wp2
  rw [rounds_succ]
  go_wp2
  refine wp_loop_rounds 5 ?_
  obtain ⟨s10, hs10⟩ : ∃ s, (m10 + s01) % 4294967296 = s := ⟨_, rfl⟩
  obtain ⟨c10, hc10⟩ : ∃ s, (m10 + s01) / 4294967296 = s := ⟨_, rfl⟩
  have bs10 : 0 ≤ s10 ∧ s10 ≤ 4294967295 := by omega
  have bc10 : 0 ≤ c10 ∧ c10 ≤ 4294967295 := by omega
  have E10 : Hid (s10 + 4294967296 * c10 = m10 + s01) := Lib.hid (by omega)
  have W0 : IntKind.u64.wrap m10 = m10 := IntWalk.u64_in _ (by omega)
  have W3 : IntKind.u64.wrap s01 = s01 := IntWalk.u64_in _ (by omega)
  have W1 : IntKind.u64.wrap (m10 + s01) = m10 + s01 := IntWalk.u64_in _ (by omega)
  rw [rounds_succ]
  go_wp2
  go_region_held3 (fun w' => w'.cell? ⟨w.heap.size, 1, none⟩ = some (.int .u32 (pt a 1)) ∧ w'.cell? ⟨w.heap.size + 1, 0, none⟩ = some (.int .u32 (pt b 0)) ∧ w'.cell? ⟨w.heap.size + 1 + 1 + 1 + 1, 1, none⟩ = some (.int .u32 s01)) (simp [*, go_sem]) (fail)
  simp only [wpt, hm10, W0, W1]
  go_wp2
  try simp only [hs10]
  clear hs10 hc10 W0 W3 W1
  obtain ⟨s11, hs11⟩ : ∃ s, (m11 + s02 + c10) % 4294967296 = s := ⟨_, rfl⟩
  obtain ⟨c11, hc11⟩ : ∃ s, (m11 + s02 + c10) / 4294967296 = s := ⟨_, rfl⟩
  have bs11 : 0 ≤ s11 ∧ s11 ≤ 4294967295 := by omega
  have bc11 : 0 ≤ c11 ∧ c11 ≤ 4294967295 := by omega
  have E11 : Hid (s11 + 4294967296 * c11 = m11 + s02 + c10) := Lib.hid (by omega)
  have W0 : IntKind.u64.wrap m11 = m11 := IntWalk.u64_in _ (by omega)
  have W3 : IntKind.u64.wrap s02 = s02 := IntWalk.u64_in _ (by omega)
  have W1 : IntKind.u64.wrap (m11 + s02) = m11 + s02 := IntWalk.u64_in _ (by omega)
  have W2 : IntKind.u64.wrap (m11 + s02 + c10) = m11 + s02 + c10 := IntWalk.u64_in _ (by omega)
  rw [rounds_succ]
  go_wp2
  go_region_held3 (fun w' => w'.cell? ⟨w.heap.size, 1, none⟩ = some (.int .u32 (pt a 1)) ∧ w'.cell? ⟨w.heap.size + 1, 1, none⟩ = some (.int .u32 (pt b 1)) ∧ w'.cell? ⟨w.heap.size + 1 + 1 + 1 + 1, 2, none⟩ = some (.int .u32 s02)) (simp [*, go_sem]) (fail)
  simp only [wpt, hm11, W0, W1, W2]
  go_wp2
  try simp only [hs11]
  clear hs11 hc11 W0 W3 W1 W2
  obtain ⟨s12, hs12⟩ : ∃ s, (m12 + s03 + c11) % 4294967296 = s := ⟨_, rfl⟩
  obtain ⟨c12, hc12⟩ : ∃ s, (m12 + s03 + c11) / 4294967296 = s := ⟨_, rfl⟩
  have bs12 : 0 ≤ s12 ∧ s12 ≤ 4294967295 := by omega
  have bc12 : 0 ≤ c12 ∧ c12 ≤ 4294967295 := by omega
  have E12 : Hid (s12 + 4294967296 * c12 = m12 + s03 + c11) := Lib.hid (by omega)
  have W0 : IntKind.u64.wrap m12 = m12 := IntWalk.u64_in _ (by omega)
  have W3 : IntKind.u64.wrap s03 = s03 := IntWalk.u64_in _ (by omega)
  have W1 : IntKind.u64.wrap (m12 + s03) = m12 + s03 := IntWalk.u64_in _ (by omega)
  have W2 : IntKind.u64.wrap (m12 + s03 + c11) = m12 + s03 + c11 := IntWalk.u64_in _ (by omega)
  rw [rounds_succ]
  go_wp2
  go_region_held3 (fun w' => w'.cell? ⟨w.heap.size, 1, none⟩ = some (.int .u32 (pt a 1)) ∧ w'.cell? ⟨w.heap.size + 1, 2, none⟩ = some (.int .u32 (pt b 2)) ∧ w'.cell? ⟨w.heap.size + 1 + 1 + 1 + 1, 3, none⟩ = some (.int .u32 s03)) (simp [*, go_sem]) (fail)
  simp only [wpt, hm12, W0, W1, W2]
  go_wp2
  try simp only [hs12]
  clear hs12 hc12 W0 W3 W1 W2
  obtain ⟨s13, hs13⟩ : ∃ s, (m13 + c03 + c12) % 4294967296 = s := ⟨_, rfl⟩
  obtain ⟨c13, hc13⟩ : ∃ s, (m13 + c03 + c12) / 4294967296 = s := ⟨_, rfl⟩
  have bs13 : 0 ≤ s13 ∧ s13 ≤ 4294967295 := by omega
  have bc13 : 0 ≤ c13 ∧ c13 ≤ 4294967295 := by omega
  have E13 : Hid (s13 + 4294967296 * c13 = m13 + c03 + c12) := Lib.hid (by omega)
  have W0 : IntKind.u64.wrap m13 = m13 := IntWalk.u64_in _ (by omega)
  have W3 : IntKind.u64.wrap c03 = c03 := IntWalk.u64_in _ (by omega)
  have W1 : IntKind.u64.wrap (m13 + c03) = m13 + c03 := IntWalk.u64_in _ (by omega)
  have W2 : IntKind.u64.wrap (m13 + c03 + c12) = m13 + c03 + c12 := IntWalk.u64_in _ (by omega)
  rw [rounds_succ]
  go_wp2
  go_region_held3 (fun w' => w'.cell? ⟨w.heap.size, 1, none⟩ = some (.int .u32 (pt a 1)) ∧ w'.cell? ⟨w.heap.size + 1, 3, none⟩ = some (.int .u32 (pt b 3)) ∧ w'.cell? ⟨w.heap.size + 1 + 1 + 1 + 1, 4, none⟩ = some (.int .u32 c03)) (simp [*, go_sem]) (fail)
  simp only [wpt, hm13, W0, W1, W2]
  go_wp2
  try simp only [hs13]
  clear hs13 hc13 W0 W3 W1 W2
  rw [rounds_succ]
  go_wp2
  rw [rounds_succ]
  go_wp2
  refine wp_loop_rounds 5 ?_
  obtain ⟨s20, hs20⟩ : ∃ s, (m20 + s11) % 4294967296 = s := ⟨_, rfl⟩
  obtain ⟨c20, hc20⟩ : ∃ s, (m20 + s11) / 4294967296 = s := ⟨_, rfl⟩
  have bs20 : 0 ≤ s20 ∧ s20 ≤ 4294967295 := by omega
  have bc20 : 0 ≤ c20 ∧ c20 ≤ 4294967295 := by omega
  have E20 : Hid (s20 + 4294967296 * c20 = m20 + s11) := Lib.hid (by omega)
  have W0 : IntKind.u64.wrap m20 = m20 := IntWalk.u64_in _ (by omega)
  have W3 : IntKind.u64.wrap s11 = s11 := IntWalk.u64_in _ (by omega)
  have W1 : IntKind.u64.wrap (m20 + s11) = m20 + s11 := IntWalk.u64_in _ (by omega)
  rw [rounds_succ]
  go_wp2
  go_region_held3 (fun w' => w'.cell? ⟨w.heap.size, 2, none⟩ = some (.int .u32 (pt a 2)) ∧ w'.cell? ⟨w.heap.size + 1, 0, none⟩ = some (.int .u32 (pt b 0)) ∧ w'.cell? ⟨w.heap.size + 1 + 1 + 1 + 1, 2, none⟩ = some (.int .u32 s11)) (simp [*, go_sem]) (fail)
  simp only [wpt, hm20, W0, W1]
  go_wp2
  try simp only [hs20]
  clear hs20 hc20 W0 W3 W1
  obtain ⟨s21, hs21⟩ : ∃ s, (m21 + s12 + c20) % 4294967296 = s := ⟨_, rfl⟩
  obtain ⟨c21, hc21⟩ : ∃ s, (m21 + s12 + c20) / 4294967296 = s := ⟨_, rfl⟩
  have bs21 : 0 ≤ s21 ∧ s21 ≤ 4294967295 := by omega
  have bc21 : 0 ≤ c21 ∧ c21 ≤ 4294967295 := by omega
  have E21 : Hid (s21 + 4294967296 * c21 = m21 + s12 + c20) := Lib.hid (by omega)
  have W0 : IntKind.u64.wrap m21 = m21 := IntWalk.u64_in _ (by omega)
  have W3 : IntKind.u64.wrap s12 = s12 := IntWalk.u64_in _ (by omega)
  have W1 : IntKind.u64.wrap (m21 + s12) = m21 + s12 := IntWalk.u64_in _ (by omega)
  have W2 : IntKind.u64.wrap (m21 + s12 + c20) = m21 + s12 + c20 := IntWalk.u64_in _ (by omega)
  rw [rounds_succ]
  go_wp2
  go_region_held3 (fun w' => w'.cell? ⟨w.heap.size, 2, none⟩ = some (.int .u32 (pt a 2)) ∧ w'.cell? ⟨w.heap.size + 1, 1, none⟩ = some (.int .u32 (pt b 1)) ∧ w'.cell? ⟨w.heap.size + 1 + 1 + 1 + 1, 3, none⟩ = some (.int .u32 s12)) (simp [*, go_sem]) (fail)
  simp only [wpt, hm21, W0, W1, W2]
  go_wp2
  try simp only [hs21]
  clear hs21 hc21 W0 W3 W1 W2
  obtain ⟨s22, hs22⟩ : ∃ s, (m22 + s13 + c21) % 4294967296 = s := ⟨_, rfl⟩
  obtain ⟨c22, hc22⟩ : ∃ s, (m22 + s13 + c21) / 4294967296 = s := ⟨_, rfl⟩
  have bs22 : 0 ≤ s22 ∧ s22 ≤ 4294967295 := by omega
  have bc22 : 0 ≤ c22 ∧ c22 ≤ 4294967295 := by omega
  have E22 : Hid (s22 + 4294967296 * c22 = m22 + s13 + c21) := Lib.hid (by omega)
  have W0 : IntKind.u64.wrap m22 = m22 := IntWalk.u64_in _ (by omega)
  have W3 : IntKind.u64.wrap s13 = s13 := IntWalk.u64_in _ (by omega)
  have W1 : IntKind.u64.wrap (m22 + s13) = m22 + s13 := IntWalk.u64_in _ (by omega)
  have W2 : IntKind.u64.wrap (m22 + s13 + c21) = m22 + s13 + c21 := IntWalk.u64_in _ (by omega)
  rw [rounds_succ]
  go_wp2
  go_region_held3 (fun w' => w'.cell? ⟨w.heap.size, 2, none⟩ = some (.int .u32 (pt a 2)) ∧ w'.cell? ⟨w.heap.size + 1, 2, none⟩ = some (.int .u32 (pt b 2)) ∧ w'.cell? ⟨w.heap.size + 1 + 1 + 1 + 1, 4, none⟩ = some (.int .u32 s13)) (simp [*, go_sem]) (fail)
  simp only [wpt, hm22, W0, W1, W2]
  go_wp2
  try simp only [hs22]
  clear hs22 hc22 W0 W3 W1 W2
  obtain ⟨s23, hs23⟩ : ∃ s, (m23 + c13 + c22) % 4294967296 = s := ⟨_, rfl⟩
  obtain ⟨c23, hc23⟩ : ∃ s, (m23 + c13 + c22) / 4294967296 = s := ⟨_, rfl⟩
  have bs23 : 0 ≤ s23 ∧ s23 ≤ 4294967295 := by omega
  have bc23 : 0 ≤ c23 ∧ c23 ≤ 4294967295 := by omega
  have E23 : Hid (s23 + 4294967296 * c23 = m23 + c13 + c22) := Lib.hid (by omega)
  have W0 : IntKind.u64.wrap m23 = m23 := IntWalk.u64_in _ (by omega)
  have W3 : IntKind.u64.wrap c13 = c13 := IntWalk.u64_in _ (by omega)
  have W1 : IntKind.u64.wrap (m23 + c13) = m23 + c13 := IntWalk.u64_in _ (by omega)
  have W2 : IntKind.u64.wrap (m23 + c13 + c22) = m23 + c13 + c22 := IntWalk.u64_in _ (by omega)
  rw [rounds_succ]
  go_wp2
  go_region_held3 (fun w' => w'.cell? ⟨w.heap.size, 2, none⟩ = some (.int .u32 (pt a 2)) ∧ w'.cell? ⟨w.heap.size + 1, 3, none⟩ = some (.int .u32 (pt b 3)) ∧ w'.cell? ⟨w.heap.size + 1 + 1 + 1 + 1, 5, none⟩ = some (.int .u32 c13)) (simp [*, go_sem]) (fail)
  simp only [wpt, hm23, W0, W1, W2]
  go_wp2
  try simp only [hs23]
  clear hs23 hc23 W0 W3 W1 W2
  rw [rounds_succ]
  go_wp2
  rw [rounds_succ]
  go_wp2
  refine wp_loop_rounds 5 ?_
  obtain ⟨s30, hs30⟩ : ∃ s, (m30 + s21) % 4294967296 = s := ⟨_, rfl⟩
  obtain ⟨c30, hc30⟩ : ∃ s, (m30 + s21) / 4294967296 = s := ⟨_, rfl⟩
  have bs30 : 0 ≤ s30 ∧ s30 ≤ 4294967295 := by omega
  have bc30 : 0 ≤ c30 ∧ c30 ≤ 4294967295 := by omega
  have E30 : Hid (s30 + 4294967296 * c30 = m30 + s21) := Lib.hid (by omega)
  have W0 : IntKind.u64.wrap m30 = m30 := IntWalk.u64_in _ (by omega)
  have W3 : IntKind.u64.wrap s21 = s21 := IntWalk.u64_in _ (by omega)
  have W1 : IntKind.u64.wrap (m30 + s21) = m30 + s21 := IntWalk.u64_in _ (by omega)
  rw [rounds_succ]
  go_wp2
  go_region_held3 (fun w' => w'.cell? ⟨w.heap.size, 3, none⟩ = some (.int .u32 (pt a 3)) ∧ w'.cell? ⟨w.heap.size + 1, 0, none⟩ = some (.int .u32 (pt b 0)) ∧ w'.cell? ⟨w.heap.size + 1 + 1 + 1 + 1, 3, none⟩ = some (.int .u32 s21)) (simp [*, go_sem]) (fail)
  simp only [wpt, hm30, W0, W1]
  go_wp2
  try simp only [hs30]
  clear hs30 hc30 W0 W3 W1
  obtain ⟨s31, hs31⟩ : ∃ s, (m31 + s22 + c30) % 4294967296 = s := ⟨_, rfl⟩
  obtain ⟨c31, hc31⟩ : ∃ s, (m31 + s22 + c30) / 4294967296 = s := ⟨_, rfl⟩
  have bs31 : 0 ≤ s31 ∧ s31 ≤ 4294967295 := by omega
  have bc31 : 0 ≤ c31 ∧ c31 ≤ 4294967295 := by omega
  have E31 : Hid (s31 + 4294967296 * c31 = m31 + s22 + c30) := Lib.hid (by omega)
  have W0 : IntKind.u64.wrap m31 = m31 := IntWalk.u64_in _ (by omega)
  have W3 : IntKind.u64.wrap s22 = s22 := IntWalk.u64_in _ (by omega)
  have W1 : IntKind.u64.wrap (m31 + s22) = m31 + s22 := IntWalk.u64_in _ (by omega)
  have W2 : IntKind.u64.wrap (m31 + s22 + c30) = m31 + s22 + c30 := IntWalk.u64_in _ (by omega)
  rw [rounds_succ]
  go_wp2
  go_region_held3 (fun w' => w'.cell? ⟨w.heap.size, 3, none⟩ = some (.int .u32 (pt a 3)) ∧ w'.cell? ⟨w.heap.size + 1, 1, none⟩ = some (.int .u32 (pt b 1)) ∧ w'.cell? ⟨w.heap.size + 1 + 1 + 1 + 1, 4, none⟩ = some (.int .u32 s22)) (simp [*, go_sem]) (fail)
  simp only [wpt, hm31, W0, W1, W2]
  go_wp2
  try simp only [hs31]
  clear hs31 hc31 W0 W3 W1 W2
  obtain ⟨s32, hs32⟩ : ∃ s, (m32 + s23 + c31) % 4294967296 = s := ⟨_, rfl⟩
  obtain ⟨c32, hc32⟩ : ∃ s, (m32 + s23 + c31) / 4294967296 = s := ⟨_, rfl⟩
  have bs32 : 0 ≤ s32 ∧ s32 ≤ 4294967295 := by omega
  have bc32 : 0 ≤ c32 ∧ c32 ≤ 4294967295 := by omega
  have E32 : Hid (s32 + 4294967296 * c32 = m32 + s23 + c31) := Lib.hid (by omega)
  have W0 : IntKind.u64.wrap m32 = m32 := IntWalk.u64_in _ (by omega)
  have W3 : IntKind.u64.wrap s23 = s23 := IntWalk.u64_in _ (by omega)
  have W1 : IntKind.u64.wrap (m32 + s23) = m32 + s23 := IntWalk.u64_in _ (by omega)
  have W2 : IntKind.u64.wrap (m32 + s23 + c31) = m32 + s23 + c31 := IntWalk.u64_in _ (by omega)
  rw [rounds_succ]
  go_wp2
  go_region_held3 (fun w' => w'.cell? ⟨w.heap.size, 3, none⟩ = some (.int .u32 (pt a 3)) ∧ w'.cell? ⟨w.heap.size + 1, 2, none⟩ = some (.int .u32 (pt b 2)) ∧ w'.cell? ⟨w.heap.size + 1 + 1 + 1 + 1, 5, none⟩ = some (.int .u32 s23)) (simp [*, go_sem]) (fail)
  simp only [wpt, hm32, W0, W1, W2]
  go_wp2
  try simp only [hs32]
  clear hs32 hc32 W0 W3 W1 W2
  obtain ⟨s33, hs33⟩ : ∃ s, (m33 + c23 + c32) % 4294967296 = s := ⟨_, rfl⟩
  obtain ⟨c33, hc33⟩ : ∃ s, (m33 + c23 + c32) / 4294967296 = s := ⟨_, rfl⟩
  have bs33 : 0 ≤ s33 ∧ s33 ≤ 4294967295 := by omega
  have bc33 : 0 ≤ c33 ∧ c33 ≤ 4294967295 := by omega
  have E33 : Hid (s33 + 4294967296 * c33 = m33 + c23 + c32) := Lib.hid (by omega)
  have W0 : IntKind.u64.wrap m33 = m33 := IntWalk.u64_in _ (by omega)
  have W3 : IntKind.u64.wrap c23 = c23 := IntWalk.u64_in _ (by omega)
  have W1 : IntKind.u64.wrap (m33 + c23) = m33 + c23 := IntWalk.u64_in _ (by omega)
  have W2 : IntKind.u64.wrap (m33 + c23 + c32) = m33 + c23 + c32 := IntWalk.u64_in _ (by omega)
  rw [rounds_succ]
  go_wp2
  go_region_held3 (fun w' => w'.cell? ⟨w.heap.size, 3, none⟩ = some (.int .u32 (pt a 3)) ∧ w'.cell? ⟨w.heap.size + 1, 3, none⟩ = some (.int .u32 (pt b 3)) ∧ w'.cell? ⟨w.heap.size + 1 + 1 + 1 + 1, 6, none⟩ = some (.int .u32 c23)) (simp [*, go_sem]) (fail)
  simp only [wpt, hm33, W0, W1, W2]
  go_wp2
  try simp only [hs33]
  clear hs33 hc33 W0 W3 W1 W2
  rw [rounds_succ]
  go_wp2
  rw [rounds_succ]
  go_wp2
  obtain ⟨-, -, FL, FH⟩ := FIN.out s00 s01 s02 s03 s10 s11 s12 s13 s20 s21 s22 s23 s30 s31 s32 s33 c00 c01 c02 c03 c10 c11 c12 c13 c20 c21 c22 c23 c30 c31 c32 c33 bs00 bs10 bs20 bs30 bs31 bs32 bs33 bc33 (by rw [hm00]; exact E00.out) (by rw [hm01]; exact E01.out) (by rw [hm02]; exact E02.out) (by rw [hm03]; exact E03.out) (by rw [hm10]; exact E10.out) (by rw [hm11]; exact E11.out) (by rw [hm12]; exact E12.out) (by rw [hm13]; exact E13.out) (by rw [hm20]; exact E20.out) (by rw [hm21]; exact E21.out) (by rw [hm22]; exact E22.out) (by rw [hm23]; exact E23.out) (by rw [hm30]; exact E30.out) (by rw [hm31]; exact E31.out) (by rw [hm32]; exact E32.out) (by rw [hm33]; exact E33.out)
  obtain ⟨F0, F1, F2, F3⟩ := FL
  obtain ⟨G0, G1, G2, G3⟩ := FH
  clear FIN E00 hm00 q00 bs00 bc00 E01 hm01 q01 bs01 bc01 E02 hm02 q02 bs02 bc02 E03 hm03 q03 bs03 bc03 E10 hm10 q10 bs10 bc10 E11 hm11 q11 bs11 bc11 E12 hm12 q12 bs12 bc12 E13 hm13 q13 bs13 bc13 E20 hm20 q20 bs20 bc20 E21 hm21 q21 bs21 bc21 E22 hm22 q22 bs22 bc22 E23 hm23 q23 bs23 bc23 E30 hm30 q30 bs30 bc30 E31 hm31 q31 bs31 bc31 E32 hm32 q32 bs32 bc32 E33 hm33 q33 bs33 bc33 a0 a1 a2 a3 b0 b1 b2 b3
  subst F0 F1 F2 F3 G0 G1 G2 G3
  go_region_held3 (fun w' => w'.cell? ⟨w.heap.size + 1 + 1 + 1 + 1, 0, none⟩ = some (.int .u32 (pt (mulL a b) 0)) ∧ w'.cell? ⟨w.heap.size + 1 + 1 + 1 + 1, 1, none⟩ = some (.int .u32 (pt (mulL a b) 1)) ∧ w'.cell? ⟨w.heap.size + 1 + 1 + 1 + 1, 2, none⟩ = some (.int .u32 (pt (mulL a b) 2)) ∧ w'.cell? ⟨w.heap.size + 1 + 1 + 1 + 1, 3, none⟩ = some (.int .u32 (pt (mulL a b) 3)) ∧ w'.cell? ⟨w.heap.size + 1 + 1 + 1 + 1, 4, none⟩ = some (.int .u32 (pt (mulH a b) 0)) ∧ w'.cell? ⟨w.heap.size + 1 + 1 + 1 + 1, 5, none⟩ = some (.int .u32 (pt (mulH a b) 1)) ∧ w'.cell? ⟨w.heap.size + 1 + 1 + 1 + 1, 6, none⟩ = some (.int .u32 (pt (mulH a b) 2)) ∧ w'.cell? ⟨w.heap.size + 1 + 1 + 1 + 1, 7, none⟩ = some (.int .u32 (pt (mulH a b) 3))) (simp [*, go_sem]) (fail)
  go_wp2
  refine bodyPost_ret (by simp [results, Try.results42, go_sem]) rfl ⟨rfl, ?_⟩
  repeat (first | (with_reducible exact Below.refl _ _) | ((with_reducible refine below_grow ?_ ?_); rotate_left; focus (first | omega | (simp [go_sem]; done) | (simp [go_sem]; omega))) | ((with_reducible refine Below.alloc ?_ ?_ _); rotate_left; focus (first | omega | (simp [go_sem]; done) | (simp [go_sem]; omega))) | ((with_reducible refine Below.setCell ?_ ?_ _); rotate_left; focus (first | omega | (simp [go_sem]; done) | (simp [go_sem]; omega))) | (with_reducible refine Below.drew ?_) | (with_reducible refine below_drewN _ ?_))
end Go.Proofs.Ytjaggclfacbkbaa

/-! NG -/
namespace Go.Proofs.Ytjaggclfacbkbaa
open Go.RowKit

/-- Behind the bits from k on: what is left is A, the quotient so far is Q. -/
def dinv (a b k A Q : Nat) : Prop := a = Q * b + A ∧ A < b * 2 ^ k ∧ (∃ t, Q = 2 ^ k * t) ∧ isN a ∧ 1 ≤ b ∧ (1 ≤ k → isN (b * 2 ^ (k - 1)))
theorem dinv_AQ {a b k A Q : Nat} (h : dinv a b k A Q) : isN A ∧ isN Q := by
  obtain ⟨h1, h2, h3, h4, h5, h6⟩ := h
  have : Q * 1 ≤ Q * b := Nat.mul_le_mul_left _ h5
  unfold isN at *
  omega
theorem dinv_start (a b la lb : Nat) (ha : isN a) (hb : b ≠ 0) (h1 : isLen a la) (h2 : isLen b lb) (h3 : la ≤ 128) : dinv a b ((la : Int) - lb + 1).toNat a 0 := by
  obtain ⟨p1, p2, p3⟩ := h1
  obtain ⟨q1, q2, q3⟩ := h2
  obtain ⟨q4, q5⟩ := q3 hb
  refine ⟨by omega, ?_, ⟨0, rfl⟩, ha, by omega, fun hk => ?_⟩
  · by_cases hl : lb ≤ la
    · have e : ((la : Int) - lb + 1).toNat = la - lb + 1 := by omega
      rw [e]
      have h : 2 ^ (lb - 1) * 2 ^ (la - lb + 1) ≤ b * 2 ^ (la - lb + 1) := Nat.mul_le_mul_right _ q5
      rw [← Nat.pow_add, show lb - 1 + (la - lb + 1) = la from by omega] at h
      omega
    · have e : ((la : Int) - lb + 1).toNat = 0 := by omega
      rw [e, Nat.pow_zero, Nat.mul_one]
      have h : 2 ^ la ≤ 2 ^ (lb - 1) := Nat.pow_le_pow_right (by decide) (by omega)
      omega
  · have e : ((la : Int) - lb + 1).toNat - 1 = la - lb := by omega
    rw [e]
    have h : b * 2 ^ (la - lb) < 2 ^ lb * 2 ^ (la - lb) := Nat.mul_lt_mul_of_pos_right q1 (Nat.pow_pos (by decide))
    rw [← Nat.pow_add, show lb + (la - lb) = la from by omega] at h
    have h' : 2 ^ la ≤ 2 ^ 128 := Nat.pow_le_pow_right (by decide) h3
    have e2 : (2 : Nat) ^ 128 = 340282366920938463463374607431768211456 := by decide
    unfold isN
    omega
theorem dinv_no (a b A Q : Nat) (m : Int) (hm : 0 ≤ m) (h : dinv a b (m + 1).toNat A Q) (hlt : A < b * 2 ^ m.toNat) : dinv a b (m - 1 + 1).toNat A Q := by
  have e : (m + 1).toNat = m.toNat + 1 := by omega
  have e2 : (m - 1 + 1).toNat = m.toNat := by omega
  rw [e] at h
  rw [e2]
  obtain ⟨h1, h2, ⟨t, h3⟩, h4, h5, h6⟩ := h
  refine ⟨h1, hlt, ⟨2 * t, by rw [h3, Nat.pow_succ, Nat.mul_assoc]⟩, h4, h5, fun hk => ?_⟩
  have h7 := h6 (by omega)
  have : b * 2 ^ (m.toNat - 1) ≤ b * 2 ^ (m.toNat + 1 - 1) := Nat.mul_le_mul_left _ (Nat.pow_le_pow_right (by decide) (by omega))
  unfold isN at *
  omega
theorem dinv_yes (a b A Q : Nat) (m : Int) (hm : 0 ≤ m) (h : dinv a b (m + 1).toNat A Q) (hlt : ¬ A < b * 2 ^ m.toNat) : dinv a b (m - 1 + 1).toNat (A - b * 2 ^ m.toNat) (Q + 2 ^ m.toNat) := by
  have e : (m + 1).toNat = m.toNat + 1 := by omega
  have e2 : (m - 1 + 1).toNat = m.toNat := by omega
  rw [e] at h
  rw [e2]
  obtain ⟨h1, h2, ⟨t, h3⟩, h4, h5, h6⟩ := h
  refine ⟨?_, ?_, ⟨2 * t + 1, by rw [h3, Nat.pow_succ, Nat.mul_assoc, Nat.mul_add, Nat.mul_one]⟩, h4, h5, fun hk => ?_⟩
  · rw [Nat.add_mul, Nat.mul_comm (2 ^ m.toNat)]; omega
  · rw [Nat.pow_succ, ← Nat.mul_assoc] at h2; omega
  · have h7 := h6 (by omega)
    have : b * 2 ^ (m.toNat - 1) ≤ b * 2 ^ (m.toNat + 1 - 1) := Nat.mul_le_mul_left _ (Nat.pow_le_pow_right (by decide) (by omega))
    unfold isN at *
    omega
theorem dinv_isN {a b A Q : Nat} {m : Int} (hm : 0 ≤ m) (h : dinv a b (m + 1).toNat A Q) : isN (b * 2 ^ m.toNat) := by
  have := h.2.2.2.2.2 (by omega)
  have e : (m + 1).toNat - 1 = m.toNat := by omega
  rw [e] at this
  exact this
theorem dinv_end {a b A Q : Nat} {m : Int} (hm : m < 0) (h : dinv a b (m + 1).toNat A Q) : Q = a / b ∧ A = a % b := by
  have e : (m + 1).toNat = 0 := by omega
  rw [e] at h
  obtain ⟨h1, h2, -, -, h5, -⟩ := h
  rw [Nat.pow_zero, Nat.mul_one] at h2
  have hq : a / b = Q := Nat.div_eq_of_lt_le (by omega) (by rw [Nat.add_mul, Nat.one_mul]; omega)
  have hr := Nat.div_add_mod a b
  rw [hq, Nat.mul_comm] at hr
  exact ⟨hq.symm, by omega⟩
theorem bit_parts (Q k q : Nat) (n r : Int) (hr0 : 0 ≤ r) (hr1 : r < 32) (hn : n = 32 * q + r) (hk : k = n.toNat + 1) (hQ : ∃ t, Q = 2 ^ k * t) :
    bits .or .u32 (pt Q q) (2 ^ r.toNat) = pt (Q + 2 ^ n.toNat) q ∧ ∀ i, i ≠ q → pt Q i = pt (Q + 2 ^ n.toNat) i := by
  obtain ⟨t, rfl⟩ := hQ
  obtain ⟨r, rfl⟩ := Int.eq_ofNat_of_zero_le hr0
  have en : n.toNat = 32 * q + r := by omega
  subst hk
  rw [en]
  constructor
  · obtain ⟨h1, h2⟩ := bit_at t q r (by omega)
    unfold pt
    have e : (2 : Int) ^ (r : Int).toNat = ((2 ^ r : Nat) : Int) := by rw [Int.natCast_pow]; rfl
    rw [e, ← h1, orN _ _ (Nat.mod_lt _ (by decide)) (by omega)]
  · intro i hi
    unfold pt
    rcases Nat.lt_or_ge i q with h | h
    · obtain ⟨h1, h2⟩ := bit_lo t (32 * q + r) i (by omega)
      rw [h1, h2]
    · rw [bit_hi t (32 * q + r) i (by omega)]
theorem subN_of (A S : Nat) (hA : isN A) (h : ¬ A < S) : subN A S = A - S := by unfold subN isN at *; omega
theorem bor_yes (A S : Nat) (h : A < S) : borN A S = 1 := by unfold borN; rw [if_pos h]
theorem bor_no (A S : Nat) (h : ¬ A < S) : borN A S = 0 := by unfold borN; rw [if_neg h]
theorem pow_wrap (r : Int) (h0 : 0 ≤ r) (h1 : r < 32) : IntKind.u32.wrap (2 ^ r.toNat) = 2 ^ r.toNat := by
  rw [IntKind.wrap_u32]
  have h : (2 : Nat) ^ r.toNat ≤ 2 ^ 31 := Nat.pow_le_pow_right (by decide) (by omega)
  have e : (2 : Int) ^ r.toNat = ((2 ^ r.toNat : Nat) : Int) := by rw [Int.natCast_pow]; rfl
  rw [e]
  have : (2 : Nat) ^ 31 = 2147483648 := by decide
  generalize 2 ^ r.toNat = p at *
  omega



theorem pt_zero (i : Nat) : pt 0 i = 0 := by simp [pt]

set_option maxHeartbeats 8000000 in
theorem divided_calls (a b : Nat) (ha : isN a) (hb : isN b) (hb0 : b ≠ 0) (w : World) :
    Calls Try.prog 43 #[.agg #[.int .u32 (pt a 0), .int .u32 (pt a 1), .int .u32 (pt a 2), .int .u32 (pt a 3)], .agg #[.int .u32 (pt b 0), .int .u32 (pt b 1), .int .u32 (pt b 2), .int .u32 (pt b 3)]] w fun e w' => e = .returned (.tuple #[.agg #[.int .u32 (pt (a / b) 0), .int .u32 (pt (a / b) 1), .int .u32 (pt (a / b) 2), .int .u32 (pt (a / b) 3)], .agg #[.int .u32 (pt (a % b) 0), .int .u32 (pt (a % b) 1), .int .u32 (pt (a % b) 2), .int .u32 (pt (a % b) 3)]]) ∧ Below w.heap.size w w' := by
  have bb0 := pt_bd b 0
  have bb1 := pt_bd b 1
  have bb2 := pt_bd b 2
  have bb3 := pt_bd b 3
  go_enter Try.func43, Try.ntmps43
  go_wp2
  go_region_held3 (fun w' => w'.cell? ⟨w.heap.size, 0, none⟩ = some (.int .u32 (pt a 0)) ∧ w'.cell? ⟨w.heap.size, 1, none⟩ = some (.int .u32 (pt a 1)) ∧ w'.cell? ⟨w.heap.size, 2, none⟩ = some (.int .u32 (pt a 2)) ∧ w'.cell? ⟨w.heap.size, 3, none⟩ = some (.int .u32 (pt a 3)) ∧ w'.cell? ⟨w.heap.size + 1, 0, none⟩ = some (.int .u32 (pt b 0)) ∧ w'.cell? ⟨w.heap.size + 1, 1, none⟩ = some (.int .u32 (pt b 1)) ∧ w'.cell? ⟨w.heap.size + 1, 2, none⟩ = some (.int .u32 (pt b 2)) ∧ w'.cell? ⟨w.heap.size + 1, 3, none⟩ = some (.int .u32 (pt b 3))) (simp [*, go_sem]) (first | (go_at_call_of 63 (pt a 0); refine (length_calls a ha _).mono ?_; rintro e w0 ⟨la, rfl, hla, hla2, hbel⟩; obtain ⟨o1, j1, rfl⟩ := grow_of_below hbel; clear hbel) | (go_at_call_of 63 (pt b 0); refine (length_calls b hb _).mono ?_; rintro e w0 ⟨lb, rfl, hlb, hlb2, hbel⟩; obtain ⟨o2, j2, rfl⟩ := grow_of_below hbel; clear hbel))
  rw [show IntKind.i64.wrap ((la : Int) - lb) = (la : Int) - lb from IntWalk.i64_in _ (by omega)]
  have D0 := Lib.hid (dinv_start a b la lb ha hb0 hla hlb hla2)
  obtain ⟨n0, hn0⟩ : ∃ n : Int, (la : Int) - lb = n := ⟨_, rfl⟩
  rw [hn0] at D0 ⊢
  have hn1 : -129 ≤ n0 ∧ n0 ≤ 127 := by have := (hlb.2.2 hb0).1; omega
  clear hn0 hla hlb hla2 hlb2
  go_wp2
  go_loopw [7] (fun s7 wr => ∃ (m : Int) (A Q : Nat), s7 = .int .i64 m ∧ (-129 ≤ m ∧ m ≤ 127) ∧ Hid (dinv a b (m + 1).toNat A Q) ∧ Below (((((w.alloc (.cells #[.int .u32 (pt A 0), .int .u32 (pt A 1), .int .u32 (pt A 2), .int .u32 (pt A 3)] 24)).alloc (.cells #[.int .u32 (pt b 0), .int .u32 (pt b 1), .int .u32 (pt b 2), .int .u32 (pt b 3)] 24)).alloc (.cells #[.int .u32 0, .int .u32 0, .int .u32 0, .int .u32 0] 24)).alloc (.cells #[.int .u32 0, .int .u32 0, .int .u32 0, .int .u32 0] 24)).alloc (.cells #[.int .u32 (pt Q 0), .int .u32 (pt Q 1), .int .u32 (pt Q 2), .int .u32 (pt Q 3)] 24)).heap.size (((((w.alloc (.cells #[.int .u32 (pt A 0), .int .u32 (pt A 1), .int .u32 (pt A 2), .int .u32 (pt A 3)] 24)).alloc (.cells #[.int .u32 (pt b 0), .int .u32 (pt b 1), .int .u32 (pt b 2), .int .u32 (pt b 3)] 24)).alloc (.cells #[.int .u32 0, .int .u32 0, .int .u32 0, .int .u32 0] 24)).alloc (.cells #[.int .u32 0, .int .u32 0, .int .u32 0, .int .u32 0] 24)).alloc (.cells #[.int .u32 (pt Q 0), .int .u32 (pt Q 1), .int .u32 (pt Q 2), .int .u32 (pt Q 3)] 24)) wr) (fun s7 _ => (intOf s7 + 1).toNat)
  case atStart => exact ⟨n0, a, 0, rfl, hn1, D0, by simp only [pt_zero]; repeat (first | (with_reducible exact Below.refl _ _) | ((with_reducible refine below_grow ?_ ?_); rotate_left; focus (first | omega | (simp [go_sem]; done) | (simp [go_sem]; omega))) | ((with_reducible refine Below.alloc ?_ ?_ _); rotate_left; focus (first | omega | (simp [go_sem]; done) | (simp [go_sem]; omega))) | ((with_reducible refine Below.setCell ?_ ?_ _); rotate_left; focus (first | omega | (simp [go_sem]; done) | (simp [go_sem]; omega))) | (with_reducible refine Below.drew ?_) | (with_reducible refine below_drewN _ ?_))⟩
  case round =>
    obtain ⟨m, A, Q, rfl, hm, D, hbel⟩ := hrel
    obtain ⟨o, j, rfl⟩ := grow_of_below hbel
    clear hbel
    by_cases hneg : m < 0
    · obtain ⟨rfl, rfl⟩ := dinv_end hneg D.out
      clear D D0
      go_wp2
      go_region_held3 (fun w' => w'.cell? ⟨w.heap.size, 0, none⟩ = some (.int .u32 (pt (a % b) 0)) ∧ w'.cell? ⟨w.heap.size, 1, none⟩ = some (.int .u32 (pt (a % b) 1)) ∧ w'.cell? ⟨w.heap.size, 2, none⟩ = some (.int .u32 (pt (a % b) 2)) ∧ w'.cell? ⟨w.heap.size, 3, none⟩ = some (.int .u32 (pt (a % b) 3)) ∧ w'.cell? ⟨w.heap.size + 1 + 1 + 1 + 1, 0, none⟩ = some (.int .u32 (pt (a / b) 0)) ∧ w'.cell? ⟨w.heap.size + 1 + 1 + 1 + 1, 1, none⟩ = some (.int .u32 (pt (a / b) 1)) ∧ w'.cell? ⟨w.heap.size + 1 + 1 + 1 + 1, 2, none⟩ = some (.int .u32 (pt (a / b) 2)) ∧ w'.cell? ⟨w.heap.size + 1 + 1 + 1 + 1, 3, none⟩ = some (.int .u32 (pt (a / b) 3))) (simp [*, go_sem]) (fail)
      go_wp2
      refine bodyPost_ret (by simp [results, Try.results43, go_sem]) rfl ⟨rfl, ?_⟩
      repeat (first | (with_reducible exact Below.refl _ _) | ((with_reducible refine below_grow ?_ ?_); rotate_left; focus (first | omega | (simp [go_sem]; done) | (simp [go_sem]; omega))) | ((with_reducible refine Below.alloc ?_ ?_ _); rotate_left; focus (first | omega | (simp [go_sem]; done) | (simp [go_sem]; omega))) | ((with_reducible refine Below.setCell ?_ ?_ _); rotate_left; focus (first | omega | (simp [go_sem]; done) | (simp [go_sem]; omega))) | (with_reducible refine Below.drew ?_) | (with_reducible refine below_drewN _ ?_))
    · have hm0 : 0 ≤ m := by omega
      clear hneg
      obtain ⟨hA, hQ⟩ := dinv_AQ D.out
      have hS := dinv_isN hm0 D.out
      by_cases hlt : A < b * 2 ^ m.toNat
      · have D1 := Lib.hid (dinv_no a b A Q m hm0 D.out hlt)
        have hbr := bor_yes A (b * 2 ^ m.toNat) hlt
        clear hlt D
        go_wp2
        go_region_held3 (fun w' => w'.cell? ⟨w.heap.size, 0, none⟩ = some (.int .u32 (pt (A) 0)) ∧ w'.cell? ⟨w.heap.size, 1, none⟩ = some (.int .u32 (pt (A) 1)) ∧ w'.cell? ⟨w.heap.size, 2, none⟩ = some (.int .u32 (pt (A) 2)) ∧ w'.cell? ⟨w.heap.size, 3, none⟩ = some (.int .u32 (pt (A) 3)) ∧ w'.cell? ⟨w.heap.size + 1, 0, none⟩ = some (.int .u32 (pt (b) 0)) ∧ w'.cell? ⟨w.heap.size + 1, 1, none⟩ = some (.int .u32 (pt (b) 1)) ∧ w'.cell? ⟨w.heap.size + 1, 2, none⟩ = some (.int .u32 (pt (b) 2)) ∧ w'.cell? ⟨w.heap.size + 1, 3, none⟩ = some (.int .u32 (pt (b) 3))) (simp [*, go_sem]) (first | (go_at_call 64; refine (shifted_calls b m (by omega) _).mono ?_; rintro e w0 ⟨rfl, hbel⟩; obtain ⟨o3, j3, rfl⟩ := grow_of_below hbel; clear hbel) | (go_at_call 45; refine (minus_calls A (b * 2 ^ m.toNat) hA hS _).mono ?_; rintro e w0 ⟨rfl, hbel⟩; obtain ⟨o4, j4, rfl⟩ := grow_of_below hbel; clear hbel))
        go_wp2
        all_goals
          go_roundw
          case rel => exact ⟨m - 1, A, Q, rfl, by omega, D1, by repeat (first | (with_reducible exact Below.refl _ _) | ((with_reducible refine below_grow ?_ ?_); rotate_left; focus (first | omega | (simp [go_sem]; done) | (simp [go_sem]; omega))) | ((with_reducible refine Below.alloc ?_ ?_ _); rotate_left; focus (first | omega | (simp [go_sem]; done) | (simp [go_sem]; omega))) | ((with_reducible refine Below.setCell ?_ ?_ _); rotate_left; focus (first | omega | (simp [go_sem]; done) | (simp [go_sem]; omega))) | (with_reducible refine Below.drew ?_) | (with_reducible refine below_drewN _ ?_))⟩
          case measure => simp [intOf]; omega
      · have D1' := dinv_yes a b A Q m hm0 D.out hlt
        have hbr := bor_no A (b * 2 ^ m.toNat) hlt
        have hsub := subN_of A (b * 2 ^ m.toNat) hA hlt
        have DQ := D.out.2.2.1
        have hbp' := fun q r h0 h1 h2 => bit_parts Q _ q m r h0 h1 h2 (show (m + 1).toNat = m.toNat + 1 by omega) DQ
        obtain ⟨A', hA'⟩ : ∃ A', A - b * 2 ^ m.toNat = A' := ⟨_, rfl⟩
        obtain ⟨Q', hQ'⟩ : ∃ Q', Q + 2 ^ m.toNat = Q' := ⟨_, rfl⟩
        rw [hA'] at hsub
        rw [hA', hQ'] at D1'
        rw [hQ'] at hbp'
        have D1 := Lib.hid D1'
        have hbp := Lib.hid hbp'
        clear D1' hbp' hlt D DQ hA' hQ'
        have hq : m / 32 = 0 ∨ m / 32 = 1 ∨ m / 32 = 2 ∨ m / 32 = 3 := by omega
        obtain ⟨r, hr⟩ : ∃ r, m % 32 = r := ⟨_, rfl⟩
        have hr0 : 0 ≤ r := by omega
        have hr1 : r < 32 := by omega
        have k1 : m.tmod 32 = r := by rw [Int.tmod_eq_emod_of_nonneg hm0]; exact hr
        have k2 : r ≤ 32 := by omega
        have k3 := pow_wrap r hr0 hr1
        rcases hq with hq | hq | hq | hq
        · have hp := Lib.hid (hbp.out 0 r hr0 hr1 (by omega))
          clear hbp
          have k5 : IntKind.i64.wrap 0 = 0 := IntWalk.i64_in _ (by decide)
          have k4 : m.tdiv 32 = 0 := by rw [Int.tdiv_eq_ediv_of_nonneg hm0]; exact hq
          go_wp2
          go_region_held3 (fun w' => w'.cell? ⟨w.heap.size, 0, none⟩ = some (.int .u32 (pt (A) 0)) ∧ w'.cell? ⟨w.heap.size, 1, none⟩ = some (.int .u32 (pt (A) 1)) ∧ w'.cell? ⟨w.heap.size, 2, none⟩ = some (.int .u32 (pt (A) 2)) ∧ w'.cell? ⟨w.heap.size, 3, none⟩ = some (.int .u32 (pt (A) 3)) ∧ w'.cell? ⟨w.heap.size + 1, 0, none⟩ = some (.int .u32 (pt (b) 0)) ∧ w'.cell? ⟨w.heap.size + 1, 1, none⟩ = some (.int .u32 (pt (b) 1)) ∧ w'.cell? ⟨w.heap.size + 1, 2, none⟩ = some (.int .u32 (pt (b) 2)) ∧ w'.cell? ⟨w.heap.size + 1, 3, none⟩ = some (.int .u32 (pt (b) 3))) (simp [*, go_sem]) (first | (go_at_call 64; refine (shifted_calls b m (by omega) _).mono ?_; rintro e w0 ⟨rfl, hbel⟩; obtain ⟨o3, j3, rfl⟩ := grow_of_below hbel; clear hbel) | (go_at_call 45; refine (minus_calls A (b * 2 ^ m.toNat) hA hS _).mono ?_; rintro e w0 ⟨rfl, hbel⟩; obtain ⟨o4, j4, rfl⟩ := grow_of_below hbel; clear hbel))
          all_goals
            go_wp2
            go_region
            go_wp2
            obtain ⟨hp0, hp1⟩ := hp.out
            have g1 := hp1 1 (by decide)
            have g2 := hp1 2 (by decide)
            have g3 := hp1 3 (by decide)
            go_roundw
            case rel =>
              refine ⟨m - 1, A', Q', rfl, by omega, D1, ?_⟩
              simp only [g1, g2, g3, hp0]
              repeat (first | (with_reducible exact Below.refl _ _) | ((with_reducible refine below_grow ?_ ?_); rotate_left; focus (first | omega | (simp [go_sem]; done) | (simp [go_sem]; omega))) | ((with_reducible refine Below.alloc ?_ ?_ _); rotate_left; focus (first | omega | (simp [go_sem]; done) | (simp [go_sem]; omega))) | ((with_reducible refine Below.setCell ?_ ?_ _); rotate_left; focus (first | omega | (simp [go_sem]; done) | (simp [go_sem]; omega))) | (with_reducible refine Below.drew ?_) | (with_reducible refine below_drewN _ ?_))
            case measure => simp [intOf]; omega
        · have hp := Lib.hid (hbp.out 1 r hr0 hr1 (by omega))
          clear hbp
          have k5 : IntKind.i64.wrap 1 = 1 := IntWalk.i64_in _ (by decide)
          have k4 : m.tdiv 32 = 1 := by rw [Int.tdiv_eq_ediv_of_nonneg hm0]; exact hq
          go_wp2
          go_region_held3 (fun w' => w'.cell? ⟨w.heap.size, 0, none⟩ = some (.int .u32 (pt (A) 0)) ∧ w'.cell? ⟨w.heap.size, 1, none⟩ = some (.int .u32 (pt (A) 1)) ∧ w'.cell? ⟨w.heap.size, 2, none⟩ = some (.int .u32 (pt (A) 2)) ∧ w'.cell? ⟨w.heap.size, 3, none⟩ = some (.int .u32 (pt (A) 3)) ∧ w'.cell? ⟨w.heap.size + 1, 0, none⟩ = some (.int .u32 (pt (b) 0)) ∧ w'.cell? ⟨w.heap.size + 1, 1, none⟩ = some (.int .u32 (pt (b) 1)) ∧ w'.cell? ⟨w.heap.size + 1, 2, none⟩ = some (.int .u32 (pt (b) 2)) ∧ w'.cell? ⟨w.heap.size + 1, 3, none⟩ = some (.int .u32 (pt (b) 3))) (simp [*, go_sem]) (first | (go_at_call 64; refine (shifted_calls b m (by omega) _).mono ?_; rintro e w0 ⟨rfl, hbel⟩; obtain ⟨o3, j3, rfl⟩ := grow_of_below hbel; clear hbel) | (go_at_call 45; refine (minus_calls A (b * 2 ^ m.toNat) hA hS _).mono ?_; rintro e w0 ⟨rfl, hbel⟩; obtain ⟨o4, j4, rfl⟩ := grow_of_below hbel; clear hbel))
          all_goals
            go_wp2
            go_region
            go_wp2
            obtain ⟨hp0, hp1⟩ := hp.out
            have g0 := hp1 0 (by decide)
            have g2 := hp1 2 (by decide)
            have g3 := hp1 3 (by decide)
            go_roundw
            case rel =>
              refine ⟨m - 1, A', Q', rfl, by omega, D1, ?_⟩
              simp only [g0, g2, g3, hp0]
              repeat (first | (with_reducible exact Below.refl _ _) | ((with_reducible refine below_grow ?_ ?_); rotate_left; focus (first | omega | (simp [go_sem]; done) | (simp [go_sem]; omega))) | ((with_reducible refine Below.alloc ?_ ?_ _); rotate_left; focus (first | omega | (simp [go_sem]; done) | (simp [go_sem]; omega))) | ((with_reducible refine Below.setCell ?_ ?_ _); rotate_left; focus (first | omega | (simp [go_sem]; done) | (simp [go_sem]; omega))) | (with_reducible refine Below.drew ?_) | (with_reducible refine below_drewN _ ?_))
            case measure => simp [intOf]; omega
        · have hp := Lib.hid (hbp.out 2 r hr0 hr1 (by omega))
          clear hbp
          have k5 : IntKind.i64.wrap 2 = 2 := IntWalk.i64_in _ (by decide)
          have k4 : m.tdiv 32 = 2 := by rw [Int.tdiv_eq_ediv_of_nonneg hm0]; exact hq
          go_wp2
          go_region_held3 (fun w' => w'.cell? ⟨w.heap.size, 0, none⟩ = some (.int .u32 (pt (A) 0)) ∧ w'.cell? ⟨w.heap.size, 1, none⟩ = some (.int .u32 (pt (A) 1)) ∧ w'.cell? ⟨w.heap.size, 2, none⟩ = some (.int .u32 (pt (A) 2)) ∧ w'.cell? ⟨w.heap.size, 3, none⟩ = some (.int .u32 (pt (A) 3)) ∧ w'.cell? ⟨w.heap.size + 1, 0, none⟩ = some (.int .u32 (pt (b) 0)) ∧ w'.cell? ⟨w.heap.size + 1, 1, none⟩ = some (.int .u32 (pt (b) 1)) ∧ w'.cell? ⟨w.heap.size + 1, 2, none⟩ = some (.int .u32 (pt (b) 2)) ∧ w'.cell? ⟨w.heap.size + 1, 3, none⟩ = some (.int .u32 (pt (b) 3))) (simp [*, go_sem]) (first | (go_at_call 64; refine (shifted_calls b m (by omega) _).mono ?_; rintro e w0 ⟨rfl, hbel⟩; obtain ⟨o3, j3, rfl⟩ := grow_of_below hbel; clear hbel) | (go_at_call 45; refine (minus_calls A (b * 2 ^ m.toNat) hA hS _).mono ?_; rintro e w0 ⟨rfl, hbel⟩; obtain ⟨o4, j4, rfl⟩ := grow_of_below hbel; clear hbel))
          all_goals
            go_wp2
            go_region
            go_wp2
            obtain ⟨hp0, hp1⟩ := hp.out
            have g0 := hp1 0 (by decide)
            have g1 := hp1 1 (by decide)
            have g3 := hp1 3 (by decide)
            go_roundw
            case rel =>
              refine ⟨m - 1, A', Q', rfl, by omega, D1, ?_⟩
              simp only [g0, g1, g3, hp0]
              repeat (first | (with_reducible exact Below.refl _ _) | ((with_reducible refine below_grow ?_ ?_); rotate_left; focus (first | omega | (simp [go_sem]; done) | (simp [go_sem]; omega))) | ((with_reducible refine Below.alloc ?_ ?_ _); rotate_left; focus (first | omega | (simp [go_sem]; done) | (simp [go_sem]; omega))) | ((with_reducible refine Below.setCell ?_ ?_ _); rotate_left; focus (first | omega | (simp [go_sem]; done) | (simp [go_sem]; omega))) | (with_reducible refine Below.drew ?_) | (with_reducible refine below_drewN _ ?_))
            case measure => simp [intOf]; omega
        · have hp := Lib.hid (hbp.out 3 r hr0 hr1 (by omega))
          clear hbp
          have k5 : IntKind.i64.wrap 3 = 3 := IntWalk.i64_in _ (by decide)
          have k4 : m.tdiv 32 = 3 := by rw [Int.tdiv_eq_ediv_of_nonneg hm0]; exact hq
          go_wp2
          go_region_held3 (fun w' => w'.cell? ⟨w.heap.size, 0, none⟩ = some (.int .u32 (pt (A) 0)) ∧ w'.cell? ⟨w.heap.size, 1, none⟩ = some (.int .u32 (pt (A) 1)) ∧ w'.cell? ⟨w.heap.size, 2, none⟩ = some (.int .u32 (pt (A) 2)) ∧ w'.cell? ⟨w.heap.size, 3, none⟩ = some (.int .u32 (pt (A) 3)) ∧ w'.cell? ⟨w.heap.size + 1, 0, none⟩ = some (.int .u32 (pt (b) 0)) ∧ w'.cell? ⟨w.heap.size + 1, 1, none⟩ = some (.int .u32 (pt (b) 1)) ∧ w'.cell? ⟨w.heap.size + 1, 2, none⟩ = some (.int .u32 (pt (b) 2)) ∧ w'.cell? ⟨w.heap.size + 1, 3, none⟩ = some (.int .u32 (pt (b) 3))) (simp [*, go_sem]) (first | (go_at_call 64; refine (shifted_calls b m (by omega) _).mono ?_; rintro e w0 ⟨rfl, hbel⟩; obtain ⟨o3, j3, rfl⟩ := grow_of_below hbel; clear hbel) | (go_at_call 45; refine (minus_calls A (b * 2 ^ m.toNat) hA hS _).mono ?_; rintro e w0 ⟨rfl, hbel⟩; obtain ⟨o4, j4, rfl⟩ := grow_of_below hbel; clear hbel))
          all_goals
            go_wp2
            go_region
            go_wp2
            obtain ⟨hp0, hp1⟩ := hp.out
            have g0 := hp1 0 (by decide)
            have g1 := hp1 1 (by decide)
            have g2 := hp1 2 (by decide)
            go_roundw
            case rel =>
              refine ⟨m - 1, A', Q', rfl, by omega, D1, ?_⟩
              simp only [g0, g1, g2, hp0]
              repeat (first | (with_reducible exact Below.refl _ _) | ((with_reducible refine below_grow ?_ ?_); rotate_left; focus (first | omega | (simp [go_sem]; done) | (simp [go_sem]; omega))) | ((with_reducible refine Below.alloc ?_ ?_ _); rotate_left; focus (first | omega | (simp [go_sem]; done) | (simp [go_sem]; omega))) | ((with_reducible refine Below.setCell ?_ ?_ _); rotate_left; focus (first | omega | (simp [go_sem]; done) | (simp [go_sem]; omega))) | (with_reducible refine Below.drew ?_) | (with_reducible refine below_drewN _ ?_))
            case measure => simp [intOf]; omega

end Go.Proofs.Ytjaggclfacbkbaa

/-! NH -/
namespace Go.Proofs.Ytjaggclfacbkbaa
open Go.RowKit

instance (a : Nat) : Decidable (isN a) := by unfold isN; infer_instance
def addR (a b : Nat) : Nat := if isN (a + b) then a + b else 0
def addE (a b : Nat) : Int := if isN (a + b) then 0 else 3
def subR (a b : Nat) : Nat := if a < b then 0 else a - b
def subE (a b : Nat) : Int := if a < b then 21 else 0
theorem zeroN : isN 0 := by decide
theorem addR_isN (a b : Nat) : isN (addR a b) := by unfold addR; split <;> first | assumption | exact zeroN
theorem subR_isN (a b : Nat) (ha : isN a) : isN (subR a b) := by unfold subR isN at *; split <;> omega
theorem add_yes {a b : Nat} (h : isN (a + b)) : addN a b = a + b ∧ carN a b = 0 ∧ addR a b = a + b ∧ addE a b = 0 := by
  refine ⟨?_, ?_, if_pos h, if_pos h⟩
  · unfold addN; unfold isN at h; omega
  · unfold carN; unfold isN at h; omega
theorem add_no {a b : Nat} (ha : isN a) (hb : isN b) (h : ¬ isN (a + b)) : carN a b = 1 ∧ addR a b = 0 ∧ addE a b = 3 := by
  refine ⟨?_, if_neg h, if_neg h⟩
  unfold carN isN at *; omega
theorem sub_no {a b : Nat} (h : a < b) : borN a b = 1 ∧ subR a b = 0 ∧ subE a b = 21 := ⟨if_pos h, if_pos h, if_pos h⟩
theorem sub_yes {a b : Nat} (ha : isN a) (h : ¬ a < b) : borN a b = 0 ∧ subN a b = a - b ∧ subR a b = a - b ∧ subE a b = 0 := ⟨if_neg h, subN_of a b ha h, if_neg h, if_neg h⟩
set_option maxHeartbeats 2000000 in
theorem add_calls (a b : Nat) (ha : isN a) (hb : isN b) (w : World) :
    Calls Try.prog 17 #[.agg #[.int .u32 (pt a 0), .int .u32 (pt a 1), .int .u32 (pt a 2), .int .u32 (pt a 3)], .agg #[.int .u32 (pt b 0), .int .u32 (pt b 1), .int .u32 (pt b 2), .int .u32 (pt b 3)]] w fun e w' => e = .returned (.tuple #[.agg #[.int .u32 (pt (addR a b) 0), .int .u32 (pt (addR a b) 1), .int .u32 (pt (addR a b) 2), .int .u32 (pt (addR a b) 3)], .int .i64 (addE a b)]) ∧ Below w.heap.size w w' := by
  by_cases h : isN (a + b)
  · obtain ⟨e1, e2, e3, e4⟩ := add_yes h
    go_enter Try.func17, Try.ntmps17
    go_wp2_with (first | (go_at_call 40; refine (plus_calls a b ha hb _).mono ?_; rintro e w0 ⟨rfl, hbel⟩; obtain ⟨o1, j1, rfl⟩ := grow_of_below hbel; clear hbel))
    refine bodyPost_ret (by simp [results, Try.results17, go_sem, *]) rfl ⟨rfl, ?_⟩
    repeat (first | (with_reducible exact Below.refl _ _) | ((with_reducible refine below_grow ?_ ?_); rotate_left; focus (first | omega | (simp [go_sem]; done) | (simp [go_sem]; omega))) | ((with_reducible refine Below.alloc ?_ ?_ _); rotate_left; focus (first | omega | (simp [go_sem]; done) | (simp [go_sem]; omega))) | ((with_reducible refine Below.setCell ?_ ?_ _); rotate_left; focus (first | omega | (simp [go_sem]; done) | (simp [go_sem]; omega))) | (with_reducible refine Below.drew ?_) | (with_reducible refine below_drewN _ ?_))
  · obtain ⟨e1, e2, e3⟩ := add_no ha hb h
    go_enter Try.func17, Try.ntmps17
    go_wp2_with (first | (go_at_call 40; refine (plus_calls a b ha hb _).mono ?_; rintro e w0 ⟨rfl, hbel⟩; obtain ⟨o1, j1, rfl⟩ := grow_of_below hbel; clear hbel))
    refine bodyPost_ret (by simp [results, Try.results17, go_sem, *, pt_zero]) rfl ⟨rfl, ?_⟩
    repeat (first | (with_reducible exact Below.refl _ _) | ((with_reducible refine below_grow ?_ ?_); rotate_left; focus (first | omega | (simp [go_sem]; done) | (simp [go_sem]; omega))) | ((with_reducible refine Below.alloc ?_ ?_ _); rotate_left; focus (first | omega | (simp [go_sem]; done) | (simp [go_sem]; omega))) | ((with_reducible refine Below.setCell ?_ ?_ _); rotate_left; focus (first | omega | (simp [go_sem]; done) | (simp [go_sem]; omega))) | (with_reducible refine Below.drew ?_) | (with_reducible refine below_drewN _ ?_))
set_option maxHeartbeats 2000000 in
theorem sub_calls (a b : Nat) (ha : isN a) (hb : isN b) (w : World) :
    Calls Try.prog 23 #[.agg #[.int .u32 (pt a 0), .int .u32 (pt a 1), .int .u32 (pt a 2), .int .u32 (pt a 3)], .agg #[.int .u32 (pt b 0), .int .u32 (pt b 1), .int .u32 (pt b 2), .int .u32 (pt b 3)]] w fun e w' => e = .returned (.tuple #[.agg #[.int .u32 (pt (subR a b) 0), .int .u32 (pt (subR a b) 1), .int .u32 (pt (subR a b) 2), .int .u32 (pt (subR a b) 3)], .int .i64 (subE a b)]) ∧ Below w.heap.size w w' := by
  by_cases h : a < b
  · obtain ⟨e1, e2, e3⟩ := sub_no h
    go_enter Try.func23, Try.ntmps23
    go_wp2_with (first | (go_at_call 45; refine (minus_calls a b ha hb _).mono ?_; rintro e w0 ⟨rfl, hbel⟩; obtain ⟨o1, j1, rfl⟩ := grow_of_below hbel; clear hbel))
    refine bodyPost_ret (by simp [results, Try.results23, go_sem, *, pt_zero]) rfl ⟨rfl, ?_⟩
    repeat (first | (with_reducible exact Below.refl _ _) | ((with_reducible refine below_grow ?_ ?_); rotate_left; focus (first | omega | (simp [go_sem]; done) | (simp [go_sem]; omega))) | ((with_reducible refine Below.alloc ?_ ?_ _); rotate_left; focus (first | omega | (simp [go_sem]; done) | (simp [go_sem]; omega))) | ((with_reducible refine Below.setCell ?_ ?_ _); rotate_left; focus (first | omega | (simp [go_sem]; done) | (simp [go_sem]; omega))) | (with_reducible refine Below.drew ?_) | (with_reducible refine below_drewN _ ?_))
  · obtain ⟨e1, e2, e3, e4⟩ := sub_yes ha h
    go_enter Try.func23, Try.ntmps23
    go_wp2_with (first | (go_at_call 45; refine (minus_calls a b ha hb _).mono ?_; rintro e w0 ⟨rfl, hbel⟩; obtain ⟨o1, j1, rfl⟩ := grow_of_below hbel; clear hbel))
    refine bodyPost_ret (by simp [results, Try.results23, go_sem, *]) rfl ⟨rfl, ?_⟩
    repeat (first | (with_reducible exact Below.refl _ _) | ((with_reducible refine below_grow ?_ ?_); rotate_left; focus (first | omega | (simp [go_sem]; done) | (simp [go_sem]; omega))) | ((with_reducible refine Below.alloc ?_ ?_ _); rotate_left; focus (first | omega | (simp [go_sem]; done) | (simp [go_sem]; omega))) | ((with_reducible refine Below.setCell ?_ ?_ _); rotate_left; focus (first | omega | (simp [go_sem]; done) | (simp [go_sem]; omega))) | (with_reducible refine Below.drew ?_) | (with_reducible refine below_drewN _ ?_))

theorem nv_ne {b : Nat} (hb : isN b) (h : b ≠ 0) : ¬ (pt b 0 = 0 ∧ pt b 1 = 0 ∧ pt b 2 = 0 ∧ pt b 3 = 0) := by
  intro g
  have := pt_sum b hb
  rw [g.1, g.2.1, g.2.2.1, g.2.2.2] at this
  omega
theorem nv_inj {a b : Nat} (ha : isN a) (hb : isN b) (h0 : pt a 0 = pt b 0) (h1 : pt a 1 = pt b 1) (h2 : pt a 2 = pt b 2) (h3 : pt a 3 = pt b 3) : a = b := by
  have ka := pt_sum a ha
  have kb := pt_sum b hb
  rw [h0, h1, h2, h3] at ka
  omega

theorem eqN (a0 a1 a2 a3 b0 b1 b2 b3 : Int) (w : World) : (Op.equalIn 10000 24 (.agg #[.int .u32 a0, .int .u32 a1, .int .u32 a2, .int .u32 a3]) (.agg #[.int .u32 b0, .int .u32 b1, .int .u32 b2, .int .u32 b3])).run Try.prog w = .ok (decide (a0 = b0 ∧ a1 = b1 ∧ a2 = b2 ∧ a3 = b3)) w := by
  have u3 := Try.underlying22
  have a3' := Try.isAgg22
  have z3 := Try.sizeOf22
  rw [show (10000 : Nat) = 9999 + 1 from rfl, Op.equalIn]
  simp only [Sem.run_bind, run_underlying Try.underlying24, Result.andThen_ok]
  simp only [Std.Legacy.Range.forIn_eq_forIn_range', Std.Legacy.Range.size, Nat.sub_zero, Nat.add_sub_cancel, Nat.div_one, List.range'_succ, List.range'_zero, List.forIn_cons, List.forIn_nil]
  go_simp
  by_cases h1 : a0 = b0 <;> by_cases h2 : a1 = b1 <;> by_cases h3 : a2 = b2 <;> by_cases h4 : a3 = b3 <;> simp [h1, h2, h3, h4]
@[go_sem] theorem eqNv (a b : Nat) (ha : isN a) (hb : isN b) (w : World) : (Op.equalIn 10000 24 (.agg #[.int .u32 (pt a 0), .int .u32 (pt a 1), .int .u32 (pt a 2), .int .u32 (pt a 3)]) (.agg #[.int .u32 (pt b 0), .int .u32 (pt b 1), .int .u32 (pt b 2), .int .u32 (pt b 3)])).run Try.prog w = .ok (decide (a = b)) w := by
  rw [eqN]
  congr 1
  rw [decide_eq_decide]
  exact ⟨fun ⟨h0, h1, h2, h3⟩ => nv_inj ha hb h0 h1 h2 h3, fun h => by subst h; exact ⟨rfl, rfl, rfl, rfl⟩⟩
@[go_sem] theorem eqNz (a : Nat) (ha : isN a) (w : World) : (Op.equalIn 10000 24 (.agg #[.int .u32 (pt a 0), .int .u32 (pt a 1), .int .u32 (pt a 2), .int .u32 (pt a 3)]) (.agg #[.int .u32 0, .int .u32 0, .int .u32 0, .int .u32 0])).run Try.prog w = .ok (decide (a = 0)) w := by
  have := eqNv a 0 ha zeroN w
  simp only [pt_zero] at this
  exact this
set_option maxRecDepth 100000 in
set_option maxHeartbeats 2000000 in
theorem div_calls (a b : Nat) (ha : isN a) (hb : isN b) (hb0 : b ≠ 0) (w : World) :
    Calls Try.prog 21 #[.agg #[.int .u32 (pt a 0), .int .u32 (pt a 1), .int .u32 (pt a 2), .int .u32 (pt a 3)], .agg #[.int .u32 (pt b 0), .int .u32 (pt b 1), .int .u32 (pt b 2), .int .u32 (pt b 3)]] w fun e w' => e = .returned (.tuple #[.agg #[.int .u32 (pt (a / b) 0), .int .u32 (pt (a / b) 1), .int .u32 (pt (a / b) 2), .int .u32 (pt (a / b) 3)], .agg #[.int .u32 (pt (a % b) 0), .int .u32 (pt (a % b) 1), .int .u32 (pt (a % b) 2), .int .u32 (pt (a % b) 3)], .int .i64 0]) ∧ Below w.heap.size w w' := by
  have hne : decide (b = 0) = false := by simp [hb0]
  go_enter Try.func21, Try.ntmps21
  go_wp2_with (first | (go_at_call 43; refine (divided_calls a b ha hb hb0 _).mono ?_; rintro e w0 ⟨rfl, hbel⟩; obtain ⟨o1, j1, rfl⟩ := grow_of_below hbel; clear hbel))
  go_region_held3 (fun w' => w'.cell? ⟨w.heap.size + 1 + 1 + 1 + 1 + sz o1, 0, none⟩ = some (.int .u32 (pt (a / b) 0)) ∧ w'.cell? ⟨w.heap.size + 1 + 1 + 1 + 1 + sz o1, 1, none⟩ = some (.int .u32 (pt (a / b) 1)) ∧ w'.cell? ⟨w.heap.size + 1 + 1 + 1 + 1 + sz o1, 2, none⟩ = some (.int .u32 (pt (a / b) 2)) ∧ w'.cell? ⟨w.heap.size + 1 + 1 + 1 + 1 + sz o1, 3, none⟩ = some (.int .u32 (pt (a / b) 3)) ∧ w'.cell? ⟨w.heap.size + 1 + 1 + 1 + 1 + sz o1 + 1, 0, none⟩ = some (.int .u32 (pt (a % b) 0)) ∧ w'.cell? ⟨w.heap.size + 1 + 1 + 1 + 1 + sz o1 + 1, 1, none⟩ = some (.int .u32 (pt (a % b) 1)) ∧ w'.cell? ⟨w.heap.size + 1 + 1 + 1 + 1 + sz o1 + 1, 2, none⟩ = some (.int .u32 (pt (a % b) 2)) ∧ w'.cell? ⟨w.heap.size + 1 + 1 + 1 + 1 + sz o1 + 1, 3, none⟩ = some (.int .u32 (pt (a % b) 3))) (simp [*, go_sem]) (fail)
  go_wp2
  refine bodyPost_ret (by simp [results, Try.results21, go_sem]) rfl ⟨rfl, ?_⟩
  repeat (first | (with_reducible exact Below.refl _ _) | ((with_reducible refine below_grow ?_ ?_); rotate_left; focus (first | omega | (simp [go_sem]; done) | (simp [go_sem]; omega))) | ((with_reducible refine Below.alloc ?_ ?_ _); rotate_left; focus (first | omega | (simp [go_sem]; done) | (simp [go_sem]; omega))) | ((with_reducible refine Below.setCell ?_ ?_ _); rotate_left; focus (first | omega | (simp [go_sem]; done) | (simp [go_sem]; omega))) | (with_reducible refine Below.drew ?_) | (with_reducible refine below_drewN _ ?_))
set_option maxRecDepth 100000 in
set_option maxHeartbeats 2000000 in
theorem div_zero (a : Nat) (w : World) :
    Calls Try.prog 21 #[.agg #[.int .u32 (pt a 0), .int .u32 (pt a 1), .int .u32 (pt a 2), .int .u32 (pt a 3)], .agg #[.int .u32 (pt 0 0), .int .u32 (pt 0 1), .int .u32 (pt 0 2), .int .u32 (pt 0 3)]] w fun e w' => e = .returned (.tuple #[.agg #[.int .u32 (pt 0 0), .int .u32 (pt 0 1), .int .u32 (pt 0 2), .int .u32 (pt 0 3)], .agg #[.int .u32 (pt 0 0), .int .u32 (pt 0 1), .int .u32 (pt 0 2), .int .u32 (pt 0 3)], .int .i64 2]) ∧ Below w.heap.size w w' := by
  have hz := eqN 0 0 0 0 0 0 0 0
  simp only [pt_zero]
  go_enter Try.func21, Try.ntmps21
  go_wp2
  refine bodyPost_ret (by simp [results, Try.results21, go_sem]) rfl ⟨rfl, ?_⟩
  repeat (first | (with_reducible exact Below.refl _ _) | ((with_reducible refine below_grow ?_ ?_); rotate_left; focus (first | omega | (simp [go_sem]; done) | (simp [go_sem]; omega))) | ((with_reducible refine Below.alloc ?_ ?_ _); rotate_left; focus (first | omega | (simp [go_sem]; done) | (simp [go_sem]; omega))) | ((with_reducible refine Below.setCell ?_ ?_ _); rotate_left; focus (first | omega | (simp [go_sem]; done) | (simp [go_sem]; omega))) | (with_reducible refine Below.drew ?_) | (with_reducible refine below_drewN _ ?_))
end Go.Proofs.Ytjaggclfacbkbaa
