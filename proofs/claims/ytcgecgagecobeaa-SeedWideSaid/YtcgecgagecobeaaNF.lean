/- Walks of nat's parts: times. -/
import Derived.Test.YtcgecgagecobeaaNE
import Derived.BigRegion
namespace Go.Proofs.Ytcgecgagecobeaa
open Go.RowKit

def mulL (a b : Nat) : Nat := a * b % 340282366920938463463374607431768211456
def mulH (a b : Nat) : Nat := a * b / 340282366920938463463374607431768211456
theorem wpt (a i : Nat) : IntKind.u64.wrap (pt a i) = pt a i := by have := pt_bd a i; exact IntWalk.u64_in _ (by omega)
theorem w00 : IntKind.u64.wrap 0 = 0 := by decide
theorem row4 (x y0 y1 y2 y3 : Int) : x * (y0 + 4294967296 * y1 + 18446744073709551616 * y2 + 79228162514264337593543950336 * y3) = x * y0 + 4294967296 * (x * y1) + 18446744073709551616 * (x * y2) + 79228162514264337593543950336 * (x * y3) := by
  rw [Int.mul_add, Int.mul_add, Int.mul_add, Int.mul_left_comm, Int.mul_left_comm x, Int.mul_left_comm x]
theorem col4 (y x0 x1 x2 x3 : Int) : (x0 + 4294967296 * x1 + 18446744073709551616 * x2 + 79228162514264337593543950336 * x3) * y = x0 * y + 4294967296 * (x1 * y) + 18446744073709551616 * (x2 * y) + 79228162514264337593543950336 * (x3 * y) := by
  rw [Int.add_mul, Int.add_mul, Int.add_mul, Int.mul_assoc, Int.mul_assoc, Int.mul_assoc]
theorem times_fin (a b : Nat) (ha : isN a) (hb : isN b) (s00 s01 s02 s03 s10 s11 s12 s13 s20 s21 s22 s23 s30 s31 s32 s33 c00 c01 c02 c03 c10 c11 c12 c13 c20 c21 c22 c23 c30 c31 c32 c33 : Int)
    (h0 : 0 ≤ s00 ∧ s00 ≤ 4294967295)
    (h1 : 0 ≤ s10 ∧ s10 ≤ 4294967295)
    (h2 : 0 ≤ s20 ∧ s20 ≤ 4294967295)
    (h3 : 0 ≤ s30 ∧ s30 ≤ 4294967295)
    (h4 : 0 ≤ s31 ∧ s31 ≤ 4294967295)
    (h5 : 0 ≤ s32 ∧ s32 ≤ 4294967295)
    (h6 : 0 ≤ s33 ∧ s33 ≤ 4294967295)
    (h7 : 0 ≤ c33 ∧ c33 ≤ 4294967295)
    (e00 : s00 + 4294967296 * c00 = pt a 0 * pt b 0)
    (e01 : s01 + 4294967296 * c01 = pt a 0 * pt b 1 + c00)
    (e02 : s02 + 4294967296 * c02 = pt a 0 * pt b 2 + c01)
    (e03 : s03 + 4294967296 * c03 = pt a 0 * pt b 3 + c02)
    (e10 : s10 + 4294967296 * c10 = pt a 1 * pt b 0 + s01)
    (e11 : s11 + 4294967296 * c11 = pt a 1 * pt b 1 + s02 + c10)
    (e12 : s12 + 4294967296 * c12 = pt a 1 * pt b 2 + s03 + c11)
    (e13 : s13 + 4294967296 * c13 = pt a 1 * pt b 3 + c03 + c12)
    (e20 : s20 + 4294967296 * c20 = pt a 2 * pt b 0 + s11)
    (e21 : s21 + 4294967296 * c21 = pt a 2 * pt b 1 + s12 + c20)
    (e22 : s22 + 4294967296 * c22 = pt a 2 * pt b 2 + s13 + c21)
    (e23 : s23 + 4294967296 * c23 = pt a 2 * pt b 3 + c13 + c22)
    (e30 : s30 + 4294967296 * c30 = pt a 3 * pt b 0 + s21)
    (e31 : s31 + 4294967296 * c31 = pt a 3 * pt b 1 + s22 + c30)
    (e32 : s32 + 4294967296 * c32 = pt a 3 * pt b 2 + s23 + c31)
    (e33 : s33 + 4294967296 * c33 = pt a 3 * pt b 3 + c23 + c32) :
    isN (mulL a b) ∧ isN (mulH a b) ∧ (s00 = pt (mulL a b) 0 ∧ s10 = pt (mulL a b) 1 ∧ s20 = pt (mulL a b) 2 ∧ s30 = pt (mulL a b) 3) ∧ (s31 = pt (mulH a b) 0 ∧ s32 = pt (mulH a b) 1 ∧ s33 = pt (mulH a b) 2 ∧ c33 = pt (mulH a b) 3) := by
  have ka := pt_sum a ha
  have kb := pt_sum b hb
  have kp : ((a * b : Nat) : Int) = (a : Int) * b := Int.natCast_mul a b
  rw [ka, col4, kb, row4 (pt a 0), row4 (pt a 1), row4 (pt a 2), row4 (pt a 3)] at kp
  generalize pt a 0 * pt b 0 = m00 at *
  generalize pt a 0 * pt b 1 = m01 at *
  generalize pt a 0 * pt b 2 = m02 at *
  generalize pt a 0 * pt b 3 = m03 at *
  generalize pt a 1 * pt b 0 = m10 at *
  generalize pt a 1 * pt b 1 = m11 at *
  generalize pt a 1 * pt b 2 = m12 at *
  generalize pt a 1 * pt b 3 = m13 at *
  generalize pt a 2 * pt b 0 = m20 at *
  generalize pt a 2 * pt b 1 = m21 at *
  generalize pt a 2 * pt b 2 = m22 at *
  generalize pt a 2 * pt b 3 = m23 at *
  generalize pt a 3 * pt b 0 = m30 at *
  generalize pt a 3 * pt b 1 = m31 at *
  generalize pt a 3 * pt b 2 = m32 at *
  generalize pt a 3 * pt b 3 = m33 at *
  clear ka kb
  unfold mulL mulH
  generalize a * b = X at *
  have tot : (X : Int) = s00 + 4294967296 * s10 + 18446744073709551616 * s20 + 79228162514264337593543950336 * s30 + 340282366920938463463374607431768211456 * (s31 + 4294967296 * s32 + 18446744073709551616 * s33 + 79228162514264337593543950336 * c33) := by omega
  clear kp e00 e01 e02 e03 e10 e11 e12 e13 e20 e21 e22 e23 e30 e31 e32 e33
  have k1 := pt_mk s00 s10 s20 s30 h0 h1 h2 h3 (X % 340282366920938463463374607431768211456) (by omega)
  have k2 := pt_mk s31 s32 s33 c33 h4 h5 h6 h7 (X / 340282366920938463463374607431768211456) (by omega)
  exact ⟨k1.1, k2.1, k1.2, k2.2⟩
set_option maxHeartbeats 8000000 in
theorem times_calls (a b : Nat) (ha : isN a) (hb : isN b) (w : World) :
    Calls Try.prog 51 #[.agg #[.int .u32 (pt a 0), .int .u32 (pt a 1), .int .u32 (pt a 2), .int .u32 (pt a 3)], .agg #[.int .u32 (pt b 0), .int .u32 (pt b 1), .int .u32 (pt b 2), .int .u32 (pt b 3)]] w fun e w' => e = .returned (.tuple #[.agg #[.int .u32 (pt (mulL a b) 0), .int .u32 (pt (mulL a b) 1), .int .u32 (pt (mulL a b) 2), .int .u32 (pt (mulL a b) 3)], .agg #[.int .u32 (pt (mulH a b) 0), .int .u32 (pt (mulH a b) 1), .int .u32 (pt (mulH a b) 2), .int .u32 (pt (mulH a b) 3)]]) ∧ Below w.heap.size w w' := by
  have a0 := pt_bd a 0
  have a1 := pt_bd a 1
  have a2 := pt_bd a 2
  have a3 := pt_bd a 3
  have b0 := pt_bd b 0
  have b1 := pt_bd b 1
  have b2 := pt_bd b 2
  have b3 := pt_bd b 3
  have FIN := Lib.hid (times_fin a b ha hb)
  have q00 : 0 ≤ pt a 0 * pt b 0 ∧ pt a 0 * pt b 0 ≤ 18446744065119617025 := ⟨Int.mul_nonneg a0.1 b0.1, Int.le_trans (Int.mul_le_mul a0.2 b0.2 b0.1 (by decide)) (by decide)⟩
  have q01 : 0 ≤ pt a 0 * pt b 1 ∧ pt a 0 * pt b 1 ≤ 18446744065119617025 := ⟨Int.mul_nonneg a0.1 b1.1, Int.le_trans (Int.mul_le_mul a0.2 b1.2 b1.1 (by decide)) (by decide)⟩
  have q02 : 0 ≤ pt a 0 * pt b 2 ∧ pt a 0 * pt b 2 ≤ 18446744065119617025 := ⟨Int.mul_nonneg a0.1 b2.1, Int.le_trans (Int.mul_le_mul a0.2 b2.2 b2.1 (by decide)) (by decide)⟩
  have q03 : 0 ≤ pt a 0 * pt b 3 ∧ pt a 0 * pt b 3 ≤ 18446744065119617025 := ⟨Int.mul_nonneg a0.1 b3.1, Int.le_trans (Int.mul_le_mul a0.2 b3.2 b3.1 (by decide)) (by decide)⟩
  have q10 : 0 ≤ pt a 1 * pt b 0 ∧ pt a 1 * pt b 0 ≤ 18446744065119617025 := ⟨Int.mul_nonneg a1.1 b0.1, Int.le_trans (Int.mul_le_mul a1.2 b0.2 b0.1 (by decide)) (by decide)⟩
  have q11 : 0 ≤ pt a 1 * pt b 1 ∧ pt a 1 * pt b 1 ≤ 18446744065119617025 := ⟨Int.mul_nonneg a1.1 b1.1, Int.le_trans (Int.mul_le_mul a1.2 b1.2 b1.1 (by decide)) (by decide)⟩
  have q12 : 0 ≤ pt a 1 * pt b 2 ∧ pt a 1 * pt b 2 ≤ 18446744065119617025 := ⟨Int.mul_nonneg a1.1 b2.1, Int.le_trans (Int.mul_le_mul a1.2 b2.2 b2.1 (by decide)) (by decide)⟩
  have q13 : 0 ≤ pt a 1 * pt b 3 ∧ pt a 1 * pt b 3 ≤ 18446744065119617025 := ⟨Int.mul_nonneg a1.1 b3.1, Int.le_trans (Int.mul_le_mul a1.2 b3.2 b3.1 (by decide)) (by decide)⟩
  have q20 : 0 ≤ pt a 2 * pt b 0 ∧ pt a 2 * pt b 0 ≤ 18446744065119617025 := ⟨Int.mul_nonneg a2.1 b0.1, Int.le_trans (Int.mul_le_mul a2.2 b0.2 b0.1 (by decide)) (by decide)⟩
  have q21 : 0 ≤ pt a 2 * pt b 1 ∧ pt a 2 * pt b 1 ≤ 18446744065119617025 := ⟨Int.mul_nonneg a2.1 b1.1, Int.le_trans (Int.mul_le_mul a2.2 b1.2 b1.1 (by decide)) (by decide)⟩
  have q22 : 0 ≤ pt a 2 * pt b 2 ∧ pt a 2 * pt b 2 ≤ 18446744065119617025 := ⟨Int.mul_nonneg a2.1 b2.1, Int.le_trans (Int.mul_le_mul a2.2 b2.2 b2.1 (by decide)) (by decide)⟩
  have q23 : 0 ≤ pt a 2 * pt b 3 ∧ pt a 2 * pt b 3 ≤ 18446744065119617025 := ⟨Int.mul_nonneg a2.1 b3.1, Int.le_trans (Int.mul_le_mul a2.2 b3.2 b3.1 (by decide)) (by decide)⟩
  have q30 : 0 ≤ pt a 3 * pt b 0 ∧ pt a 3 * pt b 0 ≤ 18446744065119617025 := ⟨Int.mul_nonneg a3.1 b0.1, Int.le_trans (Int.mul_le_mul a3.2 b0.2 b0.1 (by decide)) (by decide)⟩
  have q31 : 0 ≤ pt a 3 * pt b 1 ∧ pt a 3 * pt b 1 ≤ 18446744065119617025 := ⟨Int.mul_nonneg a3.1 b1.1, Int.le_trans (Int.mul_le_mul a3.2 b1.2 b1.1 (by decide)) (by decide)⟩
  have q32 : 0 ≤ pt a 3 * pt b 2 ∧ pt a 3 * pt b 2 ≤ 18446744065119617025 := ⟨Int.mul_nonneg a3.1 b2.1, Int.le_trans (Int.mul_le_mul a3.2 b2.2 b2.1 (by decide)) (by decide)⟩
  have q33 : 0 ≤ pt a 3 * pt b 3 ∧ pt a 3 * pt b 3 ≤ 18446744065119617025 := ⟨Int.mul_nonneg a3.1 b3.1, Int.le_trans (Int.mul_le_mul a3.2 b3.2 b3.1 (by decide)) (by decide)⟩
  obtain ⟨m00, hm00⟩ : ∃ m, pt a 0 * pt b 0 = m := ⟨_, rfl⟩
  rw [hm00] at q00
  obtain ⟨m01, hm01⟩ : ∃ m, pt a 0 * pt b 1 = m := ⟨_, rfl⟩
  rw [hm01] at q01
  obtain ⟨m02, hm02⟩ : ∃ m, pt a 0 * pt b 2 = m := ⟨_, rfl⟩
  rw [hm02] at q02
  obtain ⟨m03, hm03⟩ : ∃ m, pt a 0 * pt b 3 = m := ⟨_, rfl⟩
  rw [hm03] at q03
  obtain ⟨m10, hm10⟩ : ∃ m, pt a 1 * pt b 0 = m := ⟨_, rfl⟩
  rw [hm10] at q10
  obtain ⟨m11, hm11⟩ : ∃ m, pt a 1 * pt b 1 = m := ⟨_, rfl⟩
  rw [hm11] at q11
  obtain ⟨m12, hm12⟩ : ∃ m, pt a 1 * pt b 2 = m := ⟨_, rfl⟩
  rw [hm12] at q12
  obtain ⟨m13, hm13⟩ : ∃ m, pt a 1 * pt b 3 = m := ⟨_, rfl⟩
  rw [hm13] at q13
  obtain ⟨m20, hm20⟩ : ∃ m, pt a 2 * pt b 0 = m := ⟨_, rfl⟩
  rw [hm20] at q20
  obtain ⟨m21, hm21⟩ : ∃ m, pt a 2 * pt b 1 = m := ⟨_, rfl⟩
  rw [hm21] at q21
  obtain ⟨m22, hm22⟩ : ∃ m, pt a 2 * pt b 2 = m := ⟨_, rfl⟩
  rw [hm22] at q22
  obtain ⟨m23, hm23⟩ : ∃ m, pt a 2 * pt b 3 = m := ⟨_, rfl⟩
  rw [hm23] at q23
  obtain ⟨m30, hm30⟩ : ∃ m, pt a 3 * pt b 0 = m := ⟨_, rfl⟩
  rw [hm30] at q30
  obtain ⟨m31, hm31⟩ : ∃ m, pt a 3 * pt b 1 = m := ⟨_, rfl⟩
  rw [hm31] at q31
  obtain ⟨m32, hm32⟩ : ∃ m, pt a 3 * pt b 2 = m := ⟨_, rfl⟩
  rw [hm32] at q32
  obtain ⟨m33, hm33⟩ : ∃ m, pt a 3 * pt b 3 = m := ⟨_, rfl⟩
  rw [hm33] at q33
  have wk0 : IntKind.i64.wrap 0 = 0 := IntWalk.i64_in _ (by decide)
  have wk1 : IntKind.i64.wrap 1 = 1 := IntWalk.i64_in _ (by decide)
  have wk2 : IntKind.i64.wrap 2 = 2 := IntWalk.i64_in _ (by decide)
  have wk3 : IntKind.i64.wrap 3 = 3 := IntWalk.i64_in _ (by decide)
  have wk4 : IntKind.i64.wrap 4 = 4 := IntWalk.i64_in _ (by decide)
  have wk5 : IntKind.i64.wrap 5 = 5 := IntWalk.i64_in _ (by decide)
  have wk6 : IntKind.i64.wrap 6 = 6 := IntWalk.i64_in _ (by decide)
  have wk7 : IntKind.i64.wrap 7 = 7 := IntWalk.i64_in _ (by decide)
  go_enter Try.func51, Try.ntmps51
  go_wp2
  refine wp_loop_rounds 5 ?_
  rw [rounds_succ]
  go_wp2
  refine wp_loop_rounds 5 ?_
  obtain ⟨s00, hs00⟩ : ∃ s, (m00) % 4294967296 = s := ⟨_, rfl⟩
  obtain ⟨c00, hc00⟩ : ∃ s, (m00) / 4294967296 = s := ⟨_, rfl⟩
  have bs00 : 0 ≤ s00 ∧ s00 ≤ 4294967295 := by omega
  have bc00 : 0 ≤ c00 ∧ c00 ≤ 4294967295 := by omega
  have E00 : Hid (s00 + 4294967296 * c00 = m00) := Lib.hid (by omega)
  have W0 : IntKind.u64.wrap m00 = m00 := IntWalk.u64_in _ (by omega)
  rw [rounds_succ]
  go_wp2
  go_region_held3 (fun w' => w'.cell? ⟨w.heap.size, 0, none⟩ = some (.int .u32 (pt a 0)) ∧ w'.cell? ⟨w.heap.size + 1, 0, none⟩ = some (.int .u32 (pt b 0)) ∧ w'.cell? ⟨w.heap.size + 1 + 1 + 1 + 1, 0, none⟩ = some (.int .u32 0)) (simp [*, go_sem]) (fail)
  simp only [wpt, w00, hm00, Int.add_zero, W0]
  go_wp2
  try simp only [hs00]
  clear hs00 hc00 W0
  obtain ⟨s01, hs01⟩ : ∃ s, (m01 + c00) % 4294967296 = s := ⟨_, rfl⟩
  obtain ⟨c01, hc01⟩ : ∃ s, (m01 + c00) / 4294967296 = s := ⟨_, rfl⟩
  have bs01 : 0 ≤ s01 ∧ s01 ≤ 4294967295 := by omega
  have bc01 : 0 ≤ c01 ∧ c01 ≤ 4294967295 := by omega
  have E01 : Hid (s01 + 4294967296 * c01 = m01 + c00) := Lib.hid (by omega)
  have W0 : IntKind.u64.wrap m01 = m01 := IntWalk.u64_in _ (by omega)
  have W2 : IntKind.u64.wrap (m01 + c00) = m01 + c00 := IntWalk.u64_in _ (by omega)
  rw [rounds_succ]
  go_wp2
  go_region_held3 (fun w' => w'.cell? ⟨w.heap.size, 0, none⟩ = some (.int .u32 (pt a 0)) ∧ w'.cell? ⟨w.heap.size + 1, 1, none⟩ = some (.int .u32 (pt b 1)) ∧ w'.cell? ⟨w.heap.size + 1 + 1 + 1 + 1, 1, none⟩ = some (.int .u32 0)) (simp [*, go_sem]) (fail)
  simp only [wpt, w00, hm01, Int.add_zero, W0, W2]
  go_wp2
  try simp only [hs01]
  clear hs01 hc01 W0 W2
  obtain ⟨s02, hs02⟩ : ∃ s, (m02 + c01) % 4294967296 = s := ⟨_, rfl⟩
  obtain ⟨c02, hc02⟩ : ∃ s, (m02 + c01) / 4294967296 = s := ⟨_, rfl⟩
  have bs02 : 0 ≤ s02 ∧ s02 ≤ 4294967295 := by omega
  have bc02 : 0 ≤ c02 ∧ c02 ≤ 4294967295 := by omega
  have E02 : Hid (s02 + 4294967296 * c02 = m02 + c01) := Lib.hid (by omega)
  have W0 : IntKind.u64.wrap m02 = m02 := IntWalk.u64_in _ (by omega)
  have W2 : IntKind.u64.wrap (m02 + c01) = m02 + c01 := IntWalk.u64_in _ (by omega)
  rw [rounds_succ]
  go_wp2
  go_region_held3 (fun w' => w'.cell? ⟨w.heap.size, 0, none⟩ = some (.int .u32 (pt a 0)) ∧ w'.cell? ⟨w.heap.size + 1, 2, none⟩ = some (.int .u32 (pt b 2)) ∧ w'.cell? ⟨w.heap.size + 1 + 1 + 1 + 1, 2, none⟩ = some (.int .u32 0)) (simp [*, go_sem]) (fail)
  simp only [wpt, w00, hm02, Int.add_zero, W0, W2]
  go_wp2
  try simp only [hs02]
  clear hs02 hc02 W0 W2
  obtain ⟨s03, hs03⟩ : ∃ s, (m03 + c02) % 4294967296 = s := ⟨_, rfl⟩
  obtain ⟨c03, hc03⟩ : ∃ s, (m03 + c02) / 4294967296 = s := ⟨_, rfl⟩
  have bs03 : 0 ≤ s03 ∧ s03 ≤ 4294967295 := by omega
  have bc03 : 0 ≤ c03 ∧ c03 ≤ 4294967295 := by omega
  have E03 : Hid (s03 + 4294967296 * c03 = m03 + c02) := Lib.hid (by omega)
  have W0 : IntKind.u64.wrap m03 = m03 := IntWalk.u64_in _ (by omega)
  have W2 : IntKind.u64.wrap (m03 + c02) = m03 + c02 := IntWalk.u64_in _ (by omega)
  rw [rounds_succ]
  go_wp2
  go_region_held3 (fun w' => w'.cell? ⟨w.heap.size, 0, none⟩ = some (.int .u32 (pt a 0)) ∧ w'.cell? ⟨w.heap.size + 1, 3, none⟩ = some (.int .u32 (pt b 3)) ∧ w'.cell? ⟨w.heap.size + 1 + 1 + 1 + 1, 3, none⟩ = some (.int .u32 0)) (simp [*, go_sem]) (fail)
  simp only [wpt, w00, hm03, Int.add_zero, W0, W2]
  go_wp2
  try simp only [hs03]
  clear hs03 hc03 W0 W2
  rw [rounds_succ]
  go_wp2
  rw [rounds_succ]
  go_wp2
  refine wp_loop_rounds 5 ?_
  obtain ⟨s10, hs10⟩ : ∃ s, (m10 + s01) % 4294967296 = s := ⟨_, rfl⟩
  obtain ⟨c10, hc10⟩ : ∃ s, (m10 + s01) / 4294967296 = s := ⟨_, rfl⟩
  have bs10 : 0 ≤ s10 ∧ s10 ≤ 4294967295 := by omega
  have bc10 : 0 ≤ c10 ∧ c10 ≤ 4294967295 := by omega
  have E10 : Hid (s10 + 4294967296 * c10 = m10 + s01) := Lib.hid (by omega)
  have W0 : IntKind.u64.wrap m10 = m10 := IntWalk.u64_in _ (by omega)
  have W3 : IntKind.u64.wrap s01 = s01 := IntWalk.u64_in _ (by omega)
  have W1 : IntKind.u64.wrap (m10 + s01) = m10 + s01 := IntWalk.u64_in _ (by omega)
  rw [rounds_succ]
  go_wp2
  go_region_held3 (fun w' => w'.cell? ⟨w.heap.size, 1, none⟩ = some (.int .u32 (pt a 1)) ∧ w'.cell? ⟨w.heap.size + 1, 0, none⟩ = some (.int .u32 (pt b 0)) ∧ w'.cell? ⟨w.heap.size + 1 + 1 + 1 + 1, 1, none⟩ = some (.int .u32 s01)) (simp [*, go_sem]) (fail)
  simp only [wpt, hm10, W0, W1]
  go_wp2
  try simp only [hs10]
  clear hs10 hc10 W0 W3 W1
  obtain ⟨s11, hs11⟩ : ∃ s, (m11 + s02 + c10) % 4294967296 = s := ⟨_, rfl⟩
  obtain ⟨c11, hc11⟩ : ∃ s, (m11 + s02 + c10) / 4294967296 = s := ⟨_, rfl⟩
  have bs11 : 0 ≤ s11 ∧ s11 ≤ 4294967295 := by omega
  have bc11 : 0 ≤ c11 ∧ c11 ≤ 4294967295 := by omega
  have E11 : Hid (s11 + 4294967296 * c11 = m11 + s02 + c10) := Lib.hid (by omega)
  have W0 : IntKind.u64.wrap m11 = m11 := IntWalk.u64_in _ (by omega)
  have W3 : IntKind.u64.wrap s02 = s02 := IntWalk.u64_in _ (by omega)
  have W1 : IntKind.u64.wrap (m11 + s02) = m11 + s02 := IntWalk.u64_in _ (by omega)
  have W2 : IntKind.u64.wrap (m11 + s02 + c10) = m11 + s02 + c10 := IntWalk.u64_in _ (by omega)
  rw [rounds_succ]
  go_wp2
  go_region_held3 (fun w' => w'.cell? ⟨w.heap.size, 1, none⟩ = some (.int .u32 (pt a 1)) ∧ w'.cell? ⟨w.heap.size + 1, 1, none⟩ = some (.int .u32 (pt b 1)) ∧ w'.cell? ⟨w.heap.size + 1 + 1 + 1 + 1, 2, none⟩ = some (.int .u32 s02)) (simp [*, go_sem]) (fail)
  simp only [wpt, hm11, W0, W1, W2]
  go_wp2
  try simp only [hs11]
  clear hs11 hc11 W0 W3 W1 W2
  obtain ⟨s12, hs12⟩ : ∃ s, (m12 + s03 + c11) % 4294967296 = s := ⟨_, rfl⟩
  obtain ⟨c12, hc12⟩ : ∃ s, (m12 + s03 + c11) / 4294967296 = s := ⟨_, rfl⟩
  have bs12 : 0 ≤ s12 ∧ s12 ≤ 4294967295 := by omega
  have bc12 : 0 ≤ c12 ∧ c12 ≤ 4294967295 := by omega
  have E12 : Hid (s12 + 4294967296 * c12 = m12 + s03 + c11) := Lib.hid (by omega)
  have W0 : IntKind.u64.wrap m12 = m12 := IntWalk.u64_in _ (by omega)
  have W3 : IntKind.u64.wrap s03 = s03 := IntWalk.u64_in _ (by omega)
  have W1 : IntKind.u64.wrap (m12 + s03) = m12 + s03 := IntWalk.u64_in _ (by omega)
  have W2 : IntKind.u64.wrap (m12 + s03 + c11) = m12 + s03 + c11 := IntWalk.u64_in _ (by omega)
  rw [rounds_succ]
  go_wp2
  go_region_held3 (fun w' => w'.cell? ⟨w.heap.size, 1, none⟩ = some (.int .u32 (pt a 1)) ∧ w'.cell? ⟨w.heap.size + 1, 2, none⟩ = some (.int .u32 (pt b 2)) ∧ w'.cell? ⟨w.heap.size + 1 + 1 + 1 + 1, 3, none⟩ = some (.int .u32 s03)) (simp [*, go_sem]) (fail)
  simp only [wpt, hm12, W0, W1, W2]
  go_wp2
  try simp only [hs12]
  clear hs12 hc12 W0 W3 W1 W2
  obtain ⟨s13, hs13⟩ : ∃ s, (m13 + c03 + c12) % 4294967296 = s := ⟨_, rfl⟩
  obtain ⟨c13, hc13⟩ : ∃ s, (m13 + c03 + c12) / 4294967296 = s := ⟨_, rfl⟩
  have bs13 : 0 ≤ s13 ∧ s13 ≤ 4294967295 := by omega
  have bc13 : 0 ≤ c13 ∧ c13 ≤ 4294967295 := by omega
  have E13 : Hid (s13 + 4294967296 * c13 = m13 + c03 + c12) := Lib.hid (by omega)
  have W0 : IntKind.u64.wrap m13 = m13 := IntWalk.u64_in _ (by omega)
  have W3 : IntKind.u64.wrap c03 = c03 := IntWalk.u64_in _ (by omega)
  have W1 : IntKind.u64.wrap (m13 + c03) = m13 + c03 := IntWalk.u64_in _ (by omega)
  have W2 : IntKind.u64.wrap (m13 + c03 + c12) = m13 + c03 + c12 := IntWalk.u64_in _ (by omega)
  rw [rounds_succ]
  go_wp2
  go_region_held3 (fun w' => w'.cell? ⟨w.heap.size, 1, none⟩ = some (.int .u32 (pt a 1)) ∧ w'.cell? ⟨w.heap.size + 1, 3, none⟩ = some (.int .u32 (pt b 3)) ∧ w'.cell? ⟨w.heap.size + 1 + 1 + 1 + 1, 4, none⟩ = some (.int .u32 c03)) (simp [*, go_sem]) (fail)
  simp only [wpt, hm13, W0, W1, W2]
  go_wp2
  try simp only [hs13]
  clear hs13 hc13 W0 W3 W1 W2
  rw [rounds_succ]
  go_wp2
  rw [rounds_succ]
  go_wp2
  refine wp_loop_rounds 5 ?_
  obtain ⟨s20, hs20⟩ : ∃ s, (m20 + s11) % 4294967296 = s := ⟨_, rfl⟩
  obtain ⟨c20, hc20⟩ : ∃ s, (m20 + s11) / 4294967296 = s := ⟨_, rfl⟩
  have bs20 : 0 ≤ s20 ∧ s20 ≤ 4294967295 := by omega
  have bc20 : 0 ≤ c20 ∧ c20 ≤ 4294967295 := by omega
  have E20 : Hid (s20 + 4294967296 * c20 = m20 + s11) := Lib.hid (by omega)
  have W0 : IntKind.u64.wrap m20 = m20 := IntWalk.u64_in _ (by omega)
  have W3 : IntKind.u64.wrap s11 = s11 := IntWalk.u64_in _ (by omega)
  have W1 : IntKind.u64.wrap (m20 + s11) = m20 + s11 := IntWalk.u64_in _ (by omega)
  rw [rounds_succ]
  go_wp2
  go_region_held3 (fun w' => w'.cell? ⟨w.heap.size, 2, none⟩ = some (.int .u32 (pt a 2)) ∧ w'.cell? ⟨w.heap.size + 1, 0, none⟩ = some (.int .u32 (pt b 0)) ∧ w'.cell? ⟨w.heap.size + 1 + 1 + 1 + 1, 2, none⟩ = some (.int .u32 s11)) (simp [*, go_sem]) (fail)
  simp only [wpt, hm20, W0, W1]
  go_wp2
  try simp only [hs20]
  clear hs20 hc20 W0 W3 W1
  obtain ⟨s21, hs21⟩ : ∃ s, (m21 + s12 + c20) % 4294967296 = s := ⟨_, rfl⟩
  obtain ⟨c21, hc21⟩ : ∃ s, (m21 + s12 + c20) / 4294967296 = s := ⟨_, rfl⟩
  have bs21 : 0 ≤ s21 ∧ s21 ≤ 4294967295 := by omega
  have bc21 : 0 ≤ c21 ∧ c21 ≤ 4294967295 := by omega
  have E21 : Hid (s21 + 4294967296 * c21 = m21 + s12 + c20) := Lib.hid (by omega)
  have W0 : IntKind.u64.wrap m21 = m21 := IntWalk.u64_in _ (by omega)
  have W3 : IntKind.u64.wrap s12 = s12 := IntWalk.u64_in _ (by omega)
  have W1 : IntKind.u64.wrap (m21 + s12) = m21 + s12 := IntWalk.u64_in _ (by omega)
  have W2 : IntKind.u64.wrap (m21 + s12 + c20) = m21 + s12 + c20 := IntWalk.u64_in _ (by omega)
  rw [rounds_succ]
  go_wp2
  go_region_held3 (fun w' => w'.cell? ⟨w.heap.size, 2, none⟩ = some (.int .u32 (pt a 2)) ∧ w'.cell? ⟨w.heap.size + 1, 1, none⟩ = some (.int .u32 (pt b 1)) ∧ w'.cell? ⟨w.heap.size + 1 + 1 + 1 + 1, 3, none⟩ = some (.int .u32 s12)) (simp [*, go_sem]) (fail)
  simp only [wpt, hm21, W0, W1, W2]
  go_wp2
  try simp only [hs21]
  clear hs21 hc21 W0 W3 W1 W2
  obtain ⟨s22, hs22⟩ : ∃ s, (m22 + s13 + c21) % 4294967296 = s := ⟨_, rfl⟩
  obtain ⟨c22, hc22⟩ : ∃ s, (m22 + s13 + c21) / 4294967296 = s := ⟨_, rfl⟩
  have bs22 : 0 ≤ s22 ∧ s22 ≤ 4294967295 := by omega
  have bc22 : 0 ≤ c22 ∧ c22 ≤ 4294967295 := by omega
  have E22 : Hid (s22 + 4294967296 * c22 = m22 + s13 + c21) := Lib.hid (by omega)
  have W0 : IntKind.u64.wrap m22 = m22 := IntWalk.u64_in _ (by omega)
  have W3 : IntKind.u64.wrap s13 = s13 := IntWalk.u64_in _ (by omega)
  have W1 : IntKind.u64.wrap (m22 + s13) = m22 + s13 := IntWalk.u64_in _ (by omega)
  have W2 : IntKind.u64.wrap (m22 + s13 + c21) = m22 + s13 + c21 := IntWalk.u64_in _ (by omega)
  rw [rounds_succ]
  go_wp2
  go_region_held3 (fun w' => w'.cell? ⟨w.heap.size, 2, none⟩ = some (.int .u32 (pt a 2)) ∧ w'.cell? ⟨w.heap.size + 1, 2, none⟩ = some (.int .u32 (pt b 2)) ∧ w'.cell? ⟨w.heap.size + 1 + 1 + 1 + 1, 4, none⟩ = some (.int .u32 s13)) (simp [*, go_sem]) (fail)
  simp only [wpt, hm22, W0, W1, W2]
  go_wp2
  try simp only [hs22]
  clear hs22 hc22 W0 W3 W1 W2
  obtain ⟨s23, hs23⟩ : ∃ s, (m23 + c13 + c22) % 4294967296 = s := ⟨_, rfl⟩
  obtain ⟨c23, hc23⟩ : ∃ s, (m23 + c13 + c22) / 4294967296 = s := ⟨_, rfl⟩
  have bs23 : 0 ≤ s23 ∧ s23 ≤ 4294967295 := by omega
  have bc23 : 0 ≤ c23 ∧ c23 ≤ 4294967295 := by omega
  have E23 : Hid (s23 + 4294967296 * c23 = m23 + c13 + c22) := Lib.hid (by omega)
  have W0 : IntKind.u64.wrap m23 = m23 := IntWalk.u64_in _ (by omega)
  have W3 : IntKind.u64.wrap c13 = c13 := IntWalk.u64_in _ (by omega)
  have W1 : IntKind.u64.wrap (m23 + c13) = m23 + c13 := IntWalk.u64_in _ (by omega)
  have W2 : IntKind.u64.wrap (m23 + c13 + c22) = m23 + c13 + c22 := IntWalk.u64_in _ (by omega)
  rw [rounds_succ]
  go_wp2
  go_region_held3 (fun w' => w'.cell? ⟨w.heap.size, 2, none⟩ = some (.int .u32 (pt a 2)) ∧ w'.cell? ⟨w.heap.size + 1, 3, none⟩ = some (.int .u32 (pt b 3)) ∧ w'.cell? ⟨w.heap.size + 1 + 1 + 1 + 1, 5, none⟩ = some (.int .u32 c13)) (simp [*, go_sem]) (fail)
  simp only [wpt, hm23, W0, W1, W2]
  go_wp2
  try simp only [hs23]
  clear hs23 hc23 W0 W3 W1 W2
  rw [rounds_succ]
  go_wp2
  rw [rounds_succ]
  go_wp2
  refine wp_loop_rounds 5 ?_
  obtain ⟨s30, hs30⟩ : ∃ s, (m30 + s21) % 4294967296 = s := ⟨_, rfl⟩
  obtain ⟨c30, hc30⟩ : ∃ s, (m30 + s21) / 4294967296 = s := ⟨_, rfl⟩
  have bs30 : 0 ≤ s30 ∧ s30 ≤ 4294967295 := by omega
  have bc30 : 0 ≤ c30 ∧ c30 ≤ 4294967295 := by omega
  have E30 : Hid (s30 + 4294967296 * c30 = m30 + s21) := Lib.hid (by omega)
  have W0 : IntKind.u64.wrap m30 = m30 := IntWalk.u64_in _ (by omega)
  have W3 : IntKind.u64.wrap s21 = s21 := IntWalk.u64_in _ (by omega)
  have W1 : IntKind.u64.wrap (m30 + s21) = m30 + s21 := IntWalk.u64_in _ (by omega)
  rw [rounds_succ]
  go_wp2
  go_region_held3 (fun w' => w'.cell? ⟨w.heap.size, 3, none⟩ = some (.int .u32 (pt a 3)) ∧ w'.cell? ⟨w.heap.size + 1, 0, none⟩ = some (.int .u32 (pt b 0)) ∧ w'.cell? ⟨w.heap.size + 1 + 1 + 1 + 1, 3, none⟩ = some (.int .u32 s21)) (simp [*, go_sem]) (fail)
  simp only [wpt, hm30, W0, W1]
  go_wp2
  try simp only [hs30]
  clear hs30 hc30 W0 W3 W1
  obtain ⟨s31, hs31⟩ : ∃ s, (m31 + s22 + c30) % 4294967296 = s := ⟨_, rfl⟩
  obtain ⟨c31, hc31⟩ : ∃ s, (m31 + s22 + c30) / 4294967296 = s := ⟨_, rfl⟩
  have bs31 : 0 ≤ s31 ∧ s31 ≤ 4294967295 := by omega
  have bc31 : 0 ≤ c31 ∧ c31 ≤ 4294967295 := by omega
  have E31 : Hid (s31 + 4294967296 * c31 = m31 + s22 + c30) := Lib.hid (by omega)
  have W0 : IntKind.u64.wrap m31 = m31 := IntWalk.u64_in _ (by omega)
  have W3 : IntKind.u64.wrap s22 = s22 := IntWalk.u64_in _ (by omega)
  have W1 : IntKind.u64.wrap (m31 + s22) = m31 + s22 := IntWalk.u64_in _ (by omega)
  have W2 : IntKind.u64.wrap (m31 + s22 + c30) = m31 + s22 + c30 := IntWalk.u64_in _ (by omega)
  rw [rounds_succ]
  go_wp2
  go_region_held3 (fun w' => w'.cell? ⟨w.heap.size, 3, none⟩ = some (.int .u32 (pt a 3)) ∧ w'.cell? ⟨w.heap.size + 1, 1, none⟩ = some (.int .u32 (pt b 1)) ∧ w'.cell? ⟨w.heap.size + 1 + 1 + 1 + 1, 4, none⟩ = some (.int .u32 s22)) (simp [*, go_sem]) (fail)
  simp only [wpt, hm31, W0, W1, W2]
  go_wp2
  try simp only [hs31]
  clear hs31 hc31 W0 W3 W1 W2
  obtain ⟨s32, hs32⟩ : ∃ s, (m32 + s23 + c31) % 4294967296 = s := ⟨_, rfl⟩
  obtain ⟨c32, hc32⟩ : ∃ s, (m32 + s23 + c31) / 4294967296 = s := ⟨_, rfl⟩
  have bs32 : 0 ≤ s32 ∧ s32 ≤ 4294967295 := by omega
  have bc32 : 0 ≤ c32 ∧ c32 ≤ 4294967295 := by omega
  have E32 : Hid (s32 + 4294967296 * c32 = m32 + s23 + c31) := Lib.hid (by omega)
  have W0 : IntKind.u64.wrap m32 = m32 := IntWalk.u64_in _ (by omega)
  have W3 : IntKind.u64.wrap s23 = s23 := IntWalk.u64_in _ (by omega)
  have W1 : IntKind.u64.wrap (m32 + s23) = m32 + s23 := IntWalk.u64_in _ (by omega)
  have W2 : IntKind.u64.wrap (m32 + s23 + c31) = m32 + s23 + c31 := IntWalk.u64_in _ (by omega)
  rw [rounds_succ]
  go_wp2
  go_region_held3 (fun w' => w'.cell? ⟨w.heap.size, 3, none⟩ = some (.int .u32 (pt a 3)) ∧ w'.cell? ⟨w.heap.size + 1, 2, none⟩ = some (.int .u32 (pt b 2)) ∧ w'.cell? ⟨w.heap.size + 1 + 1 + 1 + 1, 5, none⟩ = some (.int .u32 s23)) (simp [*, go_sem]) (fail)
  simp only [wpt, hm32, W0, W1, W2]
  go_wp2
  try simp only [hs32]
  clear hs32 hc32 W0 W3 W1 W2
  obtain ⟨s33, hs33⟩ : ∃ s, (m33 + c23 + c32) % 4294967296 = s := ⟨_, rfl⟩
  obtain ⟨c33, hc33⟩ : ∃ s, (m33 + c23 + c32) / 4294967296 = s := ⟨_, rfl⟩
  have bs33 : 0 ≤ s33 ∧ s33 ≤ 4294967295 := by omega
  have bc33 : 0 ≤ c33 ∧ c33 ≤ 4294967295 := by omega
  have E33 : Hid (s33 + 4294967296 * c33 = m33 + c23 + c32) := Lib.hid (by omega)
  have W0 : IntKind.u64.wrap m33 = m33 := IntWalk.u64_in _ (by omega)
  have W3 : IntKind.u64.wrap c23 = c23 := IntWalk.u64_in _ (by omega)
  have W1 : IntKind.u64.wrap (m33 + c23) = m33 + c23 := IntWalk.u64_in _ (by omega)
  have W2 : IntKind.u64.wrap (m33 + c23 + c32) = m33 + c23 + c32 := IntWalk.u64_in _ (by omega)
  rw [rounds_succ]
  go_wp2
  go_region_held3 (fun w' => w'.cell? ⟨w.heap.size, 3, none⟩ = some (.int .u32 (pt a 3)) ∧ w'.cell? ⟨w.heap.size + 1, 3, none⟩ = some (.int .u32 (pt b 3)) ∧ w'.cell? ⟨w.heap.size + 1 + 1 + 1 + 1, 6, none⟩ = some (.int .u32 c23)) (simp [*, go_sem]) (fail)
  simp only [wpt, hm33, W0, W1, W2]
  go_wp2
  try simp only [hs33]
  clear hs33 hc33 W0 W3 W1 W2
  rw [rounds_succ]
  go_wp2
  rw [rounds_succ]
  go_wp2
  obtain ⟨-, -, FL, FH⟩ := FIN.out s00 s01 s02 s03 s10 s11 s12 s13 s20 s21 s22 s23 s30 s31 s32 s33 c00 c01 c02 c03 c10 c11 c12 c13 c20 c21 c22 c23 c30 c31 c32 c33 bs00 bs10 bs20 bs30 bs31 bs32 bs33 bc33 (by rw [hm00]; exact E00.out) (by rw [hm01]; exact E01.out) (by rw [hm02]; exact E02.out) (by rw [hm03]; exact E03.out) (by rw [hm10]; exact E10.out) (by rw [hm11]; exact E11.out) (by rw [hm12]; exact E12.out) (by rw [hm13]; exact E13.out) (by rw [hm20]; exact E20.out) (by rw [hm21]; exact E21.out) (by rw [hm22]; exact E22.out) (by rw [hm23]; exact E23.out) (by rw [hm30]; exact E30.out) (by rw [hm31]; exact E31.out) (by rw [hm32]; exact E32.out) (by rw [hm33]; exact E33.out)
  obtain ⟨F0, F1, F2, F3⟩ := FL
  obtain ⟨G0, G1, G2, G3⟩ := FH
  clear FIN E00 hm00 q00 bs00 bc00 E01 hm01 q01 bs01 bc01 E02 hm02 q02 bs02 bc02 E03 hm03 q03 bs03 bc03 E10 hm10 q10 bs10 bc10 E11 hm11 q11 bs11 bc11 E12 hm12 q12 bs12 bc12 E13 hm13 q13 bs13 bc13 E20 hm20 q20 bs20 bc20 E21 hm21 q21 bs21 bc21 E22 hm22 q22 bs22 bc22 E23 hm23 q23 bs23 bc23 E30 hm30 q30 bs30 bc30 E31 hm31 q31 bs31 bc31 E32 hm32 q32 bs32 bc32 E33 hm33 q33 bs33 bc33 a0 a1 a2 a3 b0 b1 b2 b3
  subst F0 F1 F2 F3 G0 G1 G2 G3
  go_region_held3 (fun w' => w'.cell? ⟨w.heap.size + 1 + 1 + 1 + 1, 0, none⟩ = some (.int .u32 (pt (mulL a b) 0)) ∧ w'.cell? ⟨w.heap.size + 1 + 1 + 1 + 1, 1, none⟩ = some (.int .u32 (pt (mulL a b) 1)) ∧ w'.cell? ⟨w.heap.size + 1 + 1 + 1 + 1, 2, none⟩ = some (.int .u32 (pt (mulL a b) 2)) ∧ w'.cell? ⟨w.heap.size + 1 + 1 + 1 + 1, 3, none⟩ = some (.int .u32 (pt (mulL a b) 3)) ∧ w'.cell? ⟨w.heap.size + 1 + 1 + 1 + 1, 4, none⟩ = some (.int .u32 (pt (mulH a b) 0)) ∧ w'.cell? ⟨w.heap.size + 1 + 1 + 1 + 1, 5, none⟩ = some (.int .u32 (pt (mulH a b) 1)) ∧ w'.cell? ⟨w.heap.size + 1 + 1 + 1 + 1, 6, none⟩ = some (.int .u32 (pt (mulH a b) 2)) ∧ w'.cell? ⟨w.heap.size + 1 + 1 + 1 + 1, 7, none⟩ = some (.int .u32 (pt (mulH a b) 3))) (simp [*, go_sem]) (fail)
  go_wp2
  refine bodyPost_ret (by simp [results, Try.results51, go_sem]) rfl ⟨rfl, ?_⟩
  repeat (first | (with_reducible exact Below.refl _ _) | ((with_reducible refine below_grow ?_ ?_); rotate_left; focus (first | omega | (simp [go_sem]; done) | (simp [go_sem]; omega))) | ((with_reducible refine Below.alloc ?_ ?_ _); rotate_left; focus (first | omega | (simp [go_sem]; done) | (simp [go_sem]; omega))) | ((with_reducible refine Below.setCell ?_ ?_ _); rotate_left; focus (first | omega | (simp [go_sem]; done) | (simp [go_sem]; omega))) | (with_reducible refine Below.drew ?_) | (with_reducible refine below_drewN _ ?_))
end Go.Proofs.Ytcgecgagecobeaa
