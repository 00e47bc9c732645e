/- Walks of what nat takes of math/bits. -/
import Derived.Test.YtcgecgagecobeaaProg
import Derived.Test.YtcgecgagecobeaaG
import Derived.WalkKit
import Derived.WalkLawsBesides
import Derived.WalkSpells
import Derived.Deep.QuietTactic
import Derived.BigQuiet
import Derived.Lib.Hide
namespace Go.Proofs.Ytcgecgagecobeaa
open Go.RowKit

theorem ret_int {k : IntKind} {a b : Int} (h : a = b) : Ending.returned (.int k a) = .returned (.int k b) := by rw [h]
theorem bits32 (A B : BitVec 32) : bits .and .u32 (A.toNat : Int) (B.toNat : Int) = ((A &&& B).toNat : Int) ∧ bits .or .u32 (A.toNat : Int) (B.toNat : Int) = ((A ||| B).toNat : Int) ∧ bits .xor .u32 (A.toNat : Int) (B.toNat : Int) = ((A ^^^ B).toNat : Int) := by
  have w : ∀ C : BitVec 32, IntKind.u32.wrap (C.toNat : Int) = (C.toNat : Int) := fun C => by rw [IntKind.wrap_u32]; have := C.isLt; omega
  have ha : BitVec.ofInt IntKind.u32.bits (A.toNat : Int) = A := by
    show BitVec.ofInt 32 (A.toNat : Int) = A
    rw [BitVec.ofInt_natCast, BitVec.ofNat_toNat, BitVec.setWidth_eq]
  have hb : BitVec.ofInt IntKind.u32.bits (B.toNat : Int) = B := by
    show BitVec.ofInt 32 (B.toNat : Int) = B
    rw [BitVec.ofInt_natCast, BitVec.ofNat_toNat, BitVec.setWidth_eq]
  refine ⟨?_, ?_, ?_⟩ <;> unfold bits <;> simp only [ha, hb] <;> exact w _
def bor (x y : Int) : Int := if x < y then 1 else 0
theorem bor_le (x y : Int) : 0 ≤ bor x y ∧ bor x y ≤ 1 := by unfold bor; split <;> decide
theorem msb32 (Z : BitVec 32) : (Z.toNat : Int) / 2147483648 = if Z.msb then 1 else 0 := by
  have h := BitVec.msb_eq_decide Z
  have h2 := Z.isLt
  rw [h]
  have e : (2 : Nat) ^ (32 - 1) = 2147483648 := by decide
  rw [e]
  split <;> simp_all <;> omega
theorem sub32_bits (x y c : Int) (hx : 0 ≤ x ∧ x ≤ 4294967295) (hy : 0 ≤ y ∧ y ≤ 4294967295) (hc : 0 ≤ c ∧ c ≤ 1) :
    bits BinOp.or IntKind.u32 (bits BinOp.and IntKind.u32 (bits BinOp.xor IntKind.u32 IntKind.u32.max x) y)
      (bits BinOp.and IntKind.u32 (bits BinOp.xor IntKind.u32 IntKind.u32.max (bits BinOp.xor IntKind.u32 x y)) ((x - y - c) % 4294967296)) / 2147483648 = bor x (y + c) := by
  obtain ⟨X, hX⟩ : ∃ X : BitVec 32, (X.toNat : Int) = x := ⟨BitVec.ofNat 32 x.toNat, by rw [BitVec.toNat_ofNat]; omega⟩
  obtain ⟨Y, hY⟩ : ∃ X : BitVec 32, (X.toNat : Int) = y := ⟨BitVec.ofNat 32 y.toNat, by rw [BitVec.toNat_ofNat]; omega⟩
  obtain ⟨D, hD⟩ : ∃ X : BitVec 32, (X.toNat : Int) = (x - y - c) % 4294967296 := ⟨BitVec.ofNat 32 ((x - y - c) % 4294967296).toNat, by rw [BitVec.toNat_ofNat]; omega⟩
  have hM : IntKind.u32.max = ((BitVec.allOnes 32).toNat : Int) := by decide
  rw [hM, ← hD, ← hX, ← hY]
  rw [(bits32 X Y).2.2, (bits32 (BitVec.allOnes 32) X).2.2, (bits32 (BitVec.allOnes 32) (X ^^^ Y)).2.2, (bits32 _ Y).1, (bits32 _ D).1, (bits32 _ _).2.1, msb32]
  rw [hX, hY]
  simp only [BitVec.msb_or, BitVec.msb_and, BitVec.msb_xor]
  have m1 : (BitVec.allOnes 32).msb = true := by decide
  rw [m1]
  have hx2 := BitVec.msb_eq_decide X
  have hy2 := BitVec.msb_eq_decide Y
  have hd2 := BitVec.msb_eq_decide D
  have e : (2 : Nat) ^ (32 - 1) = 2147483648 := by decide
  rw [e] at hx2 hy2 hd2
  rw [hx2, hy2, hd2]
  unfold bor
  by_cases a : 2147483648 ≤ X.toNat <;> by_cases b : 2147483648 ≤ Y.toNat <;> by_cases d : 2147483648 ≤ D.toNat <;> simp [a, b, d] <;> omega
theorem or64 (x y : Int) (hx : 0 ≤ x ∧ x ≤ 4294967295) (hy : 0 ≤ y ∧ y ≤ 4294967295) : bits .or .u64 (x * 4294967296) y = x * 4294967296 + y :=
  bits_join .u64 64 (by decide) (fun n h0 h1 => by rw [IntKind.wrap_u64]; omega) 32 _ _ (by omega) (by omega) (by omega) hy.1 (by omega) (by omega)

set_option maxHeartbeats 1000000 in
theorem add32_calls (x y c : Int) (hx : 0 ≤ x ∧ x ≤ 4294967295) (hy : 0 ≤ y ∧ y ≤ 4294967295) (hc : 0 ≤ c ∧ c ≤ 1) (w : World) :
    Calls Try.prog 125 #[.int .u32 x, .int .u32 y, .int .u32 c] w fun e w' => e = .returned (.tuple #[.int .u32 ((x + y + c) % 4294967296), .int .u32 ((x + y + c) / 4294967296)]) ∧ w = w' := by
  go_enter Try.func125, Try.ntmps125
  go_wp2
  go_ret2
  exact ⟨rfl, rfl⟩
set_option maxHeartbeats 1000000 in
theorem sub32_calls (x y c : Int) (hx : 0 ≤ x ∧ x ≤ 4294967295) (hy : 0 ≤ y ∧ y ≤ 4294967295) (hc : 0 ≤ c ∧ c ≤ 1) (w : World) :
    Calls Try.prog 95 #[.int .u32 x, .int .u32 y, .int .u32 c] w fun e w' => e = .returned (.tuple #[.int .u32 ((x - y - c) % 4294967296), .int .u32 (bor x (y + c))]) ∧ w = w' := by
  have H := Lib.hid (sub32_bits x y c hx hy hc)
  go_enter Try.func95, Try.ntmps95
  go_wp2
  go_ret2
  exact ⟨by rw [H.out]; rfl, rfl⟩
end Go.Proofs.Ytcgecgagecobeaa
