/- NA, NL, Nm, NB, NC, ND, NE. -/
import Derived.Test.YtjaggclfacbkbaaProg
import Derived.Test.YtjaggclfacbkbaaG
import Derived.WalkKit
import Derived.WalkLawsBesides
import Derived.WalkSpells
import Derived.Deep.QuietTactic
import Derived.BigQuiet
import Derived.Lib.Hide
import Derived.Deep.RegionHeld3
import Derived.StillTailTactics
import Derived.Deep.RegionWith
import Derived.IntWalk
/-! NA -/
namespace Go.Proofs.Ytjaggclfacbkbaa
open Go.RowKit

theorem ret_int {k : IntKind} {a b : Int} (h : a = b) : Ending.returned (.int k a) = .returned (.int k b) := by rw [h]
theorem bits32 (A B : BitVec 32) : bits .and .u32 (A.toNat : Int) (B.toNat : Int) = ((A &&& B).toNat : Int) ∧ bits .or .u32 (A.toNat : Int) (B.toNat : Int) = ((A ||| B).toNat : Int) ∧ bits .xor .u32 (A.toNat : Int) (B.toNat : Int) = ((A ^^^ B).toNat : Int) := by
  have w : ∀ C : BitVec 32, IntKind.u32.wrap (C.toNat : Int) = (C.toNat : Int) := fun C => by rw [IntKind.wrap_u32]; have := C.isLt; omega
  have ha : BitVec.ofInt IntKind.u32.bits (A.toNat : Int) = A := by
    show BitVec.ofInt 32 (A.toNat : Int) = A
    rw [BitVec.ofInt_natCast, BitVec.ofNat_toNat, BitVec.setWidth_eq]
  have hb : BitVec.ofInt IntKind.u32.bits (B.toNat : Int) = B := by
    show BitVec.ofInt 32 (B.toNat : Int) = B
    rw [BitVec.ofInt_natCast, BitVec.ofNat_toNat, BitVec.setWidth_eq]
  refine ⟨?_, ?_, ?_⟩ <;> unfold bits <;> simp only [ha, hb] <;> exact w _
def bor (x y : Int) : Int := if x < y then 1 else 0
theorem bor_le (x y : Int) : 0 ≤ bor x y ∧ bor x y ≤ 1 := by unfold bor; split <;> decide
theorem msb32 (Z : BitVec 32) : (Z.toNat : Int) / 2147483648 = if Z.msb then 1 else 0 := by
  have h := BitVec.msb_eq_decide Z
  have h2 := Z.isLt
  rw [h]
  have e : (2 : Nat) ^ (32 - 1) = 2147483648 := by decide
  rw [e]
  split <;> simp_all <;> omega
theorem sub32_bits (x y c : Int) (hx : 0 ≤ x ∧ x ≤ 4294967295) (hy : 0 ≤ y ∧ y ≤ 4294967295) (hc : 0 ≤ c ∧ c ≤ 1) :
    bits BinOp.or IntKind.u32 (bits BinOp.and IntKind.u32 (bits BinOp.xor IntKind.u32 IntKind.u32.max x) y)
      (bits BinOp.and IntKind.u32 (bits BinOp.xor IntKind.u32 IntKind.u32.max (bits BinOp.xor IntKind.u32 x y)) ((x - y - c) % 4294967296)) / 2147483648 = bor x (y + c) := by
  obtain ⟨X, hX⟩ : ∃ X : BitVec 32, (X.toNat : Int) = x := ⟨BitVec.ofNat 32 x.toNat, by rw [BitVec.toNat_ofNat]; omega⟩
  obtain ⟨Y, hY⟩ : ∃ X : BitVec 32, (X.toNat : Int) = y := ⟨BitVec.ofNat 32 y.toNat, by rw [BitVec.toNat_ofNat]; omega⟩
  obtain ⟨D, hD⟩ : ∃ X : BitVec 32, (X.toNat : Int) = (x - y - c) % 4294967296 := ⟨BitVec.ofNat 32 ((x - y - c) % 4294967296).toNat, by rw [BitVec.toNat_ofNat]; omega⟩
  have hM : IntKind.u32.max = ((BitVec.allOnes 32).toNat : Int) := by decide
  rw [hM, ← hD, ← hX, ← hY]
  rw [(bits32 X Y).2.2, (bits32 (BitVec.allOnes 32) X).2.2, (bits32 (BitVec.allOnes 32) (X ^^^ Y)).2.2, (bits32 _ Y).1, (bits32 _ D).1, (bits32 _ _).2.1, msb32]
  rw [hX, hY]
  simp only [BitVec.msb_or, BitVec.msb_and, BitVec.msb_xor]
  have m1 : (BitVec.allOnes 32).msb = true := by decide
  rw [m1]
  have hx2 := BitVec.msb_eq_decide X
  have hy2 := BitVec.msb_eq_decide Y
  have hd2 := BitVec.msb_eq_decide D
  have e : (2 : Nat) ^ (32 - 1) = 2147483648 := by decide
  rw [e] at hx2 hy2 hd2
  rw [hx2, hy2, hd2]
  unfold bor
  by_cases a : 2147483648 ≤ X.toNat <;> by_cases b : 2147483648 ≤ Y.toNat <;> by_cases d : 2147483648 ≤ D.toNat <;> simp [a, b, d] <;> omega
theorem or64 (x y : Int) (hx : 0 ≤ x ∧ x ≤ 4294967295) (hy : 0 ≤ y ∧ y ≤ 4294967295) : bits .or .u64 (x * 4294967296) y = x * 4294967296 + y :=
  bits_join .u64 64 (by decide) (fun n h0 h1 => by rw [IntKind.wrap_u64]; omega) 32 _ _ (by omega) (by omega) (by omega) hy.1 (by omega) (by omega)

set_option maxHeartbeats 1000000 in
theorem add32_calls (x y c : Int) (hx : 0 ≤ x ∧ x ≤ 4294967295) (hy : 0 ≤ y ∧ y ≤ 4294967295) (hc : 0 ≤ c ∧ c ≤ 1) (w : World) :
    Calls Try.prog 61 #[.int .u32 x, .int .u32 y, .int .u32 c] w fun e w' => e = .returned (.tuple #[.int .u32 ((x + y + c) % 4294967296), .int .u32 ((x + y + c) / 4294967296)]) ∧ w = w' := by
  go_enter Try.func61, Try.ntmps61
  go_wp2
  go_ret2
  exact ⟨rfl, rfl⟩
set_option maxHeartbeats 1000000 in
theorem sub32_calls (x y c : Int) (hx : 0 ≤ x ∧ x ≤ 4294967295) (hy : 0 ≤ y ∧ y ≤ 4294967295) (hc : 0 ≤ c ∧ c ≤ 1) (w : World) :
    Calls Try.prog 66 #[.int .u32 x, .int .u32 y, .int .u32 c] w fun e w' => e = .returned (.tuple #[.int .u32 ((x - y - c) % 4294967296), .int .u32 (bor x (y + c))]) ∧ w = w' := by
  have H := Lib.hid (sub32_bits x y c hx hy hc)
  go_enter Try.func66, Try.ntmps66
  go_wp2
  go_ret2
  exact ⟨by rw [H.out]; rfl, rfl⟩
set_option maxHeartbeats 1000000 in
theorem div32_calls (x y : Int) (hx : 0 ≤ x ∧ x ≤ 9) (hy : 0 ≤ y ∧ y ≤ 4294967295) (w : World) :
    Calls Try.prog 68 #[.int .u32 x, .int .u32 y, .int .u32 10] w fun e w' => e = .returned (.tuple #[.int .u32 ((x * 4294967296 + y) / 10), .int .u32 ((x * 4294967296 + y) % 10)]) ∧ ∃ n, w.drewN n = w' := by
  have H := or64 x y (by omega) hy
  have h1 : decide (10 ≤ x) = false := by simp; omega
  go_enter Try.func68, Try.ntmps68
  go_wp2
  go_quiet (fail)
  go_wp2
  go_ret2
  exact ⟨rfl, nq, rfl⟩
end Go.Proofs.Ytjaggclfacbkbaa

/-! NL -/
namespace Go.Proofs.Ytjaggclfacbkbaa
open Go.RowKit
/-- L is how many bits n has. -/
def isLen (n L : Nat) : Prop := n < 2 ^ L ∧ (n = 0 → L = 0) ∧ (n ≠ 0 → 1 ≤ L ∧ 2 ^ (L - 1) ≤ n)
instance (n L : Nat) : Decidable (isLen n L) := by unfold isLen; infer_instance
def tab8 : ByteArray := { data := #[0, 1, 2, 2, 3, 3, 3, 3, 4, 4, 4, 4, 4, 4, 4, 4, 5, 5, 5, 5, 5, 5, 5, 5, 5, 5, 5, 5, 5, 5, 5, 5, 6, 6, 6, 6, 6, 6, 6, 6, 6, 6, 6, 6, 6, 6, 6, 6, 6, 6, 6, 6, 6, 6, 6, 6, 6, 6, 6, 6, 6, 6, 6, 6, 7, 7, 7, 7, 7, 7, 7, 7, 7, 7, 7, 7, 7, 7, 7, 7, 7, 7, 7, 7, 7, 7, 7, 7, 7, 7, 7, 7, 7, 7, 7, 7, 7, 7, 7, 7, 7, 7, 7, 7, 7, 7, 7, 7, 7, 7, 7, 7, 7, 7, 7, 7, 7, 7, 7, 7, 7, 7, 7, 7, 7, 7, 7, 7, 8, 8, 8, 8, 8, 8, 8, 8, 8, 8, 8, 8, 8, 8, 8, 8, 8, 8, 8, 8, 8, 8, 8, 8, 8, 8, 8, 8, 8, 8, 8, 8, 8, 8, 8, 8, 8, 8, 8, 8, 8, 8, 8, 8, 8, 8, 8, 8, 8, 8, 8, 8, 8, 8, 8, 8, 8, 8, 8, 8, 8, 8, 8, 8, 8, 8, 8, 8, 8, 8, 8, 8, 8, 8, 8, 8, 8, 8, 8, 8, 8, 8, 8, 8, 8, 8, 8, 8, 8, 8, 8, 8, 8, 8, 8, 8, 8, 8, 8, 8, 8, 8, 8, 8, 8, 8, 8, 8, 8, 8, 8, 8, 8, 8, 8, 8, 8, 8, 8, 8, 8, 8, 8, 8, 8, 8, 8, 8] }
set_option maxRecDepth 100000 in
theorem tab8_size : tab8.size = 256 := by decide
set_option maxRecDepth 10000 in
theorem tab8_all : ∀ k : Fin 256, isLen k.1 (tab8.data[k.1]!).toNat ∧ (tab8.data[k.1]!).toNat ≤ 8 := by decide
theorem tab8_at (k : Nat) (h : k < tab8.size) : isLen k (tab8[k]'h).toNat ∧ (tab8[k]'h).toNat ≤ 8 := by
  have h1 : k < 256 := by rw [tab8_size] at h; exact h
  have h2 := tab8_all ⟨k, h1⟩
  have h3 : k < tab8.data.size := h
  have e : tab8.data[k]! = tab8[k]'h := by rw [getElem!_pos tab8.data k h3]; rfl
  simp only [e] at h2
  exact h2
theorem isLen_shift (x s t : Nat) (h : isLen (x / 2 ^ s) t) (hne : x / 2 ^ s ≠ 0) : isLen x (s + t) := by
  obtain ⟨h1, _, h3⟩ := h
  obtain ⟨h4, h5⟩ := h3 hne
  have hp : 0 < 2 ^ s := Nat.pow_pos (by decide)
  refine ⟨?_, fun e => by subst e; simp at hne, fun _ => ⟨by omega, ?_⟩⟩
  · rw [Nat.div_lt_iff_lt_mul hp] at h1
    rw [Nat.add_comm, Nat.pow_add]; exact h1
  · rw [Nat.le_div_iff_mul_le hp] at h5
    rw [show s + t - 1 = (t - 1) + s from by omega, Nat.pow_add]; exact h5
def lenP (x : Int) (s : Int) : Prop := ∃ n L : Nat, x = n ∧ s = L ∧ isLen n L ∧ L ≤ 32
theorem lenP_0 (x : Int) (h : x.toNat < tab8.size) (h0 : 0 ≤ x) : lenP x (wrap64 (wrap64 ((tab8[x.toNat]'h).toNat : Int))) := by
  obtain ⟨h1, h2⟩ := tab8_at _ h
  refine ⟨x.toNat, _, by omega, ?_, h1, by omega⟩
  unfold wrap64; omega
theorem lenP_s (s : Nat) (hs : s ≤ 24) (P : Int) (hP : P = (2 ^ s : Nat)) (x : Int) (h : (x / P).toNat < tab8.size) (h0 : 0 ≤ x) (h1 : 1 ≤ x / P) : lenP x (wrap64 (s + wrap64 ((tab8[(x / P).toNat]'h).toNat : Int))) := by
  obtain ⟨h2, h3⟩ := tab8_at _ h
  subst hP
  obtain ⟨n, rfl⟩ := Int.eq_ofNat_of_zero_le h0
  have e : ((n : Int) / (2 ^ s : Nat)).toNat = n / 2 ^ s := by rw [← Int.natCast_ediv]; rfl
  refine ⟨n, s + (tab8[((n : Int) / (2 ^ s : Nat)).toNat]'h).toNat, rfl, ?_, isLen_shift _ _ _ ?_ ?_, by omega⟩
  · unfold wrap64; omega
  · rw [← e]; exact h2
  · rw [← e]; omega
theorem lenP_24 (x : Int) (h : (x / 65536 / 256).toNat < tab8.size) (h0 : 0 ≤ x) (h1 : 256 ≤ x / 65536) : lenP x (wrap64 (24 + wrap64 ((tab8[(x / 65536 / 256).toNat]'h).toNat : Int))) := by
  have e : x / 65536 / 256 = x / 16777216 := by omega
  have := lenP_s 24 (by decide) 16777216 (by decide) x (by rw [← e]; exact h) h0 (by omega)
  simp only [e]
  exact this
theorem lenP_16 (x : Int) (h : (x / 65536).toNat < tab8.size) (h0 : 0 ≤ x) (h1 : 65536 ≤ x) : lenP x (wrap64 (16 + wrap64 ((tab8[(x / 65536).toNat]'h).toNat : Int))) :=
  lenP_s 16 (by decide) 65536 (by decide) x h h0 (by omega)
theorem lenP_8 (x : Int) (h : (x / 256).toNat < tab8.size) (h0 : 0 ≤ x) (h1 : 256 ≤ x) : lenP x (wrap64 (8 + wrap64 ((tab8[(x / 256).toNat]'h).toNat : Int))) :=
  lenP_s 8 (by decide) 256 (by decide) x h h0 (by omega)
def LenPost (x : Int) (w : World) (e : Ending) (w' : World) : Prop := ∃ s : Int, e = .returned (.int .i64 s) ∧ lenP x s ∧ w = w'
set_option maxRecDepth 100000 in
set_option maxHeartbeats 1000000 in
theorem len32_calls (x : Int) (hx : 0 ≤ x ∧ x ≤ 4294967295) (w : World) :
    Calls Try.prog 71 #[.int .u32 x] w (LenPost x w) := by
  by_cases h1 : 65536 ≤ x
  · by_cases h2 : 256 ≤ x / 65536
    · go_enter Try.func71, Try.ntmps71
      go_wp2
      go_ret
      exact ⟨_, rfl, lenP_24 x (by rw [tab8_size]; omega) hx.1 h2, rfl⟩
    · go_enter Try.func71, Try.ntmps71
      go_wp2
      go_ret
      exact ⟨_, rfl, lenP_16 x (by rw [tab8_size]; omega) hx.1 h1, rfl⟩
  · by_cases h2 : 256 ≤ x
    · go_enter Try.func71, Try.ntmps71
      go_wp2
      go_ret
      exact ⟨_, rfl, lenP_8 x (by rw [tab8_size]; omega) hx.1 h2, rfl⟩
    · go_enter Try.func71, Try.ntmps71
      go_wp2
      go_ret
      exact ⟨_, rfl, lenP_0 x (by rw [tab8_size]; omega) hx.1, rfl⟩
end Go.Proofs.Ytjaggclfacbkbaa

/-! Nm -/
namespace Go.Proofs.Ytjaggclfacbkbaa
def pt (n i : Nat) : Int := ((n / 4294967296 ^ i) % 4294967296 : Nat)
theorem pt_bd (n i : Nat) : 0 ≤ pt n i ∧ pt n i ≤ 4294967295 := by
  unfold pt
  have := Nat.mod_lt (n / 4294967296 ^ i) (show 0 < 4294967296 by decide)
  omega
theorem pt_sum (n : Nat) (h : n < 340282366920938463463374607431768211456) : (n : Int) = pt n 0 + 4294967296 * pt n 1 + 18446744073709551616 * pt n 2 + 79228162514264337593543950336 * pt n 3 := by
  unfold pt
  have e0 : n / 4294967296 ^ 0 = n := by simp
  have e1 : n / 4294967296 ^ 1 = n / 4294967296 := by simp
  have e2 : n / 4294967296 ^ 2 = n / 4294967296 / 4294967296 := by rw [Nat.div_div_eq_div_mul]
  have e3 : n / 4294967296 ^ 3 = n / 4294967296 / 4294967296 / 4294967296 := by rw [Nat.div_div_eq_div_mul, Nat.div_div_eq_div_mul]
  rw [e0, e1, e2, e3]
  omega
theorem pt_mk (s0 s1 s2 s3 : Int) (h0 : 0 ≤ s0 ∧ s0 ≤ 4294967295) (h1 : 0 ≤ s1 ∧ s1 ≤ 4294967295) (h2 : 0 ≤ s2 ∧ s2 ≤ 4294967295) (h3 : 0 ≤ s3 ∧ s3 ≤ 4294967295) (n : Nat)
    (h : (n : Int) = s0 + 4294967296 * s1 + 18446744073709551616 * s2 + 79228162514264337593543950336 * s3) :
    n < 340282366920938463463374607431768211456 ∧ s0 = pt n 0 ∧ s1 = pt n 1 ∧ s2 = pt n 2 ∧ s3 = pt n 3 := by
  have hn : n < 340282366920938463463374607431768211456 := by omega
  have hs := pt_sum n hn
  have b0 := pt_bd n 0
  have b1 := pt_bd n 1
  have b2 := pt_bd n 2
  have b3 := pt_bd n 3
  generalize pt n 0 = p0 at *
  generalize pt n 1 = p1 at *
  generalize pt n 2 = p2 at *
  generalize pt n 3 = p3 at *
  refine ⟨hn, ?_⟩
  omega
/-- sum over the parts below k of a function -/
def sp (p : Nat → Int) : Nat → Int
  | 0 => 0
  | k + 1 => sp p k + p k * 4294967296 ^ k
def upd (p : Nat → Int) (k : Nat) (v : Int) : Nat → Int := fun i => if i = k then v else p i
theorem sp_upd_ge (p : Nat → Int) (k : Nat) (v : Int) : ∀ n, n ≤ k → sp (upd p k v) n = sp p n
  | 0, _ => rfl
  | n + 1, h => by
    unfold sp
    rw [sp_upd_ge p k v n (by omega)]
    have : upd p k v n = p n := by unfold upd; rw [if_neg (by omega)]
    rw [this]
theorem sp_upd (p : Nat → Int) (k : Nat) (v : Int) : ∀ n, k < n → sp (upd p k v) n = sp p n + (v - p k) * 4294967296 ^ k
  | 0, h => by omega
  | n + 1, h => by
    unfold sp
    by_cases e : n = k
    · subst e
      rw [sp_upd_ge p n v n (Nat.le_refl _)]
      have : upd p n v n = v := by simp [upd]
      rw [this, Int.sub_mul]
      omega
    · rw [sp_upd p k v n (by omega)]
      have : upd p k v n = p n := by unfold upd; rw [if_neg (by omega)]
      rw [this]
      omega
theorem pt_mod (n i : Nat) : ((n % 4294967296 ^ (i + 1) : Nat) : Int) = (n % 4294967296 ^ i : Nat) + pt n i * 4294967296 ^ i := by
  unfold pt
  have h := Nat.mod_pow_succ (x := n) (b := 4294967296) (k := i)
  rw [h, Int.natCast_add, Int.natCast_mul, Int.natCast_pow, Int.mul_comm]
  rfl
/-- one step of the inner loop -/
theorem mul_step (a b i j : Nat) (p : Nat → Int) (c s c' : Int) (hij : i + j < 8)
    (h : sp p 8 + c * 4294967296 ^ (i + j) = ((a % 4294967296 ^ i : Nat) : Int) * b + pt a i * ((b % 4294967296 ^ j : Nat) : Int) * 4294967296 ^ i)
    (hs : s + 4294967296 * c' = pt a i * pt b j + p (i + j) + c) :
    sp (upd p (i + j) s) 8 + c' * 4294967296 ^ (i + j + 1) = ((a % 4294967296 ^ i : Nat) : Int) * b + pt a i * ((b % 4294967296 ^ (j + 1) : Nat) : Int) * 4294967296 ^ i := by
  rw [sp_upd _ _ _ _ hij, pt_mod b j]
  have e : s = pt a i * pt b j + p (i + j) + c - 4294967296 * c' := by omega
  subst e
  have e1 : (4294967296 : Int) ^ (i + j + 1) = 4294967296 * 4294967296 ^ (i + j) := by rw [Int.pow_succ, Int.mul_comm]
  have e2 : (4294967296 : Int) ^ (i + j) = 4294967296 ^ i * 4294967296 ^ j := by rw [Int.pow_add]
  rw [e1]
  rw [Int.mul_add, Int.add_mul, ← Int.add_assoc, ← h]
  have e3 : pt a i * (pt b j * 4294967296 ^ j) * 4294967296 ^ i = pt a i * pt b j * 4294967296 ^ (i + j) := by
    rw [e2]; ac_rfl
  rw [e3]
  generalize (4294967296 : Int) ^ (i + j) = E
  rw [show pt a i * pt b j + p (i + j) + c - 4294967296 * c' - p (i + j) = pt a i * pt b j + (c - 4294967296 * c') from by omega]
  rw [Int.add_mul, Int.sub_mul]
  have : c' * (4294967296 * E) = 4294967296 * c' * E := by rw [← Int.mul_assoc, Int.mul_comm c']
  omega
/-- part i of a * 2^(32 q + r) -/
theorem shift_lo (a q r i : Nat) (h : i < q) : (a * 2 ^ (32 * q + r) / 4294967296 ^ i) % 4294967296 = 0 := by
  have e : a * 2 ^ (32 * q + r) = 4294967296 ^ i * (4294967296 * (4294967296 ^ (q - i - 1) * 2 ^ r * a)) := by
    have : 2 ^ (32 * q + r) = 4294967296 ^ q * 2 ^ r := by rw [Nat.pow_add, Nat.pow_mul]
    rw [this]
    have : (4294967296 : Nat) ^ q = 4294967296 ^ i * (4294967296 * 4294967296 ^ (q - i - 1)) := by
      rw [← Nat.pow_succ', ← Nat.pow_add]; congr 1; omega
    rw [this]; ac_rfl
  rw [e, Nat.mul_div_cancel_left _ (Nat.pow_pos (by decide)), Nat.mul_mod_right]
theorem pow32 (q r : Nat) : 2 ^ (32 * q + r) = 4294967296 ^ q * 2 ^ r := by rw [Nat.pow_add, Nat.pow_mul]
theorem shift_at (a q r : Nat) : (a * 2 ^ (32 * q + r) / 4294967296 ^ q) % 4294967296 = (a % 4294967296 * 2 ^ r) % 4294967296 := by
  rw [pow32, show a * (4294967296 ^ q * 2 ^ r) = 4294967296 ^ q * (a * 2 ^ r) from by ac_rfl, Nat.mul_div_cancel_left _ (Nat.pow_pos (by decide))]
  conv => lhs; rw [Nat.mul_mod]
  conv => rhs; rw [Nat.mul_mod, Nat.mod_mod]
theorem shift_hi (a q r m : Nat) (hr : r < 32) : (a * 2 ^ (32 * q + r) / 4294967296 ^ (q + (m + 1))) % 4294967296 =
    (a / 4294967296 ^ (m + 1) % 4294967296 * 2 ^ r) % 4294967296 + a / 4294967296 ^ m % 4294967296 / 2 ^ (32 - r) := by
  rw [pow32, show a * (4294967296 ^ q * 2 ^ r) = 4294967296 ^ q * (a * 2 ^ r) from by ac_rfl, Nat.pow_add, ← Nat.div_div_eq_div_mul, Nat.mul_div_cancel_left _ (Nat.pow_pos (by decide))]
  have e32 : (4294967296 : Nat) = 2 ^ r * 2 ^ (32 - r) := by rw [← Nat.pow_add, show r + (32 - r) = 32 from by omega]
  have e0 : a * 2 ^ r / 4294967296 ^ (m + 1) = a / 4294967296 ^ m / 2 ^ (32 - r) := by
    rw [Nat.pow_succ]
    have : 4294967296 ^ m * 4294967296 = (4294967296 ^ m * 2 ^ (32 - r)) * 2 ^ r := by
      conv => lhs; rhs; rw [e32]
      ac_rfl
    rw [this, Nat.mul_div_mul_right _ _ (Nat.pow_pos (by decide)), Nat.div_div_eq_div_mul]
  rw [e0, Nat.pow_succ, ← Nat.div_div_eq_div_mul]
  generalize a / 4294967296 ^ m = A
  have hA := Nat.div_add_mod A 4294967296
  generalize hA0 : A % 4294967296 = A0 at *
  generalize A / 4294967296 = A1 at *
  have hlt : A0 < 4294967296 := by rw [← hA0]; exact Nat.mod_lt _ (by decide)
  subst hA
  have e1 : (4294967296 * A1 + A0) / 2 ^ (32 - r) = 2 ^ r * A1 + A0 / 2 ^ (32 - r) := by
    conv => lhs; lhs; lhs; rw [e32, Nat.mul_comm (2 ^ r), Nat.mul_assoc]
    rw [Nat.mul_add_div (Nat.pow_pos (by decide))]
  rw [e1]
  have hq : A0 / 2 ^ (32 - r) < 2 ^ r := by
    rw [Nat.div_lt_iff_lt_mul (Nat.pow_pos (by decide)), ← e32]; exact hlt
  have e2 : (2 ^ r * A1) % 4294967296 = 2 ^ r * (A1 % 2 ^ (32 - r)) := by
    rw [e32, Nat.mul_mod_mul_left]
  have e3 : (A1 % 4294967296 * 2 ^ r) % 4294967296 = 2 ^ r * (A1 % 2 ^ (32 - r)) := by
    rw [← e2, Nat.mul_comm (2 ^ r), Nat.mul_mod, Nat.mod_mod, ← Nat.mul_mod]
  rw [e3, Nat.add_mod, e2]
  have hx : A1 % 2 ^ (32 - r) + 1 ≤ 2 ^ (32 - r) := Nat.mod_lt _ (Nat.pow_pos (by decide))
  have hy : 2 ^ r * (A1 % 2 ^ (32 - r)) + 2 ^ r ≤ 4294967296 := by
    conv => rhs; rw [e32]
    rw [← Nat.mul_succ]
    exact Nat.mul_le_mul_left _ hx
  generalize 2 ^ r * (A1 % 2 ^ (32 - r)) = X at *
  generalize A0 / 2 ^ (32 - r) = Y at *
  generalize 2 ^ r = R at *
  rw [Nat.mod_eq_of_lt (a := Y) (by omega), Nat.mod_eq_of_lt (by omega)]
theorem or_add (r t : Nat) : (2 ^ (r + 1) * t) ||| 2 ^ r = 2 ^ (r + 1) * t + 2 ^ r :=
  (Nat.two_pow_add_eq_or_of_lt (Nat.pow_lt_pow_right (by decide) (by omega)) t).symm
theorem bit_at (t q r : Nat) (hr : r < 32) : ((2 ^ (32 * q + r + 1) * t) / 4294967296 ^ q % 4294967296) ||| 2 ^ r = (2 ^ (32 * q + r + 1) * t + 2 ^ (32 * q + r)) / 4294967296 ^ q % 4294967296 ∧
    (2 ^ (32 * q + r + 1) * t) / 4294967296 ^ q % 4294967296 + 2 ^ r < 4294967296 := by
  have e32 : (4294967296 : Nat) = 2 ^ (r + 1) * 2 ^ (31 - r) := by rw [← Nat.pow_add, show r + 1 + (31 - r) = 32 from by omega]
  have h1 : (2 ^ (32 * q + r + 1) * t) / 4294967296 ^ q = 2 ^ (r + 1) * t := by
    rw [Nat.add_assoc, pow32, Nat.mul_assoc, Nat.mul_div_cancel_left _ (Nat.pow_pos (by decide))]
  have h2 : (2 ^ (32 * q + r + 1) * t + 2 ^ (32 * q + r)) / 4294967296 ^ q = 2 ^ (r + 1) * t + 2 ^ r := by
    rw [Nat.add_assoc (32 * q), pow32, pow32, Nat.mul_assoc, ← Nat.mul_add, Nat.mul_div_cancel_left _ (Nat.pow_pos (by decide))]
  have h3 : (2 ^ (r + 1) * t) % 4294967296 = 2 ^ (r + 1) * (t % 2 ^ (31 - r)) := by rw [e32, Nat.mul_mod_mul_left]
  have hx : t % 2 ^ (31 - r) + 1 ≤ 2 ^ (31 - r) := Nat.mod_lt _ (Nat.pow_pos (by decide))
  have hp : 2 ^ r < 2 ^ (r + 1) := Nat.pow_lt_pow_right (by decide) (by omega)
  have hy : 2 ^ (r + 1) * (t % 2 ^ (31 - r)) + 2 ^ (r + 1) ≤ 4294967296 := by
    conv => rhs; rw [e32]
    rw [← Nat.mul_succ]
    exact Nat.mul_le_mul_left _ hx
  rw [h1, h2, Nat.add_mod, h3, or_add]
  generalize 2 ^ (r + 1) * (t % 2 ^ (31 - r)) = X at *
  generalize 2 ^ r = R at *
  generalize 2 ^ (r + 1) = S at *
  constructor
  · rw [Nat.mod_eq_of_lt (a := R) (by omega), Nat.mod_eq_of_lt (by omega)]
  · omega
theorem bit_hi (t n i : Nat) (h : n + 1 ≤ 32 * i) : (2 ^ (n + 1) * t + 2 ^ n) / 4294967296 ^ i = (2 ^ (n + 1) * t) / 4294967296 ^ i := by
  have e : (4294967296 : Nat) ^ i = 2 ^ (n + 1) * 2 ^ (32 * i - (n + 1)) := by
    rw [← Nat.pow_add, show n + 1 + (32 * i - (n + 1)) = 32 * i from by omega, Nat.pow_mul]
  rw [e, ← Nat.div_div_eq_div_mul, ← Nat.div_div_eq_div_mul, Nat.mul_add_div (Nat.pow_pos (by decide)), Nat.mul_div_cancel_left _ (Nat.pow_pos (by decide)),
    Nat.div_eq_of_lt (Nat.pow_lt_pow_right (by decide) (by omega)), Nat.add_zero]
theorem bit_lo (t n i : Nat) (h : 32 * i + 32 ≤ n) : (2 ^ (n + 1) * t + 2 ^ n) / 4294967296 ^ i % 4294967296 = 0 ∧ (2 ^ (n + 1) * t) / 4294967296 ^ i % 4294967296 = 0 := by
  have e0 : 2 ^ n = 4294967296 ^ i * (4294967296 * 2 ^ (n - 32 * i - 32)) := by
    rw [← Nat.mul_assoc, ← Nat.pow_succ, show (4294967296 : Nat) ^ (i + 1) = 2 ^ (32 * (i + 1)) from by rw [Nat.pow_mul], ← Nat.pow_add]
    congr 1; omega
  have e1 : 2 ^ (n + 1) = 4294967296 ^ i * (4294967296 * (2 ^ (n - 32 * i - 32) * 2)) := by
    rw [Nat.pow_succ, e0]; ac_rfl
  constructor
  · rw [e1, e0, Nat.mul_assoc, ← Nat.mul_add, Nat.mul_div_cancel_left _ (Nat.pow_pos (by decide)), Nat.mul_assoc, ← Nat.mul_add, Nat.mul_mod_right]
  · rw [e1, Nat.mul_assoc, Nat.mul_div_cancel_left _ (Nat.pow_pos (by decide)), Nat.mul_assoc, Nat.mul_mod_right]
theorem plus_fin (a b : Nat) (ha : a < 340282366920938463463374607431768211456) (hb : b < 340282366920938463463374607431768211456) (s0 s1 s2 s3 c1 c2 c3 c4 : Int)
    (h0 : 0 ≤ s0 ∧ s0 ≤ 4294967295) (h1 : 0 ≤ s1 ∧ s1 ≤ 4294967295) (h2 : 0 ≤ s2 ∧ s2 ≤ 4294967295) (h3 : 0 ≤ s3 ∧ s3 ≤ 4294967295)
    (e0 : s0 + 4294967296 * c1 = pt a 0 + pt b 0) (e1 : s1 + 4294967296 * c2 = pt a 1 + pt b 1 + c1) (e2 : s2 + 4294967296 * c3 = pt a 2 + pt b 2 + c2) (e3 : s3 + 4294967296 * c4 = pt a 3 + pt b 3 + c3) :
    s0 = pt ((a + b) % 340282366920938463463374607431768211456) 0 ∧ s1 = pt ((a + b) % 340282366920938463463374607431768211456) 1 ∧ s2 = pt ((a + b) % 340282366920938463463374607431768211456) 2 ∧ s3 = pt ((a + b) % 340282366920938463463374607431768211456) 3 ∧ c4 = ((a + b) / 340282366920938463463374607431768211456 : Nat) := by
  have ka := pt_sum a ha
  have kb := pt_sum b hb
  have k := pt_mk s0 s1 s2 s3 h0 h1 h2 h3 ((a + b) % 340282366920938463463374607431768211456) (by omega)
  refine ⟨k.2.1, k.2.2.1, k.2.2.2.1, k.2.2.2.2, ?_⟩
  clear k
  omega
theorem minus_fin (a b : Nat) (ha : a < 340282366920938463463374607431768211456) (hb : b < 340282366920938463463374607431768211456) (s0 s1 s2 s3 c1 c2 c3 c4 : Int)
    (h0 : 0 ≤ s0 ∧ s0 ≤ 4294967295) (h1 : 0 ≤ s1 ∧ s1 ≤ 4294967295) (h2 : 0 ≤ s2 ∧ s2 ≤ 4294967295) (h3 : 0 ≤ s3 ∧ s3 ≤ 4294967295)
    (e0 : s0 - 4294967296 * c1 = pt a 0 - pt b 0) (e1 : s1 - 4294967296 * c2 = pt a 1 - pt b 1 - c1) (e2 : s2 - 4294967296 * c3 = pt a 2 - pt b 2 - c2) (e3 : s3 - 4294967296 * c4 = pt a 3 - pt b 3 - c3) :
    s0 = pt ((340282366920938463463374607431768211456 + a - b) % 340282366920938463463374607431768211456) 0 ∧ s1 = pt ((340282366920938463463374607431768211456 + a - b) % 340282366920938463463374607431768211456) 1 ∧ s2 = pt ((340282366920938463463374607431768211456 + a - b) % 340282366920938463463374607431768211456) 2 ∧ s3 = pt ((340282366920938463463374607431768211456 + a - b) % 340282366920938463463374607431768211456) 3 ∧ c4 = if a < b then 1 else 0 := by
  have ka := pt_sum a ha
  have kb := pt_sum b hb
  have k := pt_mk s0 s1 s2 s3 h0 h1 h2 h3 ((340282366920938463463374607431768211456 + a - b) % 340282366920938463463374607431768211456) (by omega)
  refine ⟨k.2.1, k.2.2.1, k.2.2.2.1, k.2.2.2.2, ?_⟩
  clear k
  split <;> omega
theorem tenfold_fin (a d : Nat) (ha : a < 340282366920938463463374607431768211456) (s0 s1 s2 s3 c1 c2 c3 c4 : Int)
    (h0 : 0 ≤ s0 ∧ s0 ≤ 4294967295) (h1 : 0 ≤ s1 ∧ s1 ≤ 4294967295) (h2 : 0 ≤ s2 ∧ s2 ≤ 4294967295) (h3 : 0 ≤ s3 ∧ s3 ≤ 4294967295)
    (e0 : s0 + 4294967296 * c1 = pt a 0 * 10 + d) (e1 : s1 + 4294967296 * c2 = pt a 1 * 10 + c1) (e2 : s2 + 4294967296 * c3 = pt a 2 * 10 + c2) (e3 : s3 + 4294967296 * c4 = pt a 3 * 10 + c3) :
    s0 = pt ((a * 10 + d) % 340282366920938463463374607431768211456) 0 ∧ s1 = pt ((a * 10 + d) % 340282366920938463463374607431768211456) 1 ∧ s2 = pt ((a * 10 + d) % 340282366920938463463374607431768211456) 2 ∧ s3 = pt ((a * 10 + d) % 340282366920938463463374607431768211456) 3 ∧ c4 = ((a * 10 + d) / 340282366920938463463374607431768211456 : Nat) := by
  have ka := pt_sum a ha
  have k := pt_mk s0 s1 s2 s3 h0 h1 h2 h3 ((a * 10 + d) % 340282366920938463463374607431768211456) (by omega)
  refine ⟨k.2.1, k.2.2.1, k.2.2.2.1, k.2.2.2.2, ?_⟩
  clear k
  omega
theorem tenth_fin (a : Nat) (ha : a < 340282366920938463463374607431768211456) (s0 s1 s2 s3 c1 c2 c3 c4 : Int)
    (h0 : 0 ≤ s0 ∧ s0 ≤ 4294967295) (h1 : 0 ≤ s1 ∧ s1 ≤ 4294967295) (h2 : 0 ≤ s2 ∧ s2 ≤ 4294967295) (h3 : 0 ≤ s3 ∧ s3 ≤ 4294967295) (hc : 0 ≤ c1 ∧ c1 ≤ 9)
    (e3 : s3 * 10 + c4 = pt a 3) (e2 : s2 * 10 + c3 = pt a 2 + 4294967296 * c4) (e1 : s1 * 10 + c2 = pt a 1 + 4294967296 * c3) (e0 : s0 * 10 + c1 = pt a 0 + 4294967296 * c2) :
    s0 = pt (a / 10) 0 ∧ s1 = pt (a / 10) 1 ∧ s2 = pt (a / 10) 2 ∧ s3 = pt (a / 10) 3 ∧ c1 = (a % 10 : Nat) := by
  have ka := pt_sum a ha
  have k := pt_mk s0 s1 s2 s3 h0 h1 h2 h3 (a / 10) (by omega)
  refine ⟨k.2.1, k.2.2.1, k.2.2.2.1, k.2.2.2.2, ?_⟩
  clear k
  omega
end Go.Proofs.Ytjaggclfacbkbaa

/-! NB -/
namespace Go.Proofs.Ytjaggclfacbkbaa
open Go.RowKit

def isN (a : Nat) : Prop := a < 340282366920938463463374607431768211456
def addN (a b : Nat) : Nat := (a + b) % 340282366920938463463374607431768211456
def carN (a b : Nat) : Int := ((a + b) / 340282366920938463463374607431768211456 : Nat)
def subN (a b : Nat) : Nat := (340282366920938463463374607431768211456 + a - b) % 340282366920938463463374607431768211456
def borN (a b : Nat) : Int := if a < b then 1 else 0
theorem add32_ex (x y c : Int) (hx : 0 ≤ x ∧ x ≤ 4294967295) (hy : 0 ≤ y ∧ y ≤ 4294967295) (hc : 0 ≤ c ∧ c ≤ 1) (w : World) :
    Calls Try.prog 61 #[.int .u32 x, .int .u32 y, .int .u32 c] w fun e w' => ∃ s d : Int, (0 ≤ s ∧ s ≤ 4294967295) ∧ (0 ≤ d ∧ d ≤ 1) ∧ Hid (s + 4294967296 * d = x + y + c) ∧ e = .returned (.tuple #[.int .u32 s, .int .u32 d]) ∧ w = w' :=
  (add32_calls x y c hx hy hc w).mono fun e w' ⟨he, hw⟩ => ⟨_, _, by omega, by omega, Lib.hid (by omega), he, hw⟩
theorem sub32_ex (x y c : Int) (hx : 0 ≤ x ∧ x ≤ 4294967295) (hy : 0 ≤ y ∧ y ≤ 4294967295) (hc : 0 ≤ c ∧ c ≤ 1) (w : World) :
    Calls Try.prog 66 #[.int .u32 x, .int .u32 y, .int .u32 c] w fun e w' => ∃ s d : Int, (0 ≤ s ∧ s ≤ 4294967295) ∧ (0 ≤ d ∧ d ≤ 1) ∧ Hid (s - 4294967296 * d = x - y - c) ∧ e = .returned (.tuple #[.int .u32 s, .int .u32 d]) ∧ w = w' :=
  (sub32_calls x y c hx hy hc w).mono fun e w' ⟨he, hw⟩ => ⟨_, _, by omega, bor_le _ _, Lib.hid (by unfold bor; split <;> omega), he, hw⟩

set_option maxHeartbeats 2000000 in
theorem plus_calls (a b : Nat) (ha : isN a) (hb : isN b) (w : World) :
    Calls Try.prog 40 #[.agg #[.int .u32 (pt a 0), .int .u32 (pt a 1), .int .u32 (pt a 2), .int .u32 (pt a 3)], .agg #[.int .u32 (pt b 0), .int .u32 (pt b 1), .int .u32 (pt b 2), .int .u32 (pt b 3)]] w fun e w' => e = .returned (.tuple #[.agg #[.int .u32 (pt (addN a b) 0), .int .u32 (pt (addN a b) 1), .int .u32 (pt (addN a b) 2), .int .u32 (pt (addN a b) 3)], .int .u32 (carN a b)]) ∧ Below w.heap.size w w' := by
  have a0 := pt_bd a 0
  have a1 := pt_bd a 1
  have a2 := pt_bd a 2
  have a3 := pt_bd a 3
  have b0 := pt_bd b 0
  have b1 := pt_bd b 1
  have b2 := pt_bd b 2
  have b3 := pt_bd b 3
  go_enter Try.func40, Try.ntmps40
  go_wp2
  refine wp_loop_rounds 5 ?_
  rw [rounds_succ]
  go_wp2
  go_region_held3 (fun w' => w'.cell? ⟨w.heap.size, 0, none⟩ = some (.int .u32 (pt a 0)) ∧ w'.cell? ⟨w.heap.size + 1, 0, none⟩ = some (.int .u32 (pt b 0))) (simp [*, go_sem]) (first | (go_at_call 61; refine (add32_ex _ _ _ (by omega) (by omega) (by omega) _).mono ?_; rintro e w0 ⟨s0, c1, hs0, hc1, E0, rfl, rfl⟩))
  go_wp2
  rw [rounds_succ]
  go_wp2
  go_region_held3 (fun w' => w'.cell? ⟨w.heap.size, 1, none⟩ = some (.int .u32 (pt a 1)) ∧ w'.cell? ⟨w.heap.size + 1, 1, none⟩ = some (.int .u32 (pt b 1))) (simp [*, go_sem]) (first | (go_at_call 61; refine (add32_ex _ _ _ (by omega) (by omega) (by omega) _).mono ?_; rintro e w0 ⟨s1, c2, hs1, hc2, E1, rfl, rfl⟩))
  go_wp2
  rw [rounds_succ]
  go_wp2
  go_region_held3 (fun w' => w'.cell? ⟨w.heap.size, 2, none⟩ = some (.int .u32 (pt a 2)) ∧ w'.cell? ⟨w.heap.size + 1, 2, none⟩ = some (.int .u32 (pt b 2))) (simp [*, go_sem]) (first | (go_at_call 61; refine (add32_ex _ _ _ (by omega) (by omega) (by omega) _).mono ?_; rintro e w0 ⟨s2, c3, hs2, hc3, E2, rfl, rfl⟩))
  go_wp2
  rw [rounds_succ]
  go_wp2
  go_region_held3 (fun w' => w'.cell? ⟨w.heap.size, 3, none⟩ = some (.int .u32 (pt a 3)) ∧ w'.cell? ⟨w.heap.size + 1, 3, none⟩ = some (.int .u32 (pt b 3))) (simp [*, go_sem]) (first | (go_at_call 61; refine (add32_ex _ _ _ (by omega) (by omega) (by omega) _).mono ?_; rintro e w0 ⟨s3, c4, hs3, hc4, E3, rfl, rfl⟩))
  go_wp2
  rw [rounds_succ]
  go_wp2
  have F : s0 = pt (addN a b) 0 ∧ s1 = pt (addN a b) 1 ∧ s2 = pt (addN a b) 2 ∧ s3 = pt (addN a b) 3 ∧ c4 = carN a b := plus_fin a b ha hb s0 s1 s2 s3 c1 c2 c3 c4 hs0 hs1 hs2 hs3 (by have := E0.out; omega) (by have := E1.out; omega) (by have := E2.out; omega) (by have := E3.out; omega)
  obtain ⟨F0, F1, F2, F3, F4⟩ := F
  clear E0 E1 E2 E3 hs0 hs1 hs2 hs3 hc1 hc2 hc3 hc4
  subst F0 F1 F2 F3 F4
  refine bodyPost_ret (by simp [results, Try.results40, go_sem]) rfl ⟨rfl, ?_⟩
  repeat (first | (with_reducible exact Below.refl _ _) | ((with_reducible refine below_grow ?_ ?_); rotate_left; focus (first | omega | (simp [go_sem]; done) | (simp [go_sem]; omega))) | ((with_reducible refine Below.alloc ?_ ?_ _); rotate_left; focus (first | omega | (simp [go_sem]; done) | (simp [go_sem]; omega))) | ((with_reducible refine Below.setCell ?_ ?_ _); rotate_left; focus (first | omega | (simp [go_sem]; done) | (simp [go_sem]; omega))) | (with_reducible refine Below.drew ?_) | (with_reducible refine below_drewN _ ?_))

set_option maxHeartbeats 2000000 in
theorem minus_calls (a b : Nat) (ha : isN a) (hb : isN b) (w : World) :
    Calls Try.prog 45 #[.agg #[.int .u32 (pt a 0), .int .u32 (pt a 1), .int .u32 (pt a 2), .int .u32 (pt a 3)], .agg #[.int .u32 (pt b 0), .int .u32 (pt b 1), .int .u32 (pt b 2), .int .u32 (pt b 3)]] w fun e w' => e = .returned (.tuple #[.agg #[.int .u32 (pt (subN a b) 0), .int .u32 (pt (subN a b) 1), .int .u32 (pt (subN a b) 2), .int .u32 (pt (subN a b) 3)], .int .u32 (borN a b)]) ∧ Below w.heap.size w w' := by
  have a0 := pt_bd a 0
  have a1 := pt_bd a 1
  have a2 := pt_bd a 2
  have a3 := pt_bd a 3
  have b0 := pt_bd b 0
  have b1 := pt_bd b 1
  have b2 := pt_bd b 2
  have b3 := pt_bd b 3
  go_enter Try.func45, Try.ntmps45
  go_wp2
  refine wp_loop_rounds 5 ?_
  rw [rounds_succ]
  go_wp2
  go_region_held3 (fun w' => w'.cell? ⟨w.heap.size, 0, none⟩ = some (.int .u32 (pt a 0)) ∧ w'.cell? ⟨w.heap.size + 1, 0, none⟩ = some (.int .u32 (pt b 0))) (simp [*, go_sem]) (first | (go_at_call 66; refine (sub32_ex _ _ _ (by omega) (by omega) (by omega) _).mono ?_; rintro e w0 ⟨s0, c1, hs0, hc1, E0, rfl, rfl⟩))
  go_wp2
  rw [rounds_succ]
  go_wp2
  go_region_held3 (fun w' => w'.cell? ⟨w.heap.size, 1, none⟩ = some (.int .u32 (pt a 1)) ∧ w'.cell? ⟨w.heap.size + 1, 1, none⟩ = some (.int .u32 (pt b 1))) (simp [*, go_sem]) (first | (go_at_call 66; refine (sub32_ex _ _ _ (by omega) (by omega) (by omega) _).mono ?_; rintro e w0 ⟨s1, c2, hs1, hc2, E1, rfl, rfl⟩))
  go_wp2
  rw [rounds_succ]
  go_wp2
  go_region_held3 (fun w' => w'.cell? ⟨w.heap.size, 2, none⟩ = some (.int .u32 (pt a 2)) ∧ w'.cell? ⟨w.heap.size + 1, 2, none⟩ = some (.int .u32 (pt b 2))) (simp [*, go_sem]) (first | (go_at_call 66; refine (sub32_ex _ _ _ (by omega) (by omega) (by omega) _).mono ?_; rintro e w0 ⟨s2, c3, hs2, hc3, E2, rfl, rfl⟩))
  go_wp2
  rw [rounds_succ]
  go_wp2
  go_region_held3 (fun w' => w'.cell? ⟨w.heap.size, 3, none⟩ = some (.int .u32 (pt a 3)) ∧ w'.cell? ⟨w.heap.size + 1, 3, none⟩ = some (.int .u32 (pt b 3))) (simp [*, go_sem]) (first | (go_at_call 66; refine (sub32_ex _ _ _ (by omega) (by omega) (by omega) _).mono ?_; rintro e w0 ⟨s3, c4, hs3, hc4, E3, rfl, rfl⟩))
  go_wp2
  rw [rounds_succ]
  go_wp2
  have F : s0 = pt (subN a b) 0 ∧ s1 = pt (subN a b) 1 ∧ s2 = pt (subN a b) 2 ∧ s3 = pt (subN a b) 3 ∧ c4 = borN a b := minus_fin a b ha hb s0 s1 s2 s3 c1 c2 c3 c4 hs0 hs1 hs2 hs3 (by have := E0.out; omega) (by have := E1.out; omega) (by have := E2.out; omega) (by have := E3.out; omega)
  obtain ⟨F0, F1, F2, F3, F4⟩ := F
  clear E0 E1 E2 E3 hs0 hs1 hs2 hs3 hc1 hc2 hc3 hc4
  subst F0 F1 F2 F3 F4
  refine bodyPost_ret (by simp [results, Try.results45, go_sem]) rfl ⟨rfl, ?_⟩
  repeat (first | (with_reducible exact Below.refl _ _) | ((with_reducible refine below_grow ?_ ?_); rotate_left; focus (first | omega | (simp [go_sem]; done) | (simp [go_sem]; omega))) | ((with_reducible refine Below.alloc ?_ ?_ _); rotate_left; focus (first | omega | (simp [go_sem]; done) | (simp [go_sem]; omega))) | ((with_reducible refine Below.setCell ?_ ?_ _); rotate_left; focus (first | omega | (simp [go_sem]; done) | (simp [go_sem]; omega))) | (with_reducible refine Below.drew ?_) | (with_reducible refine below_drewN _ ?_))

end Go.Proofs.Ytjaggclfacbkbaa

/-! NC -/
namespace Go.Proofs.Ytjaggclfacbkbaa
open Go.RowKit

def tenN (a : Nat) (d : Int) : Nat := (a * 10 + d.toNat) % 340282366920938463463374607431768211456
def tenC (a : Nat) (d : Int) : Int := ((a * 10 + d.toNat) / 340282366920938463463374607431768211456 : Nat)
theorem tenfold_eq (a : Nat) (d : Int) (hd : 0 ≤ d ∧ d ≤ 9) (ha : isN a) :
    (pt a 0 * 10 + d) % 4294967296 = pt (tenN a d) 0 ∧ (pt a 1 * 10 + (pt a 0 * 10 + d) / 4294967296) % 4294967296 = pt (tenN a d) 1 ∧ (pt a 2 * 10 + (pt a 1 * 10 + (pt a 0 * 10 + d) / 4294967296) / 4294967296) % 4294967296 = pt (tenN a d) 2 ∧ (pt a 3 * 10 + (pt a 2 * 10 + (pt a 1 * 10 + (pt a 0 * 10 + d) / 4294967296) / 4294967296) / 4294967296) % 4294967296 = pt (tenN a d) 3 ∧ (pt a 3 * 10 + (pt a 2 * 10 + (pt a 1 * 10 + (pt a 0 * 10 + d) / 4294967296) / 4294967296) / 4294967296) / 4294967296 = tenC a d := by
  have a0 := pt_bd a 0
  have a1 := pt_bd a 1
  have a2 := pt_bd a 2
  have a3 := pt_bd a 3
  obtain ⟨k, rfl⟩ := Int.eq_ofNat_of_zero_le hd.1
  exact tenfold_fin a k ha _ _ _ _ ((pt a 0 * 10 + k) / 4294967296) ((pt a 1 * 10 + (pt a 0 * 10 + k) / 4294967296) / 4294967296) ((pt a 2 * 10 + (pt a 1 * 10 + (pt a 0 * 10 + k) / 4294967296) / 4294967296) / 4294967296) _ (by omega) (by omega) (by omega) (by omega) (by omega) (by omega) (by omega) (by omega)
set_option maxHeartbeats 2000000 in
theorem tenfold_calls (a : Nat) (d : Int) (hd : 0 ≤ d ∧ d ≤ 9) (ha : isN a) (w : World) :
    Calls Try.prog 50 #[.agg #[.int .u32 (pt a 0), .int .u32 (pt a 1), .int .u32 (pt a 2), .int .u32 (pt a 3)], .int .u32 d] w fun e w' => e = .returned (.tuple #[.agg #[.int .u32 (pt (tenN a d) 0), .int .u32 (pt (tenN a d) 1), .int .u32 (pt (tenN a d) 2), .int .u32 (pt (tenN a d) 3)], .int .u32 (tenC a d)]) ∧ Below w.heap.size w w' := by
  have a0 := pt_bd a 0
  have a1 := pt_bd a 1
  have a2 := pt_bd a 2
  have a3 := pt_bd a 3
  have F := Lib.hid (tenfold_eq a d hd ha)
  go_enter Try.func50, Try.ntmps50
  go_wp2
  refine wp_loop_rounds 5 ?_
  rw [rounds_succ]
  go_wp2
  rw [rounds_succ]
  go_wp2
  rw [rounds_succ]
  go_wp2
  rw [rounds_succ]
  go_wp2
  rw [rounds_succ]
  go_wp2
  obtain ⟨F0, F1, F2, F3, F4⟩ := F.out
  refine bodyPost_ret (by simp [results, Try.results50, go_sem, F0, F1, F2, F3, F4]) rfl ⟨rfl, ?_⟩
  repeat (first | (with_reducible exact Below.refl _ _) | ((with_reducible refine below_grow ?_ ?_); rotate_left; focus (first | omega | (simp [go_sem]; done) | (simp [go_sem]; omega))) | ((with_reducible refine Below.alloc ?_ ?_ _); rotate_left; focus (first | omega | (simp [go_sem]; done) | (simp [go_sem]; omega))) | ((with_reducible refine Below.setCell ?_ ?_ _); rotate_left; focus (first | omega | (simp [go_sem]; done) | (simp [go_sem]; omega))) | (with_reducible refine Below.drew ?_) | (with_reducible refine below_drewN _ ?_))

theorem div32_ex (x y : Int) (hx : 0 ≤ x ∧ x ≤ 9) (hy : 0 ≤ y ∧ y ≤ 4294967295) (w : World) :
    Calls Try.prog 68 #[.int .u32 x, .int .u32 y, .int .u32 10] w fun e w' => ∃ s d : Int, (0 ≤ s ∧ s ≤ 4294967295) ∧ (0 ≤ d ∧ d ≤ 9) ∧ Hid (s * 10 + d = y + 4294967296 * x) ∧ e = .returned (.tuple #[.int .u32 s, .int .u32 d]) ∧ ∃ n, w.drewN n = w' :=
  (div32_calls x y hx hy w).mono fun e w' ⟨he, hw⟩ => ⟨_, _, by omega, by omega, Lib.hid (by omega), he, hw⟩
set_option maxHeartbeats 2000000 in
theorem tenth_calls (a : Nat) (ha : isN a) (w : World) :
    Calls Try.prog 47 #[.agg #[.int .u32 (pt a 0), .int .u32 (pt a 1), .int .u32 (pt a 2), .int .u32 (pt a 3)]] w fun e w' => e = .returned (.tuple #[.agg #[.int .u32 (pt (a / 10) 0), .int .u32 (pt (a / 10) 1), .int .u32 (pt (a / 10) 2), .int .u32 (pt (a / 10) 3)], .int .u32 ((a % 10 : Nat) : Int)]) ∧ Below w.heap.size w w' := by
  have a0 := pt_bd a 0
  have a1 := pt_bd a 1
  have a2 := pt_bd a 2
  have a3 := pt_bd a 3
  go_enter Try.func47, Try.ntmps47
  go_wp2
  refine wp_loop_rounds 5 ?_
  rw [rounds_succ]
  go_wp2_with (first | (go_at_call 68; refine (div32_ex _ _ (by omega) (by omega) _).mono ?_; rintro e w0 ⟨s3, c4, hs3, hc4, E3, rfl, n3, rfl⟩))
  rw [rounds_succ]
  go_wp2_with (first | (go_at_call 68; refine (div32_ex _ _ (by omega) (by omega) _).mono ?_; rintro e w0 ⟨s2, c3, hs2, hc3, E2, rfl, n2, rfl⟩))
  rw [rounds_succ]
  go_wp2_with (first | (go_at_call 68; refine (div32_ex _ _ (by omega) (by omega) _).mono ?_; rintro e w0 ⟨s1, c2, hs1, hc2, E1, rfl, n1, rfl⟩))
  rw [rounds_succ]
  go_wp2_with (first | (go_at_call 68; refine (div32_ex _ _ (by omega) (by omega) _).mono ?_; rintro e w0 ⟨s0, c1, hs0, hc1, E0, rfl, n0, rfl⟩))
  rw [rounds_succ]
  go_wp2
  have F := tenth_fin a ha s0 s1 s2 s3 c1 c2 c3 c4 hs0 hs1 hs2 hs3 hc1 (by have := E3.out; omega) (by have := E2.out; omega) (by have := E1.out; omega) (by have := E0.out; omega)
  obtain ⟨F0, F1, F2, F3, F4⟩ := F
  clear E0 E1 E2 E3 hs0 hs1 hs2 hs3 hc1 hc2 hc3 hc4
  subst F0 F1 F2 F3 F4
  refine bodyPost_ret (by simp [results, Try.results47, go_sem]) rfl ⟨rfl, ?_⟩
  repeat (first | (with_reducible exact Below.refl _ _) | ((with_reducible refine below_grow ?_ ?_); rotate_left; focus (first | omega | (simp [go_sem]; done) | (simp [go_sem]; omega))) | ((with_reducible refine Below.alloc ?_ ?_ _); rotate_left; focus (first | omega | (simp [go_sem]; done) | (simp [go_sem]; omega))) | ((with_reducible refine Below.setCell ?_ ?_ _); rotate_left; focus (first | omega | (simp [go_sem]; done) | (simp [go_sem]; omega))) | (with_reducible refine Below.drew ?_) | (with_reducible refine below_drewN _ ?_))



end Go.Proofs.Ytjaggclfacbkbaa

/-! ND -/
namespace Go.Proofs.Ytjaggclfacbkbaa
open Go.RowKit

theorem top_pt (a i : Nat) (h : a < 4294967296 ^ (i + 1)) : ((a / 2 ^ (32 * i) : Nat) : Int) = pt a i := by
  unfold pt
  have e : 2 ^ (32 * i) = 4294967296 ^ i := by rw [Nat.pow_mul]
  rw [e, Nat.mod_eq_of_lt]
  rw [Nat.div_lt_iff_lt_mul (Nat.pow_pos (by decide)), Nat.mul_comm, ← Nat.pow_succ]; exact h
theorem len_top (a i : Nat) (h : a < 4294967296 ^ (i + 1)) (hp : 1 ≤ pt a i) (s : Int) (hs : lenP (pt a i) s) (hi : i ≤ 3) : ∃ L : Nat, 32 * (i : Int) + s = L ∧ isLen a L ∧ L ≤ 128 := by
  obtain ⟨n, L, h1, rfl, h3, h4⟩ := hs
  have e := top_pt a i h
  rw [h1] at e hp
  have e' : a / 2 ^ (32 * i) = n := by exact_mod_cast e
  refine ⟨32 * i + L, by omega, isLen_shift a (32 * i) L (by rw [e']; exact h3) (by rw [e']; omega), by omega⟩
theorem lows (a : Nat) (ha : isN a) : a < 4294967296 ^ (3 + 1) ∧ (pt a 3 = 0 → a < 4294967296 ^ (2 + 1)) ∧ (pt a 3 = 0 → pt a 2 = 0 → a < 4294967296 ^ (1 + 1)) ∧ (pt a 3 = 0 → pt a 2 = 0 → pt a 1 = 0 → a < 4294967296 ^ (0 + 1)) ∧ (pt a 3 = 0 → pt a 2 = 0 → pt a 1 = 0 → pt a 0 = 0 → a = 0) := by
  have a0 := pt_bd a 0
  have a1 := pt_bd a 1
  have a2 := pt_bd a 2
  have a3 := pt_bd a 3
  have s := pt_sum a ha
  have ha' : a < 340282366920938463463374607431768211456 := ha
  refine ⟨ha', fun _ => ?_, fun _ _ => ?_, fun _ _ _ => ?_, fun _ _ _ _ => ?_⟩
  · rw [show (4294967296 : Nat) ^ (2 + 1) = 79228162514264337593543950336 from by decide]; omega
  · rw [show (4294967296 : Nat) ^ (1 + 1) = 18446744073709551616 from by decide]; omega
  · rw [show (4294967296 : Nat) ^ (0 + 1) = 4294967296 from by decide]; omega
  · omega
/-- How many bits. -/
def LenPostN (a : Nat) (w : World) (e : Ending) (w' : World) : Prop := ∃ L : Nat, e = .returned (.int .i64 L) ∧ isLen a L ∧ L ≤ 128 ∧ Below w.heap.size w w'
set_option maxHeartbeats 2000000 in
theorem length_calls (a : Nat) (ha : isN a) (w : World) :
    Calls Try.prog 63 #[.agg #[.int .u32 (pt a 0), .int .u32 (pt a 1), .int .u32 (pt a 2), .int .u32 (pt a 3)]] w (LenPostN a w) := by
  have a0 := pt_bd a 0
  have a1 := pt_bd a 1
  have a2 := pt_bd a 2
  have a3 := pt_bd a 3
  obtain ⟨l3, l2, l1, l0, lz⟩ := lows a ha
  have G3 := fun hp s hs => len_top a 3 l3 hp s hs (by decide)
  by_cases z3 : pt a 3 = 0
  rotate_left
  · have G := Lib.hid (G3 (by omega))
    clear l3 l2 l1 l0 lz G3
    have p3 : 1 ≤ pt a 3 := by omega
    clear z3
    go_enter Try.func63, Try.ntmps63
    go_wp2
    refine wp_loop_rounds 5 ?_
    rw [rounds_succ]
    go_wp2_with (first | (go_at_call 71; refine (len32_calls _ a3 _).mono ?_; rintro e w0 ⟨s, rfl, hs, rfl⟩; obtain ⟨L, hL, hl, hm⟩ := G.out s hs))
    go_ret
    exact ⟨L, ret_int (by omega), hl, hm, by repeat (first | (with_reducible exact Below.refl _ _) | ((with_reducible refine below_grow ?_ ?_); rotate_left; focus (first | omega | (simp [go_sem]; done) | (simp [go_sem]; omega))) | ((with_reducible refine Below.alloc ?_ ?_ _); rotate_left; focus (first | omega | (simp [go_sem]; done) | (simp [go_sem]; omega))) | ((with_reducible refine Below.setCell ?_ ?_ _); rotate_left; focus (first | omega | (simp [go_sem]; done) | (simp [go_sem]; omega))) | (with_reducible refine Below.drew ?_) | (with_reducible refine below_drewN _ ?_))⟩
  have G2 := fun hp s hs => len_top a 2 (l2 z3) hp s hs (by decide)
  by_cases z2 : pt a 2 = 0
  rotate_left
  · have G := Lib.hid (G2 (by omega))
    clear l3 l2 l1 l0 lz G3 G2
    have p2 : 1 ≤ pt a 2 := by omega
    clear z2
    go_enter Try.func63, Try.ntmps63
    go_wp2
    refine wp_loop_rounds 5 ?_
    rw [rounds_succ]
    go_wp2
    rw [rounds_succ]
    go_wp2_with (first | (go_at_call 71; refine (len32_calls _ a2 _).mono ?_; rintro e w0 ⟨s, rfl, hs, rfl⟩; obtain ⟨L, hL, hl, hm⟩ := G.out s hs))
    go_ret
    exact ⟨L, ret_int (by omega), hl, hm, by repeat (first | (with_reducible exact Below.refl _ _) | ((with_reducible refine below_grow ?_ ?_); rotate_left; focus (first | omega | (simp [go_sem]; done) | (simp [go_sem]; omega))) | ((with_reducible refine Below.alloc ?_ ?_ _); rotate_left; focus (first | omega | (simp [go_sem]; done) | (simp [go_sem]; omega))) | ((with_reducible refine Below.setCell ?_ ?_ _); rotate_left; focus (first | omega | (simp [go_sem]; done) | (simp [go_sem]; omega))) | (with_reducible refine Below.drew ?_) | (with_reducible refine below_drewN _ ?_))⟩
  have G1 := fun hp s hs => len_top a 1 (l1 z3 z2) hp s hs (by decide)
  by_cases z1 : pt a 1 = 0
  rotate_left
  · have G := Lib.hid (G1 (by omega))
    clear l3 l2 l1 l0 lz G3 G2 G1
    have p1 : 1 ≤ pt a 1 := by omega
    clear z1
    go_enter Try.func63, Try.ntmps63
    go_wp2
    refine wp_loop_rounds 5 ?_
    rw [rounds_succ]
    go_wp2
    rw [rounds_succ]
    go_wp2
    rw [rounds_succ]
    go_wp2_with (first | (go_at_call 71; refine (len32_calls _ a1 _).mono ?_; rintro e w0 ⟨s, rfl, hs, rfl⟩; obtain ⟨L, hL, hl, hm⟩ := G.out s hs))
    go_ret
    exact ⟨L, ret_int (by omega), hl, hm, by repeat (first | (with_reducible exact Below.refl _ _) | ((with_reducible refine below_grow ?_ ?_); rotate_left; focus (first | omega | (simp [go_sem]; done) | (simp [go_sem]; omega))) | ((with_reducible refine Below.alloc ?_ ?_ _); rotate_left; focus (first | omega | (simp [go_sem]; done) | (simp [go_sem]; omega))) | ((with_reducible refine Below.setCell ?_ ?_ _); rotate_left; focus (first | omega | (simp [go_sem]; done) | (simp [go_sem]; omega))) | (with_reducible refine Below.drew ?_) | (with_reducible refine below_drewN _ ?_))⟩
  have G0 := fun hp s hs => len_top a 0 (l0 z3 z2 z1) hp s hs (by decide)
  by_cases z0 : pt a 0 = 0
  rotate_left
  · have G := Lib.hid (G0 (by omega))
    clear l3 l2 l1 l0 lz G3 G2 G1 G0
    have p0 : 1 ≤ pt a 0 := by omega
    clear z0
    go_enter Try.func63, Try.ntmps63
    go_wp2
    refine wp_loop_rounds 5 ?_
    rw [rounds_succ]
    go_wp2
    rw [rounds_succ]
    go_wp2
    rw [rounds_succ]
    go_wp2
    rw [rounds_succ]
    go_wp2_with (first | (go_at_call 71; refine (len32_calls _ a0 _).mono ?_; rintro e w0 ⟨s, rfl, hs, rfl⟩; obtain ⟨L, hL, hl, hm⟩ := G.out s hs))
    go_ret
    exact ⟨L, ret_int (by omega), hl, hm, by repeat (first | (with_reducible exact Below.refl _ _) | ((with_reducible refine below_grow ?_ ?_); rotate_left; focus (first | omega | (simp [go_sem]; done) | (simp [go_sem]; omega))) | ((with_reducible refine Below.alloc ?_ ?_ _); rotate_left; focus (first | omega | (simp [go_sem]; done) | (simp [go_sem]; omega))) | ((with_reducible refine Below.setCell ?_ ?_ _); rotate_left; focus (first | omega | (simp [go_sem]; done) | (simp [go_sem]; omega))) | (with_reducible refine Below.drew ?_) | (with_reducible refine below_drewN _ ?_))⟩
  · clear l3 l2 l1 l0 G3 G2 G1 G0
    have hz := Lib.hid (lz z3 z2 z1 z0)
    clear lz
    go_enter Try.func63, Try.ntmps63
    go_wp2
    refine wp_loop_rounds 5 ?_
    rw [rounds_succ]
    go_wp2
    rw [rounds_succ]
    go_wp2
    rw [rounds_succ]
    go_wp2
    rw [rounds_succ]
    go_wp2
    rw [rounds_succ]
    go_wp2
    go_ret
    exact ⟨0, rfl, by rw [hz.out]; decide, by decide, by repeat (first | (with_reducible exact Below.refl _ _) | ((with_reducible refine below_grow ?_ ?_); rotate_left; focus (first | omega | (simp [go_sem]; done) | (simp [go_sem]; omega))) | ((with_reducible refine Below.alloc ?_ ?_ _); rotate_left; focus (first | omega | (simp [go_sem]; done) | (simp [go_sem]; omega))) | ((with_reducible refine Below.setCell ?_ ?_ _); rotate_left; focus (first | omega | (simp [go_sem]; done) | (simp [go_sem]; omega))) | (with_reducible refine Below.drew ?_) | (with_reducible refine below_drewN _ ?_))⟩
end Go.Proofs.Ytjaggclfacbkbaa

/-! NE -/
namespace Go.Proofs.Ytjaggclfacbkbaa
open Go.RowKit

theorem orN (X Y : Nat) (hX : X < 4294967296) (hY : Y < 4294967296) : bits .or .u32 (X : Int) (Y : Int) = ((X ||| Y : Nat) : Int) :=
  (bits_nat .u32 32 (by decide) (fun n h0 h1 => by rw [IntKind.wrap_u32]; omega) X Y (by omega) (by omega)).2
theorem sh_at (a q : Nat) (n r : Int) (hr0 : 0 ≤ r) (hn : n = 32 * q + r) : bits .or .u32 (pt a 0 * 2 ^ r.toNat % 4294967296) 0 = pt (a * 2 ^ n.toNat) q := by
  obtain ⟨r, rfl⟩ := Int.eq_ofNat_of_zero_le hr0
  have en : n.toNat = 32 * q + r := by omega
  rw [en]
  unfold pt
  rw [shift_at, Nat.pow_zero, Nat.div_one]
  have hA : a % 4294967296 < 4294967296 := Nat.mod_lt _ (by decide)
  generalize a % 4294967296 = A at *
  have e : (A : Int) * 2 ^ (r : Int).toNat % 4294967296 = ((A * 2 ^ r % 4294967296 : Nat) : Int) := by
    rw [Int.natCast_emod, Int.natCast_mul, Int.natCast_pow]; rfl
  rw [e]
  have := orN (A * 2 ^ r % 4294967296) 0 (Nat.mod_lt _ (by decide)) (by decide)
  rw [Nat.or_zero] at this
  exact this
theorem sh_hi (a q m : Nat) (n r : Int) (hr0 : 0 ≤ r) (hr1 : r < 32) (hn : n = 32 * q + r) : bits .or .u32 (pt a (m + 1) * 2 ^ r.toNat % 4294967296) (pt a m / 2 ^ (32 - r).toNat) = pt (a * 2 ^ n.toNat) (q + (m + 1)) := by
  obtain ⟨r, rfl⟩ := Int.eq_ofNat_of_zero_le hr0
  have en : n.toNat = 32 * q + r := by omega
  have es : (32 - (r : Int)).toNat = 32 - r := by omega
  rw [en, es]
  unfold pt
  rw [shift_hi a q r m (by omega)]
  generalize a / 4294967296 ^ (m + 1) % 4294967296 = A1
  have hA : a / 4294967296 ^ m % 4294967296 < 4294967296 := Nat.mod_lt _ (by decide)
  generalize a / 4294967296 ^ m % 4294967296 = A0 at *
  have e : (A1 : Int) * 2 ^ (r : Int).toNat % 4294967296 = ((A1 * 2 ^ r % 4294967296 : Nat) : Int) := by
    rw [Int.natCast_emod, Int.natCast_mul, Int.natCast_pow]; rfl
  have e2 : (A0 : Int) / 2 ^ (32 - r) = ((A0 / 2 ^ (32 - r) : Nat) : Int) := by
    rw [Int.natCast_ediv, Int.natCast_pow]; rfl
  rw [e, e2]
  have e32 : (4294967296 : Nat) = 2 ^ r * 2 ^ (32 - r) := by rw [← Nat.pow_add, show r + (32 - r) = 32 from by omega]
  have hq : A0 / 2 ^ (32 - r) < 2 ^ r := by
    rw [Nat.div_lt_iff_lt_mul (Nat.pow_pos (by decide)), ← e32]; exact hA
  have hX : A1 * 2 ^ r % 4294967296 = 2 ^ r * (A1 % 2 ^ (32 - r)) := by
    conv => lhs; rhs; rw [e32]
    rw [Nat.mul_comm A1, Nat.mul_mod_mul_left]
  have hlt : A1 * 2 ^ r % 4294967296 < 4294967296 := Nat.mod_lt _ (by decide)
  have hY : A0 / 2 ^ (32 - r) < 4294967296 := Nat.lt_of_le_of_lt (Nat.div_le_self _ _) hA
  rw [orN _ _ hlt hY, hX, Nat.two_pow_add_eq_or_of_lt hq]
theorem sh_lo (a q i : Nat) (n r : Int) (hr0 : 0 ≤ r) (hn : n = 32 * q + r) (h : i < q) : 0 = pt (a * 2 ^ n.toNat) i := by
  have en : n.toNat = 32 * q + r.toNat := by omega
  rw [en]
  unfold pt
  rw [shift_lo _ _ _ _ h]
  rfl
set_option maxHeartbeats 2000000 in
theorem shifted0 (a : Nat) (n r : Int) (hn : 0 ≤ n ∧ n ≤ 127) (hr0 : 0 ≤ r) (hr1 : r < 32) (h1 : n / 32 = 0) (h2 : n % 32 = r) (w : World) :
    Calls Try.prog 64 #[.agg #[.int .u32 (pt a 0), .int .u32 (pt a 1), .int .u32 (pt a 2), .int .u32 (pt a 3)], .int .i64 n] w fun e w' => e = .returned (.agg #[.int .u32 (pt (a * 2 ^ n.toNat) 0), .int .u32 (pt (a * 2 ^ n.toNat) 1), .int .u32 (pt (a * 2 ^ n.toNat) 2), .int .u32 (pt (a * 2 ^ n.toNat) 3)]) ∧ Below w.heap.size w w' := by
  have a0 := pt_bd a 0
  have a1 := pt_bd a 1
  have a2 := pt_bd a 2
  have a3 := pt_bd a 3
  have F := Lib.hid (sh_at a 0 n r hr0 (by omega))
  have H0 := Lib.hid (sh_hi a 0 0 n r hr0 hr1 (by omega))
  have H1 := Lib.hid (sh_hi a 0 1 n r hr0 hr1 (by omega))
  have H2 := Lib.hid (sh_hi a 0 2 n r hr0 hr1 (by omega))
  have k1 : n.tmod 32 = r := by rw [Int.tmod_eq_emod_of_nonneg hn.1]; exact h2
  have k2 : r ≤ 32 := by omega
  have k3 : IntKind.i64.wrap (32 - r) = 32 - r := IntWalk.i64_in _ (by omega)
  have k4 : 0 ≤ 32 - r := by omega
  have k5 : 32 - r ≤ 32 := by omega
  go_enter Try.func64, Try.ntmps64
  go_wp2
  refine wp_loop_rounds 5 ?_
  rw [rounds_succ]
  go_wp2
  go_region_held3 (fun w' => True) (trivial) (fail)
  go_wp2
  rw [rounds_succ]
  go_wp2
  go_region_held3 (fun w' => True) (trivial) (fail)
  go_wp2
  rw [rounds_succ]
  go_wp2
  go_region_held3 (fun w' => True) (trivial) (fail)
  go_wp2
  rw [rounds_succ]
  go_wp2
  go_region_held3 (fun w' => True) (trivial) (fail)
  go_wp2
  rw [rounds_succ]
  go_wp2
  have F := F.out
  have H0 := H0.out
  have H1 := H1.out
  have H2 := H2.out
  try simp only [Nat.reduceAdd, Nat.zero_add] at F H0 H1 H2
  refine bodyPost_ret (by simp [results, Try.results64, go_sem, F, H0, H1, H2]) rfl ⟨rfl, ?_⟩
  repeat (first | (with_reducible exact Below.refl _ _) | ((with_reducible refine below_grow ?_ ?_); rotate_left; focus (first | omega | (simp [go_sem]; done) | (simp [go_sem]; omega))) | ((with_reducible refine Below.alloc ?_ ?_ _); rotate_left; focus (first | omega | (simp [go_sem]; done) | (simp [go_sem]; omega))) | ((with_reducible refine Below.setCell ?_ ?_ _); rotate_left; focus (first | omega | (simp [go_sem]; done) | (simp [go_sem]; omega))) | (with_reducible refine Below.drew ?_) | (with_reducible refine below_drewN _ ?_))

set_option maxHeartbeats 2000000 in
theorem shifted1 (a : Nat) (n r : Int) (hn : 0 ≤ n ∧ n ≤ 127) (hr0 : 0 ≤ r) (hr1 : r < 32) (h1 : n / 32 = 1) (h2 : n % 32 = r) (w : World) :
    Calls Try.prog 64 #[.agg #[.int .u32 (pt a 0), .int .u32 (pt a 1), .int .u32 (pt a 2), .int .u32 (pt a 3)], .int .i64 n] w fun e w' => e = .returned (.agg #[.int .u32 (pt (a * 2 ^ n.toNat) 0), .int .u32 (pt (a * 2 ^ n.toNat) 1), .int .u32 (pt (a * 2 ^ n.toNat) 2), .int .u32 (pt (a * 2 ^ n.toNat) 3)]) ∧ Below w.heap.size w w' := by
  have a0 := pt_bd a 0
  have a1 := pt_bd a 1
  have a2 := pt_bd a 2
  have a3 := pt_bd a 3
  have F := Lib.hid (sh_at a 1 n r hr0 (by omega))
  have L0 := Lib.hid (sh_lo a 1 0 n r hr0 (by omega) (by decide))
  have H0 := Lib.hid (sh_hi a 1 0 n r hr0 hr1 (by omega))
  have H1 := Lib.hid (sh_hi a 1 1 n r hr0 hr1 (by omega))
  have k1 : n.tmod 32 = r := by rw [Int.tmod_eq_emod_of_nonneg hn.1]; exact h2
  have k2 : r ≤ 32 := by omega
  have k3 : IntKind.i64.wrap (32 - r) = 32 - r := IntWalk.i64_in _ (by omega)
  have k4 : 0 ≤ 32 - r := by omega
  have k5 : 32 - r ≤ 32 := by omega
  go_enter Try.func64, Try.ntmps64
  go_wp2
  refine wp_loop_rounds 5 ?_
  rw [rounds_succ]
  go_wp2
  go_region_held3 (fun w' => True) (trivial) (fail)
  go_wp2
  rw [rounds_succ]
  go_wp2
  go_region_held3 (fun w' => True) (trivial) (fail)
  go_wp2
  rw [rounds_succ]
  go_wp2
  go_region_held3 (fun w' => True) (trivial) (fail)
  go_wp2
  rw [rounds_succ]
  go_wp2
  have L0 := L0.out
  have F := F.out
  have H0 := H0.out
  have H1 := H1.out
  try simp only [Nat.reduceAdd, Nat.zero_add] at F H0 H1 L0
  refine bodyPost_ret (by simp [results, Try.results64, go_sem, F, H0, H1, ← L0]) rfl ⟨rfl, ?_⟩
  repeat (first | (with_reducible exact Below.refl _ _) | ((with_reducible refine below_grow ?_ ?_); rotate_left; focus (first | omega | (simp [go_sem]; done) | (simp [go_sem]; omega))) | ((with_reducible refine Below.alloc ?_ ?_ _); rotate_left; focus (first | omega | (simp [go_sem]; done) | (simp [go_sem]; omega))) | ((with_reducible refine Below.setCell ?_ ?_ _); rotate_left; focus (first | omega | (simp [go_sem]; done) | (simp [go_sem]; omega))) | (with_reducible refine Below.drew ?_) | (with_reducible refine below_drewN _ ?_))

set_option maxHeartbeats 2000000 in
theorem shifted2 (a : Nat) (n r : Int) (hn : 0 ≤ n ∧ n ≤ 127) (hr0 : 0 ≤ r) (hr1 : r < 32) (h1 : n / 32 = 2) (h2 : n % 32 = r) (w : World) :
    Calls Try.prog 64 #[.agg #[.int .u32 (pt a 0), .int .u32 (pt a 1), .int .u32 (pt a 2), .int .u32 (pt a 3)], .int .i64 n] w fun e w' => e = .returned (.agg #[.int .u32 (pt (a * 2 ^ n.toNat) 0), .int .u32 (pt (a * 2 ^ n.toNat) 1), .int .u32 (pt (a * 2 ^ n.toNat) 2), .int .u32 (pt (a * 2 ^ n.toNat) 3)]) ∧ Below w.heap.size w w' := by
  have a0 := pt_bd a 0
  have a1 := pt_bd a 1
  have a2 := pt_bd a 2
  have a3 := pt_bd a 3
  have F := Lib.hid (sh_at a 2 n r hr0 (by omega))
  have L0 := Lib.hid (sh_lo a 2 0 n r hr0 (by omega) (by decide))
  have L1 := Lib.hid (sh_lo a 2 1 n r hr0 (by omega) (by decide))
  have H0 := Lib.hid (sh_hi a 2 0 n r hr0 hr1 (by omega))
  have k1 : n.tmod 32 = r := by rw [Int.tmod_eq_emod_of_nonneg hn.1]; exact h2
  have k2 : r ≤ 32 := by omega
  have k3 : IntKind.i64.wrap (32 - r) = 32 - r := IntWalk.i64_in _ (by omega)
  have k4 : 0 ≤ 32 - r := by omega
  have k5 : 32 - r ≤ 32 := by omega
  go_enter Try.func64, Try.ntmps64
  go_wp2
  refine wp_loop_rounds 5 ?_
  rw [rounds_succ]
  go_wp2
  go_region_held3 (fun w' => True) (trivial) (fail)
  go_wp2
  rw [rounds_succ]
  go_wp2
  go_region_held3 (fun w' => True) (trivial) (fail)
  go_wp2
  rw [rounds_succ]
  go_wp2
  have L0 := L0.out
  have L1 := L1.out
  have F := F.out
  have H0 := H0.out
  try simp only [Nat.reduceAdd, Nat.zero_add] at F H0 L0 L1
  refine bodyPost_ret (by simp [results, Try.results64, go_sem, F, H0, ← L0, ← L1]) rfl ⟨rfl, ?_⟩
  repeat (first | (with_reducible exact Below.refl _ _) | ((with_reducible refine below_grow ?_ ?_); rotate_left; focus (first | omega | (simp [go_sem]; done) | (simp [go_sem]; omega))) | ((with_reducible refine Below.alloc ?_ ?_ _); rotate_left; focus (first | omega | (simp [go_sem]; done) | (simp [go_sem]; omega))) | ((with_reducible refine Below.setCell ?_ ?_ _); rotate_left; focus (first | omega | (simp [go_sem]; done) | (simp [go_sem]; omega))) | (with_reducible refine Below.drew ?_) | (with_reducible refine below_drewN _ ?_))

set_option maxHeartbeats 2000000 in
theorem shifted3 (a : Nat) (n r : Int) (hn : 0 ≤ n ∧ n ≤ 127) (hr0 : 0 ≤ r) (_ : r < 32) (h1 : n / 32 = 3) (h2 : n % 32 = r) (w : World) :
    Calls Try.prog 64 #[.agg #[.int .u32 (pt a 0), .int .u32 (pt a 1), .int .u32 (pt a 2), .int .u32 (pt a 3)], .int .i64 n] w fun e w' => e = .returned (.agg #[.int .u32 (pt (a * 2 ^ n.toNat) 0), .int .u32 (pt (a * 2 ^ n.toNat) 1), .int .u32 (pt (a * 2 ^ n.toNat) 2), .int .u32 (pt (a * 2 ^ n.toNat) 3)]) ∧ Below w.heap.size w w' := by
  have a0 := pt_bd a 0
  have a1 := pt_bd a 1
  have a2 := pt_bd a 2
  have a3 := pt_bd a 3
  have F := Lib.hid (sh_at a 3 n r hr0 (by omega))
  have L0 := Lib.hid (sh_lo a 3 0 n r hr0 (by omega) (by decide))
  have L1 := Lib.hid (sh_lo a 3 1 n r hr0 (by omega) (by decide))
  have L2 := Lib.hid (sh_lo a 3 2 n r hr0 (by omega) (by decide))
  have k1 : n.tmod 32 = r := by rw [Int.tmod_eq_emod_of_nonneg hn.1]; exact h2
  have k2 : r ≤ 32 := by omega
  have k3 : IntKind.i64.wrap (32 - r) = 32 - r := IntWalk.i64_in _ (by omega)
  have k4 : 0 ≤ 32 - r := by omega
  have k5 : 32 - r ≤ 32 := by omega
  go_enter Try.func64, Try.ntmps64
  go_wp2
  refine wp_loop_rounds 5 ?_
  rw [rounds_succ]
  go_wp2
  go_region_held3 (fun w' => True) (trivial) (fail)
  go_wp2
  rw [rounds_succ]
  go_wp2
  have L0 := L0.out
  have L1 := L1.out
  have L2 := L2.out
  have F := F.out
  try simp only [Nat.reduceAdd, Nat.zero_add] at F L0 L1 L2
  refine bodyPost_ret (by simp [results, Try.results64, go_sem, F, ← L0, ← L1, ← L2]) rfl ⟨rfl, ?_⟩
  repeat (first | (with_reducible exact Below.refl _ _) | ((with_reducible refine below_grow ?_ ?_); rotate_left; focus (first | omega | (simp [go_sem]; done) | (simp [go_sem]; omega))) | ((with_reducible refine Below.alloc ?_ ?_ _); rotate_left; focus (first | omega | (simp [go_sem]; done) | (simp [go_sem]; omega))) | ((with_reducible refine Below.setCell ?_ ?_ _); rotate_left; focus (first | omega | (simp [go_sem]; done) | (simp [go_sem]; omega))) | (with_reducible refine Below.drew ?_) | (with_reducible refine below_drewN _ ?_))

theorem shifted_calls (a : Nat) (n : Int) (hn : 0 ≤ n ∧ n ≤ 127) (w : World) :
    Calls Try.prog 64 #[.agg #[.int .u32 (pt a 0), .int .u32 (pt a 1), .int .u32 (pt a 2), .int .u32 (pt a 3)], .int .i64 n] w fun e w' => e = .returned (.agg #[.int .u32 (pt (a * 2 ^ n.toNat) 0), .int .u32 (pt (a * 2 ^ n.toNat) 1), .int .u32 (pt (a * 2 ^ n.toNat) 2), .int .u32 (pt (a * 2 ^ n.toNat) 3)]) ∧ Below w.heap.size w w' := by
  have h : n / 32 = 0 ∨ n / 32 = 1 ∨ n / 32 = 2 ∨ n / 32 = 3 := by omega
  rcases h with h | h | h | h
  · exact shifted0 a n (n % 32) hn (by omega) (by omega) h rfl w
  · exact shifted1 a n (n % 32) hn (by omega) (by omega) h rfl w
  · exact shifted2 a n (n % 32) hn (by omega) (by omega) h rfl w
  · exact shifted3 a n (n % 32) hn (by omega) (by omega) h rfl w
end Go.Proofs.Ytjaggclfacbkbaa
