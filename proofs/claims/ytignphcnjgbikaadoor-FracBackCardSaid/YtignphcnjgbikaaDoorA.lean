/- Walks of the small functions of frac. -/
import Derived.Test.YtignphcnjgbikaaDoorChecked
import Derived.Test.YtignphcnjgbikaaDoorShelf
import Derived.Shelf.Spec.BitsCarry
import Derived.Test.YtignphcnjgbikaaDoorG
import Derived.WalkKit
import Derived.WalkLawsBesides
import Derived.WalkSpells
import Derived.Deep.QuietTactic
import Derived.BigQuiet
import Derived.Deep.RegionHeld3
import Derived.Lib.Hide
import Derived.StillTailTactics
import Derived.Deep.RegionWith
namespace Go.Proofs.YtignphcnjgbikaaDoor
open Go.RowKit Go.Shelf

theorem ret_int {k : IntKind} {a b : Int} (h : a = b) : Ending.returned (.int k a) = .returned (.int k b) := by rw [h]
theorem u64w (x : Int) : IntKind.u64.wrap x = x % 18446744073709551616 := by
  simp [IntKind.wrap, IntKind.signed, IntKind.bits]
theorem u64div (n d : Nat) (hn : n < 18446744073709551616) : IntKind.u64.wrap ((n : Int) / d) = (n : Int) / d := by
  have h1 : (n : Int) / d = ((n / d : Nat) : Int) := by simp
  have h2 : n / d ≤ n := Nat.div_le_self n d
  rw [u64w, h1]
  generalize n / d = q at *
  omega
theorem bcell {W w1 : World} (hb : Below W.heap.size W w1) : (∀ b o, b < W.heap.size → w1.cell? ⟨b, o, none⟩ = W.cell? ⟨b, o, none⟩) ∧ (∀ b o, b < W.heap.size → w1.frozen? ⟨b, o, none⟩ = W.frozen? ⟨b, o, none⟩) :=
  ⟨fun b o h => hb.cell (p := ⟨b, o, none⟩) h, fun b o h => hb.frozen (p := ⟨b, o, none⟩) h⟩

def lays25_ren : Go.Shelf.Ren := ⟨fun | 25 => 82 | n => n, fun | 22 => 65 | n => n, fun | n => n⟩
theorem lays25 : Lays7.n25 Tryd.prog lays25_ren := {
  mixed := by kernel_rfl
  f25 := Tryd.func82.trans (congrArg some (by kernel_rfl))
  t22 := Tryd.underlying65
  a22 := Tryd.isAgg65
  z22 := Tryd.sizeOf65
  v22 := Tryd.zeroValue65
  i22 := by kernel_rfl }
def lays26_ren : Go.Shelf.Ren := ⟨fun | 26 => 83 | n => n, fun | 22 => 65 | n => n, fun | n => n⟩
theorem lays26 : Lays7.n26 Tryd.prog lays26_ren := {
  mixed := by kernel_rfl
  f26 := Tryd.func83.trans (congrArg some (by kernel_rfl))
  t22 := Tryd.underlying65
  a22 := Tryd.isAgg65
  z22 := Tryd.sizeOf65
  v22 := Tryd.zeroValue65
  i22 := by kernel_rfl }
theorem add64 (x y c : Int) (hx : 0 ≤ x) (hy : 0 ≤ y) (hc0 : 0 ≤ c) (hc : c ≤ 1) (w : World) : (callFunc 82 #[.int .u64 x, .int .u64 y, .int .u64 c]).run Tryd.prog w =
    .ok (.value (.tuple #[.int .u64 ((x + y + c) % 18446744073709551616), .int .u64 ((x + y + c) / 18446744073709551616)])) w := by
  obtain ⟨x, rfl⟩ := Int.eq_ofNat_of_zero_le hx
  obtain ⟨y, rfl⟩ := Int.eq_ofNat_of_zero_le hy
  obtain ⟨c, rfl⟩ := Int.eq_ofNat_of_zero_le hc0
  refine (Any7.bits_Add64 lays25 x y c (by omega) w).trans ?_
  congr 5 <;> omega
def bor (x y : Int) : Int := if x < y then 1 else 0
theorem bor_le (x y : Int) : 0 ≤ bor x y ∧ bor x y ≤ 1 := by unfold bor; split <;> decide
theorem sub64 (x y b : Int) (hx : 0 ≤ x) (hy : 0 ≤ y) (hy' : y < 18446744073709551616) (hb0 : 0 ≤ b) (hb : b ≤ 1) (w : World) : (callFunc 83 #[.int .u64 x, .int .u64 y, .int .u64 b]).run Tryd.prog w =
    .ok (.value (.tuple #[.int .u64 ((x - y - b) % 18446744073709551616), .int .u64 (bor x (y + b))])) w := by
  obtain ⟨x, rfl⟩ := Int.eq_ofNat_of_zero_le hx
  obtain ⟨y, rfl⟩ := Int.eq_ofNat_of_zero_le hy
  obtain ⟨b, rfl⟩ := Int.eq_ofNat_of_zero_le hb0
  have e1 : (((x + 18446744073709551616 - y - b) % 18446744073709551616 : Nat) : Int) = ((x : Int) - y - b) % 18446744073709551616 := by omega
  have e2 : ((if x < y + b then 1 else 0 : Nat) : Int) = bor (x : Int) (y + b) := by unfold bor; split <;> split <;> omega
  rw [← e1, ← e2]
  exact Any7.bits_Sub64 lays26 x y b (by omega) w
theorem add64_0 (x y : Int) (hx : 0 ≤ x) (hy : 0 ≤ y) (w : World) : (callFunc 82 #[.int .u64 x, .int .u64 y, .int .u64 0]).run Tryd.prog w =
    .ok (.value (.tuple #[.int .u64 ((x + y) % 18446744073709551616), .int .u64 ((x + y) / 18446744073709551616)])) w := by
  simpa using add64 x y 0 hx hy (Int.le_refl 0) (by decide) w
theorem sub64_0 (x y : Int) (hx : 0 ≤ x) (hy : 0 ≤ y) (hy' : y < 18446744073709551616) (w : World) : (callFunc 83 #[.int .u64 x, .int .u64 y, .int .u64 0]).run Tryd.prog w =
    .ok (.value (.tuple #[.int .u64 ((x - y) % 18446744073709551616), .int .u64 (bor x y)])) w := by
  simpa using sub64 x y 0 hx hy hy' (Int.le_refl 0) (by decide) w

/-- frac.size -/
theorem size_calls (n : Int) (w : World) (h1 : -9223372036854775808 ≤ n) (h2 : n ≤ 9223372036854775807) :
    Calls Tryd.prog 42 #[.int .i64 n] w fun e w' => e = .returned (.int .u64 (n.natAbs : Int)) ∧ w = w' := by
  by_cases h : n < 0
  · go_enter Tryd.func42, Tryd.ntmps42
    go_wp2
    go_ret
    exact ⟨ret_int (by simp only [u64w]; omega), rfl⟩
  · go_enter Tryd.func42, Tryd.ntmps42
    go_wp2
    go_ret
    exact ⟨ret_int (by omega), rfl⟩

/-- frac.signed -/
theorem signed_calls (neg : Bool) (n : Int) (w : World) (h1 : 0 ≤ n) (h2 : n ≤ 9223372036854775807 ∨ neg = true ∧ n = 9223372036854775808) :
    Calls Tryd.prog 46 #[.bool neg, .int .u64 n] w fun e w' => e = .returned (.int .i64 (if neg then -n else n)) ∧ w = w' := by
  cases neg
  · have h3 : n ≤ 9223372036854775807 := by simpa using h2
    clear h2
    go_enter Tryd.func46, Tryd.ntmps46
    go_wp2
    go_ret
    exact ⟨ret_int (by simp), rfl⟩
  · have h3 : n ≤ 9223372036854775808 := by rcases h2 with h | h <;> omega
    clear h2
    go_enter Tryd.func46, Tryd.ntmps46
    go_wp2
    go_ret
    exact ⟨ret_int (by simp only [u64w, wrap64, if_true]; omega), rfl⟩

theorem gcd_step (p q : Nat) : Nat.gcd q (p % q) = Nat.gcd p q := by
  rw [Nat.gcd_comm p q, Nat.gcd_rec q p, Nat.gcd_comm]

/-- frac.gcd -/
theorem gcd_calls (a b : Nat) (w : World) (ha : a < 18446744073709551616) (hb : b < 18446744073709551616) :
    Calls Tryd.prog 41 #[.int .u64 a, .int .u64 b] w fun e w' => e = .returned (.int .u64 (Nat.gcd a b : Nat)) ∧ ∃ n, w.drewN n = w' := by
  go_enter Tryd.func41, Tryd.ntmps41
  go_wp2
  go_loopw [0, 1] (fun x y wr => ∃ p q : Nat, p < 18446744073709551616 ∧ q < 18446744073709551616 ∧ Nat.gcd p q = Nat.gcd a b ∧ x = .int .u64 p ∧ y = .int .u64 q ∧ ∃ n, w.drewN n = wr) (fun _ y _ => (intOf y).toNat)
  case atStart => exact ⟨a, b, ha, hb, rfl, rfl, rfl, 0, rfl⟩
  case round =>
    obtain ⟨p, q, hp, hq, hg, rfl, rfl, n0, rfl⟩ := hrel
    have HG := Lib.hid hg
    clear hg
    by_cases hz : q = 0
    · subst hz
      go_wp2
      go_ret
      exact ⟨ret_int (by have := HG.out; simp at this; rw [this]), n0, rfl⟩
    · have hz1 : 0 < q := by omega
      go_wp2
      go_quiet (fail)
      go_wp2
      go_roundw
      case rel => exact ⟨q, p % q, hq, by have := Nat.mod_lt p hz1; omega, by rw [gcd_step]; exact HG.out, rfl, by go_num, n0 + nq, by simp⟩
      case measure => simp [intOf]; have := Nat.mod_lt p hz1; omega

/-- frac.product -/
theorem product_calls (x y : Nat) (hx : x < 18446744073709551616) (hy : y < 18446744073709551616) (w : World) :
    Calls Tryd.prog 59 #[.int .u64 x, .int .u64 y] w fun e w' => e = .returned (.agg #[.int .u64 ((x : Int) * y / 18446744073709551616), .int .u64 ((x : Int) * y % 18446744073709551616)]) ∧ Below w.heap.size w w' := by
  go_enter Tryd.func59, Tryd.ntmps59
  go_wp2_with (go_at_call 81; refine (Tryd.bits_Mul64 x y hx hy _).mono ?_; rintro e w' ⟨rfl, rfl⟩)
  refine bodyPost_ret (by simp [results, Tryd.results59, go_sem]) rfl ⟨rfl, ?_⟩
  repeat (first | exact Below.refl _ _ | refine Below.setCell ?_ (by first | (simp [go_sem]; done) | (simp [go_sem]; omega)) _ | refine Below.alloc ?_ (by first | (simp [go_sem]; done) | (simp [go_sem]; omega)) _ | refine Below.drew ?_ | refine below_drewN _ ?_ | refine below_grow ?_ (by first | (simp [go_sem]; done) | (simp [go_sem]; omega)))

/-- wide.plus -/
theorem wplus_calls (ah al bh bl : Int) (a1 : 0 ≤ ah) (a2 : 0 ≤ al) (b1 : 0 ≤ bh) (b2 : 0 ≤ bl) (a3 : ah < 18446744073709551616) (a4 : al < 18446744073709551616) (b3 : bh < 18446744073709551616) (b4 : bl < 18446744073709551616) (w : World) :
    Calls Tryd.prog 60 #[.agg #[.int .u64 ah, .int .u64 al], .agg #[.int .u64 bh, .int .u64 bl]] w fun e w' => e = .returned (.agg #[.int .u64 ((ah + bh + (al + bl) / 18446744073709551616) % 18446744073709551616), .int .u64 ((al + bl) % 18446744073709551616)]) ∧ Below w.heap.size w w' := by
  have k0 : 0 ≤ (al + bl) / 18446744073709551616 := by omega
  have k1 : (al + bl) / 18446744073709551616 ≤ 1 := by omega
  go_enter Tryd.func60, Tryd.ntmps60
  go_wp2_with (first | simp only [add64_0 al bl a2 b2] | simp only [add64 ah bh _ a1 b1 k0 k1])
  refine bodyPost_ret (by simp [results, Tryd.results60, go_sem]) rfl ⟨rfl, ?_⟩
  repeat (first | exact Below.refl _ _ | refine Below.setCell ?_ (by first | (simp [go_sem]; done) | (simp [go_sem]; omega)) _ | refine Below.alloc ?_ (by first | (simp [go_sem]; done) | (simp [go_sem]; omega)) _ | refine Below.drew ?_ | refine below_drewN _ ?_ | refine below_grow ?_ (by first | (simp [go_sem]; done) | (simp [go_sem]; omega)))

/-- wide.minus -/
theorem wminus_calls (ah al bh bl : Int) (a1 : 0 ≤ ah) (a2 : 0 ≤ al) (b1 : 0 ≤ bh) (b2 : 0 ≤ bl) (a3 : ah < 18446744073709551616) (a4 : al < 18446744073709551616) (b3 : bh < 18446744073709551616) (b4 : bl < 18446744073709551616) (w : World) :
    Calls Tryd.prog 62 #[.agg #[.int .u64 ah, .int .u64 al], .agg #[.int .u64 bh, .int .u64 bl]] w fun e w' => e = .returned (.agg #[.int .u64 ((ah - bh - bor al bl) % 18446744073709551616), .int .u64 ((al - bl) % 18446744073709551616)]) ∧ Below w.heap.size w w' := by
  have k := bor_le al bl
  have k0 := k.1
  have k1 := k.2
  clear k
  go_enter Tryd.func62, Tryd.ntmps62
  go_wp2_with (first | simp only [sub64_0 al bl a2 b2 b4] | simp only [sub64 ah bh _ a1 b1 b3 k0 k1])
  refine bodyPost_ret (by simp [results, Tryd.results62, go_sem]) rfl ⟨rfl, ?_⟩
  repeat (first | exact Below.refl _ _ | refine Below.setCell ?_ (by first | (simp [go_sem]; done) | (simp [go_sem]; omega)) _ | refine Below.alloc ?_ (by first | (simp [go_sem]; done) | (simp [go_sem]; omega)) _ | refine Below.drew ?_ | refine below_drewN _ ?_ | refine below_grow ?_ (by first | (simp [go_sem]; done) | (simp [go_sem]; omega)))

/-- wide.less -/
theorem wless_calls (ah al bh bl : Int) (w : World) :
    Calls Tryd.prog 61 #[.agg #[.int .u64 ah, .int .u64 al], .agg #[.int .u64 bh, .int .u64 bl]] w fun e w' => e = .returned (.bool (decide (ah < bh ∨ ah = bh ∧ al < bl))) ∧ Below w.heap.size w w' := by
  by_cases g1 : ah < bh
  · have e1 : decide (ah < bh ∨ ah = bh ∧ al < bl) = true := by simp [g1]
    rw [e1]
    clear e1
    go_enter Tryd.func61, Tryd.ntmps61
    go_wp2
    go_ret
    exact ⟨rfl, ((Below.refl _ _).alloc (by simp) _).alloc (by simp) _⟩
  by_cases g2 : ah = bh
  · subst g2
    have e1 : decide (ah < ah ∨ ah = ah ∧ al < bl) = decide (al < bl) := by simp
    rw [e1]
    clear e1
    have hx : (ah == ah) = true := by simp
    go_enter Tryd.func61, Tryd.ntmps61
    go_wp2
    go_ret
    exact ⟨rfl, ((Below.refl _ _).alloc (by simp) _).alloc (by simp) _⟩
  · have e1 : decide (ah < bh ∨ ah = bh ∧ al < bl) = false := by simp [g1, g2]
    rw [e1]
    clear e1
    have hx : (ah == bh) = false := by simp [g2]
    go_enter Tryd.func61, Tryd.ntmps61
    go_wp2
    go_ret
    exact ⟨rfl, ((Below.refl _ _).alloc (by simp) _).alloc (by simp) _⟩

/-- bits.Div64 where the high part is 0 -/
theorem div64_small (lo y : Nat) (hl : lo < 18446744073709551616) (hy : 0 < y) (hy2 : y < 18446744073709551616) (w : World) :
    Calls Tryd.prog 84 #[.int .u64 0, .int .u64 lo, .int .u64 y] w fun e w' => e = .returned (.tuple #[.int .u64 ((lo : Int) / y), .int .u64 ((lo : Int) % y)]) ∧ Below w.heap.size w w' := by
  have hw := u64div lo y hl
  go_enter Tryd.func84, Tryd.ntmps84
  go_wp2
  go_quiet (fail)
  go_wp2
  go_ret2
  exact ⟨rfl, by repeat (first | exact Below.refl _ _ | refine Below.setCell ?_ (by first | (simp [go_sem]; done) | (simp [go_sem]; omega)) _ | refine Below.alloc ?_ (by first | (simp [go_sem]; done) | (simp [go_sem]; omega)) _ | refine Below.drew ?_ | refine below_drewN _ ?_ | refine below_grow ?_ (by first | (simp [go_sem]; done) | (simp [go_sem]; omega)))⟩

/-- frac.opposite, reciprocal -/
theorem opposite_calls (b : Bool) (n d : Int) (w : World) :
    Calls Tryd.prog 38 #[.agg #[.bool b, .int .u64 n, .int .u64 d]] w fun e w' => e = .returned (.agg #[.bool (!b), .int .u64 n, .int .u64 d]) ∧ Below w.heap.size w w' := by
  go_enter Tryd.func38, Tryd.ntmps38
  go_wp2
  refine bodyPost_ret (by simp [results, Tryd.results38, go_sem]) rfl ⟨rfl, ?_⟩
  repeat (first | exact Below.refl _ _ | refine Below.setCell ?_ (by first | (simp [go_sem]; done) | (simp [go_sem]; omega)) _ | refine Below.alloc ?_ (by first | (simp [go_sem]; done) | (simp [go_sem]; omega)) _ | refine Below.drew ?_ | refine below_drewN _ ?_ | refine below_grow ?_ (by first | (simp [go_sem]; done) | (simp [go_sem]; omega)))
theorem reciprocal_calls (b : Bool) (n d : Int) (w : World) :
    Calls Tryd.prog 39 #[.agg #[.bool b, .int .u64 n, .int .u64 d]] w fun e w' => e = .returned (.agg #[.bool b, .int .u64 d, .int .u64 n]) ∧ Below w.heap.size w w' := by
  go_enter Tryd.func39, Tryd.ntmps39
  go_wp2
  refine bodyPost_ret (by simp [results, Tryd.results39, go_sem]) rfl ⟨rfl, ?_⟩
  repeat (first | exact Below.refl _ _ | refine Below.setCell ?_ (by first | (simp [go_sem]; done) | (simp [go_sem]; omega)) _ | refine Below.alloc ?_ (by first | (simp [go_sem]; done) | (simp [go_sem]; omega)) _ | refine Below.drew ?_ | refine below_drewN _ ?_ | refine below_grow ?_ (by first | (simp [go_sem]; done) | (simp [go_sem]; omega)))
theorem whole_calls (b : Bool) (n d : Nat) (hn : n < 18446744073709551616) (hd : 0 < d) (hd2 : d < 18446744073709551616) (w : World) :
    Calls Tryd.prog 44 #[.agg #[.bool b, .int .u64 n, .int .u64 d]] w fun e w' => e = .returned (.tuple #[.int .u64 ((n : Int) / d), .int .u64 ((n : Int) % d)]) ∧ Below w.heap.size w w' := by
  have hw := u64div n d hn
  go_enter Tryd.func44, Tryd.ntmps44
  go_wp2
  go_quiet (fail)
  go_wp2
  go_ret2
  exact ⟨rfl, by repeat (first | exact Below.refl _ _ | refine Below.setCell ?_ (by first | (simp [go_sem]; done) | (simp [go_sem]; omega)) _ | refine Below.alloc ?_ (by first | (simp [go_sem]; done) | (simp [go_sem]; omega)) _ | refine Below.drew ?_ | refine below_drewN _ ?_ | refine below_grow ?_ (by first | (simp [go_sem]; done) | (simp [go_sem]; omega)))⟩
theorem up_calls (b : Bool) (n d r : Nat) (hn : r ≤ d) (hd2 : d < 18446744073709551616) (w : World) :
    Calls Tryd.prog 45 #[.agg #[.bool b, .int .u64 n, .int .u64 d], .int .u64 r] w fun e w' => e = .returned (.bool (decide ((d : Int) - r ≤ r))) ∧ Below w.heap.size w w' := by
  go_enter Tryd.func45, Tryd.ntmps45
  go_wp2
  go_ret
  exact ⟨rfl, by repeat (first | exact Below.refl _ _ | refine Below.setCell ?_ (by first | (simp [go_sem]; done) | (simp [go_sem]; omega)) _ | refine Below.alloc ?_ (by first | (simp [go_sem]; done) | (simp [go_sem]; omega)) _ | refine Below.drew ?_ | refine below_drewN _ ?_ | refine below_grow ?_ (by first | (simp [go_sem]; done) | (simp [go_sem]; omega)))⟩

/-- frac.split -/
theorem split_calls (n d : Int) (w : World) (h1 : -9223372036854775808 ≤ n) (h2 : n ≤ 9223372036854775807) (h3 : -9223372036854775808 ≤ d) (h4 : d ≤ 9223372036854775807) :
    Calls Tryd.prog 35 #[.agg #[.int .i64 n, .int .i64 d]] w fun e w' => e = .returned (.agg #[.bool (decide (n < 0)), .int .u64 (n.natAbs : Int), .int .u64 (d.natAbs : Int)]) ∧ Below w.heap.size w w' := by
  go_enter Tryd.func35, Tryd.ntmps35
  go_wp2
  go_region_held3 (fun w' => w'.cell? ⟨w.heap.size, 0, none⟩ = some (.int .i64 n) ∧ w'.cell? ⟨w.heap.size, 1, none⟩ = some (.int .i64 d)) (simp [go_sem, World.cell?_alloc_past])
    (first | (go_at_call 42; refine (size_calls _ _ (by assumption) (by assumption)).mono ?_; rintro e w' ⟨rfl, rfl⟩))
  go_wp2
  refine bodyPost_ret (by simp [results, Tryd.results35, go_sem]) rfl ⟨rfl, ?_⟩
  repeat (first | exact Below.refl _ _ | refine Below.setCell ?_ (by first | (simp [go_sem]; done) | (simp [go_sem]; omega)) _ | refine Below.alloc ?_ (by first | (simp [go_sem]; done) | (simp [go_sem]; omega)) _ | refine Below.drew ?_ | refine below_drewN _ ?_ | refine below_grow ?_ (by first | (simp [go_sem]; done) | (simp [go_sem]; omega)))

theorem signed_pos (n : Int) (w : World) (h1 : 0 ≤ n) (h2 : n ≤ 9223372036854775807) :
    Calls Tryd.prog 46 #[.bool false, .int .u64 n] w fun e w' => e = .returned (.int .i64 n) ∧ w = w' :=
  (signed_calls false n w h1 (.inl h2)).mono fun _ _ h => by simpa using h
theorem signed_neg (n : Int) (w : World) (h1 : 0 ≤ n) (h2 : n ≤ 9223372036854775808) :
    Calls Tryd.prog 46 #[.bool true, .int .u64 n] w fun e w' => e = .returned (.int .i64 (-n)) ∧ w = w' :=
  (signed_calls true n w h1 (by by_cases h : n ≤ 9223372036854775807; exact .inl h; exact .inr ⟨rfl, by omega⟩)).mono fun _ _ h => by simpa using h
end Go.Proofs.YtignphcnjgbikaaDoor
