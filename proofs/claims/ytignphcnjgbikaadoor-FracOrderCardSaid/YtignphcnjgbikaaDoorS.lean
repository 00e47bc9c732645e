/- The fractions that the laws make; what Cmp and Sum do with fractions that are not right. -/
import Derived.Test.YtignphcnjgbikaaDoorR
import Derived.Laws.Bits64
namespace Go.Proofs.YtignphcnjgbikaaDoor
open Go.RowKit

theorem and_mask_i64 (d : Int) (m k : Nat) (hm : m + 1 = 2 ^ k) (hk : k < 63) : bits .and .i64 d (m : Int) = d % ((2 ^ k : Nat) : Int) := by
  have hp : 2 ^ k ≤ 2 ^ 62 := Nat.pow_le_pow_right (by omega) (by omega)
  have h0 : 0 < 2 ^ k := Nat.pos_of_ne_zero (by simp)
  have h2 : (BitVec.ofInt 64 (m : Int)).toNat = m := by
    rw [BitVec.ofInt_natCast, BitVec.toNat_ofNat]; exact Nat.mod_eq_of_lt (by omega)
  have h1 : (BitVec.ofInt 64 d).toNat = (d % 18446744073709551616).toNat := by
    rw [BitVec.toNat_ofInt]; rfl
  show IntKind.i64.wrap ((BitVec.ofInt 64 d &&& BitVec.ofInt 64 (m : Int)).toNat : Int) = _
  have hm' : m = 2 ^ k - 1 := by omega
  rw [BitVec.toNat_and, h1, h2]
  rw [hm', Nat.and_two_pow_sub_one_eq_mod]
  have e : (((d % 18446744073709551616).toNat % 2 ^ k : Nat) : Int) = d % ((2 ^ k : Nat) : Int) := by
    rw [Int.natCast_emod, Int.toNat_of_nonneg (Int.emod_nonneg _ (by omega))]
    exact Int.emod_emod_of_dvd _ (by
      have : (18446744073709551616 : Int) = ((2 ^ 64 : Nat) : Int) := by decide
      rw [this]; exact Int.natCast_dvd_natCast.2 (Nat.pow_dvd_pow 2 (by omega)))
  rw [e]
  have a1 := Int.emod_nonneg d (b := ((2 ^ k : Nat) : Int)) (by omega)
  have a2 := Int.emod_lt_of_pos d (b := ((2 ^ k : Nat) : Int)) (by omega)
  generalize d % ((2 ^ k : Nat) : Int) = x at *
  generalize 2 ^ k = y at *
  rw [IntKind.wrap_i64]
  omega
/-- the fraction that 'some' makes -/
def someR (n d : Int) : Rat := Rat.divInt n (d % 32768 + 1)
theorem someR_fits (n d : Int) (hn : -32768 ≤ n ∧ n ≤ 32767) : fitsR (someR n d) ∧ (someR n d).num.natAbs ≤ 32768 ∧ (someR n d).den ≤ 32768 := by
  unfold someR
  have hd : 0 < d % 32768 + 1 := by omega
  obtain ⟨D, hD⟩ := Int.eq_ofNat_of_zero_le (Int.le_of_lt hd)
  rw [hD]
  have h1 : (Rat.divInt n D).num = n / (n.gcd D : Int) := by
    rw [Rat.num_divInt, Int.sign_eq_one_of_pos (by omega), Int.one_mul]
    rw [Int.gcd_comm]
  have h2 : (Rat.divInt n D).den = D / (n.gcd D) := by
    rw [Rat.den_divInt, if_neg (by omega)]
    simp [Int.gcd_comm]
  have g0 : 0 < n.gcd (D : Int) := Int.gcd_pos_of_ne_zero_right _ (by omega)
  have h3 : (Rat.divInt n D).num.natAbs ≤ 32768 := by
    rw [h1]
    have : (n / (n.gcd D : Int)).natAbs ≤ n.natAbs := Int.natAbs_ediv_le_natAbs _ _
    omega
  have h4 : (Rat.divInt n D).den ≤ 32768 := by
    rw [h2]
    exact Nat.le_trans (Nat.div_le_self _ _) (by omega)
  have := (Rat.divInt n D).den_pos
  exact ⟨⟨by omega, by omega, by omega⟩, h3, h4⟩

theorem out_fits {r : Rat} (h : fitsR r) : outN r = r.num ∧ outD r = r.den ∧ outE r = 0 := by
  unfold outN outD outE
  simp [h]

theorem some_calls (n d : Int) (hn : -32768 ≤ n ∧ n ≤ 32767) (hd : -32768 ≤ d ∧ d ≤ 32767) (w : World) :
    Calls Tryd.prog 12 #[.int .i16 n, .int .i16 d] w fun e w' => e = .returned (.agg #[.int .i64 (someR n d).num, .int .i64 (someR n d).den]) ∧ Below w.heap.size w w' := by
  obtain ⟨f1, _, _⟩ := someR_fits n d hn
  obtain ⟨o1, o2, o3⟩ := out_fits f1
  have hm := make_calls n (d % 32768 + 1) (by unfold I64; omega) (by unfold I64; omega) (by omega)
  have e : Rat.divInt n (d % 32768 + 1) = someR n d := rfl
  rw [e, o1, o2, o3] at hm
  have HM := Lib.hid hm
  clear hm e o1 o2 o3
  obtain ⟨N, hN⟩ : ∃ N, (someR n d).num = N := ⟨_, rfl⟩
  obtain ⟨D, hD⟩ : ∃ D : Int, ((someR n d).den : Int) = D := ⟨_, rfl⟩
  rw [hN, hD] at HM ⊢
  clear hN hD f1
  have hbit : bits BinOp.and IntKind.i64 d 32767 = d % 32768 := and_mask_i64 d 32767 15 (by decide) (by decide)
  have hw : wrap64 (d % 32768 + 1) = d % 32768 + 1 := by unfold wrap64; omega
  have HB := Lib.hid hbit
  clear hbit
  have HW := Lib.hid hw
  clear hw
  go_enter Tryd.func12, Tryd.ntmps12
  go_wp2_with (first | (go_at_call 22; go_loud (rw [HB.out, HW.out]); refine (HM.out _).mono ?_; rintro e w1 ⟨rfl, hb⟩; obtain ⟨o1, j1, rfl⟩ := grow_of_below hb; clear hb))
  refine bodyPost_ret (by simp [results, Tryd.results12, go_sem]) rfl ⟨rfl, ?_⟩
  repeat (first | (with_reducible exact Below.refl _ _) | ((with_reducible refine below_grow ?_ ?_); rotate_left; focus (first | omega | (simp [go_sem]; done) | (simp [go_sem]; omega))) | ((with_reducible refine Below.alloc ?_ ?_ _); rotate_left; focus (first | omega | (simp [go_sem]; done) | (simp [go_sem]; omega))) | ((with_reducible refine Below.setCell ?_ ?_ _); rotate_left; focus (first | omega | (simp [go_sem]; done) | (simp [go_sem]; omega))) | (with_reducible refine Below.drew ?_) | (with_reducible refine below_drewN _ ?_))

theorem allRight3 (p : Nat) (n d m e k l : Int) (b : Bool) (hb : Hid ((rightB n d && rightB m e && rightB k l) = b)) (hn : I64 n) (hd : I64 d) (hm : I64 m) (he : I64 e) (hk : I64 k) (hl : I64 l) (w : World)
    (c0 : w.cell? ⟨p, 0, none⟩ = some (.int .i64 n)) (c1 : w.cell? ⟨p, 1, none⟩ = some (.int .i64 d)) (c2 : w.cell? ⟨p, 2, none⟩ = some (.int .i64 m)) (c3 : w.cell? ⟨p, 3, none⟩ = some (.int .i64 e))
    (c4 : w.cell? ⟨p, 4, none⟩ = some (.int .i64 k)) (c5 : w.cell? ⟨p, 5, none⟩ = some (.int .i64 l)) :
    Calls Tryd.prog 34 #[.slice (some ⟨p, 0, none⟩) 3 3] w fun x w' => x = .returned (.bool b) ∧ Below w.heap.size w w' := by
  have h := allRight_calls p 0 3 [(n, d), (m, e), (k, l)] (by simp) w (fun i hi => by
    match i, hi with
    | 0, _ => exact ⟨c0, c1, hn, hd⟩
    | 1, _ => exact ⟨c2, c3, hm, he⟩
    | 2, _ => exact ⟨c4, c5, hk, hl⟩) (World.block_lt_of_cell? w _ c0)
  refine h.mono fun x w' ⟨h1, h2⟩ => ⟨?_, h2⟩
  rw [h1, ← hb.out]
  simp [Bool.and_assoc]
theorem allRight0 (w : World) :
    Calls Tryd.prog 34 #[.slice none 0 0] w fun x w' => x = .returned (.bool true) ∧ Below w.heap.size w w' := by
  go_enter Tryd.func34, Tryd.ntmps34
  go_wp2
  go_loopw [7] (fun i wr => i = .int .i64 0 ∧ Below w.heap.size w wr) (fun i _ => 0)
  case atStart => exact ⟨rfl, Below.refl _ _⟩
  case round =>
    obtain ⟨rfl, hb⟩ := hrel
    go_wp2
    go_ret
    exact ⟨rfl, hb⟩
theorem cmp_bad (n d m e : Int) (hb : (rightB n d && rightB m e) = false) (hn : I64 n) (hd : I64 d) (hm : I64 m) (he : I64 e) (w : World) :
    Calls Tryd.prog 21 #[.agg #[.int .i64 n, .int .i64 d], .agg #[.int .i64 m, .int .i64 e]] w fun e w' => e = .returned (.tuple #[.int .i64 0, .int .i64 2]) ∧ Below w.heap.size w w' := by
  have hall := Lib.hid hb
  clear hb
  go_enter Tryd.func21, Tryd.ntmps21
  go_wp2_with (go_at_call 34; refine (allRight2 _ n d m e false hall hn hd hm he _ (by simp [go_sem]) (by simp [go_sem]) (by simp [go_sem]) (by simp [go_sem])).mono ?_; rintro e w1 ⟨rfl, hb⟩; obtain ⟨o1, j1, rfl⟩ := grow_of_below hb; clear hb)
  go_ret2
  exact ⟨rfl, by repeat (first | (with_reducible exact Below.refl _ _) | ((with_reducible refine below_grow ?_ ?_); rotate_left; focus (first | omega | (simp [go_sem]; done) | (simp [go_sem]; omega))) | ((with_reducible refine Below.alloc ?_ ?_ _); rotate_left; focus (first | omega | (simp [go_sem]; done) | (simp [go_sem]; omega))) | ((with_reducible refine Below.setCell ?_ ?_ _); rotate_left; focus (first | omega | (simp [go_sem]; done) | (simp [go_sem]; omega))) | (with_reducible refine Below.drew ?_) | (with_reducible refine below_drewN _ ?_))⟩
theorem sum_bad (p : Nat) (n d m e k l : Int) (hb : (rightB n d && rightB m e && rightB k l) = false) (hn : I64 n) (hd : I64 d) (hm : I64 m) (he : I64 e) (hk : I64 k) (hl : I64 l) (w : World)
    (c0 : w.cell? ⟨p, 0, none⟩ = some (.int .i64 n)) (c1 : w.cell? ⟨p, 1, none⟩ = some (.int .i64 d)) (c2 : w.cell? ⟨p, 2, none⟩ = some (.int .i64 m)) (c3 : w.cell? ⟨p, 3, none⟩ = some (.int .i64 e))
    (c4 : w.cell? ⟨p, 4, none⟩ = some (.int .i64 k)) (c5 : w.cell? ⟨p, 5, none⟩ = some (.int .i64 l)) :
    Calls Tryd.prog 19 #[.slice (some ⟨p, 0, none⟩) 3 3] w fun x w' => x = .returned (.tuple #[.agg #[.int .i64 0, .int .i64 0], .int .i64 2]) ∧ Below w.heap.size w w' := by
  have hall := Lib.hid hb
  clear hb
  have hp : NeZero (inW p w) := inW_mk (World.block_lt_of_cell? w _ c0)
  go_enter Tryd.func19, Tryd.ntmps19
  go_wp2_with (go_at_call 34; refine (allRight3 p n d m e k l false hall hn hd hm he hk hl _ (by simp [go_sem, *]) (by simp [go_sem, *]) (by simp [go_sem, *]) (by simp [go_sem, *]) (by simp [go_sem, *]) (by simp [go_sem, *])).mono ?_; rintro e w1 ⟨rfl, hb⟩; obtain ⟨o1, j1, rfl⟩ := grow_of_below hb; clear hb)
  refine bodyPost_ret (by simp [results, Tryd.results19, go_sem]) rfl ⟨rfl, ?_⟩
  repeat (first | (with_reducible exact Below.refl _ _) | ((with_reducible refine below_grow ?_ ?_); rotate_left; focus (first | omega | (simp [go_sem]; done) | (simp [go_sem]; omega))) | ((with_reducible refine Below.alloc ?_ ?_ _); rotate_left; focus (first | omega | (simp [go_sem]; done) | (simp [go_sem]; omega))) | ((with_reducible refine Below.setCell ?_ ?_ _); rotate_left; focus (first | omega | (simp [go_sem]; done) | (simp [go_sem]; omega))) | (with_reducible refine Below.drew ?_) | (with_reducible refine below_drewN _ ?_))
theorem sum_none (w : World) :
    Calls Tryd.prog 19 #[.slice none 0 0] w fun x w' => x = .returned (.tuple #[.agg #[.int .i64 0, .int .i64 1], .int .i64 0]) ∧ Below w.heap.size w w' := by
  go_enter Tryd.func19, Tryd.ntmps19
  go_wp2_with (go_at_call 34; refine (allRight0 _).mono ?_; rintro e w1 ⟨rfl, hb⟩; obtain ⟨o1, j1, rfl⟩ := grow_of_below hb; clear hb)
  go_loopw [15] (fun i wr => i = .int .i64 0 ∧ Below w.heap.size w wr ∧ NeZero (inW (w.heap.size + 1 + sz o1) wr) ∧ NeZero (inW w.heap.size wr) ∧ wr.cell? ⟨w.heap.size + 1 + sz o1, 0, none⟩ = some (.int .i64 0) ∧ wr.cell? ⟨w.heap.size + 1 + sz o1, 1, none⟩ = some (.int .i64 1)
    ∧ wr.cell? ⟨w.heap.size, 0, none⟩ = some (.int .i64 0) ∧ wr.cell? ⟨w.heap.size, 1, none⟩ = some (.int .i64 0) ∧ wr.frozen? ⟨w.heap.size, 0, none⟩ = false ∧ wr.frozen? ⟨w.heap.size, 1, none⟩ = false) (fun _ _ => 0)
  case atStart => exact ⟨rfl, by repeat (first | (with_reducible exact Below.refl _ _) | ((with_reducible refine below_grow ?_ ?_); rotate_left; focus (first | omega | (simp [go_sem]; done) | (simp [go_sem]; omega))) | ((with_reducible refine Below.alloc ?_ ?_ _); rotate_left; focus (first | omega | (simp [go_sem]; done) | (simp [go_sem]; omega))) | ((with_reducible refine Below.setCell ?_ ?_ _); rotate_left; focus (first | omega | (simp [go_sem]; done) | (simp [go_sem]; omega))) | (with_reducible refine Below.drew ?_) | (with_reducible refine below_drewN _ ?_)), inferInstance, inferInstance, by simp [go_sem], by simp [go_sem], by simp [go_sem], by simp [go_sem], by simp [go_sem], by simp [go_sem]⟩
  case round =>
    obtain ⟨rfl, hb, hq, h0, c0, c1, d0, d1, f0, f1⟩ := hrel
    go_wp2
    refine bodyPost_ret (by simp [results, Tryd.results19, go_sem, d0, d1]) rfl ⟨rfl, ?_⟩
    repeat (first | (with_reducible exact hb) | ((with_reducible refine below_grow ?_ ?_); rotate_left; focus (first | omega | (simp [go_sem]; done) | (simp [go_sem]; omega))) | ((with_reducible refine Below.alloc ?_ ?_ _); rotate_left; focus (first | omega | (simp [go_sem]; done) | (simp [go_sem]; omega))) | ((with_reducible refine Below.setCell ?_ ?_ _); rotate_left; focus (first | omega | (simp [go_sem]; done) | (simp [go_sem]; omega))) | (with_reducible refine Below.drew ?_) | (with_reducible refine below_drewN _ ?_))
end Go.Proofs.YtignphcnjgbikaaDoor
