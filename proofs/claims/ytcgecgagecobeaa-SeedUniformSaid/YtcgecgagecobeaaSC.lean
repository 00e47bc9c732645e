/- powers, Jump. -/
import Derived.Test.YtcgecgagecobeaaSCb
namespace Go.Proofs.Ytcgecgagecobeaa
open Go.RowKit
attribute [local go_sem] Oper.semAt_some

theorem powers_calls (k : Int) (w : World) :
    Calls Try.prog 38 #[.int .i64 k] w fun e w' => e = .returned (.func (.func 64) #[] #[.pointer (some ⟨w.heap.size, 0, none⟩)]) ∧ w' = w.alloc (.cells #[.int .i64 k] 3) := by
  go_enter Try.func38, Try.ntmps38
  go_wp2
  go_ret
  exact ⟨rfl, rfl⟩
theorem sq_num (p : Nat) (h : p < 2147483647) : IntKind.i64.wrap ((p : Int) * p) = (p : Int) * p ∧ ((p : Int) * p).tmod 2147483647 = ((p * p % 2147483647 : Nat) : Int) := by
  have h1 : p * p ≤ 2147483646 * 2147483646 := Nat.mul_le_mul (by omega) (by omega)
  have e : (p : Int) * p = ((p * p : Nat) : Int) := (Int.natCast_mul p p).symm
  rw [e]
  refine ⟨IntWalk.i64_in _ (by omega), ?_⟩
  rw [Int.tmod_eq_emod_of_nonneg (by omega)]
  omega
theorem drop_cons {l m : List Nat} {i x : Nat} (h : l.drop i = x :: m) : l[i]? = some x ∧ l.drop (i + 1) = m ∧ i < l.length := by
  have h1 : (l.drop i)[0]? = some x := by rw [h]; rfl
  rw [List.getElem?_drop, Nat.add_zero] at h1
  refine ⟨h1, ?_, (List.getElem?_eq_some_iff.1 h1).1⟩
  rw [← List.drop_drop, h]
  rfl
set_option maxRecDepth 100000 in
set_option maxHeartbeats 4000000 in
theorem powers1_calls (l bk B0 k : Nat) (hk : k < 2147483646) (J : Nat → World → Prop)
    (hY : ∀ (i v : Nat) W, (pows 48271 k)[i]? = some v → J i W →
      YieldAt Fence.wide 2 Try.prog l #[.int .i64 v] W fun e W' => e = .returned (.bool true) ∧ J (i + 1) W' ∧ KeepA B0 W W')
    (W : World) (hc : W.cell? ⟨bk, 0, none⟩ = some (.int .i64 k)) (h0 : J 0 W) :
    Calls Try.prog 64 #[.func (.yield l) #[] #[], .pointer (some ⟨bk, 0, none⟩)] W fun e W' => (∃ v, e = .returned v) ∧ J (pows 48271 k).length W' := by
  have HY := Lib.hid hY
  clear hY
  go_enter Try.func64, Try.ntmps64
  go_wp2
  go_loopw [3, 4] (fun s3 s4 wr => ∃ p left i : Nat, s3 = .int .i64 p ∧ s4 = .int .i64 left ∧ p < 2147483647 ∧ left ≤ k ∧ i ≤ (pows 48271 k).length ∧ (pows 48271 k).drop i = pows p left ∧ J i wr) (fun _ s4 _ => (intOf s4).toNat)
  case atStart => exact ⟨48271, k, 0, rfl, rfl, by decide, Nat.le_refl _, Nat.zero_le _, rfl, h0⟩
  case round =>
    obtain ⟨p, left, i, rfl, rfl, hp, hl, hi, hd, hJi⟩ := hrel
    obtain ⟨q0, q1⟩ := sq_num p hp
    have hp2 : p * p % 2147483647 < 2147483647 := Nat.mod_lt _ (by decide)
    by_cases hz : left = 0
    · subst hz
      rw [pows_zero] at hd
      have : (pows 48271 k).length ≤ i := List.drop_eq_nil_iff.1 hd
      obtain rfl : i = (pows 48271 k).length := by omega
      go_wp2
      go_end0
      exact ⟨⟨_, rfl⟩, hJi⟩
    · have hz' : (0 : Int) < left := by omega
      have d0 : (left : Int).tdiv 2 = ((left / 2 : Nat) : Int) := by rw [Int.tdiv_eq_ediv_of_nonneg (by omega)]; omega
      by_cases ho : left % 2 = 1
      · have m0 : (left : Int).tmod 2 = 1 := by rw [Int.tmod_eq_emod_of_nonneg (by omega)]; omega
        rw [pows_odd p left ho] at hd
        obtain ⟨g1, g2, g3⟩ := drop_cons hd
        obtain ⟨fn, tmps, assign, body, hy, hR⟩ := HY.out i p wr g1 hJi
        go_upto_region 4 with fail
        refine (wpIn_wide (n := 3)).1 ?_
        gi_wp2
        refine hR.mono ?_
        rintro e W' ⟨rfl, hJ', hkA⟩
        gi_wp2
        go_wp2
        go_roundw
        case rel => exact ⟨p * p % 2147483647, left / 2, i + 1, by go_num, by go_num, hp2, by omega, by omega, g2, hJ'⟩
        case measure => simp [intOf]; omega
      · have m0 : ¬ (left : Int).tmod 2 = 1 := by rw [Int.tmod_eq_emod_of_nonneg (by omega)]; omega
        rw [pows_even p left hz ho] at hd
        go_wp2
        go_roundw
        case rel => exact ⟨p * p % 2147483647, left / 2, i, by go_num, by go_num, hp2, by omega, by omega, hd, hJi⟩
        case measure => simp [intOf]; omega
end Go.Proofs.Ytcgecgagecobeaa
