/- The iterator of cards. -/
import Derived.Test.YtcfkcfbgnciccaaDoorCF
namespace Go.Proofs.YtcfkcfbgnciccaaDoor
open Go.RowKit
attribute [local go_sem] Oper.semAt_some

theorem cards_calls (m : Nat) (w : World) :
    Calls Tryd.prog 43 #[.int .u64 m] w fun e w' => e = .returned (.func (.func 55) #[] #[.pointer (some ⟨w.heap.size, 0, none⟩)]) ∧ w' = w.alloc (.cells #[.int .u64 m] 24) := by
  go_enter Tryd.func43, Tryd.ntmps43
  go_wp2
  go_ret
  exact ⟨rfl, rfl⟩
theorem drop_cons {l m : List Nat} {i x : Nat} (h : l.drop i = x :: m) : l[i]? = some x ∧ l.drop (i + 1) = m ∧ i < l.length := by
  have h1 : (l.drop i)[0]? = some x := by rw [h]; rfl
  rw [List.getElem?_drop, Nat.add_zero] at h1
  refine ⟨h1, ?_, (List.getElem?_eq_some_iff.1 h1).1⟩
  rw [← List.drop_drop, h]
  rfl
theorem clr_num (a g : Nat) (ha : a < 18446744073709551616) (hg : g < 64) : IntKind.u64.wrap ((2 : Int) ^ g) = (2 : Int) ^ g ∧ bits .andNot .u64 (a : Int) ((2 : Int) ^ g) = (clr a g : Int) := by
  have h2 : 2 ^ g < 2 ^ 64 := Nat.pow_lt_pow_right (by decide) hg
  have e : ((2 : Int) ^ g) = ((2 ^ g : Nat) : Int) := by simp
  rw [e]
  refine ⟨?_, u64_andNot_nat a (2 ^ g) ha (by omega)⟩
  rw [IntKind.wrap_u64]
  generalize 2 ^ g = p at h2
  omega
set_option maxRecDepth 100000 in
set_option maxHeartbeats 4000000 in
theorem cards1_calls (l bk m : Nat) (hm : m < 4503599627370496) (J : Nat → World → Prop)
    (hY : ∀ (i v : Nat) W, (cds m)[i]? = some v → J i W →
      YieldAt Fence.wide 2 Tryd.prog l #[.int .u8 v] W fun e W' => e = .returned (.bool true) ∧ J (i + 1) W')
    (W : World) (hc : W.cell? ⟨bk, 0, none⟩ = some (.int .u64 m)) (h0 : J 0 W) :
    Calls Tryd.prog 55 #[.func (.yield l) #[] #[], .pointer (some ⟨bk, 0, none⟩)] W fun e W' => (∃ v, e = .returned v) ∧ J (cds m).length W' := by
  have HY := Lib.hid hY
  clear hY
  go_enter Tryd.func55, Tryd.ntmps55
  go_wp2
  go_loopw [3] (fun s3 wr => ∃ left i : Nat, s3 = .int .u64 left ∧ left < 4503599627370496 ∧ i ≤ (cds m).length ∧ (cds m).drop i = cds left ∧ J i wr) (fun s3 _ => (intOf s3).toNat)
  case atStart => exact ⟨m, 0, rfl, hm, Nat.zero_le _, rfl, h0⟩
  case round =>
    obtain ⟨left, i, rfl, hl, hi, hd, hJi⟩ := hrel
    by_cases hz : left = 0
    · subst hz
      rw [cds_zero] at hd
      have : (cds m).length ≤ i := List.drop_eq_nil_iff.1 hd
      obtain rfl : i = (cds m).length := by omega
      go_wp2
      go_end0
      exact ⟨⟨_, rfl⟩, hJi⟩
    · have hz' : ¬ (left : Int) = 0 := by omega
      obtain ⟨k1, k2, k3⟩ := cds_cons hz hl
      have G := Lib.hid (greatest_calls left hz hl)
      obtain ⟨c1, c2⟩ := clr_num left (grt left) (by omega) (by omega)
      rw [k1] at hd
      obtain ⟨g1, g2, g3⟩ := drop_cons hd
      obtain ⟨fn, tmps, assign, body, hy, hR⟩ := HY.out i _ wr g1 hJi
      obtain ⟨g, hg⟩ : ∃ g, grt left = g := ⟨_, rfl⟩
      obtain ⟨q, hq⟩ : ∃ q, clr left g = q := ⟨_, rfl⟩
      rw [hg] at G k2 k3 c1 c2 g2 hy
      rw [hq] at c2 k3 g2
      clear hq hg k1 hd
      go_upto_region 3 with fail
      refine (wpIn_wide (n := 3)).1 ?_
      gi_wp2_with (first | (refine ⟨trivial, ?_⟩; gi_at_call 51; refine (callsIn_wide.2 (G.out _)).mono ?_; rintro e w1 ⟨rfl, rfl⟩))
      refine hR.mono ?_
      rintro e W' ⟨rfl, hJ'⟩
      gi_wp2_with (first | (refine ⟨trivial, ?_⟩; gi_at_call 51; refine (callsIn_wide.2 (G.out _)).mono ?_; rintro e w1 ⟨rfl, rfl⟩))
      go_wp2_with (first | (go_at_call 51; refine (G.out _).mono ?_; rintro e w1 ⟨rfl, rfl⟩))
      go_roundw
      case rel => exact ⟨q, i + 1, rfl, by omega, by omega, g2, hJ'⟩
      case measure => simp [intOf]; omega
end Go.Proofs.YtcfkcfbgnciccaaDoor
