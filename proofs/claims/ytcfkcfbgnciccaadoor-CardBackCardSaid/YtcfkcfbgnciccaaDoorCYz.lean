/- CardBack: without cards; the whole. -/
import Derived.Test.YtcfkcfbgnciccaaDoorCY
namespace Go.Proofs.YtcfkcfbgnciccaaDoor
open Go.RowKit

set_option maxRecDepth 100000 in
set_option maxHeartbeats 16000000 in
theorem cardBack_none (a0 b0 k : Int) (s : ByteArray) (a b : Nat) (ha : a < 4503599627370496) (hb : b < 4503599627370496) (h0 : a0.tmod 4503599627370496 = (a : Int)) (h1 : b0.tmod 4503599627370496 = (b : Int))
    (hk : IntKind.i64.wrap k = k) (hlz : (cds a).length = 0) (hsz : s.size ≤ 140737488355328) (w : World) (he : Env w) :
    Calls Tryd.prog 6 #[.int .u64 a0, .int .u64 b0, .string s, .int .u8 k] w fun e w' => e = .returned (.bool true) ∧ Below w.heap.size w w' := by
  have WA := Lib.hid (write_yes a ha)
  have WB := Lib.hid (write_yes b hb)
  have hl1 := wrt_length a
  have hl2 := cds_length_le a
  have PA := Lib.hid (parse_some (wrt a) (by omega) a (prs_wrt a ha))
  have LA := Lib.hid (list_yes a ha)
  have CA := Lib.hid (count4_calls a ha)
  have CB := Lib.hid (count4_calls a ha)
  have hinj : wrt a = wrt b → a = b := wrt_inj ha hb
  obtain ⟨n, hn⟩ : ∃ n, (cds a).length = n := ⟨_, rfl⟩
  obtain ⟨T, hT⟩ : ∃ T, wrt a = T := ⟨_, rfl⟩
  obtain ⟨U, hU⟩ : ∃ U, wrt b = U := ⟨_, rfl⟩
  rw [hn] at hl1 hl2 LA CA CB hlz
  subst hlz
  rw [hT] at WA PA hl1 hinj
  rw [hU] at WB hinj
  have e3 : IntKind.i64.wrap 3 = 3 := by decide
  rw [Nat.zero_add] at hl1
  obtain ⟨d, hd⟩ : ∃ d, (T == U) = d := ⟨_, rfl⟩
  have hx3 : decide ((a : Int) = b) = d := by
    by_cases h : a = b
    · subst h
      rw [← hd, ← hT, ← hU]
      simp
    · rw [decide_eq_false (by omega), ← hd]
      exact (beq_eq_false_iff_ne.2 fun e => h (hinj e)).symm
  have hx2 : ((a : Int) == (b : Int)) = d := by rw [← hx3]; rfl
  obtain ⟨i0, hi, hz0, hz1, hz2⟩ := info_parts Tryd.infoU
  clear ha hb hl2 hn hinj hT hU
  go_enter Tryd.func6, Tryd.ntmps6
  go_upto_region 3 with (go_at_call 16; refine (WA.out _).mono ?_; rintro e w1 ⟨rfl, hbel⟩; obtain ⟨o1, j1, rfl⟩ := grow_of_below hbel; clear hbel)
  go_upto_region 4 with (go_at_call 16; refine (WB.out _).mono ?_; rintro e w1 ⟨rfl, hbel⟩; obtain ⟨o2, j2, rfl⟩ := grow_of_below hbel; clear hbel)
  go_upto_region 5 with (go_at_call 17; refine (PA.out _ (he.below (by repeat (first | (with_reducible exact Below.refl _ _) | ((with_reducible refine below_grow ?_ ?_); rotate_left; focus (first | omega | (simp [go_sem]; done) | (simp [go_sem]; omega))) | ((with_reducible refine Below.alloc ?_ ?_ _); rotate_left; focus (first | omega | (simp [go_sem]; done) | (simp [go_sem]; omega))) | ((with_reducible refine Below.setCell ?_ ?_ _); rotate_left; focus (first | omega | (simp [go_sem]; done) | (simp [go_sem]; omega))) | (with_reducible refine Below.drew ?_) | (with_reducible refine below_drewN _ ?_))))).mono ?_; rintro e w1 ⟨rfl, hbel⟩; obtain ⟨o3, j3, rfl⟩ := grow_of_below hbel; clear hbel)
  have hb0 : Below w.heap.size w (grow w (o1 ++ (o2 ++ o3)) j3) := by repeat (first | (with_reducible exact Below.refl _ _) | ((with_reducible refine below_grow ?_ ?_); rotate_left; focus (first | omega | (simp [go_sem]; done) | (simp [go_sem]; omega))) | ((with_reducible refine Below.alloc ?_ ?_ _); rotate_left; focus (first | omega | (simp [go_sem]; done) | (simp [go_sem]; omega))) | ((with_reducible refine Below.setCell ?_ ?_ _); rotate_left; focus (first | omega | (simp [go_sem]; done) | (simp [go_sem]; omega))) | (with_reducible refine Below.drew ?_) | (with_reducible refine below_drewN _ ?_))
  go_upto_region 6 with (go_at_call 18; refine (LA.out _).mono ?_; rintro e w4 ⟨v, rfl, hown, hbel⟩; obtain ⟨A, cap, rfl, hA⟩ := own_slice hown)
  have hbw : Below w.heap.size w w4 := hb0.trans (hbel.mono hb0.size)
  clear hb0 hbel
  go_upto_region 8 with (first | (go_at_call 19; refine (CA.out _).mono ?_; clear CA; rintro e w5 ⟨rfl, hbel⟩; obtain ⟨o5, j5, rfl⟩ := grow_of_below hbel; clear hbel) | (go_at_call 19; refine (CB.out _).mono ?_; rintro e w5 ⟨rfl, hbel⟩; obtain ⟨o6, j6, rfl⟩ := grow_of_below hbel; clear hbel))
  go_upto_region 17 with fail
  have hbs := hbw.size
  have hown4 := own_grow hown (o5 ++ o6) j6
  have hb4 : Below w.heap.size w (grow w4 (o5 ++ o6) j6) := by repeat (first | (with_reducible exact hbw) | ((with_reducible refine below_grow ?_ ?_); rotate_left; focus (first | omega | (simp [go_sem]; done) | (simp [go_sem]; omega))) | ((with_reducible refine Below.alloc ?_ ?_ _); rotate_left; focus (first | omega | (simp [go_sem]; done) | (simp [go_sem]; omega))) | ((with_reducible refine Below.setCell ?_ ?_ _); rotate_left; focus (first | omega | (simp [go_sem]; done) | (simp [go_sem]; omega))) | (with_reducible refine Below.drew ?_) | (with_reducible refine below_drewN _ ?_))
  have hm4 := hb4.size
  clear hown hbw hbs hown4
  generalize grow w4 (o5 ++ o6) j6 = W4 at *
  have PS := Lib.hid (parse_any s hsz)
  cases hp : prs s.data.toList with
  | none =>
    rw [hp] at PS
    simp only [parV] at PS
    go_upto_region 18 with (go_at_call 17; refine (PS.out _).mono ?_; rintro e w11 ⟨rfl, hbel⟩; obtain ⟨o11, j11, rfl⟩ := grow_of_below hbel; clear hbel)
    go_wp2_with (go_at_call 12; refine (awake_calls _ (he.below (by repeat (first | (with_reducible exact hb4) | ((with_reducible refine below_grow ?_ ?_); rotate_left; focus (first | omega | (simp [go_sem]; done) | (simp [go_sem]; omega))) | ((with_reducible refine Below.alloc ?_ ?_ _); rotate_left; focus (first | omega | (simp [go_sem]; done) | (simp [go_sem]; omega))) | ((with_reducible refine Below.setCell ?_ ?_ _); rotate_left; focus (first | omega | (simp [go_sem]; done) | (simp [go_sem]; omega))) | (with_reducible refine Below.drew ?_) | (with_reducible refine below_drewN _ ?_))))).mono ?_; rintro e w13 ⟨rfl, hbel⟩; obtain ⟨o13, j13, rfl⟩ := grow_of_below hbel; clear hbel)
    go_ret
    exact ⟨rfl, by repeat (first | (with_reducible exact hb4) | ((with_reducible refine below_grow ?_ ?_); rotate_left; focus (first | omega | (simp [go_sem]; done) | (simp [go_sem]; omega))) | ((with_reducible refine Below.alloc ?_ ?_ _); rotate_left; focus (first | omega | (simp [go_sem]; done) | (simp [go_sem]; omega))) | ((with_reducible refine Below.setCell ?_ ?_ _); rotate_left; focus (first | omega | (simp [go_sem]; done) | (simp [go_sem]; omega))) | (with_reducible refine Below.drew ?_) | (with_reducible refine below_drewN _ ?_))⟩
  | some x =>
    rw [hp] at PS
    simp only [parV] at PS
    obtain ⟨hx, hwx⟩ := wrt_prs hp
    have WX := Lib.hid (write_yes x hx)
    have hsx : s = ⟨(wrt x).toArray⟩ := by rw [hwx]
    subst hsx
    obtain ⟨X, hX⟩ : ∃ X, wrt x = X := ⟨_, rfl⟩
    simp only [hX] at PS WX
    clear hp hx hwx hsz
    rw [hX]
    clear hX
    go_upto_region 18 with (go_at_call 17; refine (PS.out _).mono ?_; rintro e w11 ⟨rfl, hbel⟩; obtain ⟨o11, j11, rfl⟩ := grow_of_below hbel; clear hbel)
    go_wp2_with (first | (go_at_call 16; refine (WX.out _).mono ?_; rintro e w12 ⟨rfl, hbel⟩; obtain ⟨o12, j12, rfl⟩ := grow_of_below hbel; clear hbel) | (go_at_call 12; refine (awake_calls _ (he.below (by repeat (first | (with_reducible exact hb4) | ((with_reducible refine below_grow ?_ ?_); rotate_left; focus (first | omega | (simp [go_sem]; done) | (simp [go_sem]; omega))) | ((with_reducible refine Below.alloc ?_ ?_ _); rotate_left; focus (first | omega | (simp [go_sem]; done) | (simp [go_sem]; omega))) | ((with_reducible refine Below.setCell ?_ ?_ _); rotate_left; focus (first | omega | (simp [go_sem]; done) | (simp [go_sem]; omega))) | (with_reducible refine Below.drew ?_) | (with_reducible refine below_drewN _ ?_))))).mono ?_; rintro e w13 ⟨rfl, hbel⟩; obtain ⟨o13, j13, rfl⟩ := grow_of_below hbel; clear hbel))
    go_ret
    exact ⟨rfl, by repeat (first | (with_reducible exact hb4) | ((with_reducible refine below_grow ?_ ?_); rotate_left; focus (first | omega | (simp [go_sem]; done) | (simp [go_sem]; omega))) | ((with_reducible refine Below.alloc ?_ ?_ _); rotate_left; focus (first | omega | (simp [go_sem]; done) | (simp [go_sem]; omega))) | ((with_reducible refine Below.setCell ?_ ?_ _); rotate_left; focus (first | omega | (simp [go_sem]; done) | (simp [go_sem]; omega))) | (with_reducible refine Below.drew ?_) | (with_reducible refine below_drewN _ ?_))⟩
theorem cardBack_walk (a0 b0 : Int) (s : ByteArray) (k : Int) (h0 : 0 ≤ a0 ∧ a0 ≤ 18446744073709551615) (h1 : 0 ≤ b0 ∧ b0 ≤ 18446744073709551615) (hsz : s.size ≤ 140737488355328) (hk : 0 ≤ k ∧ k ≤ 255) (w : World) (he : Env w) :
    Calls Tryd.prog 6 #[.int .u64 a0, .int .u64 b0, .string s, .int .u8 k] w fun e w' => e = .returned (.bool true) ∧ Below w.heap.size w w' := by
  obtain ⟨a, rfl⟩ : ∃ n : Nat, a0 = n := ⟨a0.toNat, by omega⟩
  obtain ⟨b, rfl⟩ : ∃ n : Nat, b0 = n := ⟨b0.toNat, by omega⟩
  obtain ⟨j, rfl⟩ : ∃ n : Nat, k = n := ⟨k.toNat, by omega⟩
  have e1 : (a : Int).tmod 4503599627370496 = ((a % 4503599627370496 : Nat) : Int) := by rw [Int.tmod_eq_emod_of_nonneg (by omega)]; omega
  have e2 : (b : Int).tmod 4503599627370496 = ((b % 4503599627370496 : Nat) : Int) := by rw [Int.tmod_eq_emod_of_nonneg (by omega)]; omega
  have e3 : IntKind.i64.wrap (j : Int) = j := IntWalk.i64_in _ (by omega)
  have m1 : a % 4503599627370496 < 4503599627370496 := Nat.mod_lt _ (by decide)
  have m2 : b % 4503599627370496 < 4503599627370496 := Nat.mod_lt _ (by decide)
  by_cases hz : (cds (a % 4503599627370496)).length = 0
  · exact cardBack_none _ _ _ s _ _ m1 m2 e1 e2 e3 hz hsz w he
  · refine cardBack_some _ _ _ s _ _ (j % (cds (a % 4503599627370496)).length) m1 m2 e1 e2 e3 ?_ (Nat.mod_lt _ (by omega)) hsz w he
    rw [Int.tmod_eq_emod_of_nonneg (by omega)]
    rfl
end Go.Proofs.YtcfkcfbgnciccaaDoor
