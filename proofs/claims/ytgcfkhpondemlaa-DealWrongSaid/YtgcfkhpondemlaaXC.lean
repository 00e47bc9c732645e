/- cardsOf: the cards of a set from the greatest down. -/
import Derived.Test.YtgcfkhpondemlaaXC0
import Derived.Test.YtgcfkhpondemlaaMH
namespace Go.Proofs.Ytgcfkhpondemlaa.Ca
open Go.RowKit
attribute [local go_sem] Oper.semAt_some
open Go.Proofs.DB (ct bt wo)

/-- The cards of L below c, from the greatest down: how many of L are below each, and each as a mask. -/
def tops (L : Nat) : Nat → List (Nat × Nat)
  | 0 => []
  | c + 1 => if bt L c = 1 then (ct L c, 2 ^ c) :: tops L c else tops L c
theorem tops_skip (L g : Nat) : ∀ n, (∀ j, g ≤ j → j < g + n → bt L j = 0) → tops L (g + n) = tops L g
  | 0, _ => rfl
  | n + 1, h => by
    have ih := tops_skip L g n fun j a b => h j a (by omega)
    show (if bt L (g + n) = 1 then (ct L (g + n), 2 ^ (g + n)) :: tops L (g + n) else tops L (g + n)) = _
    rw [if_neg (by rw [h (g + n) (by omega) (by omega)]; decide), ih]
theorem tops_top {L c g : Nat} (hg : g < c) (hb : bt L g = 1) (hn : ∀ j, g < j → j < c → bt L j = 0) : tops L c = (ct L g, 2 ^ g) :: tops L g := by
  have := tops_skip L (g + 1) (c - (g + 1)) fun j a b => hn j (by omega) (by omega)
  rw [show g + 1 + (c - (g + 1)) = c by omega] at this
  rw [this]
  show (if bt L g = 1 then _ else _) = _
  rw [if_pos hb]
theorem tops_end {L c : Nat} (h : ∀ j, j < c → bt L j = 0) : tops L c = [] := by
  have := tops_skip L 0 c fun j _ b => h j (by omega)
  rw [Nat.zero_add] at this; exact this
theorem drop_cons2 {α : Type} {l m : List α} {i : Nat} {x : α} (h : l.drop i = x :: m) : l[i]? = some x ∧ l.drop (i + 1) = m ∧ i < l.length := by
  have h1 : (l.drop i)[0]? = some x := by rw [h]; rfl
  rw [List.getElem?_drop, Nat.add_zero] at h1
  refine ⟨h1, ?_, (List.getElem?_eq_some_iff.1 h1).1⟩
  rw [← List.drop_drop, h]
  rfl
theorem cardsOf_calls (m : Nat) (w : World) :
    Calls Try.prog 56 #[.int .u64 m] w fun e w' => e = .returned (.func (.func 76) #[] #[.pointer (some ⟨w.heap.size, 0, none⟩)]) ∧ w' = w.alloc (.cells #[.int .u64 m] 23) := by
  go_enter Try.func56, Try.ntmps56
  go_wp2
  go_ret
  exact ⟨rfl, rfl⟩
theorem top_num {r g x : Nat} (h : r = x + 2 ^ g) (hx : x < 2 ^ g) (hg : g < 52) : r ≠ 0 ∧ grt r = g ∧ bits .andNot .u64 (r : Int) ((2 ^ g : Nat) : Int) = (x : Int) := by
  have hp : 0 < 2 ^ g := Nat.pow_pos (by decide)
  have h52 : 2 ^ g < 2 ^ 52 := Nat.pow_lt_pow_right (by decide) hg
  have hr0 : r ≠ 0 := by omega
  have hb : bt r g = 1 := by
    show r / 2 ^ g % 2 = 1
    rw [h, Nat.add_div_right _ hp, Nat.div_eq_of_lt hx]
  refine ⟨hr0, ?_, ?_⟩
  · show Nat.log2 r = g
    refine (Nat.log2_eq_iff hr0).2 ⟨by omega, ?_⟩
    rw [Nat.pow_succ]; omega
  · rw [u64_andNot_nat r (2 ^ g) (by omega) (by omega), DB.and_not_wo (by omega) (by omega)]
    have e : r &&& 2 ^ g = 2 ^ g := DB.bt_ext fun j => by
      rw [DB.bt_and, DB.bt_pow]
      split
      · rename_i e; subst e; rw [hb]; rfl
      · omega
    unfold wo
    rw [e, h, Nat.add_sub_cancel]
set_option maxRecDepth 100000 in
set_option maxHeartbeats 4000000 in
theorem cardsOf1_calls (l bk L : Nat) (hL : L < 4503599627370496) (J : Nat → World → Prop)
    (hY : ∀ (i : Nat) (v : Nat × Nat) W, (tops L 52)[i]? = some v → J i W →
      YieldAt Fence.wide 2 Try.prog l #[.int .i64 v.1, .int .u64 v.2] W fun e W' => e = .returned (.bool true) ∧ J (i + 1) W')
    (W : World) (hc : W.cell? ⟨bk, 0, none⟩ = some (.int .u64 L)) (h0 : J 0 W) :
    Calls Try.prog 76 #[.func (.yield l) #[] #[], .pointer (some ⟨bk, 0, none⟩)] W fun e W' => (∃ v, e = .returned v) ∧ J (tops L 52).length W' := by
  have HY := Lib.hid hY
  have O := Lib.hid (ones_calls L hL)
  clear hY
  go_enter Try.func76, Try.ntmps76
  go_wp2_with (go_at_call 41; refine (O.out _).mono ?_; rintro e w9 ⟨rfl, rfl⟩)
  go_loopw [3, 4] (fun s3 s4 wr => ∃ c i : Nat, c ≤ 52 ∧ s3 = .int .i64 (ct L c) ∧ s4 = .int .u64 (L % 2 ^ c : Nat) ∧ i ≤ (tops L 52).length ∧ (tops L 52).drop i = tops L c ∧ J i wr) (fun _ s4 _ => (intOf s4).toNat)
  case atStart => exact ⟨52, 0, Nat.le_refl _, rfl, by rw [Nat.mod_eq_of_lt hL], Nat.zero_le _, rfl, h0⟩
  case round =>
    obtain ⟨c, i, hc52, rfl, rfl, hi, hd, hJi⟩ := hrel
    by_cases hz : L % 2 ^ c = 0
    · rw [tops_end (DB.none_left c hz)] at hd
      have : (tops L 52).length ≤ i := List.drop_eq_nil_iff.1 hd
      obtain rfl : i = (tops L 52).length := by omega
      rw [hz]
      go_wp2
      go_end0
      exact ⟨⟨_, rfl⟩, hJi⟩
    · obtain ⟨g, g1, g2, g3, g4⟩ := DB.top_of L c hz
      have hx : L % 2 ^ g < 2 ^ g := Nat.mod_lt _ (Nat.pow_pos (by decide))
      have hr : L % 2 ^ c < 2 ^ 52 := Nat.lt_of_le_of_lt (Nat.mod_le _ _) hL
      obtain ⟨t1, t2, t3⟩ := top_num g4 hx (by omega)
      have hct := DB.ct_top g1 g2 g3
      have hg51 : g < 52 := by omega
      have hcl := DB.ct_le L g
      rw [tops_top g1 g2 g3] at hd
      obtain ⟨d1, d2, d3⟩ := drop_cons2 hd
      have LN := Try.bits_Len64 ((L % 2 ^ c : Nat) : Int)
      rw [Int.toNat_natCast, bitLen_grt t1 (by omega), t2] at LN
      have LN := Lib.hid (fun w => LN w (by omega) (by omega))
      have e1 : IntKind.i64.wrap (((g + 1 : Nat) : Int) - 1) = (g : Int) := by rw [IntWalk.i64_in _ (by omega)]; omega
      have e2 : IntKind.i64.wrap ((ct L c : Int) - 1) = (ct L g : Int) := by rw [IntWalk.i64_in _ (by omega)]; omega
      have e3 := Ha.wrap_pow g (by omega)
      have hmn : min g 64 = g := by omega
      obtain ⟨fn, tmps, assign, body, hy, hR⟩ := HY.out i _ wr d1 hJi
      have hne : ¬ ((L % 2 ^ c : Nat) : Int) = 0 := by omega
      have hlt : L % 2 ^ g < L % 2 ^ c := by omega
      obtain ⟨r, hr'⟩ : ∃ r, L % 2 ^ c = r := ⟨_, rfl⟩
      obtain ⟨x, hx'⟩ : ∃ x, L % 2 ^ g = x := ⟨_, rfl⟩
      obtain ⟨n, hn'⟩ : ∃ n, ct L g = n := ⟨_, rfl⟩
      obtain ⟨n1, hn1'⟩ : ∃ n, ct L c = n := ⟨_, rfl⟩
      obtain ⟨z, hz'⟩ : ∃ z, 2 ^ g = z := ⟨_, rfl⟩
      obtain ⟨g', hg'⟩ : ∃ z, g + 1 = z := ⟨_, rfl⟩
      have HD := Lib.hid d2
      have HX := Lib.hid hx'
      have HN := Lib.hid hn'
      have HG := Lib.hid hg51
      have HLT := Lib.hid hlt
      have HD3 := Lib.hid d3
      dsimp only at hy
      rw [hr', hx', hz'] at t3
      rw [hr'] at LN hne HLT ⊢
      rw [hn1'] at e2 ⊢
      rw [hn'] at e2 hy
      rw [hz'] at e3 hy
      rw [hg'] at LN e1
      rw [hx'] at HLT
      clear hr' hx' hn' hn1' hz' hg' d1 d2 d3 hd g1 g2 g3 g4 t1 t2 hct hcl hg51 hlt hz hc52 hx hr hi
      go_upto_region 6 with (go_at_call 77; refine (LN.out _).mono ?_; rintro e w1 ⟨rfl, rfl⟩)
      refine (wpIn_wide (n := 3)).1 ?_
      gi_wp2
      refine hR.mono ?_
      rintro e W' ⟨rfl, hJ'⟩
      gi_wp2
      go_wp2
      go_roundw
      case rel => exact ⟨g, i + 1, Nat.le_of_lt HG.out, by rw [HN.out], by rw [HX.out], HD3.out, HD.out, hJ'⟩
      case measure => simp [intOf]; have := HLT.out; omega
end Go.Proofs.Ytgcfkhpondemlaa.Ca
