/- The reference: Bid, Cheapest, Jump, Text. -/
import Derived.Test.YtblmdnmnodogiaaDoorKR
namespace Go.Proofs.YtblmdnmnodogiaaDoor
open Go.RowKit

/-- The first number from c on, of k, that fits. -/
def fnd (p : Nat → Bool) : Nat → Nat → Option Nat
  | 0, _ => none
  | k + 1, c => if p c then some c else fnd p k (c + 1)
theorem fnd_none {p : Nat → Bool} : ∀ {k c : Nat}, (∀ j, c ≤ j → j < c + k → p j = false) → fnd p k c = none
  | 0, _, _ => rfl
  | k + 1, c, h => by
    rw [fnd, h c (Nat.le_refl _) (by omega), if_neg (by decide)]
    exact fnd_none fun j a b => h j (by omega) (by omega)
def fitB (l d : Nat) (c : Nat) : Bool := prL c == l && prD c == d
def fitC (o d : Nat) (c : Nat) : Bool := prD c == d && decide (o < c)
theorem fndB_small : ∀ l, l < 8 → ∀ d, d < 5 → fnd (fitB l d) 35 3 = if bdOk l d then some (bdV l d) else none := by decide +kernel
theorem fndB (l d : Nat) : fnd (fitB l d) 35 3 = if bdOk l d then some (bdV l d) else none := by
  by_cases hl : l < 8
  · by_cases hd : d < 5
    · exact fndB_small l hl d hd
    · have hk : bdOk l d = false := by unfold bdOk; exact decide_eq_false (by omega)
      rw [hk, if_neg (by decide)]
      refine fnd_none fun j _ _ => ?_
      have := prD_lt j
      unfold fitB
      have e : (prD j == d) = false := by rw [beq_eq_false_iff_ne]; omega
      rw [e, Bool.and_false]
  · have hk : bdOk l d = false := by unfold bdOk; exact decide_eq_false (by omega)
    rw [hk, if_neg (by decide)]
    refine fnd_none fun j _ _ => ?_
    have := prL_le j
    unfold fitB
    have e : (prL j == l) = false := by rw [beq_eq_false_iff_ne]; omega
    rw [e, Bool.false_and]
theorem fndC : ∀ o, o < 38 → ∀ d, d < 5 → fnd (fitC o d) 35 3 = if cand o d < 38 then some (cand o d) else none := by decide +kernel
set_option maxRecDepth 100000 in
set_option maxHeartbeats 8000000 in
theorem ref_bid (l d : Nat) (_hl : l < 256) (_hd : d < 256) (w : World) : Calls Tryd.prog 26 #[.int .u8 l, .int .u8 d] w fun e w' => e = .returned (.tuple #[.int .u8 (bdV l d : Nat), .int .i64 (bdE l d)]) ∧ Below w.heap.size w w' := by
  have P := Lib.hid ref_parts
  have F := fndB l d
  have hans : (bdV l d, bdE l d) = match fnd (fitB l d) 35 3 with | some c => (c, 0) | none => (0, 2) := by
    rw [F]
    unfold bdE
    by_cases h : bdOk l d = true
    · rw [if_pos h, if_pos h]
    · rw [if_neg h, if_neg h]; unfold bdV; rw [if_neg h]
  obtain ⟨T, hT⟩ : ∃ T, fnd (fitB l d) 35 3 = T := ⟨_, rfl⟩
  rw [hT] at hans
  obtain ⟨V, hV⟩ : ∃ V, bdV l d = V := ⟨_, rfl⟩
  obtain ⟨E, hE⟩ : ∃ V, bdE l d = V := ⟨_, rfl⟩
  rw [hV, hE] at hans ⊢
  have HA := Lib.hid hans
  clear F hans hV hE
  go_enter Tryd.func26, Tryd.ntmps26
  go_wp2
  go_loopw [6, 7, 8, 9] (fun s6 _ _ _ wr => ∃ c : Nat, s6 = .int .u8 c ∧ 3 ≤ c ∧ c ≤ 38 ∧ fnd (fitB l d) (38 - c) c = T ∧ Below w.heap.size w wr) (fun s6 _ _ _ _ => 38 - (intOf s6).toNat)
  case atStart => exact ⟨3, rfl, by decide, by decide, hT, Below.refl _ _⟩
  case round =>
    obtain ⟨c, rfl, hc3, hc38, hTr, cb⟩ := hrel
    clear hT
    by_cases hlt : c < 38
    · have hlt2 : (c : Int) < 38 := by omega
      have u1 : IntKind.u8.wrap ((c : Int) + 1) = (c : Int) + 1 := u8_wrap (by omega) (by omega)
      have PC := Lib.hid (P.out c (by omega) wr)
      rw [show 38 - c = (38 - (c + 1)) + 1 by omega, fnd] at hTr
      have hbs := cb.size
      by_cases h1 : prL c = l
      · by_cases h2 : prD c = d
        · have hf : fitB l d c = true := by unfold fitB; rw [h1, h2]; simp
          rw [hf, if_pos rfl] at hTr
          rw [← hTr] at HA
          have hA := HA.out
          simp only [Prod.mk.injEq] at hA
          obtain ⟨rfl, rfl⟩ := hA
          rw [h1, h2] at PC
          have HB := Lib.hid cb
          clear hf hTr h1 h2 HA cb P
          go_wp2_with (go_at_call 27; refine PC.out.mono ?_; rintro e w9 ⟨rfl, hbel⟩)
          refine bodyPost_ret (by simp [results, Tryd.results26, go_sem]) rfl ⟨rfl, ?_⟩
          exact HB.out.trans (hbel.mono hbs)
        · have hf : fitB l d c = false := by
            unfold fitB
            have e : (prD c == d) = false := by rw [beq_eq_false_iff_ne]; exact h2
            rw [e, Bool.and_false]
          rw [hf, if_neg (by decide)] at hTr
          rw [h1] at PC
          have h2' : ¬ (prD c : Int) = d := by omega
          have HT := Lib.hid hTr
          have HB := Lib.hid cb
          clear hf hTr h1 h2 cb
          go_wp2_with (go_at_call 27; refine PC.out.mono ?_; rintro e w9 ⟨rfl, hbel⟩)
          go_roundw
          case rel => exact ⟨c + 1, by go_num, by omega, by omega, HT.out, HB.out.trans (hbel.mono hbs)⟩
          case measure => simp [intOf]; omega
      · have hf : fitB l d c = false := by
          unfold fitB
          have e : (prL c == l) = false := by rw [beq_eq_false_iff_ne]; exact h1
          rw [e, Bool.false_and]
        rw [hf, if_neg (by decide)] at hTr
        have h1' : ¬ (prL c : Int) = l := by omega
        have HT := Lib.hid hTr
        have HB := Lib.hid cb
        clear hf hTr h1 cb
        go_wp2_with (go_at_call 27; refine PC.out.mono ?_; rintro e w9 ⟨rfl, hbel⟩)
        go_roundw
        case rel => exact ⟨c + 1, by go_num, by omega, by omega, HT.out, HB.out.trans (hbel.mono hbs)⟩
        case measure => simp [intOf]; omega
    · obtain rfl : c = 38 := by omega
      simp only [Nat.sub_self, fnd] at hTr
      rw [← hTr] at HA
      have hA := HA.out
      simp only [Prod.mk.injEq] at hA
      obtain ⟨rfl, rfl⟩ := hA
      clear HA hTr
      go_wp2
      refine bodyPost_ret (by simp [results, Tryd.results26, go_sem]) rfl ⟨rfl, ?_⟩
      exact cb
theorem ref_text (c : Nat) (hc : c < 256) (w : World) : Calls Tryd.prog 28 #[.int .u8 c] w fun e w' => e = .returned (.tuple #[strv (txt c), .int .i64 (txE c)]) ∧ Below w.heap.size w w' := by
  have R := Lib.hid (ref_right c hc w)
  have N := Lib.hid names_calls
  unfold txt txE
  by_cases h : c < 38
  · have k0 := txA_get c h
    have hlt : (c : Int) < 38 := by omega
    rw [if_pos h, if_pos h]
    rw [decide_eq_true h] at R
    clear h hc
    go_enter Tryd.func28, Tryd.ntmps28
    go_upto_region 3 with (go_at_call 31; refine R.out.mono ?_; rintro e w9 ⟨rfl, hbel⟩; obtain ⟨o1, j1, rfl⟩ := grow_of_below hbel; clear hbel)
    go_wp2_with (go_at_call 52; refine (N.out _).mono ?_; rintro e w9 ⟨rfl, rfl⟩)
    refine bodyPost_ret (by simp [results, Tryd.results28, go_sem]) rfl ⟨rfl, ?_⟩
    repeat (first | (with_reducible exact Below.refl _ _) | ((with_reducible refine below_grow ?_ ?_); rotate_left; focus (first | omega | (simp [go_sem]; done) | (simp [go_sem]; omega))) | ((with_reducible refine Below.alloc ?_ ?_ _); rotate_left; focus (first | omega | (simp [go_sem]; done) | (simp [go_sem]; omega))) | ((with_reducible refine Below.setCell ?_ ?_ _); rotate_left; focus (first | omega | (simp [go_sem]; done) | (simp [go_sem]; omega))) | (with_reducible refine Below.drew ?_) | (with_reducible refine below_drewN _ ?_))
  · rw [if_neg h, if_neg h]
    rw [decide_eq_false h] at R
    go_enter Tryd.func28, Tryd.ntmps28
    go_wp2_with (go_at_call 31; refine R.out.mono ?_; rintro e w9 ⟨rfl, hbel⟩)
    refine bodyPost_ret (by simp [results, Tryd.results28, go_sem]) rfl ⟨rfl, ?_⟩
    exact hbel
end Go.Proofs.YtblmdnmnodogiaaDoor
