/- HandTurned: the walk. -/
import Derived.Test.YtgndhdcnofblaaaDoorHU
import Derived.Test.YtgndhdcnofblaaaDoorHV0
import Derived.Test.YtgndhdcnofblaaaDoorHR
import Derived.BigQuiet
import Derived.Deep.LoopGhost
namespace Go.Proofs.YtgndhdcnofblaaaDoor
open Go.RowKit

theorem quiet_at {P : Program} {f : FuncId} {args : Array Value} {W : World} {k x : Nat} {v : Value} (h : Calls P f args (W.drewN (k + x)) fun e w' => e = .returned v ∧ W.drewN (k + x) = w') : Calls P f args (W.drewN (k + x)) fun e w'' => e = .returned v ∧ ∃ m, w'' = W.drewN (k + m) :=
  h.mono fun _ _ ⟨he, hm⟩ => ⟨he, x, hm.symm⟩
set_option maxRecDepth 100000 in
set_option maxHeartbeats 8000000 in
theorem handTurned_nat (a0 : Int) (v : Nat) (hv : v < 256) (M : Nat) (hM : M < 4503599627370496) (h0 : a0.tmod 4503599627370496 = (M : Int)) (w : World) :
    Calls Tryd.prog 5 #[.int .u64 a0, .int .u8 v] w fun e w' => e = .returned (.bool true) ∧ Below w.heap.size w w' := by
  have TU := turned_calls M (by omega) v hv
  obtain ⟨y, hy⟩ : ∃ y : Fin 24, v % 24 = y.val := ⟨⟨v % 24, Nat.mod_lt _ (by decide)⟩, rfl⟩
  rw [hy] at TU
  have hX := ott_lt M y 4 (Nat.le_refl _)
  have tt := fun g => tot_ott g M y
  have ep := pat_same tt
  have eb := bal_same hX hM tt
  have ec : cnt (ott M y.val 4) = cnt M := by rw [cnt_tot, cnt_tot, tt]
  have GD := gre_done M y
  obtain ⟨X, hXX⟩ : ∃ X, ott M y.val 4 = X := ⟨_, rfl⟩
  rw [hXX] at TU hX ep eb ec
  simp only [hXX] at tt GD
  have P1 := points_calls M (by omega)
  have P2 := points_calls X (by omega)
  have C1 := controls_calls M (by omega)
  have C2 := controls_calls X (by omega)
  have L1 := losersT M (by omega)
  have L2 := losersT X (by omega)
  have Q1 := quickT M (by omega)
  have Q2 := quickT X (by omega)
  have T1 := pattern_calls M (by omega)
  have T2 := pattern_calls X (by omega)
  have B1 := balanced_calls M (by omega)
  have B2 := balanced_calls X (by omega)
  have R1 := hand_right_calls M
  have R2 := hand_right_calls X
  rw [ec] at R2
  rw [decide_eq_decide.2 (show (X < 4503599627370496 ∧ cnt M = 13) ↔ (M < 4503599627370496 ∧ cnt M = 13) from ⟨fun h => ⟨hM, h.2⟩, fun h => ⟨hX, h.2⟩⟩)] at R2
  rw [tt] at P2 C2 L2 Q2
  rw [ep] at T2
  rw [eb] at B2
  have S1 := shape_calls M (by omega)
  have S2 := shape_calls X (by omega)
  have HM := fun s hs => holding_yes M s (by omega) hs
  have HX := fun s hs => holding_yes X s (by omega) hs
  have hhM := hol_lt M
  have hhX := hol_lt X
  unfold shp at S1 S2
  obtain ⟨pp, h1⟩ : ∃ x, tot pts M = x := ⟨_, rfl⟩
  obtain ⟨cc, h2⟩ : ∃ x, tot ctl M = x := ⟨_, rfl⟩
  obtain ⟨ll, h3⟩ : ∃ x, tot los M = x := ⟨_, rfl⟩
  obtain ⟨qq, h4⟩ : ∃ x, tot qck M = x := ⟨_, rfl⟩
  obtain ⟨pt, h5⟩ : ∃ x, pat M = x := ⟨_, rfl⟩
  obtain ⟨bb, h6⟩ : ∃ x, bal M = x := ⟨_, rfl⟩
  obtain ⟨rr, h7⟩ : ∃ x, decide (M < 4503599627370496 ∧ cnt M = 13) = x := ⟨_, rfl⟩
  rw [h1] at P1 P2
  rw [h2] at C1 C2
  rw [h3] at L1 L2
  rw [h4] at Q1 Q2
  rw [h5] at T1 T2
  rw [h6] at B1 B2
  rw [h7] at R1 R2
  have GL := gre_lt (fun s o => decide (hol M s = hol X o))
  have GS : ∀ s, gre (fun s o => decide (hol M s = hol X o)) (s + 1) = if fnd (fun o => decide (hol M s = hol X o)) (gre (fun s o => decide (hol M s = hol X o)) s) < 4 then gre (fun s o => decide (hol M s = hol X o)) s ||| 2 ^ fnd (fun o => decide (hol M s = hol X o)) (gre (fun s o => decide (hol M s = hol X o)) s) else gre (fun s o => decide (hol M s = hol X o)) s := fun s => rfl
  have EE : ∃ E : Nat → Nat → Bool, E = fun s o => decide (hol M s = hol X o) := ⟨_, rfl⟩
  obtain ⟨E, hE⟩ := EE
  have hEs : ∀ s, (fun o => decide (hol M s = hol X o)) = E s := fun s => by rw [hE]
  rw [← hE] at GD GL GS
  simp only [hEs] at GS
  have EV : ∀ s o, E s o = decide (hol M s = hol X o) := fun s o => by rw [hE]
  have CN : ∀ (W : World) (B m : Nat), W.cell? ⟨B, 0, none⟩ = some (.int .i64 (len (hol m 0))) → W.cell? ⟨B, 1, none⟩ = some (.int .i64 (len (hol m 1))) → W.cell? ⟨B, 2, none⟩ = some (.int .i64 (len (hol m 2))) → W.cell? ⟨B, 3, none⟩ = some (.int .i64 (len (hol m 3))) → ∀ i, i < 4 → W.cell? ⟨B, i, none⟩ = some (.int .i64 (len (hol m i))) := fun W B m h0 h1 h2 h3 =>
    cells4 (v := fun i => .int .i64 (len (hol m i))) h0 h1 h2 h3
  have TU := Lib.hid TU
  have P1 := Lib.hid P1
  have P2 := Lib.hid P2
  have C1 := Lib.hid C1
  have C2 := Lib.hid C2
  have L1 := Lib.hid L1
  have L2 := Lib.hid L2
  have Q1 := Lib.hid Q1
  have Q2 := Lib.hid Q2
  have T1 := Lib.hid T1
  have T2 := Lib.hid T2
  have B1 := Lib.hid B1
  have B2 := Lib.hid B2
  have R1 := Lib.hid R1
  have R2 := Lib.hid R2
  have S1 := Lib.hid S1
  have S2 := Lib.hid S2
  have AW := Lib.hid awake_calls
  have HMH := Lib.hid HM
  have HXH := Lib.hid HX
  have GDH := Lib.hid GD
  have GLH := Lib.hid GL
  have GSH := Lib.hid GS
  have EVH := Lib.hid EV
  have CNH := Lib.hid CN
  have LM := Lib.hid hhM
  have LX := Lib.hid hhX
  clear tt ep eb ec hy h1 h2 h3 h4 h5 h6 h7 hE hEs HM HX GD GL GS EV CN hhM hhX hXX
  go_enter Tryd.func5, Tryd.ntmps5
  go_upto_region 3 with (go_at_call 18; refine (TU.out _).mono ?_; rintro e w1 ⟨rfl, hbel⟩; obtain ⟨o20, j20, rfl⟩ := grow_of_below hbel; clear hbel)
  go_upto_region 5 with (first | (go_at_call_of 19 (Value.int .u64 M); refine (P1.out _).mono ?_; rintro e w1 ⟨rfl, hbel⟩; obtain ⟨o1, j1, rfl⟩ := grow_of_below hbel; clear hbel) | (go_at_call_of 19 (Value.int .u64 X); refine (P2.out _).mono ?_; rintro e w1 ⟨rfl, hbel⟩; obtain ⟨o2, j2, rfl⟩ := grow_of_below hbel; clear hbel) | (go_at_call_of 20 (Value.int .u64 M); refine (C1.out _).mono ?_; rintro e w1 ⟨rfl, hbel⟩; obtain ⟨o3, j3, rfl⟩ := grow_of_below hbel; clear hbel) | (go_at_call_of 20 (Value.int .u64 X); refine (C2.out _).mono ?_; rintro e w1 ⟨rfl, hbel⟩; obtain ⟨o4, j4, rfl⟩ := grow_of_below hbel; clear hbel) | (go_at_call_of 21 (Value.int .u64 M); refine (L1.out _).mono ?_; rintro e w1 ⟨rfl, hbel⟩; obtain ⟨o5, j5, rfl⟩ := grow_of_below hbel; clear hbel) | (go_at_call_of 21 (Value.int .u64 X); refine (L2.out _).mono ?_; rintro e w1 ⟨rfl, hbel⟩; obtain ⟨o6, j6, rfl⟩ := grow_of_below hbel; clear hbel) | (go_at_call_of 22 (Value.int .u64 M); refine (Q1.out _).mono ?_; rintro e w1 ⟨rfl, hbel⟩; obtain ⟨o7, j7, rfl⟩ := grow_of_below hbel; clear hbel) | (go_at_call_of 22 (Value.int .u64 X); refine (Q2.out _).mono ?_; rintro e w1 ⟨rfl, hbel⟩; obtain ⟨o8, j8, rfl⟩ := grow_of_below hbel; clear hbel) | (go_at_call_of 23 (Value.int .u64 M); refine (T1.out _).mono ?_; rintro e w1 ⟨rfl, hbel⟩; obtain ⟨o9, j9, rfl⟩ := grow_of_below hbel; clear hbel) | (go_at_call_of 23 (Value.int .u64 X); refine (T2.out _).mono ?_; rintro e w1 ⟨rfl, hbel⟩; obtain ⟨o10, j10, rfl⟩ := grow_of_below hbel; clear hbel) | (go_at_call_of 24 (Value.int .u64 M); refine (B1.out _).mono ?_; rintro e w1 ⟨rfl, hbel⟩; obtain ⟨o11, j11, rfl⟩ := grow_of_below hbel; clear hbel) | (go_at_call_of 24 (Value.int .u64 X); refine (B2.out _).mono ?_; rintro e w1 ⟨rfl, hbel⟩; obtain ⟨o12, j12, rfl⟩ := grow_of_below hbel; clear hbel) | (go_at_call_of 25 (Value.int .u64 M); refine (R1.out _).mono ?_; rintro e w1 ⟨rfl, rfl⟩) | (go_at_call_of 25 (Value.int .u64 X); refine (R2.out _).mono ?_; rintro e w1 ⟨rfl, rfl⟩))
  clear P1 P2 C1 C2 L1 L2 Q1 Q2 T1 T2 B1 B2 R1 R2 TU
  go_upto_region 8 with (first | (go_at_call_of 26 (Value.int .u64 M); refine (S1.out _).mono ?_; rintro e w1 ⟨rfl, hbel⟩; obtain ⟨o21, j21, rfl⟩ := grow_of_below hbel; clear hbel) | (go_at_call_of 26 (Value.int .u64 X); refine (S2.out _).mono ?_; rintro e w1 ⟨rfl, hbel⟩; obtain ⟨o22, j22, rfl⟩ := grow_of_below hbel; clear hbel))
  generalize hW : World.alloc (World.alloc (grow w _ _) _) _ = W
  generalize hA : w.heap.size + sz _ = A
  have bel : Below w.heap.size w W := by rw [← hW]; repeat (first | (with_reducible exact Below.refl _ _) | ((with_reducible refine below_grow ?_ ?_); rotate_left; focus (first | omega | (simp [go_sem]; done) | (simp [go_sem]; omega))) | ((with_reducible refine Below.alloc ?_ ?_ _); rotate_left; focus (first | omega | (simp [go_sem]; done) | (simp [go_sem]; omega))) | ((with_reducible refine Below.setCell ?_ ?_ _); rotate_left; focus (first | omega | (simp [go_sem]; done) | (simp [go_sem]; omega))) | (with_reducible refine Below.drew ?_) | (with_reducible refine below_drewN _ ?_))
  have hlt : A + 1 < W.heap.size := by rw [← hW, ← hA]; simp [go_sem]
  have cn := CNH.out W A M (by rw [← hW, ← hA]; simp [go_sem]) (by rw [← hW, ← hA]; simp [go_sem]) (by rw [← hW, ← hA]; simp [go_sem]) (by rw [← hW, ← hA]; simp [go_sem])
  have cx := CNH.out W (A + 1) X (by rw [← hW, ← hA]; simp [go_sem]) (by rw [← hW, ← hA]; simp [go_sem]) (by rw [← hW, ← hA]; simp [go_sem]) (by rw [← hW, ← hA]; simp [go_sem])
  clear hW
  have CM := Lib.hid cn
  have CX := Lib.hid cx
  have BW := Lib.hid bel
  clear CNH S1 S2 cn cx bel hA hlt
  go_loopw [8, 9] (fun s8 s9 wr => ∃ s n : Nat, s8 = .int .i64 (gre E s) ∧ s9 = .int .u8 s ∧ s ≤ 4 ∧ wr = W.drewN n) (fun _ s9 _ => 4 - (intOf s9).toNat)
  case atStart => exact ⟨0, 0, rfl, rfl, by decide, rfl⟩
  case round =>
    obtain ⟨s, n, rfl, rfl, hs, rfl⟩ := hrel
    by_cases hlt : s < 4
    · have hlt2 : (s : Int) < 4 := by omega
      have e1 : IntKind.u8.wrap ((s : Int) + 1) = (s : Int) + 1 := by rw [IntKind.wrap_u8', Int.emod_eq_of_lt (by omega) (by omega)]
      have HMs := Lib.hid (HMH.out s hlt)
      have cs := CM.out s hlt
      have GSs := GSH.out s
      have gl := GLH.out s
      have EVs := EVH.out s
      obtain ⟨g, hg⟩ : ∃ x, gre E s = x := ⟨_, rfl⟩
      rw [hg] at GSs gl ⊢
      obtain ⟨g', hg'⟩ : ∃ x, gre E (s + 1) = x := ⟨_, rfl⟩
      rw [hg'] at GSs
      have HS := Lib.hid hlt
      have HG := Lib.hid hg'
      have HGS := Lib.hid GSs
      obtain ⟨hs1, hhs⟩ : ∃ x, hol M s = x := ⟨_, rfl⟩
      rw [hhs] at HMs cs EVs
      have HEV := Lib.hid EVs
      have HGL := Lib.hid gl
      clear hg hg' GSs hs hlt hhs EVs gl
      go_wp2
      go_loopw [8, 10] (fun s8 s10 wq => ∃ o n : Nat, s8 = .int .i64 g ∧ s10 = .int .u8 o ∧ o ≤ 4 ∧ o ≤ fnd (E s) g ∧ wq = W.drewN n) (fun _ s10 _ => 4 - (intOf s10).toNat)
      case atStart => exact ⟨0, n, rfl, rfl, by decide, Nat.zero_le _, rfl⟩
      case round =>
        obtain ⟨o, k, rfl, rfl, ho, hf, rfl⟩ := hrel
        by_cases hol4 : o < 4
        · have holt2 : (o : Int) < 4 := by omega
          have e2 : IntKind.u8.wrap ((o : Int) + 1) = (o : Int) + 1 := by rw [IntKind.wrap_u8', Int.emod_eq_of_lt (by omega) (by omega)]
          have HXo := Lib.hid (HXH.out o hol4)
          have co := CX.out o hol4
          have ev := HEV.out o
          have gl := HGL.out
          obtain ⟨hx1, hhx⟩ : ∃ x, hol X o = x := ⟨_, rfl⟩
          rw [hhx] at HXo co ev
          have b1 : min o 64 = o := by omega
          have b2 : bits .and .i64 ((g : Int) / 2 ^ o) 1 = ((g / 2 ^ o % 2 : Nat) : Int) := by
            have e : (g : Int) / 2 ^ o = ((g / 2 ^ o : Nat) : Int) := by simp
            rw [e]
            exact and_mask_i64 _ 1 1 (by decide) (by decide)
          have past := fnd_past (E s) g o hol4 hf
          have at_ := fnd_at (E s) g o hol4 hf
          have HO := Lib.hid hol4
          have HP := Lib.hid past
          have HAT := Lib.hid at_
          obtain ⟨bt1, hbt⟩ : ∃ x, g / 2 ^ o % 2 = x := ⟨_, rfl⟩
          rw [hbt] at b2
          have hbt2 : bt1 < 2 := by rw [← hbt]; exact Nat.mod_lt _ (by decide)
          have HBT := Lib.hid hbt
          have HE := Lib.hid ev
          clear past at_ hf ho hol4 hhx ev gl hbt
          by_cases hb0 : bt1 = 0
          · have b3 : bits .and .i64 ((g : Int) / 2 ^ o) 1 = 0 := by rw [b2, hb0]; rfl
            by_cases hq : hs1 = hx1
            · subst hq
              have q1 : ((len hs1 : Int) == (len hs1 : Int)) = true := by simp
              have hE1 : E s o = true := by rw [HE.out]; simp
              have fo := HAT.out ⟨by rw [HBT.out]; exact hb0, hE1⟩
              have hg2 : g' = g ||| 2 ^ o := by rw [HGS.out, fo, if_pos HO.out]
              have p2 : 2 ^ o < 2 ^ 4 := Nat.pow_lt_pow_right (by decide) HO.out
              have e3 : IntKind.i64.wrap ((2 : Int) ^ o) = ((2 ^ o : Nat) : Int) := by
                have e : ((2 : Int) ^ o) = ((2 ^ o : Nat) : Int) := by simp
                rw [e]
                generalize 2 ^ o = p at p2
                exact IntWalk.i64_in _ (by omega)
              have e4 : bits .or .i64 (g : Int) ((2 ^ o : Nat) : Int) = (g' : Int) := by
                rw [hg2]
                exact or_small ⟨g, HGL.out⟩ ⟨o, HO.out⟩
              obtain ⟨z, hz⟩ : ∃ x, 2 ^ o = x := ⟨_, rfl⟩
              rw [hz] at e3 e4
              clear b2 hb0 HBT hz hg2 fo hE1 p2 hbt2
              go_upto_region 13 with fail
              go_quiet (first | (go_at_call_of 12 (Value.int .u64 M); exact quiet_at (HMs.out _)) | (go_at_call_of 12 (Value.int .u64 X); exact quiet_at (HXo.out _)))
              go_wp2
              go_roundw
              case rel => exact ⟨s + 1, _, by rw [HG.out], by go_num, HS.out, rfl⟩
              case measure => simp [intOf]; have := HS.out; omega
            · have q1 : ((hs1 : Int) == (hx1 : Int)) = false := by rw [beq_eq_false_iff_ne]; omega
              have q2 : (hs1 == hx1) = false := by rw [beq_eq_false_iff_ne]; exact hq
              have q3 : decide (hs1 = hx1) = false := decide_eq_false hq
              have q4 : ¬ (hs1 : Int) = hx1 := by omega
              have hE1 : E s o = false := by rw [HE.out]; exact q3
              have po := HP.out (fun h => by rw [hE1] at h; cases h.2)
              have HPO := Lib.hid po
              clear b2 hb0 HBT hE1 po hbt2
              go_upto_region 13 with fail
              go_quiet (first | (go_at_call_of 12 (Value.int .u64 M); exact quiet_at (HMs.out _)) | (go_at_call_of 12 (Value.int .u64 X); exact quiet_at (HXo.out _)))
              go_wp2
              go_roundw
              case rel => exact ⟨o + 1, _, rfl, by go_num, HO.out, HPO.out, rfl⟩
              case measure => simp [intOf]; have := HO.out; omega
          · have q0 : ((bt1 : Int) == 0) = false := by rw [beq_eq_false_iff_ne]; omega
            have q0' : ¬ (bt1 : Int) = 0 := by omega
            have q0n : (bt1 == 0) = false := by rw [beq_eq_false_iff_ne]; exact hb0
            have q0m : decide (bt1 = 0) = false := decide_eq_false hb0
            have po := HP.out (fun h => hb0 (by rw [← HBT.out]; exact h.1))
            have HPO := Lib.hid po
            clear po hbt2
            go_upto_region 13 with fail
            go_quiet (first | (go_at_call_of 12 (Value.int .u64 M); exact quiet_at (HMs.out _)) | (go_at_call_of 12 (Value.int .u64 X); exact quiet_at (HXo.out _)))
            go_wp2
            go_roundw
            case rel => exact ⟨o + 1, _, rfl, by go_num, HO.out, HPO.out, rfl⟩
            case measure => simp [intOf]; have := HO.out; omega
        · obtain rfl : o = 4 := by omega
          have hg2 : g' = g := by rw [HGS.out, if_neg (by omega)]
          subst hg2
          clear hf ho hol4
          go_wp2
          go_roundw
          case rel => exact ⟨s + 1, _, by rw [HG.out], by go_num, HS.out, rfl⟩
          case measure => simp [intOf]; have := HS.out; omega
    · obtain rfl : s = 4 := by omega
      rw [GDH.out]
      have hz := BW.out.size
      go_wp2_with (go_at_call 14; refine (AW.out _).mono ?_; rintro e w1 ⟨rfl, hbel⟩; obtain ⟨o30, j30, rfl⟩ := grow_of_below hbel; clear hbel)
      go_ret
      exact ⟨rfl, by repeat (first | (with_reducible exact BW.out) | ((with_reducible refine below_grow ?_ ?_); rotate_left; focus (first | omega | (simp [go_sem]; done) | (simp [go_sem]; omega))) | ((with_reducible refine Below.alloc ?_ ?_ _); rotate_left; focus (first | omega | (simp [go_sem]; done) | (simp [go_sem]; omega))) | ((with_reducible refine Below.setCell ?_ ?_ _); rotate_left; focus (first | omega | (simp [go_sem]; done) | (simp [go_sem]; omega))) | (with_reducible refine Below.drew ?_) | (with_reducible refine below_drewN _ ?_))⟩
theorem handTurned_walk (a0 a1 : Int) (b0 : 0 ≤ a0 ∧ a0 ≤ 18446744073709551615) (b1 : 0 ≤ a1 ∧ a1 ≤ 255) (w : World) :
    Calls Tryd.prog 5 #[.int .u64 a0, .int .u8 a1] w fun e w' => e = .returned (.bool true) ∧ Below w.heap.size w w' := by
  obtain ⟨n, rfl⟩ : ∃ n : Nat, a0 = n := ⟨a0.toNat, by omega⟩
  obtain ⟨k, rfl⟩ : ∃ k : Nat, a1 = k := ⟨a1.toNat, by omega⟩
  refine handTurned_nat _ k (by omega) (n % 4503599627370496) (Nat.mod_lt _ (by decide)) ?_ w
  rw [Int.tmod_eq_emod_of_nonneg (by omega)]; omega
end Go.Proofs.YtgndhdcnofblaaaDoor
