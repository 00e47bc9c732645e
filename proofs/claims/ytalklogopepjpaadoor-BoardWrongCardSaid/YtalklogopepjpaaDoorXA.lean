/- Partial, Left, Right, Owner, lacking, completes. -/
import Derived.Test.YtalklogopepjpaaDoorHXt
import Derived.Test.YtalklogopepjpaaDoorMI
import Derived.Test.YtalklogopepjpaaDoorMJ
import Derived.Deep.RegionHeld3
import Derived.StillTailTactics
import Derived.Deep.DeepCutAuto
import Derived.Deep.LoopGhost
import Derived.Deep.Cut
namespace Go.Proofs.YtalklogopepjpaaDoor
open Go.RowKit
open Go.Proofs.DB (ct Dj Pd Rd hl lf wo left lack full)

theorem cnt_ct (m : Nat) : Ha.cnt m = ct m 52 := by
  unfold Ha.cnt
  simp only [Ha.len_bt, Ha.bt, Nat.reduceMul, Nat.reduceAdd, Nat.zero_add, ct]
  ac_rfl
theorem ones_calls (m : Nat) (hm : m < 4503599627370496) (w : World) : Calls Tryd.prog 50 #[.int .u64 m] w fun e w' => e = .returned (.int .i64 (ct m 52)) ∧ w = w' := by
  have := Ha.ones64_calls m hm w
  rwa [cnt_ct] at this
theorem index_deal (p : Nat → Nat) (i : Nat) (hi : i < 4) (W : World) : (Instr.index 39 (.agg #[.int .u64 (p 0 : Nat), .int .u64 (p 1 : Nat), .int .u64 (p 2 : Nat), .int .u64 (p 3 : Nat)]) (.int .i64 i)).run Tryd.prog W = .ok (.int .u64 (p i : Nat)) W := by
  have u := run_underlying Tryd.underlying39 W
  have z := Tryd.sizeOf3 W
  have a := Tryd.isAgg3 W
  match i, hi with
  | 0, _ => simp [Instr.index, Sem.run_bind, u, go_sem]
  | 1, _ => simp [Instr.index, Sem.run_bind, u, go_sem]
  | 2, _ => simp [Instr.index, Sem.run_bind, u, go_sem]
  | 3, _ => simp [Instr.index, Sem.run_bind, u, go_sem]
set_option maxRecDepth 100000 in
set_option maxHeartbeats 4000000 in
theorem partial_calls (p : Nat → Nat) (h64 : ∀ i, i < 4 → p i < 18446744073709551616) (w : World) : Calls Tryd.prog 37 #[.agg #[.int .u64 (p 0 : Nat), .int .u64 (p 1 : Nat), .int .u64 (p 2 : Nat), .int .u64 (p 3 : Nat)]] w fun e w' => e = .returned (.bool (decide (Pd p))) ∧ Below w.heap.size w w' := by
  obtain ⟨R, hR⟩ : ∃ R, decide (Pd p) = R := ⟨_, rfl⟩
  rw [hR]
  have IX := Lib.hid (index_deal p)
  have HQ := Lib.hid h64
  have HRR := Lib.hid hR
  clear hR h64
  go_enter Tryd.func37, Tryd.ntmps37
  go_upto_region 3 with fail
  generalize hW : World.alloc w _ = W
  have bel : Below w.heap.size w W := by rw [← hW]; repeat (first | (with_reducible exact Below.refl _ _) | ((with_reducible refine below_grow ?_ ?_); rotate_left; focus (first | omega | (simp [go_sem]; done) | (simp [go_sem]; omega))) | ((with_reducible refine Below.alloc ?_ ?_ _); rotate_left; focus (first | omega | (simp [go_sem]; done) | (simp [go_sem]; omega))) | ((with_reducible refine Below.setCell ?_ ?_ _); rotate_left; focus (first | omega | (simp [go_sem]; done) | (simp [go_sem]; omega))) | (with_reducible refine Below.drew ?_) | (with_reducible refine below_drewN _ ?_))
  clear hW
  go_loopw [3, 5, 7] (fun s3 s5 s7 wr => ∃ i : Nat, s7 = .int .i64 i ∧ i ≤ 4 ∧ DB.Good p i ∧ s3 = .int .u64 (hl p i : Nat) ∧ wr = W) (fun _ _ s7 _ => 4 - (intOf s7).toNat)
  case atStart => exact ⟨0, rfl, by decide, fun j hj => by omega, rfl, rfl⟩
  case round =>
    obtain ⟨i, rfl, hi, hg, rfl, rfl⟩ := hrel
    by_cases hlt : i < 4
    · have ix := IX.out i hlt wr
      have h64 := HQ.out i hlt
      have hlt2 : (i : Int) < 4 := by omega
      have e1 : IntKind.i64.wrap ((i : Int) + 1) = (i : Int) + 1 := IntWalk.i64_in _ (by omega)
      have hl52 : hl p i < 2 ^ 52 := DB.hl_lt p 52 i fun j hj => (hg j hj).1
      have ce := fun (h : p i < 4503599627370496) => ones_calls (p i) h
      have a0 := u64_and_nat (p i) (hl p i) h64 (by omega)
      have o0 := u64_or_nat (hl p i) (p i) (by omega) h64
      have GN := Lib.hid (DB.good_next hg)
      have NP := Lib.hid (DB.not_pd (p := p) hlt)
      have HL := Lib.hid hlt
      rw [show (hl p i ||| p i) = hl p (i + 1) from rfl] at o0
      obtain ⟨x, hx⟩ : ∃ x, p i = x := ⟨_, rfl⟩
      obtain ⟨y, hy⟩ : ∃ y, hl p i = y := ⟨_, rfl⟩
      obtain ⟨z, hz⟩ : ∃ z, hl p (i + 1) = z := ⟨_, rfl⟩
      obtain ⟨n, hn⟩ : ∃ n, ct x 52 = n := ⟨_, rfl⟩
      obtain ⟨q, hq⟩ : ∃ q, x &&& y = q := ⟨_, rfl⟩
      have HZ := Lib.hid hz
      rw [hx, hy] at a0 GN NP
      rw [hx] at ix h64 ce
      rw [hx, hy, hz] at o0
      rw [hy]
      rw [hn] at ce GN NP
      rw [hq] at a0 GN NP
      clear hx hy hz hn hq hg hl52 hlt hi
      by_cases g1 : x < 4503599627370496
      · have CE := Lib.hid (ce g1)
        have f1 : ¬ (4503599627370495 : Int) < x := by omega
        clear ce
        by_cases g2 : n ≤ 13
        · have f2 : ¬ (13 : Int) < n := by omega
          by_cases g3 : q = 0
          · have GG := Lib.hid (GN.out g1 g2 g3)
            subst g3
            clear GN NP
            go_wp2_with (go_at_call 50; refine (CE.out _).mono ?_; rintro e w1 ⟨rfl, rfl⟩)
            go_roundw
            case rel => exact ⟨i + 1, by go_num, HL.out, GG.out, by rw [HZ.out], trivial⟩
            case measure => simp [intOf]; have := HL.out; omega
          · have f3 : ((q : Int) != 0) = true := by simpa using (show ¬ (q : Int) = 0 by omega)
            have NG := Lib.hid (NP.out fun h => g3 h.2.2)
            clear GN NP
            go_wp2_with (go_at_call 50; refine (CE.out _).mono ?_; rintro e w1 ⟨rfl, rfl⟩)
            go_ret
            exact ⟨by rw [← HRR.out, decide_eq_false NG.out]; rfl, bel⟩
        · have f2 : (13 : Int) < n := by omega
          have NG := Lib.hid (NP.out fun h => g2 h.2.1)
          clear GN NP
          go_wp2_with (go_at_call 50; refine (CE.out _).mono ?_; rintro e w1 ⟨rfl, rfl⟩)
          go_ret
          exact ⟨by rw [← HRR.out, decide_eq_false NG.out]; rfl, bel⟩
      · have f1 : (4503599627370495 : Int) < x := by omega
        have NG := Lib.hid (NP.out fun h => g1 h.1)
        clear GN NP ce
        go_wp2
        go_ret
        exact ⟨by rw [← HRR.out, decide_eq_false NG.out]; rfl, bel⟩
    · obtain rfl : i = 4 := by omega
      have PD := Lib.hid (DB.good_pd hg)
      clear hlt hi
      go_wp2
      go_ret
      exact ⟨by rw [← HRR.out, decide_eq_true PD.out]; rfl, bel⟩
end Go.Proofs.YtalklogopepjpaaDoor
