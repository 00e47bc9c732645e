/- The reference: Cheapest, Jump, Read. -/
import Derived.Test.YtblmdnmnodogiaaDoorKS
namespace Go.Proofs.YtblmdnmnodogiaaDoor
open Go.RowKit

set_option maxRecDepth 100000 in
set_option maxHeartbeats 8000000 in
theorem ref_cheapest (o d : Nat) (ho : o < 256) (hd : d < 256) (w : World) : Calls Tryd.prog 29 #[.int .u8 o, .int .u8 d] w fun e w' => e = .returned (.tuple #[.int .u8 (chB o d : Nat), .int .i64 (chE o d)]) ∧ Below w.heap.size w w' := by
  have R := Lib.hid (ref_right o ho w)
  have P := Lib.hid ref_parts
  by_cases h1 : o < 38
  · rw [decide_eq_true h1] at R
    by_cases h2 : d < 5
    · have b3 : ¬ (4 : Int) < d := by omega
      have F := fndC o h1 d h2
      have hans : (chB o d, chE o d) = match fnd (fitC o d) 35 3 with | some c => (c, 0) | none => (0, 6) := by
        rw [F]
        unfold chB chE
        rw [if_pos h1, if_pos h2]
        by_cases h : cand o d < 38
        · rw [if_pos h, if_pos h, if_pos ⟨h1, h2, h⟩]
        · rw [if_neg h, if_neg h, if_neg (fun x => h x.2.2)]
      obtain ⟨T, hT⟩ : ∃ T, fnd (fitC o d) 35 3 = T := ⟨_, rfl⟩
      rw [hT] at hans
      obtain ⟨V, hV⟩ : ∃ V, chB o d = V := ⟨_, rfl⟩
      obtain ⟨E, hE⟩ : ∃ V, chE o d = V := ⟨_, rfl⟩
      rw [hV, hE] at hans ⊢
      have HA := Lib.hid hans
      clear F hans hV hE h1 h2
      go_enter Tryd.func29, Tryd.ntmps29
      go_upto_region 5 with (go_at_call 31; refine R.out.mono ?_; rintro e w9 ⟨rfl, hb0⟩)
      go_wp2
      go_loopw [6, 7, 8, 9] (fun s6 _ _ _ wr => ∃ c : Nat, s6 = .int .u8 c ∧ 3 ≤ c ∧ c ≤ 38 ∧ fnd (fitC o d) (38 - c) c = T ∧ Below w.heap.size w wr) (fun s6 _ _ _ _ => 38 - (intOf s6).toNat)
      case atStart => exact ⟨3, rfl, by decide, by decide, hT, hb0⟩
      case round =>
        obtain ⟨c, rfl, hc3, hc38, hTr, cb⟩ := hrel
        clear hT hb0
        by_cases hlt : c < 38
        · have hlt2 : (c : Int) < 38 := by omega
          have u1 : IntKind.u8.wrap ((c : Int) + 1) = (c : Int) + 1 := u8_wrap (by omega) (by omega)
          have PC := Lib.hid (P.out c (by omega) wr)
          rw [show 38 - c = (38 - (c + 1)) + 1 by omega, fnd] at hTr
          have hbs := cb.size
          by_cases h1 : prD c = d
          · by_cases h2 : o < c
            · have hf : fitC o d c = true := by unfold fitC; rw [h1, decide_eq_true h2]; simp
              rw [hf, if_pos rfl] at hTr
              rw [← hTr] at HA
              have hA := HA.out
              simp only [Prod.mk.injEq] at hA
              obtain ⟨rfl, rfl⟩ := hA
              rw [h1] at PC
              have h2' : (o : Int) < V := by omega
              have HB := Lib.hid cb
              clear hf hTr h1 h2 HA cb P
              go_wp2_with (go_at_call 27; refine PC.out.mono ?_; rintro e w9 ⟨rfl, hbel⟩)
              refine bodyPost_ret (by simp [results, Tryd.results29, go_sem]) rfl ⟨rfl, ?_⟩
              exact HB.out.trans (hbel.mono hbs)
            · have hf : fitC o d c = false := by unfold fitC; rw [decide_eq_false h2, Bool.and_false]
              rw [hf, if_neg (by decide)] at hTr
              rw [h1] at PC
              have h2' : ¬ (o : Int) < c := by omega
              have HT := Lib.hid hTr
              have HB := Lib.hid cb
              clear hf hTr h1 h2 cb
              go_wp2_with (go_at_call 27; refine PC.out.mono ?_; rintro e w9 ⟨rfl, hbel⟩)
              go_roundw
              case rel => exact ⟨c + 1, by go_num, by omega, by omega, HT.out, HB.out.trans (hbel.mono hbs)⟩
              case measure => simp [intOf]; omega
          · have hf : fitC o d c = false := by
              unfold fitC
              have e : (prD c == d) = false := by rw [beq_eq_false_iff_ne]; exact h1
              rw [e, Bool.false_and]
            rw [hf, if_neg (by decide)] at hTr
            have h1' : ¬ (prD c : Int) = d := by omega
            have HT := Lib.hid hTr
            have HB := Lib.hid cb
            clear hf hTr h1 cb
            go_wp2_with (go_at_call 27; refine PC.out.mono ?_; rintro e w9 ⟨rfl, hbel⟩)
            go_roundw
            case rel => exact ⟨c + 1, by go_num, by omega, by omega, HT.out, HB.out.trans (hbel.mono hbs)⟩
            case measure => simp [intOf]; omega
        · obtain rfl : c = 38 := by omega
          simp only [Nat.sub_self, fnd] at hTr
          rw [← hTr] at HA
          have hA := HA.out
          simp only [Prod.mk.injEq] at hA
          obtain ⟨rfl, rfl⟩ := hA
          clear HA hTr
          go_wp2
          refine bodyPost_ret (by simp [results, Tryd.results29, go_sem]) rfl ⟨rfl, ?_⟩
          exact cb
    · have b3 : (4 : Int) < d := by omega
      have hB : chB o d = 0 := by unfold chB; rw [if_neg (fun h => h2 h.2.1)]
      have hE : chE o d = 2 := by unfold chE; rw [if_pos h1, if_neg h2]
      rw [hB, hE]
      go_enter Tryd.func29, Tryd.ntmps29
      go_wp2_with (go_at_call 31; refine R.out.mono ?_; rintro e w9 ⟨rfl, hb0⟩)
      refine bodyPost_ret (by simp [results, Tryd.results29, go_sem]) rfl ⟨rfl, ?_⟩
      exact hb0
  · rw [decide_eq_false h1] at R
    have hB : chB o d = 0 := by unfold chB; rw [if_neg (fun h => h1 h.1)]
    have hE : chE o d = 80 := by unfold chE; rw [if_neg h1]
    rw [hB, hE]
    go_enter Tryd.func29, Tryd.ntmps29
    go_wp2_with (go_at_call 31; refine R.out.mono ?_; rintro e w9 ⟨rfl, hb0⟩)
    refine bodyPost_ret (by simp [results, Tryd.results29, go_sem]) rfl ⟨rfl, ?_⟩
    exact hb0
/-- How many bids of a denomination below 3 + k are greater than a call. -/
def cj (o D : Nat) : Nat → Nat
  | 0 => 0
  | k + 1 => cj o D k + (if fitC o D (3 + k) then 1 else 0)
theorem cj_le (o D : Nat) : ∀ k, cj o D k ≤ k
  | 0 => Nat.le_refl _
  | k + 1 => by
    have := cj_le o D k
    unfold cj
    split <;> omega
theorem cj_jump : ∀ o, o < 38 → ∀ b, b < 38 → 3 ≤ b → o < b → cj o (prD b) (b - 3) = jmN o b := by decide +kernel
set_option maxRecDepth 100000 in
set_option maxHeartbeats 8000000 in
theorem ref_jump (o b : Nat) (ho : o < 256) (hb : b < 256) (w : World) : Calls Tryd.prog 30 #[.int .u8 o, .int .u8 b] w fun e w' => e = .returned (.tuple #[.int .i64 (jmN o b : Nat), .int .i64 (jmE o b)]) ∧ Below w.heap.size w w' := by
  have PB := Lib.hid (ref_parts b hb w)
  have R := Lib.hid (ref_right o ho)
  have P := Lib.hid ref_parts
  by_cases h2 : isb b = true
  · rw [h2] at PB
    by_cases h1 : o < 38
    · rw [decide_eq_true h1] at R
      by_cases h3 : o < b
      · have h2' := isb_iff.1 h2
        have hj := cj_jump o h1 b (by omega) h2'.1 h3
        have hE : jmE o b = 0 := by unfold jmE; rw [if_pos ⟨h1, h2⟩, if_pos h3]
        have b3 : ¬ (b : Int) ≤ o := by omega
        have b4 : decide (b ≤ o) = false := decide_eq_false (by omega)
        have b5 : decide ((b : Int) ≤ o) = false := decide_eq_false b3
        rw [hE]
        obtain ⟨D, hD⟩ : ∃ D, prD b = D := ⟨_, rfl⟩
        obtain ⟨J, hJ⟩ : ∃ D, jmN o b = D := ⟨_, rfl⟩
        rw [hD] at PB hj
        rw [hJ] at hj ⊢
        have HJ := Lib.hid hj
        have H2 := Lib.hid h2'
        clear hj hD hJ hE h1 h2 h2' h3
        go_enter Tryd.func30, Tryd.ntmps30
        go_upto_region 2 with (go_at_call 27; refine PB.out.mono ?_; rintro e w9 ⟨rfl, hb0⟩)
        go_upto_region 6 with (go_at_call 31; refine (R.out _).mono ?_; rintro e w8 ⟨rfl, hb1⟩)
        have zb := hb0.trans (hb1.mono hb0.size)
        clear hb0 hb1
        go_wp2
        go_loopw [9, 10, 11, 12, 13] (fun s9 s10 _ _ _ wr => ∃ k : Nat, s10 = .int .u8 ((3 + k : Nat) : Int) ∧ 3 + k ≤ b ∧ s9 = .int .i64 (cj o D k) ∧ Below w.heap.size w wr) (fun _ s10 _ _ _ _ => b - (intOf s10).toNat)
        case atStart => exact ⟨0, rfl, H2.out.1, rfl, zb⟩
        case round =>
          obtain ⟨k, rfl, hk, rfl, cb⟩ := hrel
          clear zb
          have hbb := H2.out.2
          by_cases hlt : 3 + k < b
          · have hS : cj o D (k + 1) = cj o D k + (if fitC o D (3 + k) then 1 else 0) := rfl
            have hcl := cj_le o D k
            obtain ⟨c, hc⟩ : ∃ c, 3 + k = c := ⟨_, rfl⟩
            have hc2 : 3 + (k + 1) = c + 1 := by omega
            rw [hc] at hS hk hlt ⊢
            have hlt2 : (c : Int) < b := by omega
            have u1 : IntKind.u8.wrap ((c : Int) + 1) = (c : Int) + 1 := u8_wrap (by omega) (by omega)
            have u2 : IntKind.i64.wrap ((cj o D k : Int) + 1) = (cj o D k : Int) + 1 := IntWalk.i64_in _ (by omega)
            have PC := Lib.hid (P.out c (by omega) wr)
            have hbs := cb.size
            have HB := Lib.hid cb
            have HC := Lib.hid hc2
            by_cases h1 : prD c = D
            · rw [h1] at PC
              by_cases h2 : o < c
              · have hf : fitC o D c = true := by unfold fitC; rw [h1, decide_eq_true h2]; simp
                rw [hf, if_pos rfl] at hS
                have HS := Lib.hid hS
                have h2' : (o : Int) < c := by omega
                clear hf hS h1 h2 cb hc hc2 hcl
                go_wp2_with (go_at_call 27; refine PC.out.mono ?_; rintro e w9 ⟨rfl, hbel⟩)
                go_roundw
                case rel => exact ⟨k + 1, by rw [HC.out]; simp, by have := HC.out; omega, by rw [HS.out]; simp, HB.out.trans (hbel.mono hbs)⟩
                case measure => simp [intOf]; omega
              · have hf : fitC o D c = false := by unfold fitC; rw [decide_eq_false h2, Bool.and_false]
                rw [hf, if_neg (by decide), Nat.add_zero] at hS
                have HS := Lib.hid hS
                have h2' : ¬ (o : Int) < c := by omega
                clear hf hS h1 h2 cb hc hc2 hcl
                go_wp2_with (go_at_call 27; refine PC.out.mono ?_; rintro e w9 ⟨rfl, hbel⟩)
                go_roundw
                case rel => exact ⟨k + 1, by rw [HC.out]; simp, by have := HC.out; omega, by rw [HS.out]; rfl, HB.out.trans (hbel.mono hbs)⟩
                case measure => simp [intOf]; omega
            · have hf : fitC o D c = false := by
                unfold fitC
                have e : (prD c == D) = false := by rw [beq_eq_false_iff_ne]; exact h1
                rw [e, Bool.false_and]
              rw [hf, if_neg (by decide), Nat.add_zero] at hS
              have HS := Lib.hid hS
              have h1' : ¬ (prD c : Int) = D := by omega
              clear hf hS h1 cb hc hc2 hcl
              go_wp2_with (go_at_call 27; refine PC.out.mono ?_; rintro e w9 ⟨rfl, hbel⟩)
              go_roundw
              case rel => exact ⟨k + 1, by rw [HC.out]; simp, by have := HC.out; omega, by rw [HS.out]; rfl, HB.out.trans (hbel.mono hbs)⟩
              case measure => simp [intOf]; omega
          · have hkb : 3 + k = b := by omega
            have hj := HJ.out
            rw [show b - 3 = k by omega] at hj
            rw [hj, hkb]
            clear hkb hj hlt hk
            go_wp2
            refine bodyPost_ret (by simp [results, Tryd.results30, go_sem]) rfl ⟨rfl, ?_⟩
            exact cb
      · have hN : jmN o b = 0 := by unfold jmN; rw [if_neg (fun h => h3 h.2.2)]
        have hE : jmE o b = 6 := by unfold jmE; rw [if_pos ⟨h1, h2⟩, if_neg h3]
        have b3 : (b : Int) ≤ o := by omega
        rw [hN, hE]
        go_enter Tryd.func30, Tryd.ntmps30
        go_upto_region 2 with (go_at_call 27; refine PB.out.mono ?_; rintro e w9 ⟨rfl, hb0⟩)
        go_wp2_with (go_at_call 31; refine (R.out _).mono ?_; rintro e w8 ⟨rfl, hb1⟩)
        refine bodyPost_ret (by simp [results, Tryd.results30, go_sem]) rfl ⟨rfl, ?_⟩
        exact hb0.trans (hb1.mono hb0.size)
    · have hN : jmN o b = 0 := by unfold jmN; rw [if_neg (fun h => h1 h.1)]
      have hE : jmE o b = 80 := by unfold jmE; rw [if_neg (fun h => h1 h.1)]
      rw [hN, hE]
      rw [decide_eq_false h1] at R
      go_enter Tryd.func30, Tryd.ntmps30
      go_upto_region 2 with (go_at_call 27; refine PB.out.mono ?_; rintro e w9 ⟨rfl, hb0⟩)
      go_wp2_with (go_at_call 31; refine (R.out _).mono ?_; rintro e w8 ⟨rfl, hb1⟩)
      refine bodyPost_ret (by simp [results, Tryd.results30, go_sem]) rfl ⟨rfl, ?_⟩
      exact hb0.trans (hb1.mono hb0.size)
  · have hN : jmN o b = 0 := by unfold jmN; rw [if_neg (fun h => h2 h.2.1)]
    have hE : jmE o b = 80 := by unfold jmE; rw [if_neg (fun h => h2 h.2)]
    rw [hN, hE]
    rw [Bool.not_eq_true] at h2
    rw [h2] at PB
    go_enter Tryd.func30, Tryd.ntmps30
    go_wp2_with (go_at_call 27; refine PB.out.mono ?_; rintro e w9 ⟨rfl, hb0⟩)
    refine bodyPost_ret (by simp [results, Tryd.results30, go_sem]) rfl ⟨rfl, ?_⟩
    exact hb0
set_option maxRecDepth 100000 in
set_option maxHeartbeats 4000000 in
theorem ref_read (l : List UInt8) (w : World) : Calls Tryd.prog 35 #[strv l] w fun e w' => e = .returned (.tuple #[.int .u8 (rdV l : Nat), .int .i64 (rdE l)]) ∧ Below w.heap.size w w' := by
  have N := Lib.hid names_calls
  obtain ⟨T, hT⟩ : ∃ T, rd l = T := ⟨_, rfl⟩
  unfold rdV rdE
  rw [hT]
  have hT0 : rdF l 38 0 = T := hT
  have z0 : blk (w.alloc (.cells txA 9)) w.heap.size txA 9 := blk_new _ _ _
  have zb : Below w.heap.size w (w.alloc (.cells txA 9)) := by repeat (first | (with_reducible exact Below.refl _ _) | ((with_reducible refine below_grow ?_ ?_); rotate_left; focus (first | omega | (simp [go_sem]; done) | (simp [go_sem]; omega))) | ((with_reducible refine Below.alloc ?_ ?_ _); rotate_left; focus (first | omega | (simp [go_sem]; done) | (simp [go_sem]; omega))) | ((with_reducible refine Below.setCell ?_ ?_ _); rotate_left; focus (first | omega | (simp [go_sem]; done) | (simp [go_sem]; omega))) | (with_reducible refine Below.drew ?_) | (with_reducible refine below_drewN _ ?_))
  clear hT
  go_enter Tryd.func35, Tryd.ntmps35
  go_upto_region 2 with (go_at_call 52; refine (N.out _).mono ?_; rintro e w9 ⟨rfl, rfl⟩)
  generalize (w.alloc (.cells txA 9)) = W at *
  go_wp2
  go_loopw [5] (fun s5 wr => ∃ i : Nat, s5 = .int .i64 i ∧ i ≤ 38 ∧ rdF l (38 - i) i = T ∧ W = wr) (fun s5 _ => 38 - (intOf s5).toNat)
  case atStart => exact ⟨0, rfl, by decide, hT0, rfl⟩
  case round =>
    obtain ⟨i, rfl, hi, hTr, rfl⟩ := hrel
    by_cases hlt : i < 38
    · have hlt2 : (i : Int) < 38 := by omega
      have k0 : W.cell? ⟨w.heap.size, i, none⟩ = some (strv (nm i)) := by rw [blk_cell z0, txA_get i hlt]
      have e1 : IntKind.i64.wrap ((i : Int) + 1) = (i : Int) + 1 := IntWalk.i64_in _ (by omega)
      have e2 : IntKind.u8.wrap (i : Int) = i := u8_wrap (by omega) (by omega)
      rw [show 38 - i = (38 - (i + 1)) + 1 by omega] at hTr
      unfold rdF at hTr
      obtain ⟨n, hn⟩ : ∃ n, nm i = n := ⟨_, rfl⟩
      rw [hn] at k0 hTr
      by_cases hq : n = l
      · rw [if_pos hq] at hTr
        have hb : (n == l) = true := by rw [hq]; simp
        subst hTr
        subst hq
        clear hn hT0 hi
        go_wp2
        refine bodyPost_ret (by simp [results, Tryd.results35, go_sem]) rfl ⟨rfl, zb⟩
      · rw [if_neg hq] at hTr
        have hb : (n == l) = false := by simpa using hq
        have H := Lib.hid hTr
        clear hq hn hT0 hTr
        go_wp2
        go_roundw
        case rel => exact ⟨i + 1, by go_num, by omega, H.out, by trivial⟩
        case measure => simp [intOf]; omega
    · obtain rfl : i = 38 := by omega
      simp only [Nat.sub_self, rdF] at hTr
      subst hTr
      clear hT0
      go_wp2
      refine bodyPost_ret (by simp [results, Tryd.results35, go_sem]) rfl ⟨rfl, zb⟩
end Go.Proofs.YtblmdnmnodogiaaDoor
