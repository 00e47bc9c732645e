/- CallCheapest: the cheapest bids over a call are the next five, as far as there are any; how many levels a higher bid is higher. -/
import Derived.Test.YtblmdnmnodogiaaDoorKH
namespace Go.Proofs.YtblmdnmnodogiaaDoor
open Go.RowKit

/-- How many of the denominations below d have a cheapest bid over a call. -/
def cntC (o : Nat) : Nat → Nat
  | 0 => 0
  | d + 1 => cntC o d + (if cand o d < 38 then 1 else 0)
theorem cntC_le (o : Nat) : ∀ d, cntC o d ≤ d
  | 0 => Nat.le_refl _
  | d + 1 => by
    have := cntC_le o d
    unfold cntC
    split <;> omega
theorem cntC_five : ∀ o, o < 38 → cntC o 5 = min 5 (38 - (max o 2 + 1)) := by decide
theorem cand_is {o d : Nat} (ho : o < 38) (hd : d < 5) : max o 2 + 1 ≤ cand o d ∧ cand o d < max o 2 + 1 + 5 ∧ 3 ≤ cand o d ∧ (cand o d - 3) % 5 = d := by
  have hc : cand o d = max (o + 1) 3 + (d + 5 - (max (o + 1) 3 - 3) % 5) % 5 := rfl
  rw [hc]
  omega
theorem jump_math {o b : Nat} (ho : o < 38) (hb : isb b = true) (h : o < b) : chE o (prD b) = 0 ∧ jmN o b + prL (chB o (prD b)) = prL b ∧ chB o (prD b) + 5 * jmN o b = b ∧ isb (chB o (prD b)) = true := by
  obtain ⟨c1, c2, c3, c4, c5⟩ := cheap_le ho hb h
  have h1 := isb_iff.1 hb
  have e1 : prL b = (b - 3) / 5 + 1 := by unfold prL; rw [if_pos hb]
  have e3 : prD b = (b - 3) % 5 := by unfold prD; rw [if_pos hb]
  have h5 := prD_lt b
  have hj : jmN o b = prL b - prL (chB o (prD b)) := by unfold jmN; rw [if_pos ⟨ho, hb, h⟩]
  obtain ⟨D, hD⟩ : ∃ D, prD b = D := ⟨_, rfl⟩
  rw [hD] at c1 c2 c3 c4 c5 hj e3 h5 ⊢
  obtain ⟨q, hq⟩ : ∃ q, cand o D = q := ⟨_, rfl⟩
  have hE : chE o D = 0 := by unfold chE; rw [if_pos ho, if_pos h5, if_pos (by omega)]
  rw [hq] at c1 c2 c3 c4 c5
  have h2 := isb_iff.1 c3
  have e2 : prL q = (q - 3) / 5 + 1 := by unfold prL; rw [if_pos c3]
  have e4 : prD q = (q - 3) % 5 := by unfold prD; rw [if_pos c3]
  rw [c5] at hj ⊢
  refine ⟨hE, ?_, ?_, c3⟩
  · omega
  · omega
set_option maxRecDepth 100000 in
set_option maxHeartbeats 8000000 in
theorem cheap_nat (a b : Nat) (_ha : a < 256) (hb : b < 256) (w : World) (he : Env w) : Calls Tryd.prog 8 #[.int .u8 a, .int .u8 b] w fun e w' => e = .returned (.bool true) ∧ Below w.heap.size w w' := by
  have AW := Lib.hid (awake_calls w he)
  obtain ⟨o, ho⟩ : ∃ o, a % 38 = o := ⟨_, rfl⟩
  have ho38 : o < 38 := by omega
  have e1 : (a : Int).tmod 38 = o := by rw [Int.tmod_eq_emod_of_nonneg (by omega)]; omega
  have e1' : (a : Int) % 38 = o := by omega
  have e2 : IntKind.u8.wrap (o : Int) = o := u8_wrap (by omega) (by omega)
  obtain ⟨m, hm⟩ : ∃ m, max o 2 = m := ⟨_, rfl⟩
  have e3 : max (o : Int) 2 = m := by omega
  obtain ⟨n, hn⟩ : ∃ n, m + 1 = n := ⟨_, rfl⟩
  have e4 : IntKind.u8.wrap ((m : Int) + 1) = n := by rw [u8_wrap (by omega) (by omega)]; omega
  have C := Lib.hid (fun d (hd : d < 5) => cheapest_calls o d (by omega) (by omega))
  have CM := Lib.hid (fun d (hd : d < 5) => cand_is ho38 hd)
  have F5 := Lib.hid (cntC_five o ho38)
  rw [hm, hn] at CM F5
  have P := Lib.hid parts_calls
  have J := Lib.hid (jump_calls o b (by omega) hb)
  have JM := Lib.hid (fun h1 h2 => jump_math (b := b) ho38 h1 h2)
  have HO := Lib.hid ho38
  have HN := Lib.hid (show 3 ≤ n ∧ n ≤ 38 by omega)
  clear he ho hm hn ho38 _ha
  go_enter Tryd.func8, Tryd.ntmps8
  go_upto_region 3 with (go_at_call 11; refine AW.out.mono ?_; rintro e w9 ⟨rfl, hbel⟩; obtain ⟨o1, j1, rfl⟩ := grow_of_below hbel; clear hbel)
  clear AW
  go_upto_region 6 with fail
  clear e1 e1' e3 e4
  go_wp2
  go_loopw [6, 7, 8, 9, 10, 11, 12] (fun s6 s7 _ _ _ _ _ wr => ∃ d : Nat, s7 = .int .u8 d ∧ d ≤ 5 ∧ s6 = .int .i64 (cntC o d) ∧ grow w o1 j1 = wr) (fun _ s7 _ _ _ _ _ _ => 5 - (intOf s7).toNat)
  case atStart => exact ⟨0, rfl, by decide, rfl, rfl⟩
  case round =>
    obtain ⟨d, rfl, hd5, rfl, rfl⟩ := hrel
    by_cases hd : d < 5
    · have hlt2 : (d : Int) < 5 := by omega
      have CD := Lib.hid (C.out d hd)
      obtain ⟨m1, m2, m3, m4⟩ := CM.out d hd
      have u1 : IntKind.u8.wrap ((d : Int) + 1) = (d : Int) + 1 := u8_wrap (by omega) (by omega)
      have hcl := cntC_le o d
      by_cases hc : cand o d < 38
      · have hk : isb (cand o d) = true := isb_iff.2 ⟨m3, by omega⟩
        have hB : chB o d = cand o d := by unfold chB; rw [if_pos ⟨HO.out, hd, hc⟩]
        have hE : chE o d = 0 := by unfold chE; rw [if_pos HO.out, if_pos hd, if_pos hc]
        have hD : prD (cand o d) = d := by unfold prD; rw [if_pos hk]; exact m4
        have P1 := Lib.hid (P.out (cand o d))
        rw [hk, hD] at P1
        rw [hB, hE] at CD
        have hS : cntC o (d + 1) = cntC o d + 1 := by rw [cntC, if_pos hc]
        have u2 : IntKind.i64.wrap ((cntC o d : Int) + 1) = (cntC o d : Int) + 1 := IntWalk.i64_in _ (by omega)
        obtain ⟨q, hq⟩ : ∃ q, cand o d = q := ⟨_, rfl⟩
        obtain ⟨lv, hlv⟩ : ∃ q, prL (cand o d) = q := ⟨_, rfl⟩
        rw [hlv] at P1
        rw [hq] at P1 CD m1 m2
        have v1 : ¬ (q : Int) < n := by omega
        have v2 : ¬ (n : Int) + 5 ≤ q := by omega
        have v3 : IntKind.u8.wrap ((n : Int) + 5) = n + 5 := u8_wrap (by omega) (by have := HN.out; omega)
        have HS := Lib.hid hS
        clear hk hB hE hD hlv hq m1 m2 m3 m4 hS hc hd hcl
        go_wp2_with (first | (go_at_call 21; refine (CD.out _).mono ?_; rintro e w9 ⟨rfl, rfl⟩) | (go_at_call 19; refine (P1.out _).mono ?_; rintro e w9 ⟨rfl, rfl⟩))
        go_roundw
        case rel => exact ⟨d + 1, by go_num, by omega, by rw [HS.out]; simp, by trivial⟩
        case measure => simp [intOf]; omega
      · have hB : chB o d = 0 := by unfold chB; rw [if_neg (fun h => hc h.2.2)]
        have hE : chE o d = 6 := by unfold chE; rw [if_pos HO.out, if_pos hd, if_neg hc]
        have P1 := Lib.hid (P.out 0)
        rw [show prL 0 = 0 from rfl, show prD 0 = 0 from rfl, show isb 0 = false from rfl] at P1
        rw [hB, hE] at CD
        have HS := Lib.hid (show cntC o (d + 1) = cntC o d by rw [cntC, if_neg hc]; rfl)
        clear hB hE m1 m2 m3 m4 hc hd hcl
        go_wp2_with (first | (go_at_call 21; refine (CD.out _).mono ?_; rintro e w9 ⟨rfl, rfl⟩) | (go_at_call 19; refine (P1.out _).mono ?_; rintro e w9 ⟨rfl, rfl⟩))
        go_roundw
        case rel => exact ⟨d + 1, by go_num, by omega, by rw [HS.out], by trivial⟩
        case measure => simp [intOf]; omega
    · obtain rfl : d = 5 := by omega
      have hn := HN.out
      have u1 : IntKind.i64.wrap (n : Int) = n := IntWalk.i64_in _ (by omega)
      have u2 : IntKind.i64.wrap (38 - (n : Int)) = 38 - n := IntWalk.i64_in _ (by omega)
      obtain ⟨f, hf⟩ : ∃ f, cntC o 5 = f := ⟨_, rfl⟩
      have F := F5.out
      rw [hf] at F
      have u3 : min (5 : Int) (38 - (n : Int)) = f := by omega
      rw [hf]
      clear hf F F5 hn
      have PB := Lib.hid (P.out b)
      by_cases hb1 : isb b = true
      · rw [hb1] at PB
        by_cases hob : o < b
        · obtain ⟨g1, g2, g3, g4⟩ := JM.out hb1 hob
          have hjE : jmE o b = 0 := by unfold jmE; rw [if_pos ⟨HO.out, hb1⟩, if_pos hob]
          have CD := Lib.hid (C.out (prD b) (prD_lt b))
          have PC := Lib.hid (P.out (chB o (prD b)))
          have hl := prL_le b
          have hc38 := chB_le o (prD b)
          rw [hjE] at J
          rw [g1] at CD
          rw [g4] at PC
          obtain ⟨D, hD⟩ : ∃ D, prD b = D := ⟨_, rfl⟩
          obtain ⟨N, hN⟩ : ∃ D, jmN o b = D := ⟨_, rfl⟩
          obtain ⟨L, hL⟩ : ∃ D, prL b = D := ⟨_, rfl⟩
          rw [hD, hL] at PB
          rw [hD] at CD PC g2 g3 hc38
          rw [hN] at J g2 g3
          rw [hL] at g2 hl
          obtain ⟨q, hq⟩ : ∃ y, chB o D = y := ⟨_, rfl⟩
          rw [hq] at CD PC g2 g3 hc38
          obtain ⟨L2, hL2⟩ : ∃ D, prL q = D := ⟨_, rfl⟩
          obtain ⟨D2, hD2⟩ : ∃ D, prD q = D := ⟨_, rfl⟩
          rw [hL2, hD2] at PC
          rw [hL2] at g2
          have w1 : IntKind.i64.wrap (L : Int) = L := IntWalk.i64_in _ (by omega)
          have w2 : IntKind.i64.wrap (L2 : Int) = L2 := IntWalk.i64_in _ (by omega)
          have w3 : IntKind.i64.wrap ((L : Int) - L2) = N := by rw [IntWalk.i64_in _ (by omega)]; omega
          have w4 : IntKind.i64.wrap (q : Int) = q := IntWalk.i64_in _ (by omega)
          have w5 : IntKind.i64.wrap ((5 : Int) * N) = 5 * N := IntWalk.i64_in _ (by omega)
          have w6 : IntKind.i64.wrap ((q : Int) + 5 * N) = b := by rw [IntWalk.i64_in _ (by omega)]; omega
          have w7 : IntKind.i64.wrap (b : Int) = b := IntWalk.i64_in _ (by omega)
          have w8 : ¬ (b : Int) ≤ o := by omega
          clear JM C P CM hb1 hob g1 g2 g3 g4 hjE hl hc38 hD hN hL hq hL2 hD2 hb
          go_upto_region 18 with (go_at_call 19; refine (PB.out _).mono ?_; rintro e w9 ⟨rfl, rfl⟩)
          go_wp2_with (first | (go_at_call 22; refine (J.out _).mono ?_; rintro e w9 ⟨rfl, rfl⟩) | (go_at_call 21; refine (CD.out _).mono ?_; rintro e w9 ⟨rfl, rfl⟩) | (go_at_call 19; refine (PC.out _).mono ?_; rintro e w9 ⟨rfl, rfl⟩))
          refine bodyPost_ret (by simp [results, Tryd.results8, go_sem]) rfl ⟨rfl, ?_⟩
          repeat (first | (with_reducible exact Below.refl _ _) | ((with_reducible refine below_grow ?_ ?_); rotate_left; focus (first | omega | (simp [go_sem]; done) | (simp [go_sem]; omega))) | ((with_reducible refine Below.alloc ?_ ?_ _); rotate_left; focus (first | omega | (simp [go_sem]; done) | (simp [go_sem]; omega))) | ((with_reducible refine Below.setCell ?_ ?_ _); rotate_left; focus (first | omega | (simp [go_sem]; done) | (simp [go_sem]; omega))) | (with_reducible refine Below.drew ?_) | (with_reducible refine below_drewN _ ?_))
        · have hjN : jmN o b = 0 := by unfold jmN; rw [if_neg (fun h => hob h.2.2)]
          have hjE : jmE o b = 6 := by unfold jmE; rw [if_pos ⟨HO.out, hb1⟩, if_neg hob]
          have w8 : (b : Int) ≤ o := by omega
          rw [hjN, hjE] at J
          clear JM C P CM hb1 hob hjN hjE hb
          go_upto_region 18 with (go_at_call 19; refine (PB.out _).mono ?_; rintro e w9 ⟨rfl, rfl⟩)
          go_wp2_with (go_at_call 22; refine (J.out _).mono ?_; rintro e w9 ⟨rfl, rfl⟩)
          refine bodyPost_ret (by simp [results, Tryd.results8, go_sem]) rfl ⟨rfl, ?_⟩
          repeat (first | (with_reducible exact Below.refl _ _) | ((with_reducible refine below_grow ?_ ?_); rotate_left; focus (first | omega | (simp [go_sem]; done) | (simp [go_sem]; omega))) | ((with_reducible refine Below.alloc ?_ ?_ _); rotate_left; focus (first | omega | (simp [go_sem]; done) | (simp [go_sem]; omega))) | ((with_reducible refine Below.setCell ?_ ?_ _); rotate_left; focus (first | omega | (simp [go_sem]; done) | (simp [go_sem]; omega))) | (with_reducible refine Below.drew ?_) | (with_reducible refine below_drewN _ ?_))
      · have hjN : jmN o b = 0 := by unfold jmN; rw [if_neg (fun h => hb1 h.2.1)]
        have hjE : jmE o b = 80 := by unfold jmE; rw [if_neg (fun h => hb1 h.2)]
        rw [Bool.not_eq_true] at hb1
        rw [hb1] at PB
        rw [hjN, hjE] at J
        clear JM C P CM hb1 hjN hjE hb
        go_upto_region 18 with (go_at_call 19; refine (PB.out _).mono ?_; rintro e w9 ⟨rfl, rfl⟩)
        go_wp2_with (go_at_call 22; refine (J.out _).mono ?_; rintro e w9 ⟨rfl, rfl⟩)
        refine bodyPost_ret (by simp [results, Tryd.results8, go_sem]) rfl ⟨rfl, ?_⟩
        repeat (first | (with_reducible exact Below.refl _ _) | ((with_reducible refine below_grow ?_ ?_); rotate_left; focus (first | omega | (simp [go_sem]; done) | (simp [go_sem]; omega))) | ((with_reducible refine Below.alloc ?_ ?_ _); rotate_left; focus (first | omega | (simp [go_sem]; done) | (simp [go_sem]; omega))) | ((with_reducible refine Below.setCell ?_ ?_ _); rotate_left; focus (first | omega | (simp [go_sem]; done) | (simp [go_sem]; omega))) | (with_reducible refine Below.drew ?_) | (with_reducible refine below_drewN _ ?_))
theorem callCheapest_walk (a b : Int) (ha : 0 ≤ a ∧ a ≤ 255) (hb : 0 ≤ b ∧ b ≤ 255) (w : World) (he : Env w) : Calls Tryd.prog 8 #[.int .u8 a, .int .u8 b] w fun e w' => e = .returned (.bool true) ∧ Below w.heap.size w w' := by
  obtain ⟨a, rfl⟩ : ∃ n : Nat, a = n := ⟨a.toNat, by omega⟩
  obtain ⟨b, rfl⟩ : ∃ n : Nat, b = n := ⟨b.toNat, by omega⟩
  exact cheap_nat a b (by omega) (by omega) w he
end Go.Proofs.YtblmdnmnodogiaaDoor
