/- HandSmall: the walk. -/
import Derived.Test.YtgndhdcnofblaaaDoorRI0
import Derived.BigQuiet
import Derived.Deep.LoopGhost
namespace Go.Proofs.YtgndhdcnofblaaaDoor
open Go.RowKit

theorem or_parts : ∀ i : Fin 128, bits .or .u64 ((i.val : Int) / 8 * 512) (IntKind.u64.wrap (bits .and .i64 (i.val : Int) 7)) = ((i.val / 8 * 512 + i.val % 8 : Nat) : Int) := by decide +kernel
theorem or_lt64 (p q : Nat) (hp : p < 18446744073709551616) (hq : q < 18446744073709551616) : p ||| q < 18446744073709551616 := Nat.or_lt_two_pow (n := 64) hp hq
set_option maxRecDepth 100000 in
set_option maxHeartbeats 8000000 in
theorem handSmall_walk (w : World) : Calls Tryd.prog 4 #[] w fun e w' => e = .returned (.bool true) ∧ Below w.heap.size w w' := by
  have SM := Lib.hid same_calls
  have AW := Lib.hid awake_calls
  have S0 : ∀ w, Calls Tryd.prog 11 #[.int .u64 0] w fun e w' => e = .returned (.bool true) ∧ Below w.heap.size w w' := same_calls 0 (by decide)
  have S1 : ∀ w, Calls Tryd.prog 11 #[.int .u64 18446744073709551615] w fun e w' => e = .returned (.bool true) ∧ Below w.heap.size w w' := same_calls 18446744073709551615 (by decide)
  have S0 := Lib.hid S0
  have S1 := Lib.hid S1
  go_enter Tryd.func4, Tryd.ntmps4
  go_wp2
  go_loopw [11] (fun s11 wr => ∃ i : Nat, s11 = .int .i64 i ∧ i ≤ 128 ∧ Below w.heap.size w wr) (fun s11 _ => 128 - (intOf s11).toNat)
  case atStart => exact ⟨0, rfl, by decide, by repeat (first | (with_reducible exact Below.refl _ _) | ((with_reducible refine below_grow ?_ ?_); rotate_left; focus (first | omega | (simp [go_sem]; done) | (simp [go_sem]; omega))) | ((with_reducible refine Below.alloc ?_ ?_ _); rotate_left; focus (first | omega | (simp [go_sem]; done) | (simp [go_sem]; omega))) | ((with_reducible refine Below.setCell ?_ ?_ _); rotate_left; focus (first | omega | (simp [go_sem]; done) | (simp [go_sem]; omega))) | (with_reducible refine Below.drew ?_) | (with_reducible refine below_drewN _ ?_))⟩
  case round =>
    obtain ⟨i, rfl, hi, hb⟩ := hrel
    by_cases hlt : i < 128
    · have hlt2 : (i : Int) < 128 := by omega
      have f1 : IntKind.i64.wrap ((i : Int) + 1) = (i : Int) + 1 := IntWalk.i64_in _ (by omega)
      have eo := or_parts ⟨i, hlt⟩
      simp only at eo
      obtain ⟨h, hh⟩ : ∃ h, i / 8 * 512 + i % 8 = h := ⟨_, rfl⟩
      rw [hh] at eo
      have HL := Lib.hid hlt
      have HB := Lib.hid hb
      clear hlt hi hb hh
      go_wp2
      go_loopw [22] (fun s22 wq => ∃ s : Nat, s22 = .int .i64 s ∧ s ≤ 4 ∧ Below w.heap.size w wq) (fun s22 _ => 4 - (intOf s22).toNat)
      case atStart => exact ⟨0, rfl, by decide, HB.out⟩
      case round =>
        obtain ⟨s, rfl, hs, hb⟩ := hrel
        clear eo
        by_cases hs4 : s < 4
        · have hs4' : (s : Int) < 4 := by omega
          have g1 : IntKind.i64.wrap ((s : Int) + 1) = (s : Int) + 1 := IntWalk.i64_in _ (by omega)
          obtain ⟨z, hz⟩ : ∃ z, 13 * s = z := ⟨_, rfl⟩
          have g2 : IntKind.i64.wrap (13 * (s : Int)) = (z : Int) := by rw [IntWalk.i64_in _ (by omega)]; omega
          have z64 : z < 64 := by omega
          have g3 : IntKind.u64.wrap ((h : Int) * 2 ^ z) = ((h * 2 ^ z % 18446744073709551616 : Nat) : Int) := by
            have e : ((h : Int) * 2 ^ z) = ((h * 2 ^ z : Nat) : Int) := by simp
            rw [e]
            generalize h * 2 ^ z = x
            rw [IntKind.wrap_u64]; omega
          have S := SM.out (h * 2 ^ z % 18446744073709551616) (Nat.mod_lt _ (by decide))
          obtain ⟨x, hx⟩ : ∃ x, h * 2 ^ z % 18446744073709551616 = x := ⟨_, rfl⟩
          rw [hx] at g3 S
          have S := Lib.hid S
          have HS := Lib.hid hs4
          have HB := Lib.hid hb
          clear hs4 hs hb hz hx
          go_wp2_with (go_at_call 11; refine (S.out _).mono ?_; rintro e w1 ⟨rfl, hbel⟩; obtain ⟨o1, j1, rfl⟩ := grow_of_below hbel; clear hbel)
          go_roundw
          case rel => exact ⟨s + 1, by go_num, HS.out, below_grow HB.out (by have := HB.out.size; omega)⟩
          case measure => simp [intOf]; have := HS.out; omega
        · obtain rfl : s = 4 := by omega
          have HB := Lib.hid hb
          clear hs hs4 hb
          go_wp2
          go_roundw
          case rel => exact ⟨i + 1, by go_num, HL.out, HB.out⟩
          case measure => simp [intOf]; have := HL.out; omega
    · obtain rfl : i = 128 := by omega
      rw [show ((128 : Nat) : Int) = 128 from rfl]
      have HB := Lib.hid hb
      clear hlt hi hb
      go_wp2
      go_loopw [33] (fun s33 wq => ∃ c : Nat, s33 = .int .i64 c ∧ c ≤ 14 ∧ Below w.heap.size w wq) (fun s33 _ => 14 - (intOf s33).toNat)
      case atStart => exact ⟨0, rfl, by decide, HB.out⟩
      case round =>
        obtain ⟨c, rfl, hc, hb⟩ := hrel
        by_cases hlt : c < 14
        · have hlt2 : (c : Int) < 14 := by omega
          have f1 : IntKind.i64.wrap ((c : Int) + 1) = (c : Int) + 1 := IntWalk.i64_in _ (by omega)
          obtain ⟨x, hx⟩ : ∃ x, 14 - c = x := ⟨_, rfl⟩
          have f2 : IntKind.i64.wrap (14 - (c : Int)) = (x : Int) := by rw [IntWalk.i64_in _ (by omega)]; omega
          have HLC := Lib.hid hlt
          have HX := Lib.hid hx
          have HB := Lib.hid hb
          clear hlt hc hb hx
          go_wp2
          go_loopw [38] (fun s38 wq => ∃ d : Nat, s38 = .int .i64 d ∧ d ≤ x ∧ Below w.heap.size w wq) (fun s38 _ => x - (intOf s38).toNat)
          case atStart => exact ⟨0, rfl, Nat.zero_le _, HB.out⟩
          case round =>
            obtain ⟨d, rfl, hd, hb⟩ := hrel
            by_cases hlt : d < x
            · have hlt2 : (d : Int) < x := by omega
              have hxx := HX.out
              have hc14 := HLC.out
              have g1 : IntKind.i64.wrap ((d : Int) + 1) = (d : Int) + 1 := IntWalk.i64_in _ (by omega)
              obtain ⟨y, hy⟩ : ∃ y, x - d = y := ⟨_, rfl⟩
              have g2 : IntKind.i64.wrap ((x : Int) - d) = (y : Int) := by rw [IntWalk.i64_in _ (by omega)]; omega
              have HLD := Lib.hid hlt
              have HY := Lib.hid hy
              have HB := Lib.hid hb
              clear hlt hd hb hy hxx hc14
              go_wp2
              go_loopw [45] (fun s45 wq => ∃ h : Nat, s45 = .int .i64 h ∧ h ≤ y ∧ Below w.heap.size w wq) (fun s45 _ => y - (intOf s45).toNat)
              case atStart => exact ⟨0, rfl, Nat.zero_le _, HB.out⟩
              case round =>
                obtain ⟨h, rfl, hh, hb⟩ := hrel
                by_cases hlt : h < y
                · have hlt2 : (h : Int) < y := by omega
                  have hxx := HX.out
                  have hyy := HY.out
                  have hc14 := HLC.out
                  have hdx := HLD.out
                  have h1 : IntKind.i64.wrap ((h : Int) + 1) = (h : Int) + 1 := IntWalk.i64_in _ (by omega)
                  obtain ⟨p, hp⟩ : ∃ p, 13 - c = p := ⟨_, rfl⟩
                  obtain ⟨q, hq⟩ : ∃ p, 13 - c - d = p := ⟨_, rfl⟩
                  obtain ⟨s, hs⟩ : ∃ p, 13 - c - d - h = p := ⟨_, rfl⟩
                  have h2 : IntKind.i64.wrap (13 - (c : Int)) = (p : Int) := by rw [IntWalk.i64_in _ (by omega)]; omega
                  have h3 : IntKind.i64.wrap ((p : Int) - d) = (q : Int) := by rw [IntWalk.i64_in _ (by omega)]; omega
                  have h4 : IntKind.i64.wrap ((q : Int) - h) = (s : Int) := by rw [IntWalk.i64_in _ (by omega)]; omega
                  obtain ⟨m, hm⟩ : ∃ p, c + d = p := ⟨_, rfl⟩
                  obtain ⟨n, hn⟩ : ∃ p, m + h = p := ⟨_, rfl⟩
                  have h5 : IntKind.i64.wrap ((c : Int) + d) = (m : Int) := by rw [IntWalk.i64_in _ (by omega)]; omega
                  have h6 : IntKind.i64.wrap ((m : Int) + h) = (n : Int) := by rw [IntWalk.i64_in _ (by omega)]; omega
                  have hs13 : s ≤ 13 := by omega
                  have c13 : c ≤ 13 := by omega
                  have d13 : d ≤ 13 := by omega
                  have h13 : h ≤ 13 := by omega
                  have HLH := Lib.hid hlt
                  have HB := Lib.hid hb
                  have h24 : True := trivial
                  clear hxx hyy hc14 hdx hp hq hs hm hn hlt hh hb
                  by_cases par : n % 2 = 0
                  · have pz : (n : Int).tmod 2 = 0 := by rw [Int.tmod_eq_emod_of_nonneg (by omega)]; omega
                    have pz2 : (n : Int) % 2 = 0 := by omega
                    obtain ⟨x1, l1, X1⟩ := lows c (by omega)
                    obtain ⟨x2, l2, X2⟩ := highs d (by omega)
                    obtain ⟨x3, l3, X3⟩ := lows h (by omega)
                    obtain ⟨x4, l4, X4⟩ := highs s (by omega)
                    have lt : of4 x1 x2 x3 x4 < 18446744073709551616 := by unfold of4; omega
                    have OFF := Lib.hid (of_calls x1 x2 x3 x4 l1 l2 l3 l4)
                    have S := Lib.hid (SM.out _ lt)
                    obtain ⟨of, hy⟩ : ∃ y, of4 x1 x2 x3 x4 = y := ⟨_, rfl⟩
                    rw [hy] at OFF S
                    have X1 := Lib.hid X1
                    have X2 := Lib.hid X2
                    have X3 := Lib.hid X3
                    have X4 := Lib.hid X4
                    clear hy lt l1 l2 l3 l4 hs13 c13 d13 h13
                    go_wp2_with (first | (go_at_call_of 15 (Value.int .i64 (c : Int)); refine (X1.out _).mono ?_; rintro e w1 ⟨rfl, rfl⟩) | (go_at_call_of 15 (Value.int .i64 (h : Int)); refine (X3.out _).mono ?_; rintro e w1 ⟨rfl, rfl⟩) | (go_at_call_of 16 (Value.int .i64 (d : Int)); refine (X2.out _).mono ?_; rintro e w1 ⟨rfl, rfl⟩) | (go_at_call_of 16 (Value.int .i64 (s : Int)); refine (X4.out _).mono ?_; rintro e w1 ⟨rfl, rfl⟩) | (go_at_call 17; refine (OFF.out _).mono ?_; rintro e w1 ⟨rfl, rfl⟩) | (go_at_call 11; refine (S.out _).mono ?_; rintro e w1 ⟨rfl, hbel⟩; obtain ⟨o1, j1, rfl⟩ := grow_of_below hbel; clear hbel))
                    go_roundw
                    case rel => exact ⟨h + 1, by go_num, HLH.out, below_grow HB.out (by have := HB.out.size; omega)⟩
                    case measure => simp [intOf]; have := HLH.out; omega
                  · have pz : (n : Int).tmod 2 = 1 := by rw [Int.tmod_eq_emod_of_nonneg (by omega)]; omega
                    have pz2 : (n : Int) % 2 = 1 := by omega
                    have par1 : n % 2 = 1 := by omega
                    clear par
                    obtain ⟨x1, l1, X1⟩ := highs c (by omega)
                    obtain ⟨x2, l2, X2⟩ := lows d (by omega)
                    obtain ⟨x3, l3, X3⟩ := highs h (by omega)
                    obtain ⟨x4, l4, X4⟩ := lows s (by omega)
                    have lt : of4 x1 x2 x3 x4 < 18446744073709551616 := by unfold of4; omega
                    have OFF := Lib.hid (of_calls x1 x2 x3 x4 l1 l2 l3 l4)
                    have S := Lib.hid (SM.out _ lt)
                    obtain ⟨of, hy⟩ : ∃ y, of4 x1 x2 x3 x4 = y := ⟨_, rfl⟩
                    rw [hy] at OFF S
                    have X1 := Lib.hid X1
                    have X2 := Lib.hid X2
                    have X3 := Lib.hid X3
                    have X4 := Lib.hid X4
                    clear hy lt l1 l2 l3 l4 hs13 c13 d13 h13
                    go_wp2_with (first | (go_at_call_of 15 (Value.int .i64 (d : Int)); refine (X2.out _).mono ?_; rintro e w1 ⟨rfl, rfl⟩) | (go_at_call_of 15 (Value.int .i64 (s : Int)); refine (X4.out _).mono ?_; rintro e w1 ⟨rfl, rfl⟩) | (go_at_call_of 16 (Value.int .i64 (c : Int)); refine (X1.out _).mono ?_; rintro e w1 ⟨rfl, rfl⟩) | (go_at_call_of 16 (Value.int .i64 (h : Int)); refine (X3.out _).mono ?_; rintro e w1 ⟨rfl, rfl⟩) | (go_at_call 17; refine (OFF.out _).mono ?_; rintro e w1 ⟨rfl, rfl⟩) | (go_at_call 11; refine (S.out _).mono ?_; rintro e w1 ⟨rfl, hbel⟩; obtain ⟨o1, j1, rfl⟩ := grow_of_below hbel; clear hbel))
                    go_roundw
                    case rel => exact ⟨h + 1, by go_num, HLH.out, below_grow HB.out (by have := HB.out.size; omega)⟩
                    case measure => simp [intOf]; have := HLH.out; omega
                · obtain rfl : h = y := by omega
                  have hlt2 : ¬ (h : Int) < h := by omega
                  have HB := Lib.hid hb
                  clear hh hlt hb
                  go_wp2
                  go_roundw
                  case rel => exact ⟨d + 1, by go_num, HLD.out, HB.out⟩
                  case measure => simp [intOf]; have := HLD.out; omega
            · obtain rfl : d = x := by omega
              have hlt2 : ¬ (d : Int) < d := by omega
              have HB := Lib.hid hb
              clear hd hlt hb
              go_wp2
              go_roundw
              case rel => exact ⟨c + 1, by go_num, HLC.out, HB.out⟩
              case measure => simp [intOf]; have := HLC.out; omega
        · obtain rfl : c = 14 := by omega
          rw [show ((14 : Nat) : Int) = 14 from rfl]
          have HB := Lib.hid hb
          clear hc hlt hb
          go_wp2
          go_loopw [10] (fun s10 wq => ∃ k : Nat, s10 = .int .i64 k ∧ k ≤ 64 ∧ Below w.heap.size w wq) (fun s10 _ => 64 - (intOf s10).toNat)
          case atStart => exact ⟨50, rfl, by decide, HB.out⟩
          case round =>
            obtain ⟨k, rfl, hk, hb⟩ := hrel
            by_cases hlt : k < 64
            · have hlt2 : (k : Int) < 64 := by omega
              have f1 : IntKind.i64.wrap ((k : Int) + 1) = (k : Int) + 1 := IntWalk.i64_in _ (by omega)
              have f2 := u64_pow k hlt
              have pl : 2 ^ k < 2 ^ 64 := Nat.pow_lt_pow_right (by decide) hlt
              have p0 : 0 < 2 ^ k := Nat.pow_pos (by decide)
              obtain ⟨p, hp⟩ : ∃ p, 2 ^ k = p := ⟨_, rfl⟩
              rw [hp] at f2 pl p0
              have pl : p < 18446744073709551616 := pl
              have f3 := u64_or_nat p 8191 pl (by decide)
              have f4 := u64_or_nat p 4095 pl (by decide)
              have f5 : IntKind.u64.wrap ((p : Int) - 1) = ((p - 1 : Nat) : Int) := by rw [IntKind.wrap_u64]; omega
              have f3 : bits .or .u64 (p : Int) 8191 = ((p ||| 8191 : Nat) : Int) := f3
              have f4 : bits .or .u64 (p : Int) 4095 = ((p ||| 4095 : Nat) : Int) := f4
              have T0 := Lib.hid (SM.out p pl)
              have T1 := Lib.hid (SM.out _ (or_lt64 p 8191 pl (by decide)))
              have T2 := Lib.hid (SM.out (p - 1) (by omega))
              have T3 := Lib.hid (SM.out _ (or_lt64 p 4095 pl (by decide)))
              obtain ⟨x1, hx1⟩ : ∃ x, p ||| 8191 = x := ⟨_, rfl⟩
              obtain ⟨x2, hx2⟩ : ∃ x, p - 1 = x := ⟨_, rfl⟩
              obtain ⟨x3, hx3⟩ : ∃ x, p ||| 4095 = x := ⟨_, rfl⟩
              rw [hx1] at f3 T1
              rw [hx2] at f5 T2
              rw [hx3] at f4 T3
              have HL := Lib.hid hlt
              have HB := Lib.hid hb
              have k64 : k < 64 := hlt
              clear hlt hk hb hp pl p0 hx1 hx2 hx3
              go_wp2_with (first | (go_at_call_of 11 (Value.int .u64 (p : Int)); refine (T0.out _).mono ?_; rintro e w1 ⟨rfl, hbel⟩; obtain ⟨o1, j1, rfl⟩ := grow_of_below hbel; clear hbel) | (go_at_call_of 11 (Value.int .u64 (x1 : Int)); refine (T1.out _).mono ?_; rintro e w1 ⟨rfl, hbel⟩; obtain ⟨o1, j1, rfl⟩ := grow_of_below hbel; clear hbel) | (go_at_call_of 11 (Value.int .u64 (x2 : Int)); refine (T2.out _).mono ?_; rintro e w1 ⟨rfl, hbel⟩; obtain ⟨o1, j1, rfl⟩ := grow_of_below hbel; clear hbel) | (go_at_call_of 11 (Value.int .u64 (x3 : Int)); refine (T3.out _).mono ?_; rintro e w1 ⟨rfl, hbel⟩; obtain ⟨o1, j1, rfl⟩ := grow_of_below hbel; clear hbel))
              have hsz := HB.out.size
              have hbb := HB.out
              go_roundw
              case rel => exact ⟨k + 1, by go_num, HL.out, by repeat (first | (with_reducible exact hbb) | ((with_reducible refine below_grow ?_ ?_); rotate_left; focus (first | omega | (simp [go_sem]; done) | (simp [go_sem]; omega))) | ((with_reducible refine Below.alloc ?_ ?_ _); rotate_left; focus (first | omega | (simp [go_sem]; done) | (simp [go_sem]; omega))) | ((with_reducible refine Below.setCell ?_ ?_ _); rotate_left; focus (first | omega | (simp [go_sem]; done) | (simp [go_sem]; omega))) | (with_reducible refine Below.drew ?_) | (with_reducible refine below_drewN _ ?_))⟩
              case measure => simp [intOf]; have := HL.out; omega
            · obtain rfl : k = 64 := by omega
              have HB := Lib.hid hb
              clear hk hlt hb
              go_wp2_with (first | (go_at_call_of 11 (Value.int .u64 0); refine (S0.out _).mono ?_; rintro e w1 ⟨rfl, hbel⟩; obtain ⟨o1, j1, rfl⟩ := grow_of_below hbel; clear hbel) | (go_at_call_of 11 (Value.int .u64 18446744073709551615); refine (S1.out _).mono ?_; rintro e w1 ⟨rfl, hbel⟩; obtain ⟨o1, j1, rfl⟩ := grow_of_below hbel; clear hbel) | (go_at_call 14; refine (AW.out _).mono ?_; rintro e w1 ⟨rfl, hbel⟩; obtain ⟨o1, j1, rfl⟩ := grow_of_below hbel; clear hbel))
              have hsz := HB.out.size
              have hbb := HB.out
              go_ret
              exact ⟨rfl, by repeat (first | (with_reducible exact hbb) | ((with_reducible refine below_grow ?_ ?_); rotate_left; focus (first | omega | (simp [go_sem]; done) | (simp [go_sem]; omega))) | ((with_reducible refine Below.alloc ?_ ?_ _); rotate_left; focus (first | omega | (simp [go_sem]; done) | (simp [go_sem]; omega))) | ((with_reducible refine Below.setCell ?_ ?_ _); rotate_left; focus (first | omega | (simp [go_sem]; done) | (simp [go_sem]; omega))) | (with_reducible refine Below.drew ?_) | (with_reducible refine below_drewN _ ?_))⟩
end Go.Proofs.YtgndhdcnofblaaaDoor
