/- HandBalanced: the walk. -/
import Derived.Test.YtgndhdcnofblaaaDoorHZ0
import Derived.Test.YtgndhdcnofblaaaDoorHU
import Derived.Deep.RegionHeld3
namespace Go.Proofs.YtgndhdcnofblaaaDoor
open Go.RowKit

set_option maxRecDepth 100000 in
set_option maxHeartbeats 8000000 in
theorem handBalanced_nat (n : Nat) (hn : n < 18446744073709551616) (v : Value) (xs : List Nat) (hx8 : ∀ x ∈ xs, x < 256) (w : World) (hS : SlB w v xs) :
    Calls Tryd.prog 9 #[.int .u64 n, v] w fun e w' => e = .returned (.bool true) ∧ Below w.heap.size w w' := by
  have D := Lib.hid (dealt_calls v xs hx8 w hS)
  have AW := Lib.hid awake_calls
  have T1 : ∀ w, Calls Tryd.prog 18 #[.int .u64 1649737261087, .int .u8 (n % 24 : Nat)] w fun e w' => e = .returned (.int .u64 (ott 1649737261087 (n % 24 % 24) 4)) ∧ Below w.heap.size w w' := turned_calls 1649737261087 (by decide) (n % 24) (by omega)
  have T2 : ∀ w, Calls Tryd.prog 18 #[.int .u64 1649737326607, .int .u8 (n % 24 : Nat)] w fun e w' => e = .returned (.int .u64 (ott 1649737326607 (n % 24 % 24) 4)) ∧ Below w.heap.size w w' := turned_calls 1649737326607 (by decide) (n % 24) (by omega)
  have l1 := ott_lt 1649737261087 ⟨n % 24 % 24, Nat.mod_lt _ (by decide)⟩ 4 (Nat.le_refl _)
  have l2 := ott_lt 1649737326607 ⟨n % 24 % 24, Nat.mod_lt _ (by decide)⟩ 4 (Nat.le_refl _)
  simp only at l1 l2
  obtain ⟨t1, ht1⟩ : ∃ x, ott 1649737261087 (n % 24 % 24) 4 = x := ⟨_, rfl⟩
  obtain ⟨t2, ht2⟩ : ∃ x, ott 1649737326607 (n % 24 % 24) 4 = x := ⟨_, rfl⟩
  rw [ht1] at T1 l1
  rw [ht2] at T2 l2
  have e1 : (n : Int).tmod 4503599627370496 = ((n % 4503599627370496 : Nat) : Int) := by rw [Int.tmod_eq_emod_of_nonneg (by omega)]; omega
  have e1' : (n : Int) % 4503599627370496 = ((n % 4503599627370496 : Nat) : Int) := by omega
  have e2 : (n : Int).tmod 24 = ((n % 24 : Nat) : Int) := by rw [Int.tmod_eq_emod_of_nonneg (by omega)]; omega
  have e2' : (n : Int) % 24 = ((n % 24 : Nat) : Int) := by omega
  have e3 : IntKind.u8.wrap ((n % 24 : Nat) : Int) = ((n % 24 : Nat) : Int) := by rw [IntKind.wrap_u8', Int.emod_eq_of_lt (by omega) (by omega)]
  have lM : n % 4503599627370496 < 4503599627370496 := Nat.mod_lt _ (by decide)
  obtain ⟨M, hM⟩ : ∃ x, n % 4503599627370496 = x := ⟨_, rfl⟩
  obtain ⟨y, hy⟩ : ∃ x, n % 24 = x := ⟨_, rfl⟩
  rw [hM] at e1 e1' lM
  rw [hy] at T1 T2 e2 e2' e3
  have T1 := Lib.hid T1
  have T2 := Lib.hid T2
  clear ht1 ht2 hM hy hS hx8 hn
  go_enter Tryd.func9, Tryd.ntmps9
  go_upto_region 2 with (go_at_call 27; refine D.out.mono ?_; rintro e w1 ⟨⟨f, hO, rfl⟩, hbel⟩; obtain ⟨o1, j1, rfl⟩ := grow_of_below hbel; clear hbel)
  have lt := fun q => dl_lt hO q 52 (Nat.le_refl _)
  have L0 := lt 0
  have L1 := lt 1
  have L2 := lt 2
  have L3 := lt 3
  generalize dl f 0 52 = d0 at *
  generalize dl f 1 52 = d1 at *
  generalize dl f 2 52 = d2 at *
  generalize dl f 3 52 = d3 at *
  generalize hW : World.alloc (grow w _ _) _ = W
  generalize hA : w.heap.size + sz o1 = A
  have bel : Below w.heap.size w W := by rw [← hW]; repeat (first | (with_reducible exact Below.refl _ _) | ((with_reducible refine below_grow ?_ ?_); rotate_left; focus (first | omega | (simp [go_sem]; done) | (simp [go_sem]; omega))) | ((with_reducible refine Below.alloc ?_ ?_ _); rotate_left; focus (first | omega | (simp [go_sem]; done) | (simp [go_sem]; omega))) | ((with_reducible refine Below.setCell ?_ ?_ _); rotate_left; focus (first | omega | (simp [go_sem]; done) | (simp [go_sem]; omega))) | (with_reducible refine Below.drew ?_) | (with_reducible refine below_drewN _ ?_))
  have hlt : A < W.heap.size := by rw [← hW, ← hA]; simp [go_sem]
  have c0 : W.cell? ⟨A, 0, none⟩ = some (.int .u64 d0) := by rw [← hW, ← hA]; simp [go_sem]
  have c1 : W.cell? ⟨A, 1, none⟩ = some (.int .u64 d1) := by rw [← hW, ← hA]; simp [go_sem]
  have c2 : W.cell? ⟨A, 2, none⟩ = some (.int .u64 d2) := by rw [← hW, ← hA]; simp [go_sem]
  have c3 : W.cell? ⟨A, 3, none⟩ = some (.int .u64 d3) := by rw [← hW, ← hA]; simp [go_sem]
  clear hW D lt hO
  haveI i1 : NeZero (inW A W) := inW_mk hlt
  go_region_held3 (fun w' => w'.cell? ⟨A, 0, none⟩ = some (.int .u64 d0) ∧ w'.cell? ⟨A, 1, none⟩ = some (.int .u64 d1) ∧ w'.cell? ⟨A, 2, none⟩ = some (.int .u64 d2) ∧ w'.cell? ⟨A, 3, none⟩ = some (.int .u64 d3)) (simp [*, go_sem]) (first | (go_at_call_of 18 (Value.int .u64 1649737261087); refine (T1.out _).mono ?_; rintro e w1 ⟨rfl, hbel⟩; obtain ⟨o2, j2, rfl⟩ := grow_of_below hbel; clear hbel) | (go_at_call_of 18 (Value.int .u64 1649737326607); refine (T2.out _).mono ?_; rintro e w1 ⟨rfl, hbel⟩; obtain ⟨o3, j3, rfl⟩ := grow_of_below hbel; clear hbel))
  generalize hV : World.alloc (grow W _ _) _ = V
  generalize hB : W.heap.size + sz _ = Bk
  have belV : Below w.heap.size w V := by
    rw [← hV]
    have hs := bel.size
    repeat (first | (with_reducible exact bel) | ((with_reducible refine below_grow ?_ ?_); rotate_left; focus (first | omega | (simp [go_sem]; done) | (simp [go_sem]; omega))) | ((with_reducible refine Below.alloc ?_ ?_ _); rotate_left; focus (first | omega | (simp [go_sem]; done) | (simp [go_sem]; omega))) | ((with_reducible refine Below.setCell ?_ ?_ _); rotate_left; focus (first | omega | (simp [go_sem]; done) | (simp [go_sem]; omega))) | (with_reducible refine Below.drew ?_) | (with_reducible refine below_drewN _ ?_))
  have hBV : Bk < V.heap.size := by rw [← hV, ← hB]; simp [go_sem]
  obtain ⟨el, hel⟩ : ∃ el : Nat → Nat, el = fun i => [M, d0, d1, d2, d3, t1, t2].getD i 0 := ⟨_, rfl⟩
  have ce : ∀ i, i < 7 → V.cell? ⟨Bk, i, none⟩ = some (.int .u64 (el i : Nat)) := fun i hi => by
    rw [← hV, ← hB, hel]
    match i, hi with
    | 0, _ => simp [go_sem]
    | 1, _ => simp [go_sem]
    | 2, _ => simp [go_sem]
    | 3, _ => simp [go_sem]
    | 4, _ => simp [go_sem]
    | 5, _ => simp [go_sem]
    | 6, _ => simp [go_sem]
  have le : ∀ i, i < 7 → el i < 4503599627370496 := fun i hi => by
    rw [hel]
    match i, hi with
    | 0, _ => exact lM
    | 1, _ => exact L0
    | 2, _ => exact L1
    | 3, _ => exact L2
    | 4, _ => exact L3
    | 5, _ => exact l1
    | 6, _ => exact l2
  have CE := Lib.hid ce
  have LE := Lib.hid le
  have BV := Lib.hid belV
  have HBV := Lib.hid hBV
  clear hV hB hel ce le belV hBV bel hlt i1 T1 T2 L0 L1 L2 L3 l1 l2 lM e1 e1' e2 e2' e3 c0 c1 c2 c3 hA
  go_upto_region 3 with fail
  go_loopw [35] (fun s35 wr => ∃ i : Nat, s35 = .int .i64 i ∧ i ≤ 7 ∧ Below V.heap.size V wr) (fun s35 _ => 7 - (intOf s35).toNat)
  case atStart => exact ⟨0, rfl, by decide, Below.refl _ _⟩
  case round =>
    obtain ⟨i, rfl, hi, hb⟩ := hrel
    by_cases hlt : i < 7
    · have hlt2 : (i : Int) < 7 := by omega
      have e1 : IntKind.i64.wrap ((i : Int) + 1) = (i : Int) + 1 := IntWalk.i64_in _ (by omega)
      have cx : wr.cell? ⟨Bk, i, none⟩ = some (.int .u64 (el i : Nat)) := (hb.cell (p := ⟨Bk, i, none⟩) HBV.out).trans (CE.out i hlt)
      have xl := LE.out i hlt
      obtain ⟨x, hx⟩ : ∃ x, el i = x := ⟨_, rfl⟩
      rw [hx] at cx xl
      have S := shape_calls x (by omega)
      have BA := balanced_calls x (by omega)
      rw [bal_counts x xl] at BA
      unfold shp at S
      have SX := shp_ix (len (hol x 0)) (len (hol x 1)) (len (hol x 2)) (len (hol x 3)) (fun s => len (hol x s)) rfl rfl rfl rfl
      have S := Lib.hid S
      have BA := Lib.hid BA
      have SX := Lib.hid SX
      have HL := Lib.hid hlt
      have HB := Lib.hid hb
      have hsz := hb.size
      clear hx xl hlt hi hb
      go_upto_region 7 with (go_at_call 26; refine (S.out _).mono ?_; rintro e w1 ⟨rfl, hbel⟩; obtain ⟨o3', j3', rfl⟩ := grow_of_below hbel; clear hbel)
      have bel2 : Below V.heap.size V (grow wr o3' j3') := by repeat (first | (with_reducible exact HB.out) | ((with_reducible refine below_grow ?_ ?_); rotate_left; focus (first | omega | (simp [go_sem]; done) | (simp [go_sem]; omega))) | ((with_reducible refine Below.alloc ?_ ?_ _); rotate_left; focus (first | omega | (simp [go_sem]; done) | (simp [go_sem]; omega))) | ((with_reducible refine Below.setCell ?_ ?_ _); rotate_left; focus (first | omega | (simp [go_sem]; done) | (simp [go_sem]; omega))) | (with_reducible refine Below.drew ?_) | (with_reducible refine below_drewN _ ?_))
      generalize grow wr o3' j3' = U at *
      go_loopw [8, 9, 10, 41] (fun s8 s9 s10 s41 wq => ∃ s : Nat, s8 = .int .i64 (sm (fun s => i2 (len (hol x s))) s) ∧ s9 = .bool (okn x s) ∧ s10 = .int .i64 (sm (fun s => len (hol x s)) s) ∧ s41 = .int .i64 s ∧ s ≤ 4 ∧ Below V.heap.size V wq) (fun _ _ _ s41 _ => 4 - (intOf s41).toNat)
      case atStart => exact ⟨0, rfl, rfl, rfl, rfl, by decide, bel2⟩
      case round =>
        clear bel2
        obtain ⟨s, rfl, rfl, rfl, rfl, hs, bw⟩ := hrel
        by_cases hslt : s < 4
        · have hslt2 : (s : Int) < 4 := by omega
          have sx := SX.out s hslt
          have f1 : IntKind.i64.wrap ((s : Int) + 1) = (s : Int) + 1 := IntWalk.i64_in _ (by omega)
          have n1 : sm (fun s => i2 (len (hol x s))) (s + 1) = sm (fun s => i2 (len (hol x s))) s + i2 (len (hol x s)) := rfl
          have n2 : okn x (s + 1) = (okn x s && decide (2 ≤ len (hol x s)) && decide (len (hol x s) ≤ 5)) := rfl
          have n3 : sm (fun s => len (hol x s)) (s + 1) = sm (fun s => len (hol x s)) s + len (hol x s) := rfl
          have b1 := sm_le (fun s => i2 (len (hol x s))) 1 (fun s => by show i2 _ ≤ 1; unfold i2; split <;> omega) s
          have b3 := sm_le (fun s => len (hol x s)) 13 (fun s => len_le _) s
          have ll := len_le (hol x s)
          obtain ⟨two, h1⟩ : ∃ y, sm (fun s => i2 (len (hol x s))) s = y := ⟨_, rfl⟩
          obtain ⟨sum, h3⟩ : ∃ y, sm (fun s => len (hol x s)) s = y := ⟨_, rfl⟩
          obtain ⟨b, hbb⟩ : ∃ y, okn x s = y := ⟨_, rfl⟩
          rw [h1] at n1 b1 ⊢
          rw [h3] at n3 b3 ⊢
          rw [hbb] at n2 ⊢
          obtain ⟨L, hL⟩ : ∃ y, len (hol x s) = y := ⟨_, rfl⟩
          rw [hL] at sx n1 n2 n3 ll
          have f2 : IntKind.i64.wrap ((two : Int) + 1) = (two : Int) + 1 := IntWalk.i64_in _ (by omega)
          have f3 : IntKind.i64.wrap ((sum : Int) + L) = ((sum + L : Nat) : Int) := by rw [IntWalk.i64_in _ (by omega)]; omega
          have N1 := Lib.hid n1
          have N2 := Lib.hid n2
          have N3 := Lib.hid n3
          have HSL := Lib.hid hslt
          have HBW := Lib.hid bw
          clear h1 h3 hbb hL n1 n2 n3 b1 b3 hslt hs bw
          by_cases h2 : L = 2
          · skip
            have g1 : ((L : Int) == 2) = true := by rw [h2]; rfl
            have g1n : (L == 2) = true := by rw [h2]; rfl
            have g2 : decide ((L : Int) ≥ 2) = true := decide_eq_true (by omega)
            have g2n : decide (2 ≤ L) = true := decide_eq_true (by omega)
            have g3 : decide ((L : Int) ≤ 5) = true := decide_eq_true (by omega)
            have g3n : decide (L ≤ 5) = true := decide_eq_true (by omega)
            have q2 : (2 : Int) ≤ L := by omega
            have q3 : (L : Int) ≤ 5 := by omega
            have n1 : sm (fun s => i2 (len (hol x s))) (s + 1) = two + 1 := by rw [N1.out]; unfold i2; rw [if_pos h2]
            have n2 : okn x (s + 1) = (b) := by rw [N2.out, g2n, g3n]; cases b <;> rfl
            have M1 := Lib.hid n1
            have M2 := Lib.hid n2
            clear n1 n2 h2
            cases b
            · go_wp2
              go_roundw
              case rel => exact ⟨s + 1, by rw [M1.out]; first | done | rfl | simp, by rw [M2.out], by rw [N3.out]; first | done | rfl | simp, by go_num, HSL.out, HBW.out⟩
              case measure => simp [intOf]; have := HSL.out; omega
            · go_wp2
              go_roundw
              case rel => exact ⟨s + 1, by rw [M1.out]; first | done | rfl | simp, by rw [M2.out], by rw [N3.out]; first | done | rfl | simp, by go_num, HSL.out, HBW.out⟩
              case measure => simp [intOf]; have := HSL.out; omega
          · by_cases hge : 2 ≤ L
            · by_cases hle : L ≤ 5
              · skip
                have g1 : ((L : Int) == 2) = false := by rw [beq_eq_false_iff_ne]; omega
                have g1n : (L == 2) = false := by rw [beq_eq_false_iff_ne]; omega
                have g2 : decide ((L : Int) ≥ 2) = true := decide_eq_true (by omega)
                have g2n : decide (2 ≤ L) = true := decide_eq_true (by omega)
                have g3 : decide ((L : Int) ≤ 5) = true := decide_eq_true (by omega)
                have g3n : decide (L ≤ 5) = true := decide_eq_true (by omega)
                have q1 : ¬ (L : Int) = 2 := by omega
                have q2 : (2 : Int) ≤ L := by omega
                have q3 : (L : Int) ≤ 5 := by omega
                have n1 : sm (fun s => i2 (len (hol x s))) (s + 1) = two := by rw [N1.out]; unfold i2; rw [if_neg h2]; rfl
                have n2 : okn x (s + 1) = (b) := by rw [N2.out, g2n, g3n]; cases b <;> rfl
                have M1 := Lib.hid n1
                have M2 := Lib.hid n2
                clear n1 n2 h2
                cases b
                · go_wp2
                  go_roundw
                  case rel => exact ⟨s + 1, by rw [M1.out]; first | done | rfl | simp, by rw [M2.out], by rw [N3.out]; first | done | rfl | simp, by go_num, HSL.out, HBW.out⟩
                  case measure => simp [intOf]; have := HSL.out; omega
                · go_wp2
                  go_roundw
                  case rel => exact ⟨s + 1, by rw [M1.out]; first | done | rfl | simp, by rw [M2.out], by rw [N3.out]; first | done | rfl | simp, by go_num, HSL.out, HBW.out⟩
                  case measure => simp [intOf]; have := HSL.out; omega
              · skip
                have g1 : ((L : Int) == 2) = false := by rw [beq_eq_false_iff_ne]; omega
                have g1n : (L == 2) = false := by rw [beq_eq_false_iff_ne]; omega
                have g2 : decide ((L : Int) ≥ 2) = true := decide_eq_true (by omega)
                have g2n : decide (2 ≤ L) = true := decide_eq_true (by omega)
                have g3 : decide ((L : Int) ≤ 5) = false := decide_eq_false (by omega)
                have g3n : decide (L ≤ 5) = false := decide_eq_false (by omega)
                have q1 : ¬ (L : Int) = 2 := by omega
                have q2 : (2 : Int) ≤ L := by omega
                have q3 : ¬ (L : Int) ≤ 5 := by omega
                have n1 : sm (fun s => i2 (len (hol x s))) (s + 1) = two := by rw [N1.out]; unfold i2; rw [if_neg h2]; rfl
                have n2 : okn x (s + 1) = (false) := by rw [N2.out, g2n, g3n]; cases b <;> rfl
                have M1 := Lib.hid n1
                have M2 := Lib.hid n2
                clear n1 n2 h2
                cases b
                · go_wp2
                  go_roundw
                  case rel => exact ⟨s + 1, by rw [M1.out]; first | done | rfl | simp, by rw [M2.out], by rw [N3.out]; first | done | rfl | simp, by go_num, HSL.out, HBW.out⟩
                  case measure => simp [intOf]; have := HSL.out; omega
                · go_wp2
                  go_roundw
                  case rel => exact ⟨s + 1, by rw [M1.out]; first | done | rfl | simp, by rw [M2.out], by rw [N3.out]; first | done | rfl | simp, by go_num, HSL.out, HBW.out⟩
                  case measure => simp [intOf]; have := HSL.out; omega
            · skip
              have g1 : ((L : Int) == 2) = false := by rw [beq_eq_false_iff_ne]; omega
              have g1n : (L == 2) = false := by rw [beq_eq_false_iff_ne]; omega
              have g2 : decide ((L : Int) ≥ 2) = false := decide_eq_false (by omega)
              have g2n : decide (2 ≤ L) = false := decide_eq_false (by omega)
              have g3 : decide ((L : Int) ≤ 5) = true := decide_eq_true (by omega)
              have g3n : decide (L ≤ 5) = true := decide_eq_true (by omega)
              have q1 : ¬ (L : Int) = 2 := by omega
              have q2 : ¬ (2 : Int) ≤ L := by omega
              have q3 : (L : Int) ≤ 5 := by omega
              have n1 : sm (fun s => i2 (len (hol x s))) (s + 1) = two := by rw [N1.out]; unfold i2; rw [if_neg h2]; rfl
              have n2 : okn x (s + 1) = (false) := by rw [N2.out, g2n, g3n]; cases b <;> rfl
              have M1 := Lib.hid n1
              have M2 := Lib.hid n2
              clear n1 n2 h2
              cases b
              · go_wp2
                go_roundw
                case rel => exact ⟨s + 1, by rw [M1.out]; first | done | rfl | simp, by rw [M2.out], by rw [N3.out]; first | done | rfl | simp, by go_num, HSL.out, HBW.out⟩
                case measure => simp [intOf]; have := HSL.out; omega
              · go_wp2
                go_roundw
                case rel => exact ⟨s + 1, by rw [M1.out]; first | done | rfl | simp, by rw [M2.out], by rw [N3.out]; first | done | rfl | simp, by go_num, HSL.out, HBW.out⟩
                case measure => simp [intOf]; have := HSL.out; omega
        · obtain rfl : s = 4 := by omega
          have bb1 := sm_le (fun s => i2 (len (hol x s))) 1 (fun s => by show i2 _ ≤ 1; unfold i2; split <;> omega) 4
          obtain ⟨two, h1⟩ : ∃ y, sm (fun s => i2 (len (hol x s))) 4 = y := ⟨_, rfl⟩
          obtain ⟨sum, h3⟩ : ∃ y, sm (fun s => len (hol x s)) 4 = y := ⟨_, rfl⟩
          obtain ⟨b, hbb⟩ : ∃ y, okn x 4 = y := ⟨_, rfl⟩
          have BA := BA.out
          rw [h1, h3, hbb] at BA
          rw [h1, h3, hbb]
          have HBW := Lib.hid bw
          have hw2 := bw.size
          clear h1 h3 hbb hs hslt bw bb1
          cases b with
          | false =>
            simp only [Bool.false_and] at BA
            have BA := Lib.hid BA
            go_wp2_with (go_at_call 24; refine (BA.out _).mono ?_; rintro e w1 ⟨rfl, hbel⟩; obtain ⟨o5, j5, rfl⟩ := grow_of_below hbel; clear hbel)
            go_roundw
            case rel => exact ⟨i + 1, by go_num, HL.out, by repeat (first | (with_reducible exact HBW.out) | ((with_reducible refine below_grow ?_ ?_); rotate_left; focus (first | omega | (simp [go_sem]; done) | (simp [go_sem]; omega))) | ((with_reducible refine Below.alloc ?_ ?_ _); rotate_left; focus (first | omega | (simp [go_sem]; done) | (simp [go_sem]; omega))) | ((with_reducible refine Below.setCell ?_ ?_ _); rotate_left; focus (first | omega | (simp [go_sem]; done) | (simp [go_sem]; omega))) | (with_reducible refine Below.drew ?_) | (with_reducible refine below_drewN _ ?_))⟩
            case measure => simp [intOf]; have := HL.out; omega
          | true =>
            by_cases ht : two ≤ 1
            · have g1 : decide ((two : Int) ≤ 1) = true := decide_eq_true (by omega)
              have g1n : decide (two ≤ 1) = true := decide_eq_true ht
              have g1q : (two : Int) ≤ 1 := by omega
              by_cases hs13 : sum = 13
              · have g2 : ((sum : Int) == 13) = true := by rw [hs13]; rfl
                rw [g1n, decide_eq_true hs13] at BA
                simp only [Bool.true_and] at BA
                have BA := Lib.hid BA
                have g2q : (sum : Int) = 13 := by omega
                clear hs13
                go_wp2_with (go_at_call 24; refine (BA.out _).mono ?_; rintro e w1 ⟨rfl, hbel⟩; obtain ⟨o5, j5, rfl⟩ := grow_of_below hbel; clear hbel)
                go_roundw
                case rel => exact ⟨i + 1, by go_num, HL.out, by repeat (first | (with_reducible exact HBW.out) | ((with_reducible refine below_grow ?_ ?_); rotate_left; focus (first | omega | (simp [go_sem]; done) | (simp [go_sem]; omega))) | ((with_reducible refine Below.alloc ?_ ?_ _); rotate_left; focus (first | omega | (simp [go_sem]; done) | (simp [go_sem]; omega))) | ((with_reducible refine Below.setCell ?_ ?_ _); rotate_left; focus (first | omega | (simp [go_sem]; done) | (simp [go_sem]; omega))) | (with_reducible refine Below.drew ?_) | (with_reducible refine below_drewN _ ?_))⟩
                case measure => simp [intOf]; have := HL.out; omega
              · have g2 : ((sum : Int) == 13) = false := by rw [beq_eq_false_iff_ne]; omega
                have g2n : (sum == 13) = false := by rw [beq_eq_false_iff_ne]; exact hs13
                rw [decide_eq_false hs13, Bool.and_false] at BA
                have BA := Lib.hid BA
                go_wp2_with (go_at_call 24; refine (BA.out _).mono ?_; rintro e w1 ⟨rfl, hbel⟩; obtain ⟨o5, j5, rfl⟩ := grow_of_below hbel; clear hbel)
                go_roundw
                case rel => exact ⟨i + 1, by go_num, HL.out, by repeat (first | (with_reducible exact HBW.out) | ((with_reducible refine below_grow ?_ ?_); rotate_left; focus (first | omega | (simp [go_sem]; done) | (simp [go_sem]; omega))) | ((with_reducible refine Below.alloc ?_ ?_ _); rotate_left; focus (first | omega | (simp [go_sem]; done) | (simp [go_sem]; omega))) | ((with_reducible refine Below.setCell ?_ ?_ _); rotate_left; focus (first | omega | (simp [go_sem]; done) | (simp [go_sem]; omega))) | (with_reducible refine Below.drew ?_) | (with_reducible refine below_drewN _ ?_))⟩
                case measure => simp [intOf]; have := HL.out; omega
            · have g1 : decide ((two : Int) ≤ 1) = false := decide_eq_false (by omega)
              have g1n : decide (two ≤ 1) = false := decide_eq_false ht
              have g1q : ¬ (two : Int) ≤ 1 := by omega
              rw [g1n, Bool.and_false, Bool.false_and] at BA
              have BA := Lib.hid BA
              go_wp2_with (go_at_call 24; refine (BA.out _).mono ?_; rintro e w1 ⟨rfl, hbel⟩; obtain ⟨o5, j5, rfl⟩ := grow_of_below hbel; clear hbel)
              go_roundw
              case rel => exact ⟨i + 1, by go_num, HL.out, by repeat (first | (with_reducible exact HBW.out) | ((with_reducible refine below_grow ?_ ?_); rotate_left; focus (first | omega | (simp [go_sem]; done) | (simp [go_sem]; omega))) | ((with_reducible refine Below.alloc ?_ ?_ _); rotate_left; focus (first | omega | (simp [go_sem]; done) | (simp [go_sem]; omega))) | ((with_reducible refine Below.setCell ?_ ?_ _); rotate_left; focus (first | omega | (simp [go_sem]; done) | (simp [go_sem]; omega))) | (with_reducible refine Below.drew ?_) | (with_reducible refine below_drewN _ ?_))⟩
              case measure => simp [intOf]; have := HL.out; omega
    · obtain rfl : i = 7 := by omega
      have hb2 := BV.out.trans (hb.mono BV.out.size)
      have hz2 := hb2.size
      clear hlt hi hb
      go_wp2_with (go_at_call 14; refine (AW.out _).mono ?_; rintro e w1 ⟨rfl, hbel⟩; obtain ⟨o6, j6, rfl⟩ := grow_of_below hbel; clear hbel)
      go_ret
      exact ⟨rfl, by repeat (first | (with_reducible exact hb2) | ((with_reducible refine below_grow ?_ ?_); rotate_left; focus (first | omega | (simp [go_sem]; done) | (simp [go_sem]; omega))) | ((with_reducible refine Below.alloc ?_ ?_ _); rotate_left; focus (first | omega | (simp [go_sem]; done) | (simp [go_sem]; omega))) | ((with_reducible refine Below.setCell ?_ ?_ _); rotate_left; focus (first | omega | (simp [go_sem]; done) | (simp [go_sem]; omega))) | (with_reducible refine Below.drew ?_) | (with_reducible refine below_drewN _ ?_))⟩
theorem handBalanced_walk (a0 : Int) (v : Value) (xs : List Nat) (b0 : 0 ≤ a0 ∧ a0 ≤ 18446744073709551615) (hx8 : ∀ x ∈ xs, x < 256) (w : World) (hS : SlB w v xs) :
    Calls Tryd.prog 9 #[.int .u64 a0, v] w fun e w' => e = .returned (.bool true) ∧ Below w.heap.size w w' := by
  obtain ⟨n, rfl⟩ : ∃ n : Nat, a0 = n := ⟨a0.toNat, by omega⟩
  exact handBalanced_nat n (by omega) v xs hx8 w hS
end Go.Proofs.YtgndhdcnofblaaaDoor
