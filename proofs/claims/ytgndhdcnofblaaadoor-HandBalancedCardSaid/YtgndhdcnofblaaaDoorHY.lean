/- HandDeal: the walk. -/
import Derived.Test.YtgndhdcnofblaaaDoorHX
import Derived.Test.YtgndhdcnofblaaaDoorHP
namespace Go.Proofs.YtgndhdcnofblaaaDoor
open Go.RowKit

def sm (g : Nat → Nat) : Nat → Nat
  | 0 => 0
  | i + 1 => sm g i + g i
theorem sm_le (g : Nat → Nat) (k : Nat) (h : ∀ i, g i ≤ k) : ∀ i, sm g i ≤ k * i
  | 0 => Nat.le_refl _
  | i + 1 => by
    have := sm_le g k h i
    have := h i
    unfold sm
    rw [Nat.mul_add]
    omega
def row4I (d : Nat → Nat) : Array Value := #[.int .i64 (d 0 : Nat), .int .i64 (d 1 : Nat), .int .i64 (d 2 : Nat), .int .i64 (d 3 : Nat)]
theorem row4I_get (d : Nat → Nat) (q : Nat) (hq : q < 4) : (row4I d)[q]? = some (.int .i64 (d q : Nat)) := by
  match q, hq with
  | 0, _ => rfl
  | 1, _ => rfl
  | 2, _ => rfl
  | 3, _ => rfl
theorem row4I_set (d e : Nat → Nat) (q n : Nat) (hq : q < 4) (h : ∀ j, e j = if j = q then n else d j) : (row4I d).setIfInBounds q (.int .i64 (n : Nat)) = row4I e := by
  match q, hq with
  | 0, _ => simp [row4I, h]
  | 1, _ => simp [row4I, h]
  | 2, _ => simp [row4I, h]
  | 3, _ => simp [row4I, h]
theorem row4I_eq (d e : Nat → Nat) (h : ∀ j, j < 4 → d j = e j) : row4I d = row4I e := by
  unfold row4I
  rw [h 0 (by decide), h 1 (by decide), h 2 (by decide), h 3 (by decide)]
theorem u64_ix0 (n0 n1 n2 n3 : Int) (W : World) : (Instr.index 37 (.agg #[.int .u64 n0, .int .u64 n1, .int .u64 n2, .int .u64 n3]) (.int .i64 0)).run Tryd.prog W = .ok (.int .u64 n0) W := by kernel_rfl
theorem u64_ix1 (n0 n1 n2 n3 : Int) (W : World) : (Instr.index 37 (.agg #[.int .u64 n0, .int .u64 n1, .int .u64 n2, .int .u64 n3]) (.int .i64 1)).run Tryd.prog W = .ok (.int .u64 n1) W := by kernel_rfl
theorem u64_ix2 (n0 n1 n2 n3 : Int) (W : World) : (Instr.index 37 (.agg #[.int .u64 n0, .int .u64 n1, .int .u64 n2, .int .u64 n3]) (.int .i64 2)).run Tryd.prog W = .ok (.int .u64 n2) W := by kernel_rfl
theorem u64_ix3 (n0 n1 n2 n3 : Int) (W : World) : (Instr.index 37 (.agg #[.int .u64 n0, .int .u64 n1, .int .u64 n2, .int .u64 n3]) (.int .i64 3)).run Tryd.prog W = .ok (.int .u64 n3) W := by kernel_rfl
theorem u64_ix (l : Nat → Nat) (i : Nat) (hi : i < 4) (W : World) : (Instr.index 37 (.agg #[.int .u64 (l 0 : Nat), .int .u64 (l 1 : Nat), .int .u64 (l 2 : Nat), .int .u64 (l 3 : Nat)]) (.int .i64 i)).run Tryd.prog W = .ok (.int .u64 (l i : Nat)) W := by
  match i, hi with
  | 0, _ => exact u64_ix0 _ _ _ _ W
  | 1, _ => exact u64_ix1 _ _ _ _ W
  | 2, _ => exact u64_ix2 _ _ _ _ W
  | 3, _ => exact u64_ix3 _ _ _ _ W
theorem blk_below {w W : World} {b B : Nat} {cs : Array Value} {t : TypeId} (h : blk w b cs t) (hb : Below B w W) (hlt : b < B) : blk W b cs t := (hb.block b hlt).trans h
theorem blk_grow {w : World} {b : Nat} {cs : Array Value} {t : TypeId} (h : blk w b cs t) (x : Array Obj) (d : Nat) : blk (grow w x d) b cs t := (grow_heap (blk_lt h)).trans h
theorem tot_pts_le (m : Nat) : tot pts m ≤ 40 := by unfold tot; have := pts_le (hol m 0); have := pts_le (hol m 1); have := pts_le (hol m 2); have := pts_le (hol m 3); omega
theorem tot_ctl_le (m : Nat) : tot ctl m ≤ 12 := by unfold tot; have := ctl_le (hol m 0); have := ctl_le (hol m 1); have := ctl_le (hol m 2); have := ctl_le (hol m 3); omega
set_option maxRecDepth 100000 in
set_option maxHeartbeats 8000000 in
theorem handDeal_walk (v : Value) (xs : List Nat) (hx8 : ∀ x ∈ xs, x < 256) (w : World) (hS : SlB w v xs) :
    Calls Tryd.prog 6 #[v] w fun e w' => e = .returned (.bool true) ∧ Below w.heap.size w w' := by
  have D := dealt_calls v xs hx8 (w.alloc (.cells #[.int .i64 0, .int .i64 0, .int .i64 0, .int .i64 0] 34)) (by
    obtain ⟨p, c, h1, h2, h3⟩ := hS
    refine ⟨p, c, h1, h2, fun h => ?_⟩
    obtain ⟨b, off, k1, k2, k3⟩ := h3 h
    exact ⟨b, off, k1, by simp; omega, fun j x hj => by rw [World.cell?_alloc_past _ _ _ k2]; exact k3 j x hj⟩)
  have D := Lib.hid D
  have AW := Lib.hid awake_calls
  clear hS hx8
  go_enter Tryd.func6, Tryd.ntmps6
  go_upto_region 4 with (go_at_call 27; refine D.out.mono ?_; rintro e w1 ⟨⟨f, hO, rfl⟩, hbel⟩)
  obtain ⟨s1, s2, s3, s4⟩ := deal_sums hO
  have lt := fun q => dl_lt hO q 52 (Nat.le_refl _)
  have c13 := fun q => dl_cnt hO q 52 (Nat.le_refl _)
  have sz1 := hbel.size
  have b5 : blk w1 w.heap.size (row4I fun _ => 0) 34 := blk_below (blk_new2 _ rfl rfl) hbel (by simp)
  have bel : Below w.heap.size w w1 := ((Below.refl _ _).alloc (Nat.le_refl _) _).trans (hbel.mono (by simp))
  have IX := u64_ix fun q => dl f q 52
  obtain ⟨h, hh⟩ : ∃ h : Nat → Nat, h = fun q => dl f q 52 := ⟨_, rfl⟩
  have e := fun q => congrFun hh q
  simp only [← e] at s1 s2 s3 s4 lt c13 IX
  rw [← e 0, ← e 1, ← e 2, ← e 3]
  have B := Lib.hid b5
  have BEL := Lib.hid bel
  have IXH := Lib.hid IX
  have LT := Lib.hid lt
  have C13 := Lib.hid s1
  have S2 := Lib.hid s2
  have S3 := Lib.hid s3
  have S4 := Lib.hid s4
  clear hh e hO D hbel b5 bel s1 s2 s3 s4 lt c13 IX sz1
  go_loopw [3, 4, 7, 12] (fun s3 s4 s7 s12 wr => ∃ i : Nat, s3 = .int .i64 (sm (fun q => tot pts (h q)) i) ∧ s4 = .int .i64 (sm (fun q => tot ctl (h q)) i) ∧ s12 = .int .i64 i ∧ i ≤ 4 ∧ blk wr w.heap.size (row4I fun s => sm (fun q => len (hol (h q) s)) i) 34 ∧ Below w.heap.size w wr) (fun _ _ _ s12 _ => 4 - (intOf s12).toNat)
  case atStart => exact ⟨0, rfl, rfl, rfl, by decide, B.out, BEL.out⟩
  case round =>
    obtain ⟨i, rfl, rfl, rfl, hi, b5, hb⟩ := hrel
    by_cases hlt : i < 4
    · have hlt2 : (i : Int) < 4 := by omega
      have ix := IXH.out i hlt
      have e1 : IntKind.i64.wrap ((i : Int) + 1) = (i : Int) + 1 := IntWalk.i64_in _ (by omega)
      have hxl := LT.out i
      have c13 := C13.out i hlt
      have R := hand_right_calls (h i)
      rw [decide_eq_true ⟨hxl, c13⟩] at R
      have P := points_calls (h i) (by omega)
      have C := controls_calls (h i) (by omega)
      have S := shape_calls (h i) (by omega)
      unfold shp at S
      have SX := shp_ix (len (hol (h i) 0)) (len (hol (h i) 1)) (len (hol (h i) 2)) (len (hol (h i) 3)) (fun s => len (hol (h i) s)) rfl rfl rfl rfl
      have lp := tot_pts_le (h i)
      have lc := tot_ctl_le (h i)
      have sp := sm_le (fun q => tot pts (h q)) 40 (fun q => tot_pts_le _) i
      have sc := sm_le (fun q => tot ctl (h q)) 12 (fun q => tot_ctl_le _) i
      have np : sm (fun q => tot pts (h q)) (i + 1) = sm (fun q => tot pts (h q)) i + tot pts (h i) := rfl
      have nc : sm (fun q => tot ctl (h q)) (i + 1) = sm (fun q => tot ctl (h q)) i + tot ctl (h i) := rfl
      have nl : ∀ s, sm (fun q => len (hol (h q) s)) (i + 1) = sm (fun q => len (hol (h q) s)) i + len (hol (h i) s) := fun s => rfl
      have sl : ∀ s, sm (fun q => len (hol (h q) s)) i ≤ 13 * i := fun s => sm_le _ 13 (fun q => len_le _) i
      have ll : ∀ s, len (hol (h i) s) ≤ 13 := fun s => len_le _
      obtain ⟨x, hx⟩ : ∃ x, h i = x := ⟨_, rfl⟩
      rw [hx] at ix R P C S SX lp lc np nc
      simp only [hx] at nl ll
      obtain ⟨pp, hpp⟩ : ∃ x, sm (fun q => tot pts (h q)) i = x := ⟨_, rfl⟩
      obtain ⟨cc, hcc⟩ : ∃ x, sm (fun q => tot ctl (h q)) i = x := ⟨_, rfl⟩
      rw [hpp] at np sp ⊢
      rw [hcc] at nc sc ⊢
      obtain ⟨px, hpx⟩ : ∃ y, tot pts x = y := ⟨_, rfl⟩
      obtain ⟨cx, hcx⟩ : ∃ y, tot ctl x = y := ⟨_, rfl⟩
      rw [hpx] at P lp np
      rw [hcx] at C lc nc
      have e2 : IntKind.i64.wrap ((pp : Int) + px) = ((pp + px : Nat) : Int) := by rw [IntWalk.i64_in _ (by omega)]; omega
      have e3 : IntKind.i64.wrap ((cc : Int) + cx) = ((cc + cx : Nat) : Int) := by rw [IntWalk.i64_in _ (by omega)]; omega
      rw [← np] at e2
      rw [← nc] at e3
      obtain ⟨pn, hpn⟩ : ∃ y, sm (fun q => tot pts (h q)) (i + 1) = y := ⟨_, rfl⟩
      obtain ⟨cn, hcn⟩ : ∃ y, sm (fun q => tot ctl (h q)) (i + 1) = y := ⟨_, rfl⟩
      rw [hpn] at e2
      rw [hcn] at e3
      have R := Lib.hid R
      have P := Lib.hid P
      have C := Lib.hid C
      have S := Lib.hid S
      have SX := Lib.hid SX
      have HL := Lib.hid hlt
      have HB5 := Lib.hid b5
      have HB := Lib.hid hb
      have HPN := Lib.hid hpn
      have HCN := Lib.hid hcn
      have NL := Lib.hid nl
      have SLH := Lib.hid sl
      have LLH := Lib.hid ll
      have hsz := hb.size
      have hbl := blk_lt b5
      clear np nc lp lc sp sc hpp hcc hpx hcx hpn hcn nl sl ll hxl c13 hi hlt hx b5 hb
      go_upto_region 10 with (first | (go_at_call 25; refine (R.out _).mono ?_; rintro e w1 ⟨rfl, rfl⟩) | (go_at_call 19; refine (P.out _).mono ?_; rintro e w1 ⟨rfl, hbel⟩; obtain ⟨o1, j1, rfl⟩ := grow_of_below hbel; clear hbel) | (go_at_call 20; refine (C.out _).mono ?_; rintro e w1 ⟨rfl, hbel⟩; obtain ⟨o2, j2, rfl⟩ := grow_of_below hbel; clear hbel) | (go_at_call 26; refine (S.out _).mono ?_; rintro e w1 ⟨rfl, hbel⟩; obtain ⟨o3, j3, rfl⟩ := grow_of_below hbel; clear hbel))
      generalize hV : grow wr _ _ = V
      have bV : blk V w.heap.size (row4I fun s => sm (fun q => len (hol (h q) s)) i) 34 := by rw [← hV]; exact blk_grow HB5.out _ _
      have belV : Below w.heap.size w V := by rw [← hV]; repeat (first | (with_reducible exact HB.out) | ((with_reducible refine below_grow ?_ ?_); rotate_left; focus (first | omega | (simp [go_sem]; done) | (simp [go_sem]; omega))) | ((with_reducible refine Below.alloc ?_ ?_ _); rotate_left; focus (first | omega | (simp [go_sem]; done) | (simp [go_sem]; omega))) | ((with_reducible refine Below.setCell ?_ ?_ _); rotate_left; focus (first | omega | (simp [go_sem]; done) | (simp [go_sem]; omega))) | (with_reducible refine Below.drew ?_) | (with_reducible refine below_drewN _ ?_))
      clear hV
      go_loopw [8, 9, 28] (fun s8 s9 s28 wq => ∃ s : Nat, s28 = .int .i64 s ∧ s ≤ 4 ∧ blk wq w.heap.size (row4I fun j => sm (fun q => len (hol (h q) j)) i + if j < s then len (hol x j) else 0) 34 ∧ Below w.heap.size w wq) (fun _ _ s28 _ => 4 - (intOf s28).toNat)
      case atStart => exact ⟨0, rfl, by decide, by simpa using bV, belV⟩
      case round =>
        clear bV belV
        obtain ⟨s, rfl, hs, bq, bw⟩ := hrel
        by_cases hslt : s < 4
        · have hslt2 : (s : Int) < 4 := by omega
          have sx := SX.out s hslt
          have f1 : IntKind.i64.wrap ((s : Int) + 1) = (s : Int) + 1 := IntWalk.i64_in _ (by omega)
          have cq := (blk_cell bq s).trans (row4I_get _ _ hslt)
          have fq := blk_free bq s
          simp only [Nat.lt_irrefl, if_false, Nat.add_zero] at cq
          have sl := SLH.out s
          have ll := LLH.out s
          have hl := HL.out
          have f2 : IntKind.i64.wrap ((sm (fun q => len (hol (h q) s)) i : Int) + (len (hol x s) : Int)) = ((sm (fun q => len (hol (h q) s)) i + len (hol x s) : Nat) : Int) := by rw [IntWalk.i64_in _ (by omega)]; omega
          have st := blk_set bq s (.int .i64 (sm (fun q => len (hol (h q) s)) i + len (hol x s) : Nat))
          rw [row4I_set _ (fun j => sm (fun q => len (hol (h q) j)) i + if j < s + 1 then len (hol x j) else 0) s _ hslt (fun j => by
            by_cases ej : j = s
            · subst ej; rw [if_pos rfl, if_pos (by omega)]
            · rw [if_neg ej]
              by_cases ej2 : j < s
              · rw [if_pos (by omega), if_pos ej2]
              · rw [if_neg (by omega), if_neg ej2])] at st
          obtain ⟨y, hy⟩ : ∃ y, sm (fun q => len (hol (h q) s)) i = y := ⟨_, rfl⟩
          obtain ⟨z, hz⟩ : ∃ y, len (hol x s) = y := ⟨_, rfl⟩
          rw [hy] at cq f2 st
          rw [hz] at sx f2 st
          obtain ⟨u, hu⟩ : ∃ u, y + z = u := ⟨_, rfl⟩
          rw [hu] at f2 st
          have HST := Lib.hid st
          have HSL := Lib.hid hslt
          have HBW := Lib.hid bw
          clear hy hz hu st hslt hs bq bw sl ll hl
          go_wp2
          go_roundw
          case rel => exact ⟨s + 1, by go_num, HSL.out, HST.out, HBW.out.setCell (p := ⟨w.heap.size, s, none⟩) (Nat.le_refl _) _⟩
          case measure => simp [intOf]; have := HSL.out; omega
        · obtain rfl : s = 4 := by omega
          have hrow := row4I_eq (fun j => sm (fun q => len (hol (h q) j)) i + if j < 4 then len (hol x j) else 0) (fun s => sm (fun q => len (hol (h q) s)) (i + 1)) (fun j hj => by rw [if_pos hj, NL.out])
          rw [hrow] at bq
          have HBQ := Lib.hid bq
          have HBW := Lib.hid bw
          clear bq bw hrow hs hslt
          go_wp2
          go_roundw
          case rel => exact ⟨i + 1, by rw [HPN.out], by rw [HCN.out], by go_num, HL.out, HBQ.out, HBW.out⟩
          case measure => simp [intOf]; have := HL.out; omega
    · obtain rfl : i = 4 := by omega
      have p40 : sm (fun q => tot pts (h q)) 4 = 40 := by have := S3.out; simp [sm]; omega
      have c12 : sm (fun q => tot ctl (h q)) 4 = 12 := by have := S4.out; simp [sm]; omega
      rw [p40, c12]
      rw [row4I_eq _ (fun _ => 13) (fun s hs => by have := S2.out s hs; simp [sm]; omega)] at b5
      have k0 : wr.cell? ⟨w.heap.size, 0, none⟩ = some (.int .i64 13) := blk_cell b5 0
      have k1 : wr.cell? ⟨w.heap.size, 1, none⟩ = some (.int .i64 13) := blk_cell b5 1
      have k2 : wr.cell? ⟨w.heap.size, 2, none⟩ = some (.int .i64 13) := blk_cell b5 2
      have k3 : wr.cell? ⟨w.heap.size, 3, none⟩ = some (.int .i64 13) := blk_cell b5 3
      have eqa := eqI4 13 13 13 13 13 13 13 13
      simp only [and_self, decide_true] at eqa
      have hsz := hb.size
      clear b5 p40 c12 hlt hi
      go_wp2_with (go_at_call 14; refine (AW.out _).mono ?_; rintro e w1 ⟨rfl, hbel⟩; obtain ⟨o9, j9, rfl⟩ := grow_of_below hbel; clear hbel)
      go_ret
      exact ⟨rfl, by repeat (first | (with_reducible exact hb) | ((with_reducible refine below_grow ?_ ?_); rotate_left; focus (first | omega | (simp [go_sem]; done) | (simp [go_sem]; omega))) | ((with_reducible refine Below.alloc ?_ ?_ _); rotate_left; focus (first | omega | (simp [go_sem]; done) | (simp [go_sem]; omega))) | ((with_reducible refine Below.setCell ?_ ?_ _); rotate_left; focus (first | omega | (simp [go_sem]; done) | (simp [go_sem]; omega))) | (with_reducible refine Below.drew ?_) | (with_reducible refine below_drewN _ ?_))⟩
end Go.Proofs.YtgndhdcnofblaaaDoor
