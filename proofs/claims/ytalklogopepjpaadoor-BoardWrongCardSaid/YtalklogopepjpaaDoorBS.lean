/- The chapter's examples: awake. -/
import Derived.Test.YtalklogopepjpaaDoorBR
namespace Go.Proofs.YtalklogopepjpaaDoor.Ca
open Go.RowKit
open Go.Maps (Keyed IsMap)
open Go.Proofs.DB (Rd own chg cl dlr vul fnd)

theorem own_pos {w : World} {B : Nat} {e : TypeId} {n z : Nat} {v : Value} {cs : List Value} (h : w.ownsRow B e z v (n + 1) cs) : ∃ g cap, v = .slice (some ⟨g, 0, none⟩) (n + 1) cap ∧ g < w.heap.size := by
  rcases h.2 with ⟨h1, h2⟩ | ⟨g, cap, cur, h1, h2, h3, _⟩
  · omega
  · exact ⟨g, cap, h1, lt_of_block h3⟩
theorem own_at {w : World} {B : Nat} {e : TypeId} {n z g cap : Nat} {cs : List Value} (h : w.ownsRow B e z (.slice (some ⟨g, 0, none⟩) n cap) n cs) (j : Nat) (hj : j < n * z) : w.cell? ⟨g, j, none⟩ = cs[j]? := h.cellAt j hj
theorem ex_sl (X : World) (q : Nat) (hq : q = X.heap.size) : SlD (X.alloc (.cells #[.int .u64 (sD 0 : Nat), .int .u64 (sD 1 : Nat), .int .u64 (sD 2 : Nat), .int .u64 (sD 3 : Nat), .int .u64 (xD 0 : Nat), .int .u64 (xD 1 : Nat), .int .u64 (xD 2 : Nat), .int .u64 (xD 3 : Nat), .int .u64 (sD 0 : Nat), .int .u64 (sD 1 : Nat), .int .u64 (sD 2 : Nat), .int .u64 (sD 3 : Nat)] 39)) (.slice (some ⟨q, 0, none⟩) 3 3) exL 3 := by
  subst hq
  refine ⟨_, _, rfl, .inr ⟨_, rfl, by simp, fun j hj i hi => ?_⟩⟩
  rw [blk_cell (blk_new _ _ _)]
  obtain rfl | rfl | rfl : j = 0 ∨ j = 1 ∨ j = 2 := by omega
  all_goals
    obtain rfl | rfl | rfl | rfl : i = 0 ∨ i = 1 ∨ i = 2 ∨ i = 3 := by omega
    all_goals rfl
theorem ex_rd : ∀ j, j < 3 → Rd (exL j) := fun j hj => by
  obtain rfl | rfl | rfl : j = 0 ∨ j = 1 ∨ j = 2 := by omega
  · exact sD_rd
  · exact xD_rd
  · exact sD_rd
set_option maxRecDepth 100000 in
set_option maxHeartbeats 8000000 in
theorem awake_calls (w : World) (he : EnvB w) : Calls Tryd.prog 15 #[] w fun e w' => e = .returned (.bool true) ∧ Below w.heap.size w w' := by
  have D := Lib.hid dealer_yes
  have V := Lib.hid vul_yes
  have F := Lib.hid (find_yes 2 3 (by decide) (by decide))
  have hmm := @run_makeMap Tryd.prog
  have KI := Maps.int_keyed Tryd.underlying3
  go_enter Tryd.func15, Tryd.ntmps15
  go_upto_region 1 with fail
  have hown : (w.alloc (.map #[] 0)).ownsMap Tryd.prog 3 R2 w.heap.size 0 (.map []) := World.ownsMap_made _ _ _ _
  have hbel : Below w.heap.size w (w.alloc (.map #[] 0)) := by repeat (first | (with_reducible exact Below.refl _ _) | ((with_reducible refine below_grow ?_ ?_); rotate_left; focus (first | omega | (simp [go_sem]; done) | (simp [go_sem]; omega))) | ((with_reducible refine Below.alloc ?_ ?_ _); rotate_left; focus (first | omega | (simp [go_sem]; done) | (simp [go_sem]; omega))) | ((with_reducible refine Below.setCell ?_ ?_ _); rotate_left; focus (first | omega | (simp [go_sem]; done) | (simp [go_sem]; omega))) | (with_reducible refine Below.drew ?_) | (with_reducible refine below_drewN _ ?_))
  go_wp2_with (first | (refine wpList_insert_own _ rfl _ _ _ 65 rfl 3 64 KI Tryd.underlying65 R2 w.heap.size _ _ w.heap.size w rfl (by assumption) (Nat.le_refl _) (by assumption) (by unfold maxLen; omega) _ _ _ rfl rfl (Maps.keyOf_int_mk Tryd.underlying3 (by decide)) _ _ rfl ?_; intro w1 hown1 hbel1) | (at_range; refine wpList_range_own _ rfl _ 65 rfl 3 64 KI Tryd.underlying65 R2 w.heap.size _ _ rfl (by assumption) ?_; intro w0 hrg0 hg0 hs0))
  have hb0 : Below w.heap.size w w0 := hbel1.grown hg0 hbel1.size (fun k e => by cases e)
  obtain ⟨r, hr⟩ : ∃ r, w1.heap.size = r := ⟨_, rfl⟩
  rw [hr] at hrg0 ⊢
  have hrg : w0.ranges Tryd.prog 3 R2 w.heap.size r 8 D8 (Maps.has D8) (Maps.size D8) := hrg0
  have hwr : w.heap.size ≤ r := by have := hbel1.size; omega
  clear hrg0 hg0 hs0 hr hown1 hbel1 hown hbel
  rename_i y1 z1 y2 z2 x2 y3 z3 x3 y4 z4 x4 y5 z5 x5 y6 z6 x6 y7 z7
  clear hown1 hbel1 z1 y2 x2 y3 x3 y4 x4 y5 x5 y6 x6 y7
  clear y1 z2 z3 z4 z5 z6 z7 hmm w1
  go_frame
  go_loopw [1] (fun _ wr => ∃ left cnt, wr.ranges Tryd.prog 3 R2 w.heap.size r 8 D8 left cnt ∧ Below w.heap.size w wr) (fun _ wr => wr.rangeLeft w.heap.size r)
  case atStart => exact ⟨_, _, hrg, hb0⟩
  case round =>
    obtain ⟨left, cnt, hrg1, cb⟩ := hrel
    clear hrg hb0
    go_upto_region 3 with (at_next; refine wpList_next_ranges _ rfl _ rfl 3 KI R2 (Value.int .i64) pairV (fun key kl h => by obtain ⟨x, hx, _⟩ := Maps.keyOf_int_inv Tryd.underlying3 h; exact ⟨x, hx⟩) r2_inv w.heap.size r 8 D8 left cnt rfl hrg1 ?_ ?_)
    case refine_2 =>
      intro x a b kl y ps w1 cnt1 hkey hlk hv hat hrg2 hlt hg hs hen
      obtain ⟨x', hx', rfl, _⟩ := Maps.keyOf_int_inv Tryd.underlying3 hkey
      obtain rfl : x = x' := by simpa using hx'
      have hy : y = pd2 a b := by
        have := hv
        rw [show R2 _ = _ from r2_mk (a, b)] at this
        simp only [Option.some.injEq, Prod.mk.injEq] at this
        exact this.1.symm
      subst hy
      obtain ⟨n, rfl, h1, h2, rfl, rfl⟩ := d8_at x a b hat
      have CD := Lib.hid (D.out n h1 h2)
      have CV := Lib.hid (V.out n h1 h2)
      have hb1 : Below w.heap.size w w1 := cb.grown hg cb.size (fun k e => by cases e; exact hwr)
      have hbs := hb1.size
      have HR := Lib.hid hrg2
      have HL := Lib.hid hrg1.left_eq
      have HLT := Lib.hid hlt
      have HB := Lib.hid hb1
      simp only [pairV] at hen
      clear D V F hkey hlk hv hat hrg2 hrg1 hg hs hlt hb1 cb h1 h2 KI he hx'
      go_wp2_with (first | (go_at_call 9; refine (CD.out _).mono ?_; rintro e w9 ⟨rfl, rfl⟩) | (go_at_call 11; refine (CV.out _).mono ?_; rintro e w9 ⟨rfl, rfl⟩))
      go_roundw
      case rel => exact ⟨_, _, HR.out.alloc _, by repeat (first | (with_reducible exact HB.out) | ((with_reducible refine below_grow ?_ ?_); rotate_left; focus (first | omega | (simp [go_sem]; done) | (simp [go_sem]; omega))) | ((with_reducible refine Below.alloc ?_ ?_ _); rotate_left; focus (first | omega | (simp [go_sem]; done) | (simp [go_sem]; omega))) | ((with_reducible refine Below.setCell ?_ ?_ _); rotate_left; focus (first | omega | (simp [go_sem]; done) | (simp [go_sem]; omega))) | (with_reducible refine Below.drew ?_) | (with_reducible refine below_drewN _ ?_))⟩
      case measure =>
        rw [(HR.out.alloc _).left_eq, HL.out]
        exact HLT.out
    case refine_1 =>
      intro _ _
      have hbs := cb.size
      clear hrg1 D V KI
      have SU := Lib.hid suits_calls
      have SW := Lib.hid swapped_calls
      have CH := Lib.hid (changes_yes sD xD sD_rd xD_rd)
      rw [sx_val, sx_chg] at CH
      have CL := Lib.hid (fun X q (hq : q = X.heap.size) => classes_yes exL 3 (by decide) _ ex_rd _ (ex_sl X q hq))
      rw [ex_cl] at CL
      have TX := Lib.hid (fun W (hW : Below w.heap.size w W) => btext_yes 7 (by decide) (by decide) sD sD_rd W (he.below hW))
      rw [ex_text] at TX
      have RX := Lib.hid (fun W (hW : Below w.heap.size w W) => bread_calls exN (by decide) W (he.below hW))
      rw [ex_read] at RX
      have hz : rbV none = .tuple #[.agg #[.int .i64 0, .int .u64 0, .int .u64 0, .int .u64 0, .int .u64 0], .int .i64 71] := rfl
      rw [hz] at RX
      have hf : fnd 2 3 = 7 := rfl
      rw [hf] at F
      clear hz hf
      obtain ⟨s, hs⟩ : ∃ s, sD = s := ⟨_, rfl⟩
      obtain ⟨x, hx⟩ : ∃ s, xD = s := ⟨_, rfl⟩
      rw [hs] at SU CH TX
      rw [hx] at SW CH
      rw [hs, hx] at CL
      clear hs hx
      have HB := Lib.hid cb
      go_upto_region 10 with (first | (go_at_call 13; refine (F.out _).mono ?_; rintro e w9 ⟨rfl, rfl⟩) | (go_at_call 25; refine (SU.out _).mono ?_; rintro e w9 ⟨rfl, hbel⟩; obtain ⟨o1, j1, rfl⟩ := grow_of_below hbel; clear hbel) | (go_at_call 26; refine (SW.out _).mono ?_; rintro e w9 ⟨rfl, hbel⟩; obtain ⟨o2, j2, rfl⟩ := grow_of_below hbel; clear hbel) | (go_at_call 17; refine (CH.out _).mono ?_; rintro e w2 ⟨⟨v, rfl, hown⟩, hb⟩; obtain ⟨g, cap, rfl, hg⟩ := own_pos hown))
      have bb2 : Below w.heap.size w w2 := (show Below w.heap.size w _ by repeat (first | (with_reducible exact HB.out) | ((with_reducible refine below_grow ?_ ?_); rotate_left; focus (first | omega | (simp [go_sem]; done) | (simp [go_sem]; omega))) | ((with_reducible refine Below.alloc ?_ ?_ _); rotate_left; focus (first | omega | (simp [go_sem]; done) | (simp [go_sem]; omega))) | ((with_reducible refine Below.setCell ?_ ?_ _); rotate_left; focus (first | omega | (simp [go_sem]; done) | (simp [go_sem]; omega))) | (with_reducible refine Below.drew ?_) | (with_reducible refine below_drewN _ ?_))).trans (hb.mono (by simp [grow_size]; omega))
      have g0 : w2.cell? ⟨g, 0, none⟩ = some (.int .u8 0) := own_at hown 0 (by decide)
      have g1 : w2.cell? ⟨g, 1, none⟩ = some (.int .u8 0) := own_at hown 1 (by decide)
      have g2 : w2.cell? ⟨g, 2, none⟩ = some (.int .u8 1) := own_at hown 2 (by decide)
      have g3 : w2.cell? ⟨g, 3, none⟩ = some (.int .u8 13) := own_at hown 3 (by decide)
      have g4 : w2.cell? ⟨g, 4, none⟩ = some (.int .u8 1) := own_at hown 4 (by decide)
      have g5 : w2.cell? ⟨g, 5, none⟩ = some (.int .u8 0) := own_at hown 5 (by decide)
      clear hown hb CH F HB cb hbs
      have hbs := bb2.size
      go_upto_region 11 with (first | (go_at_call 25; refine (SU.out _).mono ?_; rintro e w9 ⟨rfl, hbel⟩; obtain ⟨o3, j3, rfl⟩ := grow_of_below hbel; clear hbel) | (go_at_call 26; refine (SW.out _).mono ?_; rintro e w9 ⟨rfl, hbel⟩; obtain ⟨o4, j4, rfl⟩ := grow_of_below hbel; clear hbel) | (go_at_call 19; refine (CL.out _ _ (by simp [go_sem])).mono ?_; rintro e w3 ⟨⟨u, rfl, hown3⟩, hb3⟩; obtain ⟨q, cap3, rfl, hq⟩ := own_pos hown3))
      have bb23 : Below w2.heap.size w2 w3 := (show Below w2.heap.size w2 _ by repeat (first | (with_reducible exact Below.refl _ _) | ((with_reducible refine below_grow ?_ ?_); rotate_left; focus (first | omega | (simp [go_sem]; done) | (simp [go_sem]; omega))) | ((with_reducible refine Below.alloc ?_ ?_ _); rotate_left; focus (first | omega | (simp [go_sem]; done) | (simp [go_sem]; omega))) | ((with_reducible refine Below.setCell ?_ ?_ _); rotate_left; focus (first | omega | (simp [go_sem]; done) | (simp [go_sem]; omega))) | (with_reducible refine Below.drew ?_) | (with_reducible refine below_drewN _ ?_))).trans (hb3.mono (by simp [go_sem]; omega))
      have bb3 : Below w.heap.size w w3 := bb2.trans (bb23.mono hbs)
      have q0 : w3.cell? ⟨q, 0, none⟩ = some (.int .i64 0) := own_at hown3 0 (by decide)
      have q1 : w3.cell? ⟨q, 1, none⟩ = some (.int .i64 1) := own_at hown3 1 (by decide)
      have q2 : w3.cell? ⟨q, 2, none⟩ = some (.int .i64 0) := own_at hown3 2 (by decide)
      have k0 : w3.cell? ⟨g, 0, none⟩ = some (.int .u8 0) := (bb23.cell (p := ⟨g, 0, none⟩) hg).trans g0
      have k1 : w3.cell? ⟨g, 1, none⟩ = some (.int .u8 0) := (bb23.cell (p := ⟨g, 1, none⟩) hg).trans g1
      have k2 : w3.cell? ⟨g, 2, none⟩ = some (.int .u8 1) := (bb23.cell (p := ⟨g, 2, none⟩) hg).trans g2
      have k3 : w3.cell? ⟨g, 3, none⟩ = some (.int .u8 13) := (bb23.cell (p := ⟨g, 3, none⟩) hg).trans g3
      have k4 : w3.cell? ⟨g, 4, none⟩ = some (.int .u8 1) := (bb23.cell (p := ⟨g, 4, none⟩) hg).trans g4
      have k5 : w3.cell? ⟨g, 5, none⟩ = some (.int .u8 0) := (bb23.cell (p := ⟨g, 5, none⟩) hg).trans g5
      clear hown3 hb3 bb23 g0 g1 g2 g3 g4 g5 CL SW hbs bb2 hg hq
      have hbs := bb3.size
      go_upto_region 13 with fail
      clear q0 q1 q2 k0 k1 k2 k3 k4 k5
      simp only [exT] at TX
      simp only [exN] at RX
      go_wp2_with (first | (go_at_call 25; refine (SU.out _).mono ?_; rintro e w9 ⟨rfl, hbel⟩; obtain ⟨o5, j5, rfl⟩ := grow_of_below hbel; clear hbel) | (go_at_call 20; refine (TX.out _ (by repeat (first | (with_reducible exact bb3) | ((with_reducible refine below_grow ?_ ?_); rotate_left; focus (first | omega | (simp [go_sem]; done) | (simp [go_sem]; omega))) | ((with_reducible refine Below.alloc ?_ ?_ _); rotate_left; focus (first | omega | (simp [go_sem]; done) | (simp [go_sem]; omega))) | ((with_reducible refine Below.setCell ?_ ?_ _); rotate_left; focus (first | omega | (simp [go_sem]; done) | (simp [go_sem]; omega))) | (with_reducible refine Below.drew ?_) | (with_reducible refine below_drewN _ ?_)))).mono ?_; rintro e w8 ⟨rfl, hbel⟩; obtain ⟨o6, j6, rfl⟩ := grow_of_below hbel; clear hbel) | (go_at_call 21; refine (RX.out _ (by repeat (first | (with_reducible exact bb3) | ((with_reducible refine below_grow ?_ ?_); rotate_left; focus (first | omega | (simp [go_sem]; done) | (simp [go_sem]; omega))) | ((with_reducible refine Below.alloc ?_ ?_ _); rotate_left; focus (first | omega | (simp [go_sem]; done) | (simp [go_sem]; omega))) | ((with_reducible refine Below.setCell ?_ ?_ _); rotate_left; focus (first | omega | (simp [go_sem]; done) | (simp [go_sem]; omega))) | (with_reducible refine Below.drew ?_) | (with_reducible refine below_drewN _ ?_)))).mono ?_; rintro e w8 ⟨rfl, hbel⟩; obtain ⟨o7, j7, rfl⟩ := grow_of_below hbel; clear hbel))
      refine bodyPost_ret (by simp [results, Tryd.results15, go_sem]) rfl ⟨rfl, ?_⟩
      repeat (first | (with_reducible exact bb3) | ((with_reducible refine below_grow ?_ ?_); rotate_left; focus (first | omega | (simp [go_sem]; done) | (simp [go_sem]; omega))) | ((with_reducible refine Below.alloc ?_ ?_ _); rotate_left; focus (first | omega | (simp [go_sem]; done) | (simp [go_sem]; omega))) | ((with_reducible refine Below.setCell ?_ ?_ _); rotate_left; focus (first | omega | (simp [go_sem]; done) | (simp [go_sem]; omega))) | (with_reducible refine Below.drew ?_) | (with_reducible refine below_drewN _ ?_))
end Go.Proofs.YtalklogopepjpaaDoor.Ca
