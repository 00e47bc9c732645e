/- NO, NP, NQ, NR. -/
import Derived.Test.YtjaggclfacbkbaaMC
import Derived.RangeFuncNested
import Derived.RangeFuncBound
import Derived.RangeFuncCalls
import Derived.RangeFuncLeaves
import Derived.OwnWalkIn
import Derived.TacticsInMore
import Derived.Deep.DeepCutAuto
import Derived.Deep.Cut
/-! NO -/
namespace Go.Proofs.Ytjaggclfacbkbaa
open Go.RowKit

def bin : Nat → Nat → Nat
  | _, 0 => 1
  | 0, _ + 1 => 0
  | i + 1, j + 1 => bin i j + bin i (j + 1)
theorem bin_two : ∀ i j : Nat, bin i j + bin i (j + 1) ≤ 2 ^ i
  | 0, 0 => by decide
  | 0, j + 1 => by simp [bin]
  | i + 1, 0 => by
    have := bin_two i 0
    have e : bin i 0 = 1 := by cases i <;> rfl
    have hp : 1 ≤ 2 ^ i := Nat.pow_pos (by decide)
    simp only [bin, Nat.pow_succ] at *
    omega
  | i + 1, j + 1 => by
    have h1 := bin_two i j
    have h2 := bin_two i (j + 1)
    simp only [bin, Nat.pow_succ] at *
    omega
theorem bin_zero (i : Nat) : bin i 0 = 1 := by cases i <;> rfl
theorem bin_le (i j : Nat) (h : i ≤ 128) : isN (bin i j) := by
  cases j with
  | zero => rw [bin_zero]; decide
  | succ j =>
    cases i with
    | zero => simp [bin]; decide
    | succ i =>
      have h1 := bin_two i j
      have h2 : 2 ^ i ≤ 2 ^ 127 := Nat.pow_le_pow_right (by decide) (by omega)
      have e : (2 : Nat) ^ 127 = 170141183460469231731687303715884105728 := by decide
      unfold isN
      simp only [bin]
      omega
/-- The cells of a row with the numbers c 0 to c K. -/
def rowCells (c : Nat → Nat) (K : Nat) : List Value := (List.range (4 * (K + 1))).map fun m => .int .u32 (pt (c (m / 4)) (m % 4))
theorem rowCells_len (c : Nat → Nat) (K : Nat) : (rowCells c K).length = (K + 1) * 4 := by simp [rowCells]; omega
theorem rowCells_at (c : Nat → Nat) (K j p : Nat) (hj : j ≤ K) (hp : p < 4) : (rowCells c K)[j * 4 + p]? = some (.int .u32 (pt (c j) p)) := by
  unfold rowCells
  rw [List.getElem?_map, List.getElem?_range (by omega)]
  simp only [Option.map_some]
  rw [show (j * 4 + p) / 4 = j from by omega, show (j * 4 + p) % 4 = p from by omega]
theorem rowCells_set (c : Nat → Nat) (K j v : Nat) : ((((rowCells c K).set (j * 4) (.int .u32 (pt v 0))).set (j * 4 + 1) (.int .u32 (pt v 1))).set (j * 4 + 2) (.int .u32 (pt v 2))).set (j * 4 + 3) (.int .u32 (pt v 3)) = rowCells (fun i => if i = j then v else c i) K := by
  apply List.ext_getElem?
  intro m
  unfold rowCells
  simp only [List.getElem?_set, List.length_set, List.length_map, List.length_range, List.getElem?_map]
  by_cases hm : m < 4 * (K + 1)
  · rw [List.getElem?_range hm]
    simp only [Option.map_some]
    by_cases e : m / 4 = j
    · rw [if_pos e]
      have : m = j * 4 ∨ m = j * 4 + 1 ∨ m = j * 4 + 2 ∨ m = j * 4 + 3 := by omega
      rcases this with h | h | h | h <;> subst h <;> simp <;> first | omega | (rw [show (j * 4 + 1) % 4 = 1 from by omega]) | (rw [show (j * 4 + 2) % 4 = 2 from by omega]) | (rw [show (j * 4 + 3) % 4 = 3 from by omega]) | skip
    · rw [if_neg e]
      repeat rw [if_neg (by omega)]
  · rw [List.getElem?_eq_none (by simp; omega)]
    simp only [Option.map_none]
    repeat' split
    all_goals first | rfl | omega
theorem rows_calls (n k : Int) (w : World) :
    Calls Try.prog 46 #[.int .i64 n, .int .i64 k] w fun e w' => e = .returned (.func (.func 67) #[] #[.pointer (some ⟨w.heap.size + 1, 0, none⟩), .pointer (some ⟨w.heap.size, 0, none⟩)]) ∧ w' = (w.alloc (.cells #[.int .i64 n] 3)).alloc (.cells #[.int .i64 k] 3) := by
  go_enter Try.func46, Try.ntmps46
  go_wp2
  go_ret
  exact ⟨rfl, rfl⟩
def mixed (r i j : Nat) : Nat := if i < j then bin (r + 1) j else bin r j
theorem Try.infoN : (Try.prog.info? 24).map (fun i => (i.zero, i.size, i.bytes)) = some (some (.agg #[.int .u32 0, .int .u32 0, .int .u32 0, .int .u32 0]), 4, 16) := by kernel_rfl
def KeepA (B : Nat) (w w' : World) : Prop := ∀ k, B ≤ k → k < w.heap.size → w'.heap[k]? = w.heap[k]?
theorem rowCells_congr {c c' : Nat → Nat} {K : Nat} (h : ∀ j, j ≤ K → c j = c' j) : rowCells c K = rowCells c' K := by
  unfold rowCells
  apply List.map_congr_left
  intro m hm
  rw [List.mem_range] at hm
  rw [h (m / 4) (by omega)]
theorem mixed_top (r K : Nat) : rowCells (mixed r K) K = rowCells (bin r) K := rowCells_congr (fun j hj => if_neg (by omega))
theorem mixed_zero (r K : Nat) : rowCells (mixed r 0) K = rowCells (bin (r + 1)) K := by
  refine rowCells_congr (fun j _ => ?_)
  unfold mixed
  cases j with
  | zero => rw [if_neg (by omega), bin_zero, bin_zero]
  | succ j => rw [if_pos (by omega)]
theorem mixed_isN (r i j : Nat) (h : r + 1 ≤ 128) : isN (mixed r i j) := by unfold mixed; split <;> exact bin_le _ _ (by omega)
theorem mixed_add (r m : Nat) (h : r + 1 ≤ 128) : addN (mixed r (m + 1) (m + 1)) (mixed r (m + 1) m) = bin (r + 1) (m + 1) := by
  have e1 : mixed r (m + 1) (m + 1) = bin r (m + 1) := if_neg (by omega)
  have e2 : mixed r (m + 1) m = bin r m := if_neg (by omega)
  have h2 := bin_le (r + 1) (m + 1) h
  rw [e1, e2]
  unfold addN
  unfold isN at h2
  simp only [bin] at *
  omega
theorem mixed_step (r m : Nat) : (fun i => if i = m + 1 then bin (r + 1) (m + 1) else mixed r (m + 1) i) = mixed r m := by
  funext i
  unfold mixed
  by_cases h : i = m + 1
  · subst h; rw [if_pos rfl, if_pos (by omega)]
  · rw [if_neg h]
    by_cases h2 : m < i
    · rw [if_pos h2, if_pos (by omega)]
    · rw [if_neg h2, if_neg (by omega)]
end Go.Proofs.Ytjaggclfacbkbaa

/-! NP -/
namespace Go.Proofs.Ytjaggclfacbkbaa
open Go.RowKit

theorem made_row (K : Nat) : (madeCells (Value.agg #[Value.int IntKind.u32 0, Value.int IntKind.u32 0, Value.int IntKind.u32 0, Value.int IntKind.u32 0]).cells ((K + 1) * 4)).toList = rowCells (fun _ => 0) K := by
  unfold rowCells madeCells
  rw [Array.toList_map, Array.toList_range]
  have e : (K + 1) * 4 = 4 * (K + 1) := Nat.mul_comm _ _
  rw [e]
  apply List.map_congr_left
  intro m _
  have h : m % 4 = 0 ∨ m % 4 = 1 ∨ m % 4 = 2 ∨ m % 4 = 3 := by omega
  show (#[Value.int IntKind.u32 0, Value.int IntKind.u32 0, Value.int IntKind.u32 0, Value.int IntKind.u32 0] : Array Value)[m % 4]! = _
  rcases h with h | h | h | h <;> rw [h, pt_zero] <;> rfl
theorem own_set4 {w : World} {B0 g K : Nat} {c : Nat → Nat} (h : w.ownsRow B0 24 4 (.slice (some ⟨g, 0, none⟩) (K + 1) (K + 1)) (K + 1) (rowCells c K)) (j v : Nat) (a0 a1 a2 a3 : Nat) (e0 : a0 = j * 4) (e1 : a1 = j * 4 + 1) (e2 : a2 = j * 4 + 2) (e3 : a3 = j * 4 + 3) :
    ((((w.setCell ⟨g, a0, none⟩ (.int .u32 (pt v 0))).setCell ⟨g, a1, none⟩ (.int .u32 (pt v 1))).setCell ⟨g, a2, none⟩ (.int .u32 (pt v 2))).setCell ⟨g, a3, none⟩ (.int .u32 (pt v 3))).ownsRow B0 24 4 (.slice (some ⟨g, 0, none⟩) (K + 1) (K + 1)) (K + 1) (rowCells (fun i => if i = j then v else c i) K) := by
  subst e0 e1 e2 e3
  rw [← rowCells_set]
  exact (((h.stored (j * 4) (.int .u32 (pt v 0))).1.stored (j * 4 + 1) (.int .u32 (pt v 1))).1.stored (j * 4 + 2) (.int .u32 (pt v 2))).1.stored (j * 4 + 3) (.int .u32 (pt v 3)) |>.1
theorem own_at {w : World} {B0 g K : Nat} {c : Nat → Nat} (h : w.ownsRow B0 24 4 (.slice (some ⟨g, 0, none⟩) (K + 1) (K + 1)) (K + 1) (rowCells c K)) (j p : Nat) (hj : j ≤ K) (hp : p < 4) : w.cell? ⟨g, j * 4 + p, none⟩ = some (.int .u32 (pt (c j) p)) := by
  rw [h.cellAt (j * 4 + p) (by omega), rowCells_at c K j p hj hp]
theorem own_keepA {w w' : World} {B0 g K : Nat} {xs : List Value} (h : w.ownsRow B0 24 4 (.slice (some ⟨g, 0, none⟩) (K + 1) (K + 1)) (K + 1) xs) (hk : KeepA B0 w w') : w'.ownsRow B0 24 4 (.slice (some ⟨g, 0, none⟩) (K + 1) (K + 1)) (K + 1) xs := by
  refine ⟨h.1, ?_⟩
  rcases h.2 with ⟨h1, _⟩ | ⟨g', cap, cur, h1, h2, h3, h4⟩
  · cases h1
  · exact .inr ⟨g', cap, cur, h1, h2, (hk g' h2 (lt_of_block h3)).trans h3, h4⟩
theorem own_lt {w : World} {B0 g K : Nat} {xs : List Value} (h : w.ownsRow B0 24 4 (.slice (some ⟨g, 0, none⟩) (K + 1) (K + 1)) (K + 1) xs) : B0 ≤ g ∧ g < w.heap.size := h.lt g rfl
set_option maxRecDepth 100000 in
set_option maxHeartbeats 8000000 in
theorem rows1_calls (l bk bn B0 K N : Nat) (hK : K ≤ 64) (hN : N ≤ 128) (J : Nat → World → Prop)
    (hJ : ∀ i W W', J i W → Below B0 W W' → J i W')
    (hJc : ∀ i W, J i W → B0 ≤ W.heap.size ∧ W.cell? ⟨bk, 0, none⟩ = some (.int .i64 K) ∧ W.cell? ⟨bn, 0, none⟩ = some (.int .i64 N))
    (hY : ∀ i g W, i ≤ N → J i W → B0 ≤ g → W.ownsRow B0 24 4 (.slice (some ⟨g, 0, none⟩) (K + 1) (K + 1)) (K + 1) (rowCells (bin i) K) →
      YieldAt Fence.wide 2 Try.prog l #[.slice (some ⟨g, 0, none⟩) (K + 1) (K + 1)] W fun e W' => e = .returned (.bool true) ∧ J (i + 1) W' ∧ KeepA B0 W W')
    (W : World) (h0 : J 0 W) :
    Calls Try.prog 67 #[.func (.yield l) #[] #[], .pointer (some ⟨bk, 0, none⟩), .pointer (some ⟨bn, 0, none⟩)] W fun e W' => (∃ v, e = .returned v) ∧ J (N + 1) W' := by
  obtain ⟨i0, hi, hz0, hz1, hz2⟩ := info_parts Try.infoN
  obtain ⟨hB, hck, hcn⟩ := hJc 0 W h0
  have HJ := Lib.hid hJ
  have HC := Lib.hid hJc
  have HY := Lib.hid hY
  clear hJ hJc hY
  go_enter Try.func67, Try.ntmps67
  go_upto_region 1 with (first | (at_make; refine wpList_make_full _ rfl _ _ 27 rfl B0 24 i0 _ 4 Try.underlying27 hi hz0 hz1 _ _ _ _ (K + 1) rfl rfl (by simp) (by simp) (by rw [hz2]; omega) (by unfold maxLen; omega) hB ?_; intro w1 hown hgrow; rw [made_row] at hown; have q0 := own_at hown 0 0 (Nat.zero_le _) (by decide); have q1 := own_at hown 0 1 (Nat.zero_le _) (by decide); have q2 := own_at hown 0 2 (Nat.zero_le _) (by decide); have q3 := own_at hown 0 3 (Nat.zero_le _) (by decide); have f0 := hown.frozenAt 0; have f1 := hown.frozenAt 1; have f2 := hown.frozenAt 2; have f3 := hown.frozenAt 3; simp only [Nat.zero_mul, Nat.zero_add] at q0 q1 q2 q3))
  go_cut [4] (fun s4 wx => s4 = .slice (some ⟨W.heap.size, 0, none⟩) (K + 1) (K + 1) ∧ J 0 wx ∧ wx.ownsRow B0 24 4 (.slice (some ⟨W.heap.size, 0, none⟩) (K + 1) (K + 1)) (K + 1) (rowCells (bin 0) K))
  case first =>
    go_wp2
    go_meet
    refine ⟨rfl, HJ.out 0 W _ h0 (Below.setCell (Below.setCell (Below.setCell (Below.setCell ((Below.refl B0 W).grown hgrow hB (fun k e => by cases e)) hB _) hB _) hB _) hB _), ?_⟩
    have h := own_set4 hown 0 1 0 1 2 3 rfl rfl rfl rfl
    simp only [pt_one.1, pt_one.2.1, pt_one.2.2.1, pt_one.2.2.2] at h
    have e : (fun i => if i = 0 then 1 else 0) = bin 0 := by funext i; cases i <;> rfl
    rw [e] at h
    exact h
  case rest =>
    obtain ⟨rfl, hJ0, hown⟩ := hcut
    obtain ⟨g, hg⟩ : ∃ g, W.heap.size = g := ⟨_, rfl⟩
    rw [hg] at hown ⊢
    have hgB : B0 ≤ g := by omega
    clear hg hgrow q0 q1 q2 q3 f0 f1 f2 f3
    obtain ⟨-, hk0, hn0⟩ := HC.out 0 wc hJ0
    go_wp2
    go_loopw [13] (fun s13 wr => ∃ r : Nat, r ≤ N ∧ s13 = .int .i64 r ∧ J r wr ∧ wr.ownsRow B0 24 4 (.slice (some ⟨g, 0, none⟩) (K + 1) (K + 1)) (K + 1) (rowCells (bin r) K)) (fun s13 _ => N - (intOf s13).toNat)
    case atStart => exact ⟨0, Nat.zero_le _, rfl, hJ0, hown⟩
    case round =>
      obtain ⟨r, hr, rfl, hJr, hownr⟩ := hrel
      obtain ⟨fn, tmps, assign, body, hy, hR⟩ := HY.out r g wr hr hJr hgB hownr
      obtain ⟨-, hkr, hnr⟩ := HC.out r wr hJr
      by_cases hlt : r < N
      · go_upto_region 4 with fail
        refine (wpIn_wide (n := 3)).1 ?_
        gi_wp2
        refine hR.mono ?_
        rintro e W' ⟨rfl, hJ', hkA⟩
        have hown' := own_keepA hownr hkA
        obtain ⟨-, hk', hn'⟩ := HC.out (r + 1) W' hJ'
        clear hR hy hnr hkr hownr hkA
        gi_wp2
        go_wp2
        go_loopw [5] (fun s5 wr => ∃ i : Nat, i ≤ K ∧ s5 = .int .i64 i ∧ J (r + 1) wr ∧ wr.ownsRow B0 24 4 (.slice (some ⟨g, 0, none⟩) (K + 1) (K + 1)) (K + 1) (rowCells (mixed r i) K)) (fun s5 _ => (intOf s5).toNat)
        case atStart => exact ⟨K, Nat.le_refl _, rfl, hJ', by rw [mixed_top]; exact hown'⟩
        case round =>
          obtain ⟨i, hiK, rfl, hJi, howni⟩ := hrel
          by_cases hpos : 0 < i
          · obtain ⟨m, rfl⟩ : ∃ m, i = m + 1 := ⟨i - 1, by omega⟩
            have q0 := own_at howni (m + 1) 0 hiK (by decide)
            have q1 := own_at howni (m + 1) 1 hiK (by decide)
            have q2 := own_at howni (m + 1) 2 hiK (by decide)
            have q3 := own_at howni (m + 1) 3 hiK (by decide)
            have p0 := own_at howni m 0 (by omega) (by decide)
            have p1 := own_at howni m 1 (by omega) (by decide)
            have p2 := own_at howni m 2 (by omega) (by decide)
            have p3 := own_at howni m 3 (by omega) (by decide)
            obtain ⟨z, hz⟩ : ∃ z, (m + 1) * 4 = z := ⟨_, rfl⟩
            obtain ⟨y, hy⟩ : ∃ y, m * 4 = y := ⟨_, rfl⟩
            rw [hz, Nat.add_zero] at q0
            rw [hz] at q1 q2 q3
            rw [hy, Nat.add_zero] at p0
            rw [hy] at p1 p2 p3
            have x1 : IntKind.i64.wrap (m : Int) = m := IntWalk.i64_in _ (by omega)
            have x2 : ((m : Int) + 1).toNat = m + 1 := by omega
            have b1 : (0 : Int) ≤ (m : Int) + 1 := by omega
            have b2 : m < K := by omega
            have b3 : (m : Int) < (K : Int) + 1 := by omega
            have b4 : (m : Int) + 1 < (K : Int) + 1 := by omega
            have b5 : (0 : Int) ≤ (m : Int) := by omega
            have b6 : m + 1 < K + 1 := by omega
            have b7 : m < K + 1 := by omega
            go_wp2
            have hgl := own_lt howni
            have M1 := mixed_isN r (m + 1) (m + 1) (by omega)
            have M2 := mixed_isN r (m + 1) m (by omega)
            have MA := mixed_add r m (by omega)
            have iG : NeZero (inW g wr) := inW_mk (own_lt howni).2
            have f0 := howni.frozenAt z
            have f1 := howni.frozenAt (z + 1)
            have f2 := howni.frozenAt (z + 2)
            have f3 := howni.frozenAt (z + 3)
            go_region_with (first | (go_at_call 40; refine (plus_calls (mixed r (m + 1) (m + 1)) (mixed r (m + 1) m) M1 M2 _).mono ?_; rintro e w5 ⟨rfl, hbel⟩; rw [MA]; obtain ⟨o5, j5, rfl⟩ := grow_of_below hbel; clear hbel))
            all_goals
              go_wp2
              go_roundw
              case rel => exact ⟨m, by omega, rfl, HJ.out _ wr _ hJi (by repeat (first | (with_reducible exact Below.refl _ _) | ((with_reducible refine below_grow ?_ ?_); rotate_left; focus (first | omega | (simp [go_sem]; done) | (simp [go_sem]; omega))) | ((with_reducible refine Below.alloc ?_ ?_ _); rotate_left; focus (first | omega | (simp [go_sem]; done) | (simp [go_sem]; omega))) | ((with_reducible refine Below.setCell ?_ ?_ _); rotate_left; focus (first | omega | (simp [go_sem]; done) | (simp [go_sem]; omega))) | (with_reducible refine Below.drew ?_) | (with_reducible refine below_drewN _ ?_))), by rw [← mixed_step]; exact own_grow (own_set4 howni (m + 1) _ z (z + 1) (z + 2) (z + 3) (by omega) (by omega) (by omega) (by omega)) _ _⟩
              case measure => simp [intOf]
          · obtain rfl : i = 0 := by omega
            rw [mixed_zero] at howni
            go_wp2
            go_roundw
            case rel => exact ⟨r + 1, by omega, by go_num, hJi, howni⟩
            case measure => simp [intOf]; omega
      · obtain rfl : r = N := by omega
        clear hlt
        go_upto_region 10 with fail
        refine (wpIn_wide (n := 3)).1 ?_
        gi_wp2
        refine hR.mono ?_
        rintro e W' ⟨rfl, hJ', hkA⟩
        clear hR hy hnr hkr hownr hkA
        gi_wp2
        go_wp2
        go_end0
        exact ⟨⟨_, rfl⟩, hJ'⟩
end Go.Proofs.Ytjaggclfacbkbaa

/-! NQ -/
namespace Go.Proofs.Ytjaggclfacbkbaa
open Go.RowKit

theorem below_putObj (w : World) (l : Nat) (o : Obj) (B : Nat) (h : B ≤ l) : Below B w (w.putObj l o) :=
  ⟨rfl, rfl, rfl, by simp [World.putObj], fun k hk => World.putObj_heap_other (by omega)⟩
theorem keepA_putObj (w : World) (l : Nat) (o : Obj) (B : Nat) (h : l < B) : KeepA B w (w.putObj l o) :=
  fun k hk _ => World.putObj_heap_other (by omega)
theorem keepA_trans {B : Nat} {a b c : World} (h : KeepA B a b) (hs : a.heap.size ≤ b.heap.size) (k : KeepA B b c) : KeepA B a c :=
  fun i h1 h2 => (k i h1 (by omega)).trans (h i h1 h2)
/-- how a round's body must be left: off its end -/
def offEnd (B : Nat) (I : World → Prop) (W : World) : Exit → Act → World → Prop
  | .normal, _, W' => KeepsOthers W W' ∧ KeepA B W W' ∧ I W'
  | _, _, _ => False
theorem range_idx {P : Program} {g : Operand} {ps : Array Tmp} {assign body : Code} {Q : Exit → Act → World → Prop} {a : Act} {w : World} {gf : Nat} {lb : Array Value}
    (hg : a.eval g = .func (.func gf) #[] lb) (eg : ∀ args w, (callFunc gf args).run P w = .ok (.enter gf args) w) {p : Nat} (hps : ps = #[p])
    (I : Nat → World → Prop) (hI : ∀ i W W', I i W → Below w.heap.size W W' → I i W')
    (Rel : Nat → Value → World → Prop) (hRel : ∀ i x W W', Rel i x W → KeepA (w.heap.size + 2) W W' → Rel i x W')
    (N : Nat) (h0 : I 0 w)
    (hseq : ∀ (l : Nat) (J : Nat → World → Prop) (W : World), l < w.heap.size + 2 → (∀ i W W', J i W → Below (w.heap.size + 2) W W' → J i W') → (∀ i W, J i W → I i W ∧ w.heap.size + 2 ≤ W.heap.size) →
      (∀ i x W, i ≤ N → J i W → Rel i x W → YieldAt Fence.wide 2 P l #[x] W fun e W' => e = .returned (.bool true) ∧ J (i + 1) W' ∧ KeepA (w.heap.size + 2) W W') →
      J 0 W → Calls P gf (#[.func (.yield l) #[] #[]] ++ lb) W fun e W' => (∃ v, e = .returned v) ∧ J (N + 1) W')
    (q : Nat)
    (hassign : ∀ (l i : Nat) (x : Value) (W : World) (K : Act → World → Prop), Rel i x W → K { tmps := (a.tmps.setIfInBounds p x).setIfInBounds q x, defers := [] } W →
      assign.wpIn (Fence.wide.inRound l) 2 P (Exit.then K (fun _ _ _ => False)) { tmps := a.tmps.setIfInBounds p x, defers := [] } W)
    (hbody : ∀ (l i : Nat) (x : Value) (W : World), i ≤ N → I i W → Rel i x W → body.wpIn (Fence.wide.inRound l) 2 P (offEnd (w.heap.size + 2) (I (i + 1)) W) { tmps := (a.tmps.setIfInBounds p x).setIfInBounds q x, defers := [] } W)
    (hdone : ∀ (D : Nat) (W : World), I (N + 1) W → w.heap.size ≤ D → W.heap[D]? = some (.deferred (some [])) → Q .normal { a with defers := { target := .collected D, args := #[] } :: a.defers } W) :
    (Code.rangeFunc g ps assign body).wp P Q a w := by
  subst hps
  refine (wpIn_wide (n := 3)).1 ?_
  refine wpIn_rangeFunc ?_
  intro fn _
  let rc : LoopState → Loop := fun st => { state := st, pending := none, fn, tmps := a.tmps, params := #[p], assign, body, defers := w.heap.size }
  obtain ⟨W1, hW1⟩ : ∃ W1, (w.alloc (.deferred (some []))).alloc (.loop (rc .ready)) = W1 := ⟨_, rfl⟩
  have sz1 : W1.heap.size = w.heap.size + 2 := by rw [← hW1]; simp
  have l1 : W1.heap[w.heap.size + 1]? = some (.loop (rc .ready)) := by
    rw [← hW1]
    have := World.alloc_heap_new (w.alloc (.deferred (some []))) (.loop (rc .ready))
    simpa using this
  have d1 : W1.heap[w.heap.size]? = some (.deferred (some [])) := by
    rw [← hW1]
    exact (Below.heap_alloc _ _ _ (by simp)).trans (World.alloc_heap_new w _)
  have i1 : I 0 W1 := hI 0 w W1 h0 (by rw [← hW1]; exact ((Below.refl w.heap.size w).alloc (Nat.le_refl _) _).alloc (by simp) _)
  refine ⟨w.heap.size + 1, [{ target := .collected w.heap.size, args := #[] }], W1, { target := .fn (.func gf) lb, args := #[.func (.yield (w.heap.size + 1)) #[] #[]] }, W1, gf,
    #[.func (.yield (w.heap.size + 1)) #[] #[]] ++ lb, W1, ?_, ?_, ?_, ?_, ?_, ?_⟩
  · rw [← hW1]; exact run_enterLoop_outer _ _ _ _ _
  · simp only [resolve, hg]
    simp [go_sem]
  · intro f' _; trivial
  · simp [invoke, go_sem, eg]
  · intro h; cases h
  · refine callsIn_wide.2 ((hseq (w.heap.size + 1)
      (fun i W => I i W ∧ W.heap[w.heap.size + 1]? = some (.loop (rc .ready)) ∧ W.heap[w.heap.size]? = some (.deferred (some [])))
      W1 (by omega) ?_ ?_ ?_ ⟨i1, l1, d1⟩).mono ?_)
    · rintro i X Y ⟨h1, h2, h3⟩ hb
      exact ⟨hI i X Y h1 (hb.mono (by omega)), (hb.block _ (by omega)).trans h2, (hb.block _ (by omega)).trans h3⟩
    · rintro i X ⟨h1, h2, _⟩
      exact ⟨h1, by have := (Array.getElem?_eq_some_iff.1 h2).1; omega⟩
    · rintro i x X hiN ⟨h1, h2, h3⟩ hr
      have hlt := (Array.getElem?_eq_some_iff.1 h2).1
      refine ⟨fn, _, assign, body, run_yield (args := #[x]) h2 (by simp [rc]), roundIn_of_wpIn trivial ?_⟩
      have e0 : ((rc .ready).params.zip #[x]).foldl (fun tmps (t, a) => tmps.setIfInBounds t a) (rc .ready).tmps = a.tmps.setIfInBounds p x := by simp [rc]
      rw [e0]
      refine hassign _ i x X _ hr ⟨_, run_beginRound h2 rfl, ?_⟩
      have l2 := World.putObj_heap_same (w := X) (r := w.heap.size + 1) (o := .loop { rc .ready with state := .busy }) hlt
      have d2 := (World.putObj_heap_other (w := X) (r := w.heap.size + 1) (k := w.heap.size) (o := .loop { rc .ready with state := .busy }) (by omega)).trans h3
      have kA := keepA_putObj X (w.heap.size + 1) (.loop { rc .ready with state := .busy }) (w.heap.size + 2) (by omega)
      refine wpIn_mono (hbody _ i x _ hiN (hI i X _ h1 (below_putObj _ _ _ _ (by omega))) (hRel i x X _ hr kA)) ?_
      rintro e a3 Y hp
      cases e with
      | normal =>
        obtain ⟨ko, ka, hi⟩ := hp
        have l3 := ko.same _ _ l2 rfl
        have d3 := ko.same _ _ d2 rfl
        refine ⟨_, _, run_endRound none l3, rfl, ⟨hI _ Y _ hi (below_putObj _ _ _ _ (by omega)), World.putObj_heap_same (Array.getElem?_eq_some_iff.1 l3).1, (World.putObj_heap_other (by omega)).trans d3⟩, ?_⟩
        refine keepA_trans (keepA_trans kA (by simp [World.putObj]) ka) (Nat.le_trans (by simp [World.putObj]) ko.size) (keepA_putObj Y _ _ _ (by omega))
      | ret => exact hp.elim
      | exit id => exact hp.elim
      | goto t => exact hp.elim
      | panic ch => exact hp.elim
      | outgrown => exact hp.elim
    · rintro e X ⟨⟨v, rfl⟩, h1, h2, h3⟩
      have hlt := (Array.getElem?_eq_some_iff.1 h2).1
      exact ⟨none, _, run_endLoop h2 (by simp [rc]), hdone w.heap.size _ (hI _ X _ h1 (below_putObj _ _ _ _ (by omega))) (Nat.le_refl _) ((World.putObj_heap_other (by omega)).trans h3)⟩
end Go.Proofs.Ytjaggclfacbkbaa

/-! NR -/
namespace Go.Proofs.Ytjaggclfacbkbaa
open Go.RowKit
attribute [local go_sem] Oper.semAt_some

set_option maxRecDepth 100000 in
set_option maxHeartbeats 4000000 in
theorem choose_bad (n k : Int) (hn0 : -9223372036854775808 ≤ n) (hn1 : n ≤ 9223372036854775807) (hk0 : -9223372036854775808 ≤ k) (hk1 : k ≤ 9223372036854775807) (h : n < 0 ∨ 128 < n ∨ k < 0 ∨ n < k) (w : World) :
    Calls Try.prog 24 #[.int .i64 n, .int .i64 k] w fun e w' => e = .returned (.tuple #[.agg #[.int .u32 (pt 0 0), .int .u32 (pt 0 1), .int .u32 (pt 0 2), .int .u32 (pt 0 3)], .int .i64 (if n < 0 then 2 else if 128 < n then 5 else 0)]) ∧ Below w.heap.size w w' := by
  simp only [pt_zero]
  by_cases h1 : n < 0
  · rw [if_pos h1]
    clear h
    go_enter Try.func24, Try.ntmps24
    go_wp2
    refine bodyPost_ret (by simp [results, Try.results24, go_sem]) rfl ⟨rfl, ?_⟩
    repeat (first | (with_reducible exact Below.refl _ _) | ((with_reducible refine below_grow ?_ ?_); rotate_left; focus (first | omega | (simp [go_sem]; done) | (simp [go_sem]; omega))) | ((with_reducible refine Below.alloc ?_ ?_ _); rotate_left; focus (first | omega | (simp [go_sem]; done) | (simp [go_sem]; omega))) | ((with_reducible refine Below.setCell ?_ ?_ _); rotate_left; focus (first | omega | (simp [go_sem]; done) | (simp [go_sem]; omega))) | (with_reducible refine Below.drew ?_) | (with_reducible refine below_drewN _ ?_))
  · rw [if_neg h1]
    by_cases h2 : 128 < n
    · rw [if_pos h2]
      clear h
      go_enter Try.func24, Try.ntmps24
      go_wp2
      refine bodyPost_ret (by simp [results, Try.results24, go_sem]) rfl ⟨rfl, ?_⟩
      repeat (first | (with_reducible exact Below.refl _ _) | ((with_reducible refine below_grow ?_ ?_); rotate_left; focus (first | omega | (simp [go_sem]; done) | (simp [go_sem]; omega))) | ((with_reducible refine Below.alloc ?_ ?_ _); rotate_left; focus (first | omega | (simp [go_sem]; done) | (simp [go_sem]; omega))) | ((with_reducible refine Below.setCell ?_ ?_ _); rotate_left; focus (first | omega | (simp [go_sem]; done) | (simp [go_sem]; omega))) | (with_reducible refine Below.drew ?_) | (with_reducible refine below_drewN _ ?_))
    · rw [if_neg h2]
      by_cases h3 : k < 0
      · clear h
        go_enter Try.func24, Try.ntmps24
        go_wp2
        refine bodyPost_ret (by simp [results, Try.results24, go_sem]) rfl ⟨rfl, ?_⟩
        repeat (first | (with_reducible exact Below.refl _ _) | ((with_reducible refine below_grow ?_ ?_); rotate_left; focus (first | omega | (simp [go_sem]; done) | (simp [go_sem]; omega))) | ((with_reducible refine Below.alloc ?_ ?_ _); rotate_left; focus (first | omega | (simp [go_sem]; done) | (simp [go_sem]; omega))) | ((with_reducible refine Below.setCell ?_ ?_ _); rotate_left; focus (first | omega | (simp [go_sem]; done) | (simp [go_sem]; omega))) | (with_reducible refine Below.drew ?_) | (with_reducible refine below_drewN _ ?_))
      · have h4 : n < k := by omega
        have h5 : 0 ≤ k := by omega
        clear h h3
        go_enter Try.func24, Try.ntmps24
        go_wp2
        refine bodyPost_ret (by simp [results, Try.results24, go_sem]) rfl ⟨rfl, ?_⟩
        repeat (first | (with_reducible exact Below.refl _ _) | ((with_reducible refine below_grow ?_ ?_); rotate_left; focus (first | omega | (simp [go_sem]; done) | (simp [go_sem]; omega))) | ((with_reducible refine Below.alloc ?_ ?_ _); rotate_left; focus (first | omega | (simp [go_sem]; done) | (simp [go_sem]; omega))) | ((with_reducible refine Below.setCell ?_ ?_ _); rotate_left; focus (first | omega | (simp [go_sem]; done) | (simp [go_sem]; omega))) | (with_reducible refine Below.drew ?_) | (with_reducible refine below_drewN _ ?_))
theorem blk_at (w : World) (cs : Array Value) (t : TypeId) {b : Nat} (h : b = w.heap.size) : blk (w.alloc (.cells cs t)) b cs t := by subst h; exact blk_new w cs t
/-- Behind i rounds: choices holds the last row's number. -/
def chI (w _W : World) (n K i : Nat) (X : World) : Prop := ∃ v : Nat, blk X w.heap.size #[.int .i64 K] 3 ∧ blk X (w.heap.size + 1) #[.int .u32 0, .int .u32 0, .int .u32 0, .int .u32 0] 24 ∧
  blk X (w.heap.size + 1 + 1) #[.int .u32 (pt v 0), .int .u32 (pt v 1), .int .u32 (pt v 2), .int .u32 (pt v 3)] 24 ∧ blk X (w.heap.size + 1 + 1 + 1) #[.int .i64 n] 3 ∧ blk X (w.heap.size + 1 + 1 + 1 + 1) #[.int .i64 K] 3 ∧
  Below w.heap.size w X ∧ (1 ≤ i → v = bin (i - 1) K)
theorem blk_below {w w' : World} {b B : Nat} {cs : Array Value} {t : TypeId} (h : blk w b cs t) (hb : Below B w w') (hlt : b < B) : blk w' b cs t := (hb.block b hlt).trans h
theorem chI_below (w W : World) (n K : Nat) (hs : W.heap.size = w.heap.size + 5) (i : Nat) (X Y : World) (h : chI w W n K i X) (hb : Below W.heap.size X Y) : chI w W n K i Y := by
  obtain ⟨v, c0, c1, c2, c3, c4, cb, cv⟩ := h
  exact ⟨v, blk_below c0 hb (by omega), blk_below c1 hb (by omega), blk_below c2 hb (by omega), blk_below c3 hb (by omega), blk_below c4 hb (by omega), cb.trans (hb.mono (by omega)), cv⟩
/-- The iterator's row i lies in cells of its own. -/
def chRel (W : World) (K i : Nat) (x : Value) (X : World) : Prop := ∃ g, x = .slice (some ⟨g, 0, none⟩) (K + 1) (K + 1) ∧ W.heap.size + 2 ≤ g ∧ X.ownsRow (W.heap.size + 2) 24 4 (.slice (some ⟨g, 0, none⟩) (K + 1) (K + 1)) (K + 1) (rowCells (bin i) K)
theorem chRel_keeps (W : World) (K i : Nat) (x : Value) (X Y : World) (h : chRel W K i x X) (hk : KeepA (W.heap.size + 2) X Y) : chRel W K i x Y := by
  obtain ⟨g, rfl, hg, hown⟩ := h
  exact ⟨g, rfl, hg, own_keepA hown hk⟩
theorem keepA_set {w : World} {B b : Nat} (i : Nat) (v : Value) (h : b < B) : KeepA B w (w.setCell ⟨b, i, none⟩ v) := fun k hk _ => Below.heap_setCell _ _ _ _ (show k ≠ b by omega)
theorem blk_other4 {w : World} {b c : Nat} {cs : Array Value} {t : TypeId} {x0 x1 x2 x3 : Value} (h : blk w b cs t) (hne : b ≠ c) :
    blk ((((w.setCell ⟨c, 0, none⟩ x0).setCell ⟨c, 1, none⟩ x1).setCell ⟨c, 2, none⟩ x2).setCell ⟨c, 3, none⟩ x3) b cs t := by
  unfold blk at *
  rw [Below.heap_setCell _ _ _ _ hne, Below.heap_setCell _ _ _ _ hne, Below.heap_setCell _ _ _ _ hne, Below.heap_setCell _ _ _ _ hne]
  exact h
theorem kernelMin (a b : Nat) : (if (a : Int) ≤ b then (a : Int) else b) = ((min a b : Nat) : Int) := by
  split <;> omega
set_option maxRecDepth 100000 in
set_option maxHeartbeats 4000000 in
theorem choose_good (n k : Nat) (hn : n ≤ 128) (hk : k ≤ n) (w : World) :
    Calls Try.prog 24 #[.int .i64 n, .int .i64 k] w fun e w' => e = .returned (.tuple #[.agg #[.int .u32 (pt (bin n (min k (n - k))) 0), .int .u32 (pt (bin n (min k (n - k))) 1), .int .u32 (pt (bin n (min k (n - k))) 2), .int .u32 (pt (bin n (min k (n - k))) 3)], .int .i64 0]) ∧ Below w.heap.size w w' := by
  obtain ⟨K, hK⟩ : ∃ K, min k (n - k) = K := ⟨_, rfl⟩
  have hK64 : K ≤ 64 := by omega
  rw [hK]
  refine (callsIn_wide (n := 3)).1 ?_
  refine callsIn_of_wp_marks Try.func24 rfl trivial ?_ rfl
  refine wpIn_wide.2 ?_
  simp only [Try.ntmps24, List.size_toArray, List.length_cons, List.length_nil, Nat.reduceAdd, Nat.reduceSub, Array.replicate_succ, Array.replicate_zero, List.push_toArray, List.append_toArray, List.nil_append, List.cons_append]
  go_wp2_with (first | (go_at_call 46; refine (rows_calls _ _ _).mono ?_; rintro e w1 ⟨rfl, rfl⟩))
  rw [show min (k : Int) ((n : Int) - k) = (K : Int) from by omega]
  have z0 : blk (((((w.alloc (.cells #[.int .i64 K] 3)).alloc (.cells #[.int .u32 0, .int .u32 0, .int .u32 0, .int .u32 0] 24)).alloc (.cells #[.int .u32 0, .int .u32 0, .int .u32 0, .int .u32 0] 24)).alloc (.cells #[.int .i64 n] 3)).alloc (.cells #[.int .i64 K] 3)) w.heap.size #[.int .i64 K] 3 := blk_alloc (blk_alloc (blk_alloc (blk_alloc (blk_new _ _ _) _) _) _) _
  have z1 : blk (((((w.alloc (.cells #[.int .i64 K] 3)).alloc (.cells #[.int .u32 0, .int .u32 0, .int .u32 0, .int .u32 0] 24)).alloc (.cells #[.int .u32 0, .int .u32 0, .int .u32 0, .int .u32 0] 24)).alloc (.cells #[.int .i64 n] 3)).alloc (.cells #[.int .i64 K] 3)) (w.heap.size + 1) #[.int .u32 0, .int .u32 0, .int .u32 0, .int .u32 0] 24 := blk_alloc (blk_alloc (blk_alloc (blk_at _ _ _ (by simp)) _) _) _
  have z2 : blk (((((w.alloc (.cells #[.int .i64 K] 3)).alloc (.cells #[.int .u32 0, .int .u32 0, .int .u32 0, .int .u32 0] 24)).alloc (.cells #[.int .u32 0, .int .u32 0, .int .u32 0, .int .u32 0] 24)).alloc (.cells #[.int .i64 n] 3)).alloc (.cells #[.int .i64 K] 3)) (w.heap.size + 1 + 1) #[.int .u32 0, .int .u32 0, .int .u32 0, .int .u32 0] 24 := blk_alloc (blk_alloc (blk_at _ _ _ (by simp)) _) _
  have z3 : blk (((((w.alloc (.cells #[.int .i64 K] 3)).alloc (.cells #[.int .u32 0, .int .u32 0, .int .u32 0, .int .u32 0] 24)).alloc (.cells #[.int .u32 0, .int .u32 0, .int .u32 0, .int .u32 0] 24)).alloc (.cells #[.int .i64 n] 3)).alloc (.cells #[.int .i64 K] 3)) (w.heap.size + 1 + 1 + 1) #[.int .i64 n] 3 := blk_alloc (blk_at _ _ _ (by simp)) _
  have z4 : blk (((((w.alloc (.cells #[.int .i64 K] 3)).alloc (.cells #[.int .u32 0, .int .u32 0, .int .u32 0, .int .u32 0] 24)).alloc (.cells #[.int .u32 0, .int .u32 0, .int .u32 0, .int .u32 0] 24)).alloc (.cells #[.int .i64 n] 3)).alloc (.cells #[.int .i64 K] 3)) (w.heap.size + 1 + 1 + 1 + 1) #[.int .i64 K] 3 := blk_at _ _ _ (by simp)
  have zb : Below w.heap.size w (((((w.alloc (.cells #[.int .i64 K] 3)).alloc (.cells #[.int .u32 0, .int .u32 0, .int .u32 0, .int .u32 0] 24)).alloc (.cells #[.int .u32 0, .int .u32 0, .int .u32 0, .int .u32 0] 24)).alloc (.cells #[.int .i64 n] 3)).alloc (.cells #[.int .i64 K] 3)) := by repeat (first | (with_reducible exact Below.refl _ _) | ((with_reducible refine below_grow ?_ ?_); rotate_left; focus (first | omega | (simp [go_sem]; done) | (simp [go_sem]; omega))) | ((with_reducible refine Below.alloc ?_ ?_ _); rotate_left; focus (first | omega | (simp [go_sem]; done) | (simp [go_sem]; omega))) | ((with_reducible refine Below.setCell ?_ ?_ _); rotate_left; focus (first | omega | (simp [go_sem]; done) | (simp [go_sem]; omega))) | (with_reducible refine Below.drew ?_) | (with_reducible refine below_drewN _ ?_))
  have zs : (((((w.alloc (.cells #[.int .i64 K] 3)).alloc (.cells #[.int .u32 0, .int .u32 0, .int .u32 0, .int .u32 0] 24)).alloc (.cells #[.int .u32 0, .int .u32 0, .int .u32 0, .int .u32 0] 24)).alloc (.cells #[.int .i64 n] 3)).alloc (.cells #[.int .i64 K] 3)).heap.size = w.heap.size + 5 := by simp
  generalize (((((w.alloc (.cells #[.int .i64 K] 3)).alloc (.cells #[.int .u32 0, .int .u32 0, .int .u32 0, .int .u32 0] 24)).alloc (.cells #[.int .u32 0, .int .u32 0, .int .u32 0, .int .u32 0] 24)).alloc (.cells #[.int .i64 n] 3)).alloc (.cells #[.int .i64 K] 3)) = W at *
  refine range_idx (gf := 67) (lb := #[.pointer (some ⟨w.heap.size + 1 + 1 + 1 + 1, 0, none⟩), .pointer (some ⟨w.heap.size + 1 + 1 + 1, 0, none⟩)]) rfl (enters_of Try.func67 (by kernel_rfl) rfl) rfl
    (chI w W n K) (chI_below w W n K zs) (chRel W K) (chRel_keeps W K) n ⟨0, z0, z1, by simp only [pt_zero]; exact z2, z3, z4, zb, fun h => absurd h (by omega)⟩ ?seq 7 ?assign ?body ?done
  case seq =>
    intro l J X hl hJ hJI hY h0
    refine rows1_calls l (w.heap.size + 1 + 1 + 1 + 1) (w.heap.size + 1 + 1 + 1) (W.heap.size + 2) K n hK64 hn J hJ ?_ ?_ X h0
    · intro i Y hi
      obtain ⟨⟨v, c0, c1, c2, c3, c4, cb, cv⟩, hs⟩ := hJI i Y hi
      exact ⟨hs, by rw [blk_cell c4]; rfl, by rw [blk_cell c3]; rfl⟩
    · intro i g Y hi hJi hg hown
      exact hY i _ Y hi hJi ⟨g, rfl, hg, hown⟩
  case assign =>
    intro l i x X KK hr hK'
    simp only [List.setIfInBounds_toArray, List.set_cons_zero, List.set_cons_succ] at hK' ⊢
    gi_wp2
    exact hK'
  case body =>
    rintro l i x X hi ⟨v, c0, c1, c2, c3, c4, cb, cv⟩ ⟨g, rfl, hg, hown⟩
    simp only [List.setIfInBounds_toArray, List.set_cons_zero, List.set_cons_succ]
    have k0 := blk_cell c0 0
    simp only [List.getElem?_toArray, List.getElem?_cons_zero] at k0
    have d0 := blk_cell c2 0
    have d1 := blk_cell c2 1
    have d2 := blk_cell c2 2
    have d3 := blk_cell c2 3
    simp only [List.getElem?_toArray, List.getElem?_cons_zero, List.getElem?_cons_succ] at d0 d1 d2 d3
    have f0 := blk_free c2 0
    have f1 := blk_free c2 1
    have f2 := blk_free c2 2
    have f3 := blk_free c2 3
    have q0 := own_at hown K 0 (Nat.le_refl _) (by decide)
    have q1 := own_at hown K 1 (Nat.le_refl _) (by decide)
    have q2 := own_at hown K 2 (Nat.le_refl _) (by decide)
    have q3 := own_at hown K 3 (Nat.le_refl _) (by decide)
    obtain ⟨z, hz⟩ : ∃ z, K * 4 = z := ⟨_, rfl⟩
    rw [hz, Nat.add_zero] at q0
    rw [hz] at q1 q2 q3
    gi_wp2
    refine ⟨(((KeepsOthers.setCell _ _ _).trans (KeepsOthers.setCell _ _ _)).trans (KeepsOthers.setCell _ _ _)).trans (KeepsOthers.setCell _ _ _), ?_, ?_⟩
    · exact keepA_trans (keepA_trans (keepA_trans (keepA_set _ _ (by omega)) (by simp [World.size_setCell]) (keepA_set _ _ (by omega))) (by simp [World.size_setCell]) (keepA_set _ _ (by omega))) (by simp [World.size_setCell]) (keepA_set _ _ (by omega))
    · exact ⟨bin i K, blk_other4 c0 (by omega), blk_other4 c1 (by omega), set4 c2 _ _ _ _, blk_other4 c3 (by omega), blk_other4 c4 (by omega), by repeat (first | (with_reducible exact cb) | ((with_reducible refine below_grow ?_ ?_); rotate_left; focus (first | omega | (simp [go_sem]; done) | (simp [go_sem]; omega))) | ((with_reducible refine Below.alloc ?_ ?_ _); rotate_left; focus (first | omega | (simp [go_sem]; done) | (simp [go_sem]; omega))) | ((with_reducible refine Below.setCell ?_ ?_ _); rotate_left; focus (first | omega | (simp [go_sem]; done) | (simp [go_sem]; omega))) | (with_reducible refine Below.drew ?_) | (with_reducible refine below_drewN _ ?_)), fun _ => rfl⟩
  case done =>
    rintro D X ⟨v, c0, c1, c2, c3, c4, cb, cv⟩ hD hX
    obtain rfl := cv (by omega)
    simp only [Nat.add_sub_cancel] at c2
    have d0 := blk_cell c2 0
    have d1 := blk_cell c2 1
    have d2 := blk_cell c2 2
    have d3 := blk_cell c2 3
    have e0 := blk_cell c1 0
    have e1 := blk_cell c1 1
    have e2 := blk_cell c1 2
    have e3 := blk_cell c1 3
    simp only [List.getElem?_toArray, List.getElem?_cons_zero, List.getElem?_cons_succ] at d0 d1 d2 d3 e0 e1 e2 e3
    have f0 := blk_free c1 0
    have f1 := blk_free c1 1
    have f2 := blk_free c1 2
    have f3 := blk_free c1 3
    go_wp2
    have hX' : ((((X.setCell ⟨w.heap.size + 1, 0, none⟩ (.int .u32 (pt (bin n K) 0))).setCell ⟨w.heap.size + 1, 1, none⟩ (.int .u32 (pt (bin n K) 1))).setCell ⟨w.heap.size + 1, 2, none⟩ (.int .u32 (pt (bin n K) 2))).setCell ⟨w.heap.size + 1, 3, none⟩ (.int .u32 (pt (bin n K) 3))).heap[D]? = some (.deferred (some [])) :=
      ((((KeepsOthers.setCell _ _ _).trans (KeepsOthers.setCell _ _ _)).trans (KeepsOthers.setCell _ _ _)).trans (KeepsOthers.setCell _ _ _)).same D _ hX rfl
    have hc := set4 c1 (.int .u32 (pt (bin n K) 0)) (.int .u32 (pt (bin n K) 1)) (.int .u32 (pt (bin n K) 2)) (.int .u32 (pt (bin n K) 3))
    have hb' : Below w.heap.size w ((((X.setCell ⟨w.heap.size + 1, 0, none⟩ (.int .u32 (pt (bin n K) 0))).setCell ⟨w.heap.size + 1, 1, none⟩ (.int .u32 (pt (bin n K) 1))).setCell ⟨w.heap.size + 1, 2, none⟩ (.int .u32 (pt (bin n K) 2))).setCell ⟨w.heap.size + 1, 3, none⟩ (.int .u32 (pt (bin n K) 3))) := by repeat (first | (with_reducible exact cb) | ((with_reducible refine below_grow ?_ ?_); rotate_left; focus (first | omega | (simp [go_sem]; done) | (simp [go_sem]; omega))) | ((with_reducible refine Below.alloc ?_ ?_ _); rotate_left; focus (first | omega | (simp [go_sem]; done) | (simp [go_sem]; omega))) | ((with_reducible refine Below.setCell ?_ ?_ _); rotate_left; focus (first | omega | (simp [go_sem]; done) | (simp [go_sem]; omega))) | (with_reducible refine Below.drew ?_) | (with_reducible refine below_drewN _ ?_))
    generalize ((((X.setCell ⟨w.heap.size + 1, 0, none⟩ (.int .u32 (pt (bin n K) 0))).setCell ⟨w.heap.size + 1, 1, none⟩ (.int .u32 (pt (bin n K) 1))).setCell ⟨w.heap.size + 1, 2, none⟩ (.int .u32 (pt (bin n K) 2))).setCell ⟨w.heap.size + 1, 3, none⟩ (.int .u32 (pt (bin n K) 3))) = Y at *
    have hc' : blk (Y.putObj D (.deferred none)) (w.heap.size + 1) _ _ := (World.putObj_heap_other (show w.heap.size + 1 ≠ D by omega)).trans hc
    have hbY : Below w.heap.size w (Y.putObj D (.deferred none)) := hb'.trans (below_putObj _ _ _ _ (by omega))
    refine ⟨by simp, .inl ⟨_, _, rfl, run_takeDeferred hX', ?_⟩⟩
    generalize Y.putObj D (.deferred none) = Z at *
    have d0 := blk_cell hc' 0
    have d1 := blk_cell hc' 1
    have d2 := blk_cell hc' 2
    have d3 := blk_cell hc' 3
    simp only [List.getElem?_toArray, List.getElem?_cons_zero, List.getElem?_cons_succ] at d0 d1 d2 d3
    refine ⟨_, ?_, rfl, hbY⟩
    simp [results, Try.results24, go_sem, *]
end Go.Proofs.Ytjaggclfacbkbaa
