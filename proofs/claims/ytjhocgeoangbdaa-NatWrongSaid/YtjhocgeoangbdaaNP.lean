/- Pascal's rows: the iterator. -/
import Derived.Test.YtjhocgeoangbdaaNO
namespace Go.Proofs.Ytjhocgeoangbdaa
open Go.RowKit

theorem made_row (K : Nat) : (madeCells (Value.agg #[Value.int IntKind.u32 0, Value.int IntKind.u32 0, Value.int IntKind.u32 0, Value.int IntKind.u32 0]).cells ((K + 1) * 4)).toList = rowCells (fun _ => 0) K := by
  unfold rowCells madeCells
  rw [Array.toList_map, Array.toList_range]
  have e : (K + 1) * 4 = 4 * (K + 1) := Nat.mul_comm _ _
  rw [e]
  apply List.map_congr_left
  intro m _
  have h : m % 4 = 0 ∨ m % 4 = 1 ∨ m % 4 = 2 ∨ m % 4 = 3 := by omega
  show (#[Value.int IntKind.u32 0, Value.int IntKind.u32 0, Value.int IntKind.u32 0, Value.int IntKind.u32 0] : Array Value)[m % 4]! = _
  rcases h with h | h | h | h <;> rw [h, pt_zero] <;> rfl
theorem own_set4 {w : World} {B0 g K : Nat} {c : Nat → Nat} (h : w.ownsRow B0 24 4 (.slice (some ⟨g, 0, none⟩) (K + 1) (K + 1)) (K + 1) (rowCells c K)) (j v : Nat) (a0 a1 a2 a3 : Nat) (e0 : a0 = j * 4) (e1 : a1 = j * 4 + 1) (e2 : a2 = j * 4 + 2) (e3 : a3 = j * 4 + 3) :
    ((((w.setCell ⟨g, a0, none⟩ (.int .u32 (pt v 0))).setCell ⟨g, a1, none⟩ (.int .u32 (pt v 1))).setCell ⟨g, a2, none⟩ (.int .u32 (pt v 2))).setCell ⟨g, a3, none⟩ (.int .u32 (pt v 3))).ownsRow B0 24 4 (.slice (some ⟨g, 0, none⟩) (K + 1) (K + 1)) (K + 1) (rowCells (fun i => if i = j then v else c i) K) := by
  subst e0 e1 e2 e3
  rw [← rowCells_set]
  exact (((h.stored (j * 4) (.int .u32 (pt v 0))).1.stored (j * 4 + 1) (.int .u32 (pt v 1))).1.stored (j * 4 + 2) (.int .u32 (pt v 2))).1.stored (j * 4 + 3) (.int .u32 (pt v 3)) |>.1
theorem own_at {w : World} {B0 g K : Nat} {c : Nat → Nat} (h : w.ownsRow B0 24 4 (.slice (some ⟨g, 0, none⟩) (K + 1) (K + 1)) (K + 1) (rowCells c K)) (j p : Nat) (hj : j ≤ K) (hp : p < 4) : w.cell? ⟨g, j * 4 + p, none⟩ = some (.int .u32 (pt (c j) p)) := by
  rw [h.cellAt (j * 4 + p) (by omega), rowCells_at c K j p hj hp]
theorem own_keepA {w w' : World} {B0 g K : Nat} {xs : List Value} (h : w.ownsRow B0 24 4 (.slice (some ⟨g, 0, none⟩) (K + 1) (K + 1)) (K + 1) xs) (hk : KeepA B0 w w') : w'.ownsRow B0 24 4 (.slice (some ⟨g, 0, none⟩) (K + 1) (K + 1)) (K + 1) xs := by
  refine ⟨h.1, ?_⟩
  rcases h.2 with ⟨h1, _⟩ | ⟨g', cap, cur, h1, h2, h3, h4⟩
  · cases h1
  · exact .inr ⟨g', cap, cur, h1, h2, (hk g' h2 (lt_of_block h3)).trans h3, h4⟩
theorem own_lt {w : World} {B0 g K : Nat} {xs : List Value} (h : w.ownsRow B0 24 4 (.slice (some ⟨g, 0, none⟩) (K + 1) (K + 1)) (K + 1) xs) : B0 ≤ g ∧ g < w.heap.size := h.lt g rfl
set_option maxRecDepth 100000 in
set_option maxHeartbeats 8000000 in
theorem rows1_calls (l bk bn B0 K N : Nat) (hK : K ≤ 64) (hN : N ≤ 128) (J : Nat → World → Prop)
    (hJ : ∀ i W W', J i W → Below B0 W W' → J i W')
    (hJc : ∀ i W, J i W → B0 ≤ W.heap.size ∧ W.cell? ⟨bk, 0, none⟩ = some (.int .i64 K) ∧ W.cell? ⟨bn, 0, none⟩ = some (.int .i64 N))
    (hY : ∀ i g W, i ≤ N → J i W → B0 ≤ g → W.ownsRow B0 24 4 (.slice (some ⟨g, 0, none⟩) (K + 1) (K + 1)) (K + 1) (rowCells (bin i) K) →
      YieldAt Fence.wide 2 Try.prog l #[.slice (some ⟨g, 0, none⟩) (K + 1) (K + 1)] W fun e W' => e = .returned (.bool true) ∧ J (i + 1) W' ∧ KeepA B0 W W')
    (W : World) (h0 : J 0 W) :
    Calls Try.prog 67 #[.func (.yield l) #[] #[], .pointer (some ⟨bk, 0, none⟩), .pointer (some ⟨bn, 0, none⟩)] W fun e W' => (∃ v, e = .returned v) ∧ J (N + 1) W' := by
  obtain ⟨i0, hi, hz0, hz1, hz2⟩ := info_parts Try.infoN
  obtain ⟨hB, hck, hcn⟩ := hJc 0 W h0
  have HJ := Lib.hid hJ
  have HC := Lib.hid hJc
  have HY := Lib.hid hY
  clear hJ hJc hY
  go_enter Try.func67, Try.ntmps67
  go_upto_region 1 with (first | (at_make; refine wpList_make_full _ rfl _ _ 27 rfl B0 24 i0 _ 4 Try.underlying27 hi hz0 hz1 _ _ _ _ (K + 1) rfl rfl (by simp) (by simp) (by rw [hz2]; omega) (by unfold maxLen; omega) hB ?_; intro w1 hown hgrow; rw [made_row] at hown; have q0 := own_at hown 0 0 (Nat.zero_le _) (by decide); have q1 := own_at hown 0 1 (Nat.zero_le _) (by decide); have q2 := own_at hown 0 2 (Nat.zero_le _) (by decide); have q3 := own_at hown 0 3 (Nat.zero_le _) (by decide); have f0 := hown.frozenAt 0; have f1 := hown.frozenAt 1; have f2 := hown.frozenAt 2; have f3 := hown.frozenAt 3; simp only [Nat.zero_mul, Nat.zero_add] at q0 q1 q2 q3))
  go_cut [4] (fun s4 wx => s4 = .slice (some ⟨W.heap.size, 0, none⟩) (K + 1) (K + 1) ∧ J 0 wx ∧ wx.ownsRow B0 24 4 (.slice (some ⟨W.heap.size, 0, none⟩) (K + 1) (K + 1)) (K + 1) (rowCells (bin 0) K))
  case first =>
    go_wp2
    go_meet
    refine ⟨rfl, HJ.out 0 W _ h0 (Below.setCell (Below.setCell (Below.setCell (Below.setCell ((Below.refl B0 W).grown hgrow hB (fun k e => by cases e)) hB _) hB _) hB _) hB _), ?_⟩
    have h := own_set4 hown 0 1 0 1 2 3 rfl rfl rfl rfl
    simp only [pt_one.1, pt_one.2.1, pt_one.2.2.1, pt_one.2.2.2] at h
    have e : (fun i => if i = 0 then 1 else 0) = bin 0 := by funext i; cases i <;> rfl
    rw [e] at h
    exact h
  case rest =>
    obtain ⟨rfl, hJ0, hown⟩ := hcut
    obtain ⟨g, hg⟩ : ∃ g, W.heap.size = g := ⟨_, rfl⟩
    rw [hg] at hown ⊢
    have hgB : B0 ≤ g := by omega
    clear hg hgrow q0 q1 q2 q3 f0 f1 f2 f3
    obtain ⟨-, hk0, hn0⟩ := HC.out 0 wc hJ0
    go_wp2
    go_loopw [13] (fun s13 wr => ∃ r : Nat, r ≤ N ∧ s13 = .int .i64 r ∧ J r wr ∧ wr.ownsRow B0 24 4 (.slice (some ⟨g, 0, none⟩) (K + 1) (K + 1)) (K + 1) (rowCells (bin r) K)) (fun s13 _ => N - (intOf s13).toNat)
    case atStart => exact ⟨0, Nat.zero_le _, rfl, hJ0, hown⟩
    case round =>
      obtain ⟨r, hr, rfl, hJr, hownr⟩ := hrel
      obtain ⟨fn, tmps, assign, body, hy, hR⟩ := HY.out r g wr hr hJr hgB hownr
      obtain ⟨-, hkr, hnr⟩ := HC.out r wr hJr
      by_cases hlt : r < N
      · go_upto_region 4 with fail
        refine (wpIn_wide (n := 3)).1 ?_
        gi_wp2
        refine hR.mono ?_
        rintro e W' ⟨rfl, hJ', hkA⟩
        have hown' := own_keepA hownr hkA
        obtain ⟨-, hk', hn'⟩ := HC.out (r + 1) W' hJ'
        clear hR hy hnr hkr hownr hkA
        gi_wp2
        go_wp2
        go_loopw [5] (fun s5 wr => ∃ i : Nat, i ≤ K ∧ s5 = .int .i64 i ∧ J (r + 1) wr ∧ wr.ownsRow B0 24 4 (.slice (some ⟨g, 0, none⟩) (K + 1) (K + 1)) (K + 1) (rowCells (mixed r i) K)) (fun s5 _ => (intOf s5).toNat)
        case atStart => exact ⟨K, Nat.le_refl _, rfl, hJ', by rw [mixed_top]; exact hown'⟩
        case round =>
          obtain ⟨i, hiK, rfl, hJi, howni⟩ := hrel
          by_cases hpos : 0 < i
          · obtain ⟨m, rfl⟩ : ∃ m, i = m + 1 := ⟨i - 1, by omega⟩
            have q0 := own_at howni (m + 1) 0 hiK (by decide)
            have q1 := own_at howni (m + 1) 1 hiK (by decide)
            have q2 := own_at howni (m + 1) 2 hiK (by decide)
            have q3 := own_at howni (m + 1) 3 hiK (by decide)
            have p0 := own_at howni m 0 (by omega) (by decide)
            have p1 := own_at howni m 1 (by omega) (by decide)
            have p2 := own_at howni m 2 (by omega) (by decide)
            have p3 := own_at howni m 3 (by omega) (by decide)
            obtain ⟨z, hz⟩ : ∃ z, (m + 1) * 4 = z := ⟨_, rfl⟩
            obtain ⟨y, hy⟩ : ∃ y, m * 4 = y := ⟨_, rfl⟩
            rw [hz, Nat.add_zero] at q0
            rw [hz] at q1 q2 q3
            rw [hy, Nat.add_zero] at p0
            rw [hy] at p1 p2 p3
            have x1 : IntKind.i64.wrap (m : Int) = m := IntWalk.i64_in _ (by omega)
            have x2 : ((m : Int) + 1).toNat = m + 1 := by omega
            have b1 : (0 : Int) ≤ (m : Int) + 1 := by omega
            have b2 : m < K := by omega
            have b3 : (m : Int) < (K : Int) + 1 := by omega
            have b4 : (m : Int) + 1 < (K : Int) + 1 := by omega
            have b5 : (0 : Int) ≤ (m : Int) := by omega
            have b6 : m + 1 < K + 1 := by omega
            have b7 : m < K + 1 := by omega
            go_wp2
            have hgl := own_lt howni
            have M1 := mixed_isN r (m + 1) (m + 1) (by omega)
            have M2 := mixed_isN r (m + 1) m (by omega)
            have MA := mixed_add r m (by omega)
            have iG : NeZero (inW g wr) := inW_mk (own_lt howni).2
            have f0 := howni.frozenAt z
            have f1 := howni.frozenAt (z + 1)
            have f2 := howni.frozenAt (z + 2)
            have f3 := howni.frozenAt (z + 3)
            go_region_with (first | (go_at_call 40; refine (plus_calls (mixed r (m + 1) (m + 1)) (mixed r (m + 1) m) M1 M2 _).mono ?_; rintro e w5 ⟨rfl, hbel⟩; rw [MA]; obtain ⟨o5, j5, rfl⟩ := grow_of_below hbel; clear hbel))
            all_goals
              go_wp2
              go_roundw
              case rel => exact ⟨m, by omega, rfl, HJ.out _ wr _ hJi (by repeat (first | (with_reducible exact Below.refl _ _) | ((with_reducible refine below_grow ?_ ?_); rotate_left; focus (first | omega | (simp [go_sem]; done) | (simp [go_sem]; omega))) | ((with_reducible refine Below.alloc ?_ ?_ _); rotate_left; focus (first | omega | (simp [go_sem]; done) | (simp [go_sem]; omega))) | ((with_reducible refine Below.setCell ?_ ?_ _); rotate_left; focus (first | omega | (simp [go_sem]; done) | (simp [go_sem]; omega))) | (with_reducible refine Below.drew ?_) | (with_reducible refine below_drewN _ ?_))), by rw [← mixed_step]; exact own_grow (own_set4 howni (m + 1) _ z (z + 1) (z + 2) (z + 3) (by omega) (by omega) (by omega) (by omega)) _ _⟩
              case measure => simp [intOf]
          · obtain rfl : i = 0 := by omega
            rw [mixed_zero] at howni
            go_wp2
            go_roundw
            case rel => exact ⟨r + 1, by omega, by go_num, hJi, howni⟩
            case measure => simp [intOf]; omega
      · obtain rfl : r = N := by omega
        clear hlt
        go_upto_region 10 with fail
        refine (wpIn_wide (n := 3)).1 ?_
        gi_wp2
        refine hR.mono ?_
        rintro e W' ⟨rfl, hJ', hkA⟩
        clear hR hy hnr hkr hownr hkA
        gi_wp2
        go_wp2
        go_end0
        exact ⟨⟨_, rfl⟩, hJ'⟩
end Go.Proofs.Ytjhocgeoangbdaa
