/- Choose. -/
import Derived.Test.YtjhocgeoangbdaaNQ
namespace Go.Proofs.Ytjhocgeoangbdaa
open Go.RowKit
attribute [local go_sem] Oper.semAt_some

set_option maxRecDepth 100000 in
set_option maxHeartbeats 4000000 in
theorem choose_bad (n k : Int) (hn0 : -9223372036854775808 ≤ n) (hn1 : n ≤ 9223372036854775807) (hk0 : -9223372036854775808 ≤ k) (hk1 : k ≤ 9223372036854775807) (h : n < 0 ∨ 128 < n ∨ k < 0 ∨ n < k) (w : World) :
    Calls Try.prog 24 #[.int .i64 n, .int .i64 k] w fun e w' => e = .returned (.tuple #[.agg #[.int .u32 (pt 0 0), .int .u32 (pt 0 1), .int .u32 (pt 0 2), .int .u32 (pt 0 3)], .int .i64 (if n < 0 then 2 else if 128 < n then 5 else 0)]) ∧ Below w.heap.size w w' := by
  simp only [pt_zero]
  by_cases h1 : n < 0
  · rw [if_pos h1]
    clear h
    go_enter Try.func24, Try.ntmps24
    go_wp2
    refine bodyPost_ret (by simp [results, Try.results24, go_sem]) rfl ⟨rfl, ?_⟩
    repeat (first | (with_reducible exact Below.refl _ _) | ((with_reducible refine below_grow ?_ ?_); rotate_left; focus (first | omega | (simp [go_sem]; done) | (simp [go_sem]; omega))) | ((with_reducible refine Below.alloc ?_ ?_ _); rotate_left; focus (first | omega | (simp [go_sem]; done) | (simp [go_sem]; omega))) | ((with_reducible refine Below.setCell ?_ ?_ _); rotate_left; focus (first | omega | (simp [go_sem]; done) | (simp [go_sem]; omega))) | (with_reducible refine Below.drew ?_) | (with_reducible refine below_drewN _ ?_))
  · rw [if_neg h1]
    by_cases h2 : 128 < n
    · rw [if_pos h2]
      clear h
      go_enter Try.func24, Try.ntmps24
      go_wp2
      refine bodyPost_ret (by simp [results, Try.results24, go_sem]) rfl ⟨rfl, ?_⟩
      repeat (first | (with_reducible exact Below.refl _ _) | ((with_reducible refine below_grow ?_ ?_); rotate_left; focus (first | omega | (simp [go_sem]; done) | (simp [go_sem]; omega))) | ((with_reducible refine Below.alloc ?_ ?_ _); rotate_left; focus (first | omega | (simp [go_sem]; done) | (simp [go_sem]; omega))) | ((with_reducible refine Below.setCell ?_ ?_ _); rotate_left; focus (first | omega | (simp [go_sem]; done) | (simp [go_sem]; omega))) | (with_reducible refine Below.drew ?_) | (with_reducible refine below_drewN _ ?_))
    · rw [if_neg h2]
      by_cases h3 : k < 0
      · clear h
        go_enter Try.func24, Try.ntmps24
        go_wp2
        refine bodyPost_ret (by simp [results, Try.results24, go_sem]) rfl ⟨rfl, ?_⟩
        repeat (first | (with_reducible exact Below.refl _ _) | ((with_reducible refine below_grow ?_ ?_); rotate_left; focus (first | omega | (simp [go_sem]; done) | (simp [go_sem]; omega))) | ((with_reducible refine Below.alloc ?_ ?_ _); rotate_left; focus (first | omega | (simp [go_sem]; done) | (simp [go_sem]; omega))) | ((with_reducible refine Below.setCell ?_ ?_ _); rotate_left; focus (first | omega | (simp [go_sem]; done) | (simp [go_sem]; omega))) | (with_reducible refine Below.drew ?_) | (with_reducible refine below_drewN _ ?_))
      · have h4 : n < k := by omega
        have h5 : 0 ≤ k := by omega
        clear h h3
        go_enter Try.func24, Try.ntmps24
        go_wp2
        refine bodyPost_ret (by simp [results, Try.results24, go_sem]) rfl ⟨rfl, ?_⟩
        repeat (first | (with_reducible exact Below.refl _ _) | ((with_reducible refine below_grow ?_ ?_); rotate_left; focus (first | omega | (simp [go_sem]; done) | (simp [go_sem]; omega))) | ((with_reducible refine Below.alloc ?_ ?_ _); rotate_left; focus (first | omega | (simp [go_sem]; done) | (simp [go_sem]; omega))) | ((with_reducible refine Below.setCell ?_ ?_ _); rotate_left; focus (first | omega | (simp [go_sem]; done) | (simp [go_sem]; omega))) | (with_reducible refine Below.drew ?_) | (with_reducible refine below_drewN _ ?_))
theorem blk_at (w : World) (cs : Array Value) (t : TypeId) {b : Nat} (h : b = w.heap.size) : blk (w.alloc (.cells cs t)) b cs t := by subst h; exact blk_new w cs t
/-- Behind i rounds: choices holds the last row's number. -/
def chI (w _W : World) (n K i : Nat) (X : World) : Prop := ∃ v : Nat, blk X w.heap.size #[.int .i64 K] 3 ∧ blk X (w.heap.size + 1) #[.int .u32 0, .int .u32 0, .int .u32 0, .int .u32 0] 24 ∧
  blk X (w.heap.size + 1 + 1) #[.int .u32 (pt v 0), .int .u32 (pt v 1), .int .u32 (pt v 2), .int .u32 (pt v 3)] 24 ∧ blk X (w.heap.size + 1 + 1 + 1) #[.int .i64 n] 3 ∧ blk X (w.heap.size + 1 + 1 + 1 + 1) #[.int .i64 K] 3 ∧
  Below w.heap.size w X ∧ (1 ≤ i → v = bin (i - 1) K)
theorem blk_below {w w' : World} {b B : Nat} {cs : Array Value} {t : TypeId} (h : blk w b cs t) (hb : Below B w w') (hlt : b < B) : blk w' b cs t := (hb.block b hlt).trans h
theorem chI_below (w W : World) (n K : Nat) (hs : W.heap.size = w.heap.size + 5) (i : Nat) (X Y : World) (h : chI w W n K i X) (hb : Below W.heap.size X Y) : chI w W n K i Y := by
  obtain ⟨v, c0, c1, c2, c3, c4, cb, cv⟩ := h
  exact ⟨v, blk_below c0 hb (by omega), blk_below c1 hb (by omega), blk_below c2 hb (by omega), blk_below c3 hb (by omega), blk_below c4 hb (by omega), cb.trans (hb.mono (by omega)), cv⟩
/-- The iterator's row i lies in cells of its own. -/
def chRel (W : World) (K i : Nat) (x : Value) (X : World) : Prop := ∃ g, x = .slice (some ⟨g, 0, none⟩) (K + 1) (K + 1) ∧ W.heap.size + 2 ≤ g ∧ X.ownsRow (W.heap.size + 2) 24 4 (.slice (some ⟨g, 0, none⟩) (K + 1) (K + 1)) (K + 1) (rowCells (bin i) K)
theorem chRel_keeps (W : World) (K i : Nat) (x : Value) (X Y : World) (h : chRel W K i x X) (hk : KeepA (W.heap.size + 2) X Y) : chRel W K i x Y := by
  obtain ⟨g, rfl, hg, hown⟩ := h
  exact ⟨g, rfl, hg, own_keepA hown hk⟩
theorem keepA_set {w : World} {B b : Nat} (i : Nat) (v : Value) (h : b < B) : KeepA B w (w.setCell ⟨b, i, none⟩ v) := fun k hk _ => Below.heap_setCell _ _ _ _ (show k ≠ b by omega)
theorem blk_other4 {w : World} {b c : Nat} {cs : Array Value} {t : TypeId} {x0 x1 x2 x3 : Value} (h : blk w b cs t) (hne : b ≠ c) :
    blk ((((w.setCell ⟨c, 0, none⟩ x0).setCell ⟨c, 1, none⟩ x1).setCell ⟨c, 2, none⟩ x2).setCell ⟨c, 3, none⟩ x3) b cs t := by
  unfold blk at *
  rw [Below.heap_setCell _ _ _ _ hne, Below.heap_setCell _ _ _ _ hne, Below.heap_setCell _ _ _ _ hne, Below.heap_setCell _ _ _ _ hne]
  exact h
theorem kernelMin (a b : Nat) : (if (a : Int) ≤ b then (a : Int) else b) = ((min a b : Nat) : Int) := by
  split <;> omega
set_option maxRecDepth 100000 in
set_option maxHeartbeats 4000000 in
theorem choose_good (n k : Nat) (hn : n ≤ 128) (hk : k ≤ n) (w : World) :
    Calls Try.prog 24 #[.int .i64 n, .int .i64 k] w fun e w' => e = .returned (.tuple #[.agg #[.int .u32 (pt (bin n (min k (n - k))) 0), .int .u32 (pt (bin n (min k (n - k))) 1), .int .u32 (pt (bin n (min k (n - k))) 2), .int .u32 (pt (bin n (min k (n - k))) 3)], .int .i64 0]) ∧ Below w.heap.size w w' := by
  obtain ⟨K, hK⟩ : ∃ K, min k (n - k) = K := ⟨_, rfl⟩
  have hK64 : K ≤ 64 := by omega
  rw [hK]
  refine (callsIn_wide (n := 3)).1 ?_
  refine callsIn_of_wp_marks Try.func24 rfl trivial ?_ rfl
  refine wpIn_wide.2 ?_
  simp only [Try.ntmps24, List.size_toArray, List.length_cons, List.length_nil, Nat.reduceAdd, Nat.reduceSub, Array.replicate_succ, Array.replicate_zero, List.push_toArray, List.append_toArray, List.nil_append, List.cons_append]
  go_wp2_with (first | (go_at_call 46; refine (rows_calls _ _ _).mono ?_; rintro e w1 ⟨rfl, rfl⟩))
  rw [show min (k : Int) ((n : Int) - k) = (K : Int) from by omega]
  have z0 : blk (((((w.alloc (.cells #[.int .i64 K] 3)).alloc (.cells #[.int .u32 0, .int .u32 0, .int .u32 0, .int .u32 0] 24)).alloc (.cells #[.int .u32 0, .int .u32 0, .int .u32 0, .int .u32 0] 24)).alloc (.cells #[.int .i64 n] 3)).alloc (.cells #[.int .i64 K] 3)) w.heap.size #[.int .i64 K] 3 := blk_alloc (blk_alloc (blk_alloc (blk_alloc (blk_new _ _ _) _) _) _) _
  have z1 : blk (((((w.alloc (.cells #[.int .i64 K] 3)).alloc (.cells #[.int .u32 0, .int .u32 0, .int .u32 0, .int .u32 0] 24)).alloc (.cells #[.int .u32 0, .int .u32 0, .int .u32 0, .int .u32 0] 24)).alloc (.cells #[.int .i64 n] 3)).alloc (.cells #[.int .i64 K] 3)) (w.heap.size + 1) #[.int .u32 0, .int .u32 0, .int .u32 0, .int .u32 0] 24 := blk_alloc (blk_alloc (blk_alloc (blk_at _ _ _ (by simp)) _) _) _
  have z2 : blk (((((w.alloc (.cells #[.int .i64 K] 3)).alloc (.cells #[.int .u32 0, .int .u32 0, .int .u32 0, .int .u32 0] 24)).alloc (.cells #[.int .u32 0, .int .u32 0, .int .u32 0, .int .u32 0] 24)).alloc (.cells #[.int .i64 n] 3)).alloc (.cells #[.int .i64 K] 3)) (w.heap.size + 1 + 1) #[.int .u32 0, .int .u32 0, .int .u32 0, .int .u32 0] 24 := blk_alloc (blk_alloc (blk_at _ _ _ (by simp)) _) _
  have z3 : blk (((((w.alloc (.cells #[.int .i64 K] 3)).alloc (.cells #[.int .u32 0, .int .u32 0, .int .u32 0, .int .u32 0] 24)).alloc (.cells #[.int .u32 0, .int .u32 0, .int .u32 0, .int .u32 0] 24)).alloc (.cells #[.int .i64 n] 3)).alloc (.cells #[.int .i64 K] 3)) (w.heap.size + 1 + 1 + 1) #[.int .i64 n] 3 := blk_alloc (blk_at _ _ _ (by simp)) _
  have z4 : blk (((((w.alloc (.cells #[.int .i64 K] 3)).alloc (.cells #[.int .u32 0, .int .u32 0, .int .u32 0, .int .u32 0] 24)).alloc (.cells #[.int .u32 0, .int .u32 0, .int .u32 0, .int .u32 0] 24)).alloc (.cells #[.int .i64 n] 3)).alloc (.cells #[.int .i64 K] 3)) (w.heap.size + 1 + 1 + 1 + 1) #[.int .i64 K] 3 := blk_at _ _ _ (by simp)
  have zb : Below w.heap.size w (((((w.alloc (.cells #[.int .i64 K] 3)).alloc (.cells #[.int .u32 0, .int .u32 0, .int .u32 0, .int .u32 0] 24)).alloc (.cells #[.int .u32 0, .int .u32 0, .int .u32 0, .int .u32 0] 24)).alloc (.cells #[.int .i64 n] 3)).alloc (.cells #[.int .i64 K] 3)) := by repeat (first | (with_reducible exact Below.refl _ _) | ((with_reducible refine below_grow ?_ ?_); rotate_left; focus (first | omega | (simp [go_sem]; done) | (simp [go_sem]; omega))) | ((with_reducible refine Below.alloc ?_ ?_ _); rotate_left; focus (first | omega | (simp [go_sem]; done) | (simp [go_sem]; omega))) | ((with_reducible refine Below.setCell ?_ ?_ _); rotate_left; focus (first | omega | (simp [go_sem]; done) | (simp [go_sem]; omega))) | (with_reducible refine Below.drew ?_) | (with_reducible refine below_drewN _ ?_))
  have zs : (((((w.alloc (.cells #[.int .i64 K] 3)).alloc (.cells #[.int .u32 0, .int .u32 0, .int .u32 0, .int .u32 0] 24)).alloc (.cells #[.int .u32 0, .int .u32 0, .int .u32 0, .int .u32 0] 24)).alloc (.cells #[.int .i64 n] 3)).alloc (.cells #[.int .i64 K] 3)).heap.size = w.heap.size + 5 := by simp
  generalize (((((w.alloc (.cells #[.int .i64 K] 3)).alloc (.cells #[.int .u32 0, .int .u32 0, .int .u32 0, .int .u32 0] 24)).alloc (.cells #[.int .u32 0, .int .u32 0, .int .u32 0, .int .u32 0] 24)).alloc (.cells #[.int .i64 n] 3)).alloc (.cells #[.int .i64 K] 3)) = W at *
  refine range_idx (gf := 67) (lb := #[.pointer (some ⟨w.heap.size + 1 + 1 + 1 + 1, 0, none⟩), .pointer (some ⟨w.heap.size + 1 + 1 + 1, 0, none⟩)]) rfl (enters_of Try.func67 (by kernel_rfl) rfl) rfl
    (chI w W n K) (chI_below w W n K zs) (chRel W K) (chRel_keeps W K) n ⟨0, z0, z1, by simp only [pt_zero]; exact z2, z3, z4, zb, fun h => absurd h (by omega)⟩ ?seq 7 ?assign ?body ?done
  case seq =>
    intro l J X hl hJ hJI hY h0
    refine rows1_calls l (w.heap.size + 1 + 1 + 1 + 1) (w.heap.size + 1 + 1 + 1) (W.heap.size + 2) K n hK64 hn J hJ ?_ ?_ X h0
    · intro i Y hi
      obtain ⟨⟨v, c0, c1, c2, c3, c4, cb, cv⟩, hs⟩ := hJI i Y hi
      exact ⟨hs, by rw [blk_cell c4]; rfl, by rw [blk_cell c3]; rfl⟩
    · intro i g Y hi hJi hg hown
      exact hY i _ Y hi hJi ⟨g, rfl, hg, hown⟩
  case assign =>
    intro l i x X KK hr hK'
    simp only [List.setIfInBounds_toArray, List.set_cons_zero, List.set_cons_succ] at hK' ⊢
    gi_wp2
    exact hK'
  case body =>
    rintro l i x X hi ⟨v, c0, c1, c2, c3, c4, cb, cv⟩ ⟨g, rfl, hg, hown⟩
    simp only [List.setIfInBounds_toArray, List.set_cons_zero, List.set_cons_succ]
    have k0 := blk_cell c0 0
    simp only [List.getElem?_toArray, List.getElem?_cons_zero] at k0
    have d0 := blk_cell c2 0
    have d1 := blk_cell c2 1
    have d2 := blk_cell c2 2
    have d3 := blk_cell c2 3
    simp only [List.getElem?_toArray, List.getElem?_cons_zero, List.getElem?_cons_succ] at d0 d1 d2 d3
    have f0 := blk_free c2 0
    have f1 := blk_free c2 1
    have f2 := blk_free c2 2
    have f3 := blk_free c2 3
    have q0 := own_at hown K 0 (Nat.le_refl _) (by decide)
    have q1 := own_at hown K 1 (Nat.le_refl _) (by decide)
    have q2 := own_at hown K 2 (Nat.le_refl _) (by decide)
    have q3 := own_at hown K 3 (Nat.le_refl _) (by decide)
    obtain ⟨z, hz⟩ : ∃ z, K * 4 = z := ⟨_, rfl⟩
    rw [hz, Nat.add_zero] at q0
    rw [hz] at q1 q2 q3
    gi_wp2
    refine ⟨(((KeepsOthers.setCell _ _ _).trans (KeepsOthers.setCell _ _ _)).trans (KeepsOthers.setCell _ _ _)).trans (KeepsOthers.setCell _ _ _), ?_, ?_⟩
    · exact keepA_trans (keepA_trans (keepA_trans (keepA_set _ _ (by omega)) (by simp [World.size_setCell]) (keepA_set _ _ (by omega))) (by simp [World.size_setCell]) (keepA_set _ _ (by omega))) (by simp [World.size_setCell]) (keepA_set _ _ (by omega))
    · exact ⟨bin i K, blk_other4 c0 (by omega), blk_other4 c1 (by omega), set4 c2 _ _ _ _, blk_other4 c3 (by omega), blk_other4 c4 (by omega), by repeat (first | (with_reducible exact cb) | ((with_reducible refine below_grow ?_ ?_); rotate_left; focus (first | omega | (simp [go_sem]; done) | (simp [go_sem]; omega))) | ((with_reducible refine Below.alloc ?_ ?_ _); rotate_left; focus (first | omega | (simp [go_sem]; done) | (simp [go_sem]; omega))) | ((with_reducible refine Below.setCell ?_ ?_ _); rotate_left; focus (first | omega | (simp [go_sem]; done) | (simp [go_sem]; omega))) | (with_reducible refine Below.drew ?_) | (with_reducible refine below_drewN _ ?_)), fun _ => rfl⟩
  case done =>
    rintro D X ⟨v, c0, c1, c2, c3, c4, cb, cv⟩ hD hX
    obtain rfl := cv (by omega)
    simp only [Nat.add_sub_cancel] at c2
    have d0 := blk_cell c2 0
    have d1 := blk_cell c2 1
    have d2 := blk_cell c2 2
    have d3 := blk_cell c2 3
    have e0 := blk_cell c1 0
    have e1 := blk_cell c1 1
    have e2 := blk_cell c1 2
    have e3 := blk_cell c1 3
    simp only [List.getElem?_toArray, List.getElem?_cons_zero, List.getElem?_cons_succ] at d0 d1 d2 d3 e0 e1 e2 e3
    have f0 := blk_free c1 0
    have f1 := blk_free c1 1
    have f2 := blk_free c1 2
    have f3 := blk_free c1 3
    go_wp2
    have hX' : ((((X.setCell ⟨w.heap.size + 1, 0, none⟩ (.int .u32 (pt (bin n K) 0))).setCell ⟨w.heap.size + 1, 1, none⟩ (.int .u32 (pt (bin n K) 1))).setCell ⟨w.heap.size + 1, 2, none⟩ (.int .u32 (pt (bin n K) 2))).setCell ⟨w.heap.size + 1, 3, none⟩ (.int .u32 (pt (bin n K) 3))).heap[D]? = some (.deferred (some [])) :=
      ((((KeepsOthers.setCell _ _ _).trans (KeepsOthers.setCell _ _ _)).trans (KeepsOthers.setCell _ _ _)).trans (KeepsOthers.setCell _ _ _)).same D _ hX rfl
    have hc := set4 c1 (.int .u32 (pt (bin n K) 0)) (.int .u32 (pt (bin n K) 1)) (.int .u32 (pt (bin n K) 2)) (.int .u32 (pt (bin n K) 3))
    have hb' : Below w.heap.size w ((((X.setCell ⟨w.heap.size + 1, 0, none⟩ (.int .u32 (pt (bin n K) 0))).setCell ⟨w.heap.size + 1, 1, none⟩ (.int .u32 (pt (bin n K) 1))).setCell ⟨w.heap.size + 1, 2, none⟩ (.int .u32 (pt (bin n K) 2))).setCell ⟨w.heap.size + 1, 3, none⟩ (.int .u32 (pt (bin n K) 3))) := by repeat (first | (with_reducible exact cb) | ((with_reducible refine below_grow ?_ ?_); rotate_left; focus (first | omega | (simp [go_sem]; done) | (simp [go_sem]; omega))) | ((with_reducible refine Below.alloc ?_ ?_ _); rotate_left; focus (first | omega | (simp [go_sem]; done) | (simp [go_sem]; omega))) | ((with_reducible refine Below.setCell ?_ ?_ _); rotate_left; focus (first | omega | (simp [go_sem]; done) | (simp [go_sem]; omega))) | (with_reducible refine Below.drew ?_) | (with_reducible refine below_drewN _ ?_))
    generalize ((((X.setCell ⟨w.heap.size + 1, 0, none⟩ (.int .u32 (pt (bin n K) 0))).setCell ⟨w.heap.size + 1, 1, none⟩ (.int .u32 (pt (bin n K) 1))).setCell ⟨w.heap.size + 1, 2, none⟩ (.int .u32 (pt (bin n K) 2))).setCell ⟨w.heap.size + 1, 3, none⟩ (.int .u32 (pt (bin n K) 3))) = Y at *
    have hc' : blk (Y.putObj D (.deferred none)) (w.heap.size + 1) _ _ := (World.putObj_heap_other (show w.heap.size + 1 ≠ D by omega)).trans hc
    have hbY : Below w.heap.size w (Y.putObj D (.deferred none)) := hb'.trans (below_putObj _ _ _ _ (by omega))
    refine ⟨by simp, .inl ⟨_, _, rfl, run_takeDeferred hX', ?_⟩⟩
    generalize Y.putObj D (.deferred none) = Z at *
    have d0 := blk_cell hc' 0
    have d1 := blk_cell hc' 1
    have d2 := blk_cell hc' 2
    have d3 := blk_cell hc' 3
    simp only [List.getElem?_toArray, List.getElem?_cons_zero, List.getElem?_cons_succ] at d0 d1 d2 d3
    refine ⟨_, ?_, rfl, hbY⟩
    simp [results, Try.results24, go_sem, *]
end Go.Proofs.Ytjhocgeoangbdaa
