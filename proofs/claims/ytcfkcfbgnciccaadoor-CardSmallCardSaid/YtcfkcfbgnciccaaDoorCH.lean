/- slices.Collect over the cards; List. -/
import Derived.Test.YtcfkcfbgnciccaaDoorCG
import Derived.RangeFuncBox
namespace Go.Proofs.YtcfkcfbgnciccaaDoor
open Go.RowKit
attribute [local go_sem] Oper.semAt_some

abbrev u8v (c : Nat) : Value := .int .u8 c
theorem Tryd.infoU : (Tryd.prog.info? 5).map (fun i => (i.zero, i.size, i.bytes)) = some (some (.int .u8 0), 1, 1) := by kernel_rfl
/-- Between two rounds: the box holds a slice that owns what has come. -/
def accI (w : World) (m : Nat) (i : Nat) (W : World) : Prop := ∃ v, blk W w.heap.size #[v] 25 ∧ W.ownsRow (w.heap.size + 1) 5 1 v i (((cds m).take i).map u8v) ∧ Below w.heap.size w W
theorem own_base {w : World} {B C : Nat} {e : TypeId} {z : Nat} {v : Value} {n : Nat} {cs : List Value} (h : w.ownsRow (B + C) e z v n cs) : w.ownsRow B e z v n cs := by
  refine ⟨h.1, ?_⟩
  rcases h.2 with h1 | ⟨g, cap, cur, h1, h2, h3⟩
  · exact .inl h1
  · exact .inr ⟨g, cap, cur, h1, by omega, h3⟩
theorem news1 (W : World) (t : TypeId) (x y : Value) {n : Nat} (hn : n = W.heap.size) (hxy : y = x) : ∀ (j : Nat) (u : Value), [y][j]? = some u → (W.alloc (.cells #[x] t)).cell? ((⟨n, 0, none⟩ : Addr).add j) = some u := by
  intro j u hj
  match j, hj with
  | 0, hj =>
    simp only [List.getElem?_cons_zero, Option.some.injEq] at hj
    subst hj hxy
    have : (⟨n, 0, none⟩ : Addr).add 0 = ⟨n, 0, none⟩ := rfl
    rw [this, World.cell?_alloc_at _ _ _ 0 hn]
    rfl
theorem own_block_ge {w : World} {B k : Nat} {e : TypeId} {z : Nat} {v : Value} {n : Nat} {cs : List Value} (h : w.ownsRow B e z v n cs) (hk : v.ownBlock = some k) : B ≤ k := by
  rcases h.2 with h1 | ⟨g, cap, cur, h1, h2, _⟩
  · rw [h1.1] at hk; cases hk
  · rw [h1] at hk
    have : g = k := by simpa [Value.ownBlock] using hk
    omega
theorem own_cells {w : World} {B : Nat} {e : TypeId} {z : Nat} {v : Value} {n : Nat} {cs : List Value} (h : w.ownsRow B e z v n cs) (j : Nat) (o : Obj) (hj : v.ownBlock = some j) (ho : w.heap[j]? = some o) : o.isCells = true := by
  rcases h.2 with h1 | ⟨g, cap, cur, h1, h2, h3, _⟩
  · rw [h1.1] at hj; cases hj
  · rw [h1] at hj
    have : g = j := by simpa [Value.ownBlock] using hj
    subst this
    rw [h3] at ho
    cases ho
    rfl
theorem not_row {w : World} {B k : Nat} {e : TypeId} {z : Nat} {v : Value} {n : Nat} {cs : List Value} (h : w.ownsRow B e z v n cs) (hk : k < B) : some k ≠ v.ownBlock := fun he => by
  have := own_block_ge h he.symm
  omega
theorem own_other {w : World} {B k i : Nat} {e : TypeId} {z : Nat} {v : Value} {n : Nat} {cs : List Value} (h : w.ownsRow B e z v n cs) (hk : k < B) (x : Value) : (w.setCell ⟨k, i, none⟩ x).ownsRow B e z v n cs := by
  refine ⟨h.1, ?_⟩
  rcases h.2 with h1 | ⟨g, cap, cur, h1, h2, h3, h4⟩
  · exact .inl h1
  · exact .inr ⟨g, cap, cur, h1, h2, (Below.heap_setCell _ _ _ _ (show g ≠ k by omega)).trans h3, h4⟩
theorem own_slice {w : World} {B : Nat} {e : TypeId} {n : Nat} {v : Value} {cs : List Value} (h : w.ownsRow B e 1 v n cs) : ∃ A cap, v = .slice A n cap ∧ (n = 0 ∨ ∃ g, A = some ⟨g, 0, none⟩) := by
  rcases h.2 with ⟨h1, h2⟩ | ⟨g, cap, cur, h1, _⟩
  · subst h2
    exact ⟨none, 0, h1, .inl rfl⟩
  · exact ⟨_, cap, h1, .inr ⟨g, rfl⟩⟩
set_option maxRecDepth 100000 in
set_option maxHeartbeats 4000000 in
theorem appendSeq_calls (bk m : Nat) (hm : m < 4503599627370496) (w : World) (hc : w.cell? ⟨bk, 0, none⟩ = some (.int .u64 m)) :
    Calls Tryd.prog 61 #[.slice none 0 0, .func (.func 55) #[] #[.pointer (some ⟨bk, 0, none⟩)]] w fun e w' => ∃ v, e = .returned v ∧ w'.ownsRow w.heap.size 5 1 v (cds m).length ((cds m).map u8v) ∧ Below w.heap.size w w' := by
  have hbk := World.block_lt_of_cell? w _ hc
  obtain ⟨i0, hi, hz0, hz1, hz2⟩ := info_parts Tryd.infoU
  refine (callsIn_wide (n := 3)).1 ?_
  refine callsIn_of_wp_marks Tryd.func61 rfl trivial ?_ rfl
  refine wpIn_wide.2 ?_
  simp only [Tryd.ntmps61, List.size_toArray, List.length_cons, List.length_nil, Nat.reduceAdd, Nat.reduceSub, Array.replicate_succ, Array.replicate_zero, List.push_toArray, List.append_toArray, List.nil_append, List.cons_append]
  go_wp2
  have z0 : blk (w.alloc (.cells #[.slice none 0 0] 25)) w.heap.size #[.slice none 0 0] 25 := blk_new _ _ _
  have zb : Below w.heap.size w (w.alloc (.cells #[.slice none 0 0] 25)) := by repeat (first | (with_reducible exact Below.refl _ _) | ((with_reducible refine below_grow ?_ ?_); rotate_left; focus (first | omega | (simp [go_sem]; done) | (simp [go_sem]; omega))) | ((with_reducible refine Below.alloc ?_ ?_ _); rotate_left; focus (first | omega | (simp [go_sem]; done) | (simp [go_sem]; omega))) | ((with_reducible refine Below.setCell ?_ ?_ _); rotate_left; focus (first | omega | (simp [go_sem]; done) | (simp [go_sem]; omega))) | (with_reducible refine Below.drew ?_) | (with_reducible refine below_drewN _ ?_))
  have zs : (w.alloc (.cells #[.slice none 0 0] 25)).heap.size = w.heap.size + 1 := by simp
  generalize (w.alloc (.cells #[.slice none 0 0] 25)) = W at *
  refine range_seq (gf := 55) (lb := #[.pointer (some ⟨bk, 0, none⟩)]) rfl (enters_of Tryd.func55 (by kernel_rfl) rfl) rfl
    ((cds m).map u8v) (accI w m) ?hI ⟨_, z0, World.ownsRow_nil _ _ _ _, zb⟩ ?seq 5 ?assign ?body ?done
  case hI =>
    rintro i X Y ⟨v, h1, h2, h3⟩ hb hk
    exact ⟨v, blk_keep h1 hk, own_keep h2 hk, h3.trans (hb.mono (by omega))⟩
  case seq =>
    intro l J X hJI hY h0
    rw [List.length_map]
    refine cards1_calls l bk m hm J ?_ X ?_ h0
    · intro i v Y hv hJi
      exact hY i _ Y (by rw [List.getElem?_map, hv]; rfl) hJi
    · obtain ⟨⟨v, c0, c1, cb⟩, hs⟩ := hJI 0 X h0
      exact (cb.cell (p := ⟨bk, 0, none⟩) hbk).trans hc
  case assign =>
    intro l x X KK hK'
    simp only [List.setIfInBounds_toArray, List.set_cons_zero, List.set_cons_succ] at hK' ⊢
    gi_wp2
    exact hK'
  case body =>
    rintro l i x X hx ⟨v, hv, hrow, hb⟩ hsz
    rw [List.getElem?_map] at hx
    obtain ⟨c, hc1, rfl⟩ := Option.map_eq_some_iff.1 hx
    simp only [List.setIfInBounds_toArray, List.set_cons_zero, List.set_cons_succ]
    have k0 := blk_cell hv 0
    simp only [List.getElem?_toArray, List.getElem?_cons_zero] at k0
    have f0 := blk_free hv 0
    have hlen := cds_length_le m
    have hil := (List.getElem?_eq_some_iff.1 hc1).1
    obtain ⟨A, cap, rfl, hA⟩ := own_slice hrow
    gi_wp2_with (gi_at_builtin; refine wpListIn_append_own _ rfl _ _ 25 rfl (w.heap.size + 1) 5 i0 (.int .u8 0) 1 1 Tryd.underlying25 hi hz0 hz1 hz2 rfl (by decide) _ _ _ rfl (hrow.alloc _) ⟨X.heap.size, 0, none⟩ 1 1 [u8v c] rfl rfl (news1 _ _ _ _ rfl rfl) (fun u hu => by simp only [List.mem_singleton] at hu; subst hu; rfl) (by unfold maxLen; omega) (by omega) (by simp; omega) ?_; intro v' w1 hown' hgrow _; obtain ⟨g', cap', rfl⟩ := ownsRow_succ hown'; have hv1 := blk_grown (blk_alloc hv _) hgrow (not_row hrow (by omega)); have f1 := blk_free hv1 0; have k1 := (blk_cell hv1 0).trans (show _ = some (Value.slice A i cap) from rfl))
    have hrow2 : (w1.setCell ⟨w.heap.size, 0, none⟩ (.slice (some ⟨g', 0, none⟩) (i + 1) cap')).ownsRow (w.heap.size + 1) 5 1 (.slice (some ⟨g', 0, none⟩) (i + 1) cap') (i + 1) (((cds m).take (i + 1)).map u8v) := by
      rw [List.take_add_one, hc1, List.map_append]
      exact own_other hown' (by omega) _
    have hB2 : Below w.heap.size w w1 := Below.grown (by repeat (first | (with_reducible exact hb) | ((with_reducible refine below_grow ?_ ?_); rotate_left; focus (first | omega | (simp [go_sem]; done) | (simp [go_sem]; omega))) | ((with_reducible refine Below.alloc ?_ ?_ _); rotate_left; focus (first | omega | (simp [go_sem]; done) | (simp [go_sem]; omega))) | ((with_reducible refine Below.setCell ?_ ?_ _); rotate_left; focus (first | omega | (simp [go_sem]; done) | (simp [go_sem]; omega))) | (with_reducible refine Below.drew ?_) | (with_reducible refine below_drewN _ ?_))) hgrow (by simp; omega) (fun k e => by have := own_block_ge hrow e; omega)
    refine ⟨?_, _, blk_set hv1 0 _, hrow2, hB2.setCell (p := ⟨w.heap.size, 0, none⟩) (Nat.le_refl _) _⟩
    exact ((KeepsOthers.alloc _ _).trans (KeepsOthers.of_grownBy hgrow (own_cells (hrow.alloc _)))).trans (KeepsOthers.setCell _ _ _)
  case done =>
    rintro D X ⟨v, hv, hrow, hb⟩ hD hX
    rw [List.length_map, List.take_of_length_le (Nat.le_refl _)] at hrow
    have k0 := blk_cell hv 0
    simp only [List.getElem?_toArray, List.getElem?_cons_zero] at k0
    go_wp2
    have hbY : Below w.heap.size w (X.putObj D (.deferred none)) := hb.trans (below_putObj _ _ _ _ (by omega))
    refine ⟨by simp, .inl ⟨_, _, rfl, run_takeDeferred hX, ?_⟩⟩
    refine ⟨_, ?_, v, rfl, own_base (ownsRow_putObj hrow _ hX rfl), hbY⟩
    simp [results, Tryd.results61, go_sem, *]
end Go.Proofs.YtcfkcfbgnciccaaDoor
