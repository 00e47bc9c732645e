/- TextAll. -/
import Derived.Test.YtblmdnmnodogiaaDoorKE
namespace Go.Proofs.YtblmdnmnodogiaaDoor
open Go.RowKit
attribute [local go_sem] Oper.semAt_some

theorem join_own {W : World} {B n : Nat} {v : Value} {ss : List (List UInt8)} (h : W.ownsRow B 9 1 v n (ss.map strv)) (hN : ss.length ≤ 1000) (hlen : (jn ss).length ≤ 140737488355328) :
    Calls Tryd.prog 45 #[v, .string ⟨#[32]⟩] W fun e w' => e = .returned (strv (jn ss)) ∧ Below W.heap.size W w' := by
  have hn : ss.length = n := by have := h.1; rw [List.length_map] at this; omega
  have hj : Lib.join ((ss.map fun s => (⟨s.toArray⟩ : ByteArray)).map (·.data.toList)) (ByteArray.mk #[32]).data.toList = jn ss := by
    rw [List.map_map, ← join_jn]
    congr 1
    exact (List.map_congr_left (g := id) fun s _ => rfl).trans (List.map_id ss)
  rcases h.2 with ⟨rfl, h0⟩ | ⟨g, cap, cur, rfl, hbg, hg, h1, h2, h3, h4⟩
  · have h00 : ss = [] := List.length_eq_zero_iff.1 (by omega)
    subst h00
    exact (Tryd.strings_Join_none none 0 ⟨#[32]⟩ W).mono fun e w' ⟨a, b⟩ => ⟨a, b ▸ Below.refl _ _⟩
  · have J := Tryd.strings_Join g 0 cap (ss.map fun s => (⟨s.toArray⟩ : ByteArray)) ⟨#[32]⟩ W (fun j x hx => by
      rw [List.getElem?_map] at hx
      obtain ⟨s, hs, rfl⟩ := Option.map_eq_some_iff.1 hx
      have hc := h.cells (g := g) rfl j (strv s) (by rw [List.getElem?_map, hs]; rfl)
      rw [show (⟨g, 0 + j, none⟩ : Addr) = (⟨g, 0, none⟩ : Addr).add j by unfold Addr.add; split <;> simp_all]
      exact hc) (lt_of_block hg) (by rw [List.length_map]; omega) (by rw [List.length_map]; omega) (by rw [hj]; exact hlen)
    rw [hj, List.length_map, hn] at J
    exact J
def okA (xs : List Nat) : Bool := xs.all fun c => decide (c < 38)
theorem okA_iff {xs : List Nat} : okA xs = true ↔ ∀ c ∈ xs, c < 38 := by simp [okA]
theorem Tryd.infoS : (Tryd.prog.info? 9).map (fun i => (i.zero, i.size, i.bytes)) = some (some (.string ByteArray.empty), 1, 16) := by kernel_rfl
/-- Between two rounds of TextAll. -/
def taI (w : World) (u : Value) (xs : List Nat) (i : Nat) (W : World) : Prop := blk W (w.heap.size + 3) #[u] 24 ∧ blk W w.heap.size #[strv []] 9 ∧ blk W (w.heap.size + 1) #[.int .i64 0] 29 ∧ (∃ v, blk W (w.heap.size + 2) #[v] 26 ∧ W.ownsRow (w.heap.size + 4) 9 1 v i (((xs.take i).map nm).map strv)) ∧ Below w.heap.size w W ∧ okA (xs.take i) = true
def taR (w : World) (xs : List Nat) (W : World) : Prop := blk W w.heap.size #[strv []] 9 ∧ blk W (w.heap.size + 1) #[.int .i64 80] 29 ∧ Below w.heap.size w W ∧ okA xs = false
theorem textAll_many (v : Value) (xs : List Nat) (hn : 319 < xs.length) (w : World) (hS : SlB w v xs) :
    Calls Tryd.prog 15 #[v] w fun e w' => e = .returned (.tuple #[strv [], .int .i64 5]) ∧ Below w.heap.size w w' := by
  obtain ⟨p, c, rfl, -, -⟩ := hS
  have h1 : (319 : Int) < xs.length := by omega
  go_enter Tryd.func15, Tryd.ntmps15
  go_wp2
  refine bodyPost_ret (by simp [results, Tryd.results15, go_sem]) rfl ⟨rfl, ?_⟩
  repeat (first | (with_reducible exact Below.refl _ _) | ((with_reducible refine below_grow ?_ ?_); rotate_left; focus (first | omega | (simp [go_sem]; done) | (simp [go_sem]; omega))) | ((with_reducible refine Below.alloc ?_ ?_ _); rotate_left; focus (first | omega | (simp [go_sem]; done) | (simp [go_sem]; omega))) | ((with_reducible refine Below.setCell ?_ ?_ _); rotate_left; focus (first | omega | (simp [go_sem]; done) | (simp [go_sem]; omega))) | (with_reducible refine Below.drew ?_) | (with_reducible refine below_drewN _ ?_))
theorem ta_end {w : World} (D : Nat) (S : List UInt8) (E : Int) (Y : World) (h1 : blk Y w.heap.size #[strv S] 9) (h2 : blk Y (w.heap.size + 1) #[.int .i64 E] 29) (hb : Below w.heap.size w Y) (hD : w.heap.size + 4 ≤ D) (hX : Y.heap[D]? = some (.deferred (some [])))
    (tm : Array Value) (ht : (tm.getD 2 undef, tm.getD 3 undef) = (.pointer (some ⟨w.heap.size, 0, none⟩), .pointer (some ⟨w.heap.size + 1, 0, none⟩))) :
    bodyPostM Fence.wide 3 Tryd.prog Tryd.f15 (fun e w' => e = .returned (.tuple #[strv S, .int .i64 E]) ∧ Below w.heap.size w w') .ret { tmps := tm, defers := [{ target := .collected D, args := #[] }] } Y := by
  have hbY : Below w.heap.size w (Y.putObj D (.deferred none)) := hb.trans (below_putObj _ _ _ _ (by omega))
  have b3 : Below D Y (Y.putObj D (.deferred none)) := below_putObj _ _ _ _ (Nat.le_refl _)
  have k1 := (blk_cell (blk_below h1 b3 (by omega)) 0).trans (show _ = some (strv S) from rfl)
  have k2 := (blk_cell (blk_below h2 b3 (by omega)) 0).trans (show _ = some (Value.int .i64 E) from rfl)
  simp only [Prod.mk.injEq] at ht
  obtain ⟨t2, t3⟩ := ht
  simp only [Array.getD_eq_getD_getElem?] at t2 t3
  refine ⟨by simp, .inl ⟨_, _, rfl, run_takeDeferred hX, ?_⟩⟩
  refine ⟨_, ?_, rfl, hbY⟩
  simp [results, Tryd.results15, go_sem, *]
set_option maxRecDepth 100000 in
set_option maxHeartbeats 4000000 in
theorem textAll_few (v : Value) (xs : List Nat) (h8 : ∀ x ∈ xs, x < 256) (hn : xs.length ≤ 319) (w : World) (hS : SlB w v xs) (he : Env w) :
    Calls Tryd.prog 15 #[v] w fun e w' => e = .returned (.tuple #[strv (if okA xs then tx xs else []), .int .i64 (if okA xs then 0 else 80)]) ∧ Below w.heap.size w w' := by
  obtain ⟨i0, hi, hz0, hz1, hz2⟩ := info_parts Tryd.infoS
  obtain ⟨p, c, rfl, hcap, hcell⟩ := hS
  have hSb : SlB w (.slice p xs.length c) xs := ⟨p, c, rfl, hcap, hcell⟩
  have h1 : ¬ (319 : Int) < xs.length := by omega
  obtain ⟨S, hS⟩ : ∃ S, (if okA xs then tx xs else []) = S := ⟨_, rfl⟩
  obtain ⟨E, hE⟩ : ∃ E, (if okA xs then (0 : Int) else 80) = E := ⟨_, rfl⟩
  rw [hS, hE]
  refine (callsIn_wide (n := 3)).1 ?_
  refine callsIn_of_wp_marks Tryd.func15 rfl trivial ?_ rfl
  refine wpIn_wide.2 ?_
  simp only [Tryd.ntmps15, List.size_toArray, List.length_cons, List.length_nil, Nat.reduceAdd, Nat.reduceSub, Array.replicate_succ, Array.replicate_zero, List.push_toArray, List.append_toArray, List.nil_append, List.cons_append]
  go_wp2_with (first | (go_at_call 44; refine (written_calls _ _ _ _).mono ?_; rintro e w1 ⟨rfl, rfl⟩))
  have z0 : blk ((((w.alloc (.cells #[.string ⟨#[]⟩] 9)).alloc (.cells #[.int .i64 0] 29)).alloc (.cells #[.slice none 0 0] 26)).alloc (.cells #[.slice p xs.length c] 24)) w.heap.size #[strv []] 9 :=
    blk_alloc (blk_alloc (blk_alloc (blk_at _ _ _ rfl) _) _) _
  have z1 : blk ((((w.alloc (.cells #[.string ⟨#[]⟩] 9)).alloc (.cells #[.int .i64 0] 29)).alloc (.cells #[.slice none 0 0] 26)).alloc (.cells #[.slice p xs.length c] 24)) (w.heap.size + 1) #[.int .i64 0] 29 :=
    blk_alloc (blk_alloc (blk_at _ _ _ (by simp)) _) _
  have z2 : blk ((((w.alloc (.cells #[.string ⟨#[]⟩] 9)).alloc (.cells #[.int .i64 0] 29)).alloc (.cells #[.slice none 0 0] 26)).alloc (.cells #[.slice p xs.length c] 24)) (w.heap.size + 2) #[.slice none 0 0] 26 :=
    blk_alloc (blk_at _ _ _ (by simp)) _
  have z3 : blk ((((w.alloc (.cells #[.string ⟨#[]⟩] 9)).alloc (.cells #[.int .i64 0] 29)).alloc (.cells #[.slice none 0 0] 26)).alloc (.cells #[.slice p xs.length c] 24)) (w.heap.size + 3) #[.slice p xs.length c] 24 :=
    blk_at _ _ _ (by simp)
  have zb : Below w.heap.size w ((((w.alloc (.cells #[.string ⟨#[]⟩] 9)).alloc (.cells #[.int .i64 0] 29)).alloc (.cells #[.slice none 0 0] 26)).alloc (.cells #[.slice p xs.length c] 24)) := by repeat (first | (with_reducible exact Below.refl _ _) | ((with_reducible refine below_grow ?_ ?_); rotate_left; focus (first | omega | (simp [go_sem]; done) | (simp [go_sem]; omega))) | ((with_reducible refine Below.alloc ?_ ?_ _); rotate_left; focus (first | omega | (simp [go_sem]; done) | (simp [go_sem]; omega))) | ((with_reducible refine Below.setCell ?_ ?_ _); rotate_left; focus (first | omega | (simp [go_sem]; done) | (simp [go_sem]; omega))) | (with_reducible refine Below.drew ?_) | (with_reducible refine below_drewN _ ?_))
  have zs : ((((w.alloc (.cells #[.string ⟨#[]⟩] 9)).alloc (.cells #[.int .i64 0] 29)).alloc (.cells #[.slice none 0 0] 26)).alloc (.cells #[.slice p xs.length c] 24)).heap.size = w.heap.size + 4 := by simp
  generalize ((((w.alloc (.cells #[.string ⟨#[]⟩] 9)).alloc (.cells #[.int .i64 0] 29)).alloc (.cells #[.slice none 0 0] 26)).alloc (.cells #[.slice p xs.length c] 24)) = W at *
  refine range_seq2r (gf := 59) (lb := #[.pointer (some ⟨w.heap.size + 1 + 1 + 1, 0, none⟩)]) rfl (enters_of Tryd.func59 (by kernel_rfl) rfl) rfl
    (xs.map pairT) (taI w (.slice p xs.length c) xs) ?hI ⟨z3, z0, z1, ⟨_, z2, World.ownsRow_nil _ _ _ _⟩, zb, rfl⟩ (taR w xs) ?hR ?seq 5 6 ?assign ?body ?done ?stop
  case hI =>
    rintro i X Y ⟨h0, h1, h2, ⟨v, h3, h4⟩, h5, h6⟩ hb hk
    exact ⟨blk_keep h0 hk, blk_keep h1 hk, blk_keep h2 hk, ⟨v, blk_keep h3 hk, own_keep h4 hk⟩, h5.trans (hb.mono (by omega)), h6⟩
  case hR =>
    rintro X Y ⟨h1, h2, h5, h6⟩ hb hk
    exact ⟨blk_keep h1 hk, blk_keep h2 hk, h5.trans (hb.mono (by omega)), h6⟩
  case seq =>
    intro l J JX X hJI hY h0
    rw [List.length_map]
    refine written1_calls l _ (.slice p xs.length c) xs h8 (by omega) J JX ?_ hY X ?_ h0
    · intro i Y hJi
      obtain ⟨⟨_, _, _, _, hb, _⟩, _⟩ := hJI i Y hJi
      exact ⟨slb_below hSb hb, he.below hb⟩
    · obtain ⟨⟨hz, _⟩, _⟩ := hJI 0 X h0
      exact (blk_cell hz 0).trans rfl
  case assign =>
    intro l x y X KK hK'
    simp only [List.setIfInBounds_toArray, List.set_cons_zero, List.set_cons_succ] at hK' ⊢
    gi_wp2
    exact hK'
  case body =>
    rintro l i x X hx ⟨h0, h1, h2, ⟨v, hv, hrow⟩, hb, hok⟩ hsz
    rw [List.getElem?_map] at hx
    obtain ⟨d, hd, rfl⟩ := Option.map_eq_some_iff.1 hx
    have hil := (List.getElem?_eq_some_iff.1 hd).1
    simp only [List.setIfInBounds_toArray, List.set_cons_zero, List.set_cons_succ, pairT]
    by_cases h38 : d < 38
    · have ht : txt d = nm d := by unfold txt; rw [if_pos h38]
      have htE : txE d = 0 := by unfold txE; rw [if_pos h38]
      rw [ht, htE]
      have k0 := blk_cell hv 0
      simp only [List.getElem?_toArray, List.getElem?_cons_zero] at k0
      have f0 := blk_free hv 0
      obtain ⟨A, cap, rfl, hA⟩ := own_slice hrow
      gi_wp2_with (gi_at_builtin; refine wpListIn_append_own _ rfl _ _ 26 rfl (w.heap.size + 4) 9 i0 (.string ByteArray.empty) 1 16 Tryd.underlying26 hi hz0 hz1 hz2 rfl (by decide) _ _ _ rfl (hrow.alloc _) ⟨X.heap.size, 0, none⟩ 1 1 [strv (nm d)] rfl rfl (news1 _ _ _ _ rfl rfl) (fun u hu => by simp only [List.mem_singleton] at hu; subst hu; rfl) (by unfold maxLen; omega) (by omega) (by simp; omega) ?_; intro v' w1 hown' hgrow _; obtain ⟨g', cap', rfl⟩ := ownsRow_succ hown'; have hv1 := blk_grown (blk_alloc hv _) hgrow (not_row hrow (by omega)); have f1 := blk_free hv1 0; have k1 := (blk_cell hv1 0).trans (show _ = some (Value.slice A i cap) from rfl))
      have g0 := blk_grown (blk_alloc h0 _) hgrow (not_row hrow (by omega))
      have g1 := blk_grown (blk_alloc h1 _) hgrow (not_row hrow (by omega))
      have g2 := blk_grown (blk_alloc h2 _) hgrow (not_row hrow (by omega))
      have hrow2 : (w1.setCell ⟨w.heap.size + 1 + 1, 0, none⟩ (.slice (some ⟨g', 0, none⟩) (i + 1) cap')).ownsRow (w.heap.size + 4) 9 1 (.slice (some ⟨g', 0, none⟩) (i + 1) cap') (i + 1) (((xs.take (i + 1)).map nm).map strv) := by
        rw [List.take_add_one, hd, List.map_append, List.map_append]
        exact own_other hown' (by omega) _
      have hB2 : Below w.heap.size w w1 := Below.grown (by repeat (first | (with_reducible exact hb) | ((with_reducible refine below_grow ?_ ?_); rotate_left; focus (first | omega | (simp [go_sem]; done) | (simp [go_sem]; omega))) | ((with_reducible refine Below.alloc ?_ ?_ _); rotate_left; focus (first | omega | (simp [go_sem]; done) | (simp [go_sem]; omega))) | ((with_reducible refine Below.setCell ?_ ?_ _); rotate_left; focus (first | omega | (simp [go_sem]; done) | (simp [go_sem]; omega))) | (with_reducible refine Below.drew ?_) | (with_reducible refine below_drewN _ ?_))) hgrow (by simp; omega) (fun k e => by have := own_block_ge hrow e; omega)
      have hok2 : okA (xs.take (i + 1)) = true := by
        rw [List.take_add_one, hd]
        unfold okA at hok ⊢
        rw [List.all_append, hok]
        simp [h38]
      refine ⟨?_, blk_other g0 (by omega) _, blk_other g1 (by omega) _, blk_other g2 (by omega) _, ⟨_, blk_set hv1 0 _, hrow2⟩, hB2.setCell (p := ⟨w.heap.size + 1 + 1, 0, none⟩) (show w.heap.size ≤ w.heap.size + 1 + 1 by omega) _, hok2⟩
      exact ((KeepsOthers.alloc _ _).trans (KeepsOthers.of_grownBy hgrow (own_cells (hrow.alloc _)))).trans (KeepsOthers.setCell _ _ _)
    · have ht : txt d = [] := by unfold txt; rw [if_neg h38]
      have htE : txE d = 80 := by unfold txE; rw [if_neg h38]
      rw [ht, htE]
      have f1 := blk_free h1 0
      have f2 := blk_free h2 0
      have k1 := blk_cell h1 0
      have k2 := blk_cell h2 0
      simp only [List.getElem?_toArray, List.getElem?_cons_zero] at k1 k2
      have hno : okA xs = false := by
        cases e : okA xs with
        | false => rfl
        | true => exact absurd (okA_iff.1 e d (List.mem_of_getElem? hd)) h38
      gi_wp2
      refine ⟨(KeepsOthers.setCell _ _ _).trans (KeepsOthers.setCell _ _ _), blk_other (blk_set h1 0 _) (by omega) _, blk_set (blk_other h2 (by omega) _) 0 _, ?_, hno⟩
      exact (hb.setCell (p := ⟨w.heap.size, 0, none⟩) (Nat.le_refl _) _).setCell (p := ⟨w.heap.size + 1, 0, none⟩) (show w.heap.size ≤ w.heap.size + 1 by omega) _
  case done =>
    rintro D X ⟨h0, h1, h2, ⟨v, hv, hrow⟩, hb, hok⟩ hD hX
    rw [List.length_map, List.take_of_length_le (Nat.le_refl _)] at hrow hok
    have k0 := blk_cell hv 0
    simp only [List.getElem?_toArray, List.getElem?_cons_zero] at k0
    have hlen := tx_length (okA_iff.1 hok)
    have JO := Lib.hid (join_own hrow (by rw [List.length_map]; omega) (by unfold tx at hlen; omega))
    rw [if_pos hok] at hS hE
    have k1 := blk_cell h1 0
    have k2 := blk_cell h2 0
    simp only [List.getElem?_toArray, List.getElem?_cons_zero] at k1 k2
    have hS' : jn (xs.map nm) = S := hS
    rw [hS'] at JO
    have f1 := blk_free h1 0
    have f2 := blk_free h2 0
    have HX := Lib.hid hX
    have HE := Lib.hid hE
    clear hS hS' hX hE z0 z1 z2 z3 zb
    have iX : NeZero (inW (w.heap.size + 1) X) := inW_mk (blk_lt h2)
    have iX0 : NeZero (inW w.heap.size X) := inW_mk (blk_lt h1)
    go_wp2_with (go_at_call 45; refine JO.out.mono ?_; rintro e w9 ⟨rfl, hbel⟩; obtain ⟨o1, j1, rfl⟩ := grow_of_below hbel; clear hbel)
    refine ta_end D S E _ (blk_grow (blk_other (blk_set h1 0 _) (by omega) _) _ _) (by rw [← HE.out]; exact blk_grow (blk_set (blk_other h2 (by omega) _) 0 _) _ _) ?_ (by omega) ?_ _ rfl
    · exact below_grow ((hb.setCell (p := ⟨w.heap.size, 0, none⟩) (Nat.le_refl _) _).setCell (p := ⟨w.heap.size + 1, 0, none⟩) (show w.heap.size ≤ w.heap.size + 1 by omega) _) (by have := hb.size; simp [World.setCell]; omega)
    · refine (grow_heap ?_).trans ((Below.heap_setCell _ _ _ _ (show D ≠ w.heap.size + 1 by omega)).trans ((Below.heap_setCell _ _ _ _ (show D ≠ w.heap.size by omega)).trans HX.out))
      have := (Array.getElem?_eq_some_iff.1 HX.out).1
      simpa [World.setCell] using this
  case stop =>
    rintro D X ⟨h1, h2, hb, hok⟩ hD hX
    rw [hok] at hS hE
    simp only [if_neg (show ¬ false = true by decide)] at hS hE
    have k1 := blk_cell h1 0
    have k2 := blk_cell h2 0
    simp only [List.getElem?_toArray, List.getElem?_cons_zero] at k1 k2
    clear z0 z1 z2 z3 zb
    have HX := Lib.hid hX
    have HS := Lib.hid hS
    have HE := Lib.hid hE
    clear hX hS hE
    refine ta_end D S E _ (by rw [← HS.out]; exact h1) (by rw [← HE.out]; exact h2) hb (by omega) HX.out _ rfl
end Go.Proofs.YtblmdnmnodogiaaDoor
