/- setsBefore. -/
import Derived.Test.YtgcfkhpondemlaaXC
namespace Go.Proofs.Ytgcfkhpondemlaa.Ca
open Go.RowKit
open Go.Proofs.DB (ct bt wo rk un Sb)
attribute [local go_sem] Oper.semAt_some

theorem isN_52 {n : Nat} (h : n ≤ 2 ^ 52) : isN n := by unfold isN; omega
theorem rk_isN (L x : Nat) (hs : Sb L x 52) : rk bin L x 52 < 2 ^ 52 ∧ isN (rk bin L x 52) := by
  have h1 := DB.rk_lt pas_bin L x 52 hs
  have h2 := pas_bin.pow (ct L 52) (ct x 52)
  have h3 : 2 ^ ct L 52 ≤ 2 ^ 52 := Nat.pow_le_pow_right (by decide) (DB.ct_le L 52)
  exact ⟨by omega, isN_52 (by omega)⟩
def pairV (v : Nat × Nat) : Value × Value := (.int .i64 v.1, .int .u64 v.2)
theorem tops_head {L c : Nat} {v : Nat × Nat} {r : List (Nat × Nat)} (h : tops L c = v :: r) : ∃ g, g < c ∧ bt L g = 1 ∧ (∀ j, g < j → j < c → bt L j = 0) ∧ v = (ct L g, 2 ^ g) ∧ r = tops L g := by
  by_cases hz : L % 2 ^ c = 0
  · rw [tops_end (DB.none_left c hz)] at h; cases h
  · obtain ⟨g, g1, g2, g3, _⟩ := DB.top_of L c hz
    rw [tops_top g1 g2 g3] at h
    cases h
    exact ⟨g, g1, g2, g3, rfl, rfl⟩
/-- Between two rounds of setsBefore. -/
def SB (w : World) (L x i : Nat) (X : World) : Prop := ∃ c s, c ≤ 52 ∧ (tops L 52).drop i = tops L c ∧ s + rk bin L x c = rk bin L x 52 ∧
  blk X w.heap.size #[.int .u64 x] 23 ∧ blk X (w.heap.size + 1) #[.int .u32 0, .int .u32 0, .int .u32 0, .int .u32 0] 26 ∧
  blk X (w.heap.size + 2) #[.int .u32 (pt s 0), .int .u32 (pt s 1), .int .u32 (pt s 2), .int .u32 (pt s 3)] 26 ∧
  blk X (w.heap.size + 3) #[.int .i64 (ct x c)] 3 ∧ blk X (w.heap.size + 4) #[.int .u64 L] 23 ∧ Below w.heap.size w X
theorem and_card {x g : Nat} (hx : x < 4503599627370496) (hg : g < 52) : bits .and .u64 (x : Int) ((2 ^ g : Nat) : Int) = if bt x g = 1 then ((2 ^ g : Nat) : Int) else 0 := by
  have h52 : 2 ^ g < 2 ^ 52 := Nat.pow_lt_pow_right (by decide) hg
  rw [u64_and_nat x (2 ^ g) (by omega) (by omega)]
  have l := DB.bt_lt2 x g
  split
  · rename_i h
    congr 1
    refine DB.bt_ext fun j => ?_
    rw [DB.bt_and, DB.bt_pow]
    split
    · rename_i e; subst e; rw [h]; rfl
    · omega
  · have e : x &&& 2 ^ g = 0 := DB.bt_ext fun j => by
      rw [DB.bt_and, DB.bt_pow]
      split
      · rename_i h e; subst e; rw [show bt x j = 0 by omega]; simp [bt]
      · rw [show bt 0 j = 0 by simp [bt]]; omega
    rw [e]; rfl
set_option maxRecDepth 100000 in
set_option maxHeartbeats 4000000 in
theorem setsBefore_calls (L x : Nat) (hL : L < 4503599627370496) (hx : x < 4503599627370496) (hs : Sb L x 52) (w : World) :
    Calls Try.prog 31 #[.int .u64 L, .int .u64 x] w fun e w' => e = .returned (.agg #[.int .u32 (pt (rk bin L x 52) 0), .int .u32 (pt (rk bin L x 52) 1), .int .u32 (pt (rk bin L x 52) 2), .int .u32 (pt (rk bin L x 52) 3)]) ∧ Below w.heap.size w w' := by
  have O := Lib.hid (ones_calls x hx)
  refine (callsIn_wide (n := 3)).1 ?_
  refine callsIn_of_wp_marks Try.func31 rfl trivial ?_ rfl
  refine wpIn_wide.2 ?_
  simp only [Try.ntmps31, List.size_toArray, List.length_cons, List.length_nil, Nat.reduceAdd, Nat.reduceSub, Array.replicate_succ, Array.replicate_zero, List.push_toArray, List.append_toArray, List.nil_append, List.cons_append]
  go_wp2_with (first | (go_at_call 41; refine (O.out _).mono ?_; rintro e w9 ⟨rfl, rfl⟩) | (go_at_call 56; refine (cardsOf_calls L _).mono ?_; rintro e w1 ⟨rfl, rfl⟩))
  clear O
  generalize hW : World.alloc _ _ = W
  have z0 : blk W w.heap.size #[.int .u64 x] 23 := by rw [← hW]; exact blk_alloc (blk_alloc (blk_alloc (blk_alloc (blk_new _ _ _) _) _) _) _
  have z1 : blk W (w.heap.size + 1) #[.int .u32 0, .int .u32 0, .int .u32 0, .int .u32 0] 26 := by rw [← hW]; exact blk_alloc (blk_alloc (blk_alloc (blk_at _ _ _ (by simp)) _) _) _
  have z2 : blk W (w.heap.size + 2) #[.int .u32 0, .int .u32 0, .int .u32 0, .int .u32 0] 26 := by rw [← hW]; exact blk_alloc (blk_alloc (blk_at _ _ _ (by simp)) _) _
  have z3 : blk W (w.heap.size + 3) #[.int .i64 (ct x 52)] 3 := by rw [← hW]; exact blk_alloc (blk_at _ _ _ (by simp)) _
  have z4 : blk W (w.heap.size + 4) #[.int .u64 L] 23 := by rw [← hW]; exact blk_at _ _ _ (by simp)
  have zb : Below w.heap.size w W := by rw [← hW]; repeat (first | (with_reducible exact Below.refl _ _) | ((with_reducible refine below_grow ?_ ?_); rotate_left; focus (first | omega | (simp [go_sem]; done) | (simp [go_sem]; omega))) | ((with_reducible refine Below.alloc ?_ ?_ _); rotate_left; focus (first | omega | (simp [go_sem]; done) | (simp [go_sem]; omega))) | ((with_reducible refine Below.setCell ?_ ?_ _); rotate_left; focus (first | omega | (simp [go_sem]; done) | (simp [go_sem]; omega))) | (with_reducible refine Below.drew ?_) | (with_reducible refine below_drewN _ ?_))
  have zs : W.heap.size = w.heap.size + 5 := by rw [← hW]; simp
  clear hW
  refine range_seq2 (gf := 76) (lb := #[.pointer (some ⟨w.heap.size + 4, 0, none⟩)]) rfl (enters_of Try.func76 (by kernel_rfl) rfl) rfl
    ((tops L 52).map pairV) (SB w L x) ?hI ⟨52, 0, Nat.le_refl _, rfl, Nat.zero_add _, z0, z1, z2, z3, z4, zb⟩ ?seq 7 8 ?assign ?body ?done
  case hI =>
    rintro i X Y ⟨c, s, h1, h2, h3, b0, b1, b2, b3, b4, hb⟩ hbl hk
    exact ⟨c, s, h1, h2, h3, blk_keep b0 hk, blk_keep b1 hk, blk_keep b2 hk, blk_keep b3 hk, blk_keep b4 hk, hb.trans (hbl.mono (by omega))⟩
  case seq =>
    intro l J X hJI hY h0
    rw [List.length_map]
    refine cardsOf1_calls l (w.heap.size + 4) L hL J ?_ X ?_ h0
    · intro i v Y hv hJi
      exact hY i (pairV v) Y (by rw [List.getElem?_map, hv]; rfl) hJi
    · obtain ⟨⟨c, s, _, _, _, _, _, _, _, b4, _⟩, _⟩ := hJI 0 X h0
      rw [blk_cell b4]
      rfl
  case assign =>
    intro l u v X KK hK'
    simp only [List.setIfInBounds_toArray, List.set_cons_zero, List.set_cons_succ] at hK' ⊢
    gi_wp2
    exact hK'
  case body =>
    rintro l i y X hy ⟨c, s, h1, h2, h3, b0, b1, b2, b3, b4, hb⟩ hsz
    rw [List.getElem?_map] at hy
    obtain ⟨v, hv, rfl⟩ := Option.map_eq_some_iff.1 hy
    have hdr : (tops L 52).drop i = v :: (tops L 52).drop (i + 1) := by
      obtain ⟨hl, e⟩ := List.getElem?_eq_some_iff.1 hv
      rw [List.drop_eq_getElem_cons hl, e]
    rw [hdr] at h2
    obtain ⟨g, g1, g2, g3, rfl, g5⟩ := tops_head h2.symm
    have hsc : Sb L x c := fun j hj => hs j (by omega)
    have hcx := DB.ctx_top hsc g1 g3
    have hrk := DB.rk_top (B := bin) hsc g1 g3
    have ac := and_card hx (show g < 52 by omega)
    have hcl := DB.ct_le L g
    have hcc := DB.ct_le x c
    have hrN := (rk_isN L x hs).1
    have hp : 0 < 2 ^ g := Nat.pow_pos (by decide)
    have k0 : X.cell? ⟨w.heap.size, 0, none⟩ = some (.int .u64 x) := blk_cell b0 0
    have k20 : X.cell? ⟨w.heap.size + 1 + 1, 0, none⟩ = some (.int .u32 (pt s 0)) := blk_cell b2 0
    have k21 : X.cell? ⟨w.heap.size + 1 + 1, 1, none⟩ = some (.int .u32 (pt s 1)) := blk_cell b2 1
    have k22 : X.cell? ⟨w.heap.size + 1 + 1, 2, none⟩ = some (.int .u32 (pt s 2)) := blk_cell b2 2
    have k23 : X.cell? ⟨w.heap.size + 1 + 1, 3, none⟩ = some (.int .u32 (pt s 3)) := blk_cell b2 3
    have k3 : X.cell? ⟨w.heap.size + 1 + 1 + 1, 0, none⟩ = some (.int .i64 (ct x c)) := blk_cell b3 0
    have f2 : ∀ j, X.frozen? ⟨w.heap.size + 1 + 1, j, none⟩ = false := fun j => blk_free b2 j
    have f3 : X.frozen? ⟨w.heap.size + 1 + 1 + 1, 0, none⟩ = false := blk_free b3 0
    haveI i0 : NeZero (inW w.heap.size X) := inW_mk (blk_lt b0)
    haveI i2 : NeZero (inW (w.heap.size + 1 + 1) X) := inW_mk (blk_lt b2)
    haveI i3 : NeZero (inW (w.heap.size + 1 + 1 + 1) X) := inW_mk (blk_lt b3)
    have g5' := Lib.hid g5
    have H1 := Lib.hid (show g ≤ 52 by omega)
    have H3 : s + (if bt x g = 1 then bin (ct L g) (ct x c) else 0) + rk bin L x g = rk bin L x 52 := by omega
    have zk := keepsOthers_of_below (Below.refl X.heap.size X)
    simp only [List.setIfInBounds_toArray, List.set_cons_zero, List.set_cons_succ, pairV]
    by_cases hbit : bt x g = 1
    · rw [if_pos hbit] at ac H3
      rw [hbit] at hcx
      have hq := pas_bin.pow (ct L g) (ct x c)
      have hq2 : 2 ^ ct L g ≤ 2 ^ 52 := Nat.pow_le_pow_right (by decide) (by omega)
      have sN : isN s := isN_52 (by omega)
      have qN : isN (bin (ct L g) (ct x c)) := isN_52 (by omega)
      have C1 := Lib.hid (choose_nat (ct L g) (ct x c) (by omega) (by omega))
      have A1 := Lib.hid (Se.add_hyp s (bin (ct L g) (ct x c)) _ sN qN rfl (isN_52 (by omega)))
      have e1 : IntKind.i64.wrap ((ct x c : Int) - 1) = (ct x g : Int) := by rw [IntWalk.i64_in _ (by omega)]; omega
      have H4 := Lib.hid H3
      have hz0 : ¬ ((2 ^ g : Nat) : Int) = 0 := by omega
      obtain ⟨S, hS⟩ : ∃ S, s + bin (ct L g) (ct x c) = S := ⟨_, rfl⟩
      obtain ⟨q, hq⟩ : ∃ q, bin (ct L g) (ct x c) = q := ⟨_, rfl⟩
      obtain ⟨n, hn⟩ : ∃ n, ct L g = n := ⟨_, rfl⟩
      obtain ⟨k, hk⟩ : ∃ n, ct x c = n := ⟨_, rfl⟩
      obtain ⟨z, hz⟩ : ∃ z, 2 ^ g = z := ⟨_, rfl⟩
      obtain ⟨k', hk'⟩ : ∃ z, ct x g = z := ⟨_, rfl⟩
      rw [hS] at A1 H4
      rw [hq] at A1 C1
      rw [hn, hk] at C1
      rw [hk, hk'] at e1
      rw [hk] at k3 b3
      rw [hz] at ac hz0 ⊢
      rw [hn]
      have B0 := Lib.hid b0; have B1 := Lib.hid b1; have B2 := Lib.hid b2; have B3 := Lib.hid b3; have B4 := Lib.hid b4
      have HK := Lib.hid hk'
      have HB := Lib.hid hb
      clear b0 b1 b2 b3 b4 hS hq hn hk hz hk' hcx hrk hcl hcc hrN hp h2 h3 hdr hv hy hsc hbit g1 g2 g3 g5 H3 hb hs hL hx sN qN
      gi_wp2_with (first | (refine ⟨trivial, ?_⟩; gi_at_call 53; refine (CallsIn.inRound l (callsIn_wide.2 (C1.out _))).mono ?_; rintro e w9 ⟨rfl, hbel⟩; obtain ⟨o1, j1, rfl⟩ := grow_of_below hbel; clear hbel) | (refine ⟨trivial, ?_⟩; gi_at_call 20; refine (CallsIn.inRound l (callsIn_wide.2 (A1.out _))).mono ?_; rintro e w9 ⟨rfl, hbel⟩; obtain ⟨o2, j2, rfl⟩ := grow_of_below hbel; clear hbel))
      change KeepsOthers X _ ∧ SB w L x (i + 1) _
      have B0 := B0.out; have B1 := B1.out; have B2 := B2.out; have B3 := B3.out; have B4 := B4.out
      have c2 := blk_set (blk_set (blk_set (blk_set B2 0 (.int .u32 (pt S 0))) 1 (.int .u32 (pt S 1))) 2 (.int .u32 (pt S 2))) 3 (.int .u32 (pt S 3))
      have o5 : ∀ {b : Nat} {cs : Array Value} {t : TypeId}, blk X b cs t → w.heap.size + 2 ≠ b → blk ((((X.setCell ⟨w.heap.size + 2, 0, none⟩ (.int .u32 (pt S 0))).setCell ⟨w.heap.size + 2, 1, none⟩ (.int .u32 (pt S 1))).setCell ⟨w.heap.size + 2, 2, none⟩ (.int .u32 (pt S 2))).setCell ⟨w.heap.size + 2, 3, none⟩ (.int .u32 (pt S 3))) b cs t := fun h hn => blk_other (blk_other (blk_other (blk_other h hn _) hn _) hn _) hn _
      have c3 := blk_set (o5 B3 (by omega)) 0 (.int .i64 k')
      refine ⟨((((((((KeepsOthers.setCell _ _ _).trans (KeepsOthers.setCell _ _ _)).trans (KeepsOthers.setCell _ _ _)).trans (KeepsOthers.setCell _ _ _)).trans (KeepsOthers.setCell _ _ _)).trans (keepsOthers_grow _ _ _)).trans (KeepsOthers.alloc _ _)).trans (keepsOthers_grow _ _ _)), g, S, H1.out, g5'.out, H4.out, ?_, ?_, ?_, ?_, ?_, ?_⟩
      · exact blk_grow (blk_alloc (blk_grow (blk_other (o5 B0 (by omega)) (by omega) _) _ _) _) _ _
      · exact blk_grow (blk_alloc (blk_grow (blk_other (o5 B1 (by omega)) (by omega) _) _ _) _) _ _
      · exact blk_grow (blk_alloc (blk_grow (blk_other c2 (by omega) _) _ _) _) _ _
      · rw [HK.out]; exact blk_grow (blk_alloc (blk_grow c3 _ _) _) _ _
      · exact blk_grow (blk_alloc (blk_grow (blk_other (o5 B4 (by omega)) (by omega) _) _ _) _) _ _
      · repeat (first | (with_reducible exact HB.out) | ((with_reducible refine below_grow ?_ ?_); rotate_left; focus (first | omega | (simp [go_sem]; done) | (simp [go_sem]; omega))) | ((with_reducible refine Below.alloc ?_ ?_ _); rotate_left; focus (first | omega | (simp [go_sem]; done) | (simp [go_sem]; omega))) | ((with_reducible refine Below.setCell ?_ ?_ _); rotate_left; focus (first | omega | (simp [go_sem]; done) | (simp [go_sem]; omega))) | (with_reducible refine Below.drew ?_) | (with_reducible refine below_drewN _ ?_))
    · rw [if_neg hbit] at ac H3
      have hb0 : bt x g = 0 := by have := DB.bt_lt2 x g; omega
      rw [hb0, Nat.add_zero] at hcx
      have HS : SB w L x (i + 1) X := ⟨g, s, by omega, g5, by omega, b0, b1, b2, by rw [← hcx]; exact b3, b4, hb⟩
      obtain ⟨z, hz⟩ : ∃ z, 2 ^ g = z := ⟨_, rfl⟩
      rw [hz] at ac ⊢
      clear b0 b1 b2 b3 b4 hz hcx hrk hcl hcc hrN hp h2 h3 hdr hv hy hsc hbit
      gi_wp2
      change KeepsOthers X X ∧ SB w L x (i + 1) X
      exact ⟨zk, HS⟩
  case done =>
    rintro D X ⟨c, s, h1, h2, h3, b0, b1, b2, b3, b4, hb⟩ hD hX
    have hz : ∀ j, j < c → bt L j = 0 := by
      rw [List.length_map, List.drop_length] at h2
      by_cases hz : L % 2 ^ c = 0
      · exact DB.none_left c hz
      · obtain ⟨g, g1, g2, g3, _⟩ := DB.top_of L c hz
        rw [tops_top g1 g2 g3] at h2; cases h2
    rw [DB.rk_end (fun j hj => hs j (by omega)) hz, Nat.add_zero] at h3
    subst h3
    have k20 : X.cell? ⟨w.heap.size + 1 + 1, 0, none⟩ = some (.int .u32 (pt (rk bin L x 52) 0)) := blk_cell b2 0
    have k21 : X.cell? ⟨w.heap.size + 1 + 1, 1, none⟩ = some (.int .u32 (pt (rk bin L x 52) 1)) := blk_cell b2 1
    have k22 : X.cell? ⟨w.heap.size + 1 + 1, 2, none⟩ = some (.int .u32 (pt (rk bin L x 52) 2)) := blk_cell b2 2
    have k23 : X.cell? ⟨w.heap.size + 1 + 1, 3, none⟩ = some (.int .u32 (pt (rk bin L x 52) 3)) := blk_cell b2 3
    have f1 : ∀ j, X.frozen? ⟨w.heap.size + 1, j, none⟩ = false := fun j => blk_free b1 j
    have k10 : X.cell? ⟨w.heap.size + 1, 0, none⟩ = some (.int .u32 0) := blk_cell b1 0
    have k11 : X.cell? ⟨w.heap.size + 1, 1, none⟩ = some (.int .u32 0) := blk_cell b1 1
    have k12 : X.cell? ⟨w.heap.size + 1, 2, none⟩ = some (.int .u32 0) := blk_cell b1 2
    have k13 : X.cell? ⟨w.heap.size + 1, 3, none⟩ = some (.int .u32 0) := blk_cell b1 3
    have hb1 := blk_lt b1
    have hXlt := (Array.getElem?_eq_some_iff.1 hX).1
    have B1 := Lib.hid b1
    have R0 := rk_isN L x hs
    clear b0 b1 b2 b3 b4 h2
    go_wp2
    have c1 := blk_set (blk_set (blk_set (blk_set B1.out 0 (.int .u32 (pt (rk bin L x 52) 0))) 1 (.int .u32 (pt (rk bin L x 52) 1))) 2 (.int .u32 (pt (rk bin L x 52) 2))) 3 (.int .u32 (pt (rk bin L x 52) 3))
    have dY : ∀ {Y : World} {j : Nat} {v : Value}, Y.heap[D]? = some (.deferred (some [])) → (Y.setCell ⟨w.heap.size + 1, j, none⟩ v).heap[D]? = some (.deferred (some [])) := fun h => (Below.heap_setCell _ _ _ _ (show D ≠ w.heap.size + 1 by omega)).trans h
    have hX5 := dY (j := 3) (v := .int .u32 (pt (rk bin L x 52) 3)) (dY (j := 2) (v := .int .u32 (pt (rk bin L x 52) 2)) (dY (j := 1) (v := .int .u32 (pt (rk bin L x 52) 1)) (dY (j := 0) (v := .int .u32 (pt (rk bin L x 52) 0)) hX)))
    have bY : Below w.heap.size w ((((X.setCell ⟨w.heap.size + 1, 0, none⟩ (.int .u32 (pt (rk bin L x 52) 0))).setCell ⟨w.heap.size + 1, 1, none⟩ (.int .u32 (pt (rk bin L x 52) 1))).setCell ⟨w.heap.size + 1, 2, none⟩ (.int .u32 (pt (rk bin L x 52) 2))).setCell ⟨w.heap.size + 1, 3, none⟩ (.int .u32 (pt (rk bin L x 52) 3))) := by repeat (first | (with_reducible exact hb) | ((with_reducible refine below_grow ?_ ?_); rotate_left; focus (first | omega | (simp [go_sem]; done) | (simp [go_sem]; omega))) | ((with_reducible refine Below.alloc ?_ ?_ _); rotate_left; focus (first | omega | (simp [go_sem]; done) | (simp [go_sem]; omega))) | ((with_reducible refine Below.setCell ?_ ?_ _); rotate_left; focus (first | omega | (simp [go_sem]; done) | (simp [go_sem]; omega))) | (with_reducible refine Below.drew ?_) | (with_reducible refine below_drewN _ ?_))
    clear dY
    generalize (((X.setCell ⟨w.heap.size + 1, 0, none⟩ (.int .u32 (pt (rk bin L x 52) 0))).setCell ⟨w.heap.size + 1, 1, none⟩ (.int .u32 (pt (rk bin L x 52) 1))).setCell ⟨w.heap.size + 1, 2, none⟩ (.int .u32 (pt (rk bin L x 52) 2))).setCell ⟨w.heap.size + 1, 3, none⟩ (.int .u32 (pt (rk bin L x 52) 3)) = Y at *
    refine ⟨by simp, .inl ⟨_, _, rfl, run_takeDeferred hX5, ?_⟩⟩
    have c1' : blk (Y.putObj D (.deferred none)) (w.heap.size + 1) _ _ := (World.putObj_heap_other (by omega)).trans c1
    have hbY : Below w.heap.size w (Y.putObj D (.deferred none)) := bY.trans (below_putObj _ _ _ _ (by omega))
    generalize Y.putObj D (.deferred none) = Z at *
    have q0 : Z.cell? ⟨w.heap.size + 1, 0, none⟩ = some (.int .u32 (pt (rk bin L x 52) 0)) := blk_cell c1' 0
    have q1 : Z.cell? ⟨w.heap.size + 1, 1, none⟩ = some (.int .u32 (pt (rk bin L x 52) 1)) := blk_cell c1' 1
    have q2 : Z.cell? ⟨w.heap.size + 1, 2, none⟩ = some (.int .u32 (pt (rk bin L x 52) 2)) := blk_cell c1' 2
    have q3 : Z.cell? ⟨w.heap.size + 1, 3, none⟩ = some (.int .u32 (pt (rk bin L x 52) 3)) := blk_cell c1' 3
    refine ⟨_, ?_, rfl, hbY⟩
    simp [results, Try.results31, go_sem, q0, q1, q2, q3]
end Go.Proofs.Ytgcfkhpondemlaa.Ca
