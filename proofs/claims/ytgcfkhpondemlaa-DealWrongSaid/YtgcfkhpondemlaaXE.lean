/- setAt. -/
import Derived.Test.YtgcfkhpondemlaaXD
namespace Go.Proofs.Ytgcfkhpondemlaa.Ca
open Go.RowKit
open Go.Proofs.DB (ct bt wo rk un Sb)
attribute [local go_sem] Oper.semAt_some

/-- Between two rounds of setAt. -/
def SA2 (w : World) (L K I n : Nat) (X : World) : Prop := ∃ c k i S, c ≤ 52 ∧ (tops L 52).drop n = tops L c ∧ i < bin (ct L c) k ∧ k ≤ 128 ∧ S + un bin L c k i = un bin L 52 K I ∧ (∀ j, j < c → bt S j = 0) ∧ S < 4503599627370496 ∧
  blk X w.heap.size #[.int .i64 k] 3 ∧ blk X (w.heap.size + 1) #[.int .u32 (pt i 0), .int .u32 (pt i 1), .int .u32 (pt i 2), .int .u32 (pt i 3)] 26 ∧
  blk X (w.heap.size + 2) #[.int .u64 S] 23 ∧ blk X (w.heap.size + 3) #[.int .u64 L] 23 ∧ Below w.heap.size w X
theorem bin_52 {L c k : Nat} (hc : c ≤ 52) : bin (ct L c) k ≤ 2 ^ 52 := by
  have h2 := pas_bin.pow (ct L c) k
  have h3 : 2 ^ ct L c ≤ 2 ^ 52 := Nat.pow_le_pow_right (by decide) (Nat.le_trans (DB.ct_le L c) hc)
  omega
set_option maxRecDepth 100000 in
set_option maxHeartbeats 4000000 in
theorem setAt_calls (L K I : Nat) (hL : L < 4503599627370496) (hK : K ≤ 128) (hI : I < bin (ct L 52) K) (w : World) :
    Calls Try.prog 33 #[.int .u64 L, .int .i64 K, .agg #[.int .u32 (pt I 0), .int .u32 (pt I 1), .int .u32 (pt I 2), .int .u32 (pt I 3)]] w fun e w' => e = .returned (.int .u64 (un bin L 52 K I : Nat)) ∧ Below w.heap.size w w' := by
  refine (callsIn_wide (n := 3)).1 ?_
  refine callsIn_of_wp_marks Try.func33 rfl trivial ?_ rfl
  refine wpIn_wide.2 ?_
  simp only [Try.ntmps33, List.size_toArray, List.length_cons, List.length_nil, Nat.reduceAdd, Nat.reduceSub, Array.replicate_succ, Array.replicate_zero, List.push_toArray, List.append_toArray, List.nil_append, List.cons_append]
  go_wp2_with (go_at_call 56; refine (cardsOf_calls L _).mono ?_; rintro e w1 ⟨rfl, rfl⟩)
  generalize hW : World.alloc _ _ = W
  have z0 : blk W w.heap.size #[.int .i64 K] 3 := by rw [← hW]; exact blk_alloc (blk_alloc (blk_alloc (blk_new _ _ _) _) _) _
  have z1 : blk W (w.heap.size + 1) #[.int .u32 (pt I 0), .int .u32 (pt I 1), .int .u32 (pt I 2), .int .u32 (pt I 3)] 26 := by rw [← hW]; exact blk_alloc (blk_alloc (blk_at _ _ _ (by simp)) _) _
  have z2 : blk W (w.heap.size + 2) #[.int .u64 0] 23 := by rw [← hW]; exact blk_alloc (blk_at _ _ _ (by simp)) _
  have z3 : blk W (w.heap.size + 3) #[.int .u64 L] 23 := by rw [← hW]; exact blk_at _ _ _ (by simp)
  have zb : Below w.heap.size w W := by rw [← hW]; repeat (first | (with_reducible exact Below.refl _ _) | ((with_reducible refine below_grow ?_ ?_); rotate_left; focus (first | omega | (simp [go_sem]; done) | (simp [go_sem]; omega))) | ((with_reducible refine Below.alloc ?_ ?_ _); rotate_left; focus (first | omega | (simp [go_sem]; done) | (simp [go_sem]; omega))) | ((with_reducible refine Below.setCell ?_ ?_ _); rotate_left; focus (first | omega | (simp [go_sem]; done) | (simp [go_sem]; omega))) | (with_reducible refine Below.drew ?_) | (with_reducible refine below_drewN _ ?_))
  have zs : W.heap.size = w.heap.size + 4 := by rw [← hW]; simp
  clear hW
  refine range_seq2 (gf := 76) (lb := #[.pointer (some ⟨w.heap.size + 3, 0, none⟩)]) rfl (enters_of Try.func76 (by kernel_rfl) rfl) rfl
    ((tops L 52).map pairV) (SA2 w L K I) ?hI ⟨52, K, I, 0, Nat.le_refl _, rfl, hI, hK, Nat.zero_add _, fun j _ => by simp [bt], by decide, z0, z1, z2, z3, zb⟩ ?seq 8 9 ?assign ?body ?done
  case hI =>
    rintro n X Y ⟨c, k, i, S, h1, h2, h3, h4, h5, h6, h7, b0, b1, b2, b3, hb⟩ hbl hk
    exact ⟨c, k, i, S, h1, h2, h3, h4, h5, h6, h7, blk_keep b0 hk, blk_keep b1 hk, blk_keep b2 hk, blk_keep b3 hk, hb.trans (hbl.mono (by omega))⟩
  case seq =>
    intro l J X hJI hY h0
    rw [List.length_map]
    refine cardsOf1_calls l (w.heap.size + 3) L hL J ?_ X ?_ h0
    · intro i v Y hv hJi
      exact hY i (pairV v) Y (by rw [List.getElem?_map, hv]; rfl) hJi
    · obtain ⟨⟨c, k, i, S, _, _, _, _, _, _, _, _, _, _, b3, _⟩, _⟩ := hJI 0 X h0
      rw [blk_cell b3]
      rfl
  case assign =>
    intro l u v X KK hK'
    simp only [List.setIfInBounds_toArray, List.set_cons_zero, List.set_cons_succ] at hK' ⊢
    gi_wp2
    exact hK'
  case body =>
    rintro l n0 y X hy ⟨c, k, i, S, h1, h2, h3, h4, h5, h6, h7, b0, b1, b2, b3, hb⟩ hsz
    rw [List.getElem?_map] at hy
    obtain ⟨v, hv, rfl⟩ := Option.map_eq_some_iff.1 hy
    have hdr : (tops L 52).drop n0 = v :: (tops L 52).drop (n0 + 1) := by
      obtain ⟨hl, e⟩ := List.getElem?_eq_some_iff.1 hv
      rw [List.drop_eq_getElem_cons hl, e]
    rw [hdr] at h2
    obtain ⟨g, g1, g2, g3, rfl, g5⟩ := tops_head h2.symm
    have hct := DB.ct_top g1 g2 g3
    have hun := DB.un_top (B := bin) k i g1 g2 g3
    have hcl := DB.ct_le L g
    have hq := bin_52 (L := L) (k := k) (show g ≤ 52 by omega)
    have hc5 := bin_52 (L := L) (k := k) h1
    have iN : isN i := isN_52 (by omega)
    have qN : isN (bin (ct L g) k) := isN_52 hq
    have C1 := Lib.hid (choose_nat (ct L g) k (by omega) (by omega))
    have hg52 : g < 52 := by omega
    have k0 : X.cell? ⟨w.heap.size, 0, none⟩ = some (.int .i64 k) := blk_cell b0 0
    have k10 : X.cell? ⟨w.heap.size + 1, 0, none⟩ = some (.int .u32 (pt i 0)) := blk_cell b1 0
    have k11 : X.cell? ⟨w.heap.size + 1, 1, none⟩ = some (.int .u32 (pt i 1)) := blk_cell b1 1
    have k12 : X.cell? ⟨w.heap.size + 1, 2, none⟩ = some (.int .u32 (pt i 2)) := blk_cell b1 2
    have k13 : X.cell? ⟨w.heap.size + 1, 3, none⟩ = some (.int .u32 (pt i 3)) := blk_cell b1 3
    have k2 : X.cell? ⟨w.heap.size + 1 + 1, 0, none⟩ = some (.int .u64 S) := blk_cell b2 0
    have f0 : X.frozen? ⟨w.heap.size, 0, none⟩ = false := blk_free b0 0
    have f1 : ∀ j, X.frozen? ⟨w.heap.size + 1, j, none⟩ = false := fun j => blk_free b1 j
    have f2 : X.frozen? ⟨w.heap.size + 1 + 1, 0, none⟩ = false := blk_free b2 0
    haveI i0 : NeZero (inW w.heap.size X) := inW_mk (blk_lt b0)
    haveI i1 : NeZero (inW (w.heap.size + 1) X) := inW_mk (blk_lt b1)
    haveI i2 : NeZero (inW (w.heap.size + 1 + 1) X) := inW_mk (blk_lt b2)
    have B0 := Lib.hid b0; have B1 := Lib.hid b1; have B2 := Lib.hid b2; have B3 := Lib.hid b3; have HB := Lib.hid hb
    have HG := Lib.hid (show g ≤ 52 by omega)
    have HD := Lib.hid g5
    clear b0 b1 b2 b3 hb hdr hv hy
    simp only [List.setIfInBounds_toArray, List.set_cons_zero, List.set_cons_succ, pairV]
    by_cases hlt : i < bin (ct L g) k
    · rw [if_pos hlt] at hun
      have A1 := Lib.hid (sub_less i (bin (ct L g) k) iN qN hlt)
      have HL := Lib.hid hlt
      have H5 := Lib.hid (show S + un bin L g k i = un bin L 52 K I by omega)
      have H4 := Lib.hid h4
      have H6 := Lib.hid (fun j (hj : j < g) => h6 j (by omega))
      have H7 := Lib.hid h7
      obtain ⟨q, hq'⟩ : ∃ q, bin (ct L g) k = q := ⟨_, rfl⟩
      obtain ⟨n, hn⟩ : ∃ n, ct L g = n := ⟨_, rfl⟩
      obtain ⟨z, hz⟩ : ∃ z, 2 ^ g = z := ⟨_, rfl⟩
      rw [hq'] at A1 C1
      rw [hn] at C1 ⊢
      rw [hz]
      clear hq' hn hz hun hlt hq hc5 iN qN hct hcl h2 h3 h4 h5 h6 h7 g1 g2 g3 g5 hg52 hL hK hI h1
      gi_wp2_with (first | (refine ⟨trivial, ?_⟩; gi_at_call 53; refine (CallsIn.inRound l (callsIn_wide.2 (C1.out _))).mono ?_; rintro e w9 ⟨rfl, hbel⟩; obtain ⟨o1, j1, rfl⟩ := grow_of_below hbel; clear hbel) | (refine ⟨trivial, ?_⟩; gi_at_call 40; refine (CallsIn.inRound l (callsIn_wide.2 (A1.out _))).mono ?_; rintro e w9 ⟨⟨cc, hcc, rfl⟩, hbel⟩; obtain ⟨o2, j2, rfl⟩ := grow_of_below hbel; clear hbel))
      change KeepsOthers X _ ∧ SA2 w L K I (n0 + 1) _
      have B0 := B0.out; have B1 := B1.out; have B2 := B2.out; have B3 := B3.out
      refine ⟨((((keepsOthers_grow _ _ _).trans (KeepsOthers.alloc _ _)).trans (keepsOthers_grow _ _ _)).trans (KeepsOthers.alloc _ _)), g, k, i, S, HG.out, HD.out, HL.out, H4.out, H5.out, H6.out, H7.out, ?_, ?_, ?_, ?_, ?_⟩
      · exact blk_alloc (blk_grow (blk_alloc (blk_grow B0 _ _) _) _ _) _
      · exact blk_alloc (blk_grow (blk_alloc (blk_grow B1 _ _) _) _ _) _
      · exact blk_alloc (blk_grow (blk_alloc (blk_grow B2 _ _) _) _ _) _
      · exact blk_alloc (blk_grow (blk_alloc (blk_grow B3 _ _) _) _ _) _
      · repeat (first | (with_reducible exact HB.out) | ((with_reducible refine below_grow ?_ ?_); rotate_left; focus (first | omega | (simp [go_sem]; done) | (simp [go_sem]; omega))) | ((with_reducible refine Below.alloc ?_ ?_ _); rotate_left; focus (first | omega | (simp [go_sem]; done) | (simp [go_sem]; omega))) | ((with_reducible refine Below.setCell ?_ ?_ _); rotate_left; focus (first | omega | (simp [go_sem]; done) | (simp [go_sem]; omega))) | (with_reducible refine Below.drew ?_) | (with_reducible refine below_drewN _ ?_))
    · rw [if_neg hlt] at hun
      rw [hct] at h3
      obtain ⟨r1, r2⟩ := DB.un_room pas_bin h3 hlt
      have A1 := Lib.hid (Se.sub_hyp i (bin (ct L g) k) _ iN qN rfl (by omega))
      have HL := Lib.hid r2
      have hSg := h6 g g1
      have hdj := DB.dj_pow hSg
      have hor := DB.or_eq_add hdj
      have hgp : 2 ^ g < 2 ^ 52 := Nat.pow_lt_pow_right (by decide) hg52
      have o1 := u64_or_nat S (2 ^ g) (by omega) (by omega)
      have H5 := Lib.hid (show (S ||| 2 ^ g) + un bin L g (k - 1) (i - bin (ct L g) k) = un bin L 52 K I by omega)
      have H4 := Lib.hid (show k - 1 ≤ 128 by omega)
      have H6 := Lib.hid fun j (hj : j < g) => show bt (S ||| 2 ^ g) j = 0 by
        rw [DB.bt_or, h6 j (by omega), DB.bt_pow, if_neg (by omega)]; rfl
      have H7 := Lib.hid (show (S ||| 2 ^ g) < 4503599627370496 from Nat.or_lt_two_pow (n := 52) h7 hgp)
      have e1 : IntKind.i64.wrap ((k : Int) - 1) = ((k - 1 : Nat) : Int) := by rw [IntWalk.i64_in _ (by omega)]; omega
      obtain ⟨d, hd'⟩ : ∃ d, i - bin (ct L g) k = d := ⟨_, rfl⟩
      obtain ⟨q, hq'⟩ : ∃ q, bin (ct L g) k = q := ⟨_, rfl⟩
      obtain ⟨T, hT⟩ : ∃ T, S ||| 2 ^ g = T := ⟨_, rfl⟩
      obtain ⟨n, hn⟩ : ∃ n, ct L g = n := ⟨_, rfl⟩
      obtain ⟨z, hz⟩ : ∃ z, 2 ^ g = z := ⟨_, rfl⟩
      obtain ⟨k', hk'⟩ : ∃ z, k - 1 = z := ⟨_, rfl⟩
      rw [hd'] at A1 HL H5
      rw [hq'] at A1 C1
      rw [hT] at o1 H5 H6 H7
      rw [hk'] at HL H5 H4 e1
      rw [hz] at o1 ⊢
      rw [hn] at C1 ⊢
      clear hq' hn hz hd' hT hk' hun hlt hq hc5 iN qN hct hcl h2 h3 h4 h5 h6 h7 g1 g2 g3 g5 hg52 hL hK hI h1 r1 r2 hSg hdj hor hgp
      gi_wp2_with (first | (refine ⟨trivial, ?_⟩; gi_at_call 53; refine (CallsIn.inRound l (callsIn_wide.2 (C1.out _))).mono ?_; rintro e w9 ⟨rfl, hbel⟩; obtain ⟨o1, j1, rfl⟩ := grow_of_below hbel; clear hbel) | (refine ⟨trivial, ?_⟩; gi_at_call 40; refine (CallsIn.inRound l (callsIn_wide.2 (A1.out _))).mono ?_; rintro e w9 ⟨rfl, hbel⟩; obtain ⟨o2, j2, rfl⟩ := grow_of_below hbel; clear hbel))
      change KeepsOthers X _ ∧ SA2 w L K I (n0 + 1) _
      have B0 := B0.out; have B1 := B1.out; have B2 := B2.out; have B3 := B3.out
      have c1 := blk_set (blk_set (blk_set (blk_set B1 0 (.int .u32 (pt d 0))) 1 (.int .u32 (pt d 1))) 2 (.int .u32 (pt d 2))) 3 (.int .u32 (pt d 3))
      have o4 : ∀ {b : Nat} {cs : Array Value} {t : TypeId}, blk X b cs t → w.heap.size + 1 ≠ b → blk ((((X.setCell ⟨w.heap.size + 1, 0, none⟩ (.int .u32 (pt d 0))).setCell ⟨w.heap.size + 1, 1, none⟩ (.int .u32 (pt d 1))).setCell ⟨w.heap.size + 1, 2, none⟩ (.int .u32 (pt d 2))).setCell ⟨w.heap.size + 1, 3, none⟩ (.int .u32 (pt d 3))) b cs t := fun h hn => blk_other (blk_other (blk_other (blk_other h hn _) hn _) hn _) hn _
      have c2 := blk_set (o4 B2 (by omega)) 0 (.int .u64 (T : Nat))
      have c0 := blk_set (blk_other (c := w.heap.size + 2) (i := 0) (o4 B0 (by omega)) (by omega) (.int .u64 (T : Nat))) 0 (.int .i64 (k' : Nat))
      refine ⟨((((((((((KeepsOthers.setCell _ _ _).trans (KeepsOthers.setCell _ _ _)).trans (KeepsOthers.setCell _ _ _)).trans (KeepsOthers.setCell _ _ _)).trans (KeepsOthers.setCell _ _ _)).trans (KeepsOthers.setCell _ _ _)).trans (keepsOthers_grow _ _ _)).trans (KeepsOthers.alloc _ _)).trans (keepsOthers_grow _ _ _)).trans (KeepsOthers.alloc _ _)), g, k', d, T, HG.out, HD.out, HL.out, H4.out, H5.out, H6.out, H7.out, ?_, ?_, ?_, ?_, ?_⟩
      · exact blk_alloc (blk_grow (blk_alloc (blk_grow c0 _ _) _) _ _) _
      · exact blk_alloc (blk_grow (blk_alloc (blk_grow (blk_other (blk_other c1 (by omega) _) (by omega) _) _ _) _) _ _) _
      · exact blk_alloc (blk_grow (blk_alloc (blk_grow (blk_other c2 (by omega) _) _ _) _) _ _) _
      · exact blk_alloc (blk_grow (blk_alloc (blk_grow (blk_other (blk_other (o4 B3 (by omega)) (by omega) _) (by omega) _) _ _) _) _ _) _
      · repeat (first | (with_reducible exact HB.out) | ((with_reducible refine below_grow ?_ ?_); rotate_left; focus (first | omega | (simp [go_sem]; done) | (simp [go_sem]; omega))) | ((with_reducible refine Below.alloc ?_ ?_ _); rotate_left; focus (first | omega | (simp [go_sem]; done) | (simp [go_sem]; omega))) | ((with_reducible refine Below.setCell ?_ ?_ _); rotate_left; focus (first | omega | (simp [go_sem]; done) | (simp [go_sem]; omega))) | (with_reducible refine Below.drew ?_) | (with_reducible refine below_drewN _ ?_))
  case done =>
    rintro D X ⟨c, k, i, S, h1, h2, h3, h4, h5, h6, h7, b0, b1, b2, b3, hb⟩ hD hX
    have hz : ∀ j, j < c → bt L j = 0 := by
      rw [List.length_map, List.drop_length] at h2
      by_cases hz : L % 2 ^ c = 0
      · exact DB.none_left c hz
      · obtain ⟨g, g1, g2, g3, _⟩ := DB.top_of L c hz
        rw [tops_top g1 g2 g3] at h2; cases h2
    rw [DB.un_end k i hz, Nat.add_zero] at h5
    subst h5
    have k2 : X.cell? ⟨w.heap.size + 1 + 1, 0, none⟩ = some (.int .u64 (un bin L 52 K I : Nat)) := blk_cell b2 0
    have hXlt := (Array.getElem?_eq_some_iff.1 hX).1
    clear b0 b1 b2 b3 h2
    go_wp2
    have hbY : Below w.heap.size w (X.putObj D (.deferred none)) := hb.trans (below_putObj _ _ _ _ (by omega))
    refine ⟨by simp, .inl ⟨_, _, rfl, run_takeDeferred hX, ?_⟩⟩
    refine ⟨_, ?_, rfl, hbY⟩
    simp [results, Try.results33, go_sem]
end Go.Proofs.Ytgcfkhpondemlaa.Ca
