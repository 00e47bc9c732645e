/- CardBack: the walk. -/
import Derived.Test.YtcfkcfbgnciccaaDoorCYa
namespace Go.Proofs.YtcfkcfbgnciccaaDoor
open Go.RowKit

theorem own_cap {w : World} {B n cap : Nat} {A : Option Addr} {e : TypeId} {z : Nat} {cs : List Value} (h : w.ownsRow B e z (.slice A n cap) n cs) : n ≤ cap := by
  rcases h.2 with ⟨h1, h2⟩ | ⟨g, cap', cur, h1, _, _, h2, _⟩
  · omega
  · cases h1
    exact h2
theorem rd8_own {w : World} {B g n cap : Nat} {xs : List Nat} (h : w.ownsRow B 5 1 (.slice (some ⟨g, 0, none⟩) n cap) n (xs.map u8v)) : Rd8 w g 0 xs := by
  intro j x hj
  have hl := h.1
  rw [List.length_map] at hl
  have := (List.getElem?_eq_some_iff.1 hj).1
  rw [Nat.zero_add, h.cellAt j (by omega), List.getElem?_map, hj]
  rfl
theorem mask_at (b n cap : Nat) (xs : List Nat) (m : Nat) (r : Int) (hl : xs.length = n) (h8 : ∀ x ∈ xs, x < 256) (hn : n ≤ 1000000) (hr : mskR 0 xs = (m, r)) (w : World) (hb : b < w.heap.size) (h : Rd8 w b 0 xs) :
    Calls Tryd.prog 20 #[.slice (some ⟨b, 0, none⟩) n cap] w fun e w' => e = .returned (.tuple #[.int .u64 m, .int .i64 r]) ∧ Below w.heap.size w w' := by
  subst hl
  have H := mask_calls b 0 cap xs h8 hn w hb h
  rw [hr] at H
  exact H
set_option maxRecDepth 100000 in
set_option maxHeartbeats 16000000 in
theorem cardBack_some (a0 b0 k : Int) (s : ByteArray) (a b i : Nat) (ha : a < 4503599627370496) (hb : b < 4503599627370496) (h0 : a0.tmod 4503599627370496 = (a : Int)) (h1 : b0.tmod 4503599627370496 = (b : Int))
    (hk : IntKind.i64.wrap k = k) (hki : k.tmod ((cds a).length : Int) = (i : Int)) (hil : i < (cds a).length) (hsz : s.size ≤ 140737488355328) (w : World) (he : Env w) :
    Calls Tryd.prog 6 #[.int .u64 a0, .int .u64 b0, .string s, .int .u8 k] w fun e w' => e = .returned (.bool true) ∧ Below w.heap.size w w' := by
  have WA := Lib.hid (write_yes a ha)
  have WB := Lib.hid (write_yes b hb)
  have hl1 := wrt_length a
  have hl2 := cds_length_le a
  have PA := Lib.hid (parse_some (wrt a) (by omega) a (prs_wrt a ha))
  have LA := Lib.hid (list_yes a ha)
  have CA := Lib.hid (count4_calls a ha)
  have CB := Lib.hid (count4_calls a ha)
  obtain ⟨c, hc⟩ : ∃ c, (cds a)[i]? = some c := ⟨_, List.getElem?_eq_getElem hil⟩
  have hc52 := (cds_mem.1 (List.mem_of_getElem? hc)).1
  have R1 := rot_mask a i ha
  have R2 := rot_twice a i c ha hc
  have hrl : ((cds a).drop i).length + ((cds a).take i).length = (cds a).length := by rw [Nat.add_comm, ← List.length_append, List.take_append_drop]
  have hr8 : ∀ x ∈ (cds a).drop i ++ (cds a).take i, x < 256 := fun x hx => by
    have : x ∈ cds a := by
      rcases List.mem_append.1 hx with h | h
      · exact List.mem_of_mem_drop h
      · exact List.mem_of_mem_take h
    have := (cds_mem.1 this).1
    omega
  have htl : ((cds a).take i).length = i := by rw [List.length_take]; omega
  have hinj : wrt a = wrt b → a = b := wrt_inj ha hb
  obtain ⟨n, hn⟩ : ∃ n, (cds a).length = n := ⟨_, rfl⟩
  obtain ⟨T, hT⟩ : ∃ T, wrt a = T := ⟨_, rfl⟩
  obtain ⟨U, hU⟩ : ∃ U, wrt b = U := ⟨_, rfl⟩
  rw [hn] at hl1 hl2 LA CA CB hki hil hrl
  rw [hT] at WA PA hl1 hinj
  rw [hU] at WB hinj
  have e3 : IntKind.i64.wrap ((n : Int) + 3) = (n : Int) + 3 := IntWalk.i64_in _ (by omega)
  have hn0 : (0 : Int) < n := by omega
  have hnz : ¬ (n : Int) = 0 := by omega
  obtain ⟨d, hd⟩ : ∃ d, (T == U) = d := ⟨_, rfl⟩
  have hx3 : decide ((a : Int) = b) = d := by
    by_cases h : a = b
    · subst h
      rw [← hd, ← hT, ← hU]
      simp
    · rw [decide_eq_false (by omega), ← hd]
      exact (beq_eq_false_iff_ne.2 fun e => h (hinj e)).symm
  have hx2 : ((a : Int) == (b : Int)) = d := by rw [← hx3]; rfl
  have hI1 : (i : Int) ≤ n := by omega
  have hI2 : (i : Int) < n := by omega
  have HH := Lib.hid (And.intro ha (And.intro hb (And.intro hl2 (And.intro hil hc))))
  have HR := Lib.hid (And.intro R1 (And.intro R2 (And.intro hrl (And.intro hr8 htl))))
  have HN := Lib.hid hn
  obtain ⟨i0, hi, hz0, hz1, hz2⟩ := info_parts Tryd.infoU
  clear ha hb hl2 hil hc hc52 R1 R2 hrl hr8 htl hn hinj hT hU
  go_enter Tryd.func6, Tryd.ntmps6
  go_upto_region 3 with (go_at_call 16; refine (WA.out _).mono ?_; rintro e w1 ⟨rfl, hbel⟩; obtain ⟨o1, j1, rfl⟩ := grow_of_below hbel; clear hbel)
  go_upto_region 4 with (go_at_call 16; refine (WB.out _).mono ?_; rintro e w1 ⟨rfl, hbel⟩; obtain ⟨o2, j2, rfl⟩ := grow_of_below hbel; clear hbel)
  go_upto_region 5 with (go_at_call 17; refine (PA.out _ (he.below (by repeat (first | (with_reducible exact Below.refl _ _) | ((with_reducible refine below_grow ?_ ?_); rotate_left; focus (first | omega | (simp [go_sem]; done) | (simp [go_sem]; omega))) | ((with_reducible refine Below.alloc ?_ ?_ _); rotate_left; focus (first | omega | (simp [go_sem]; done) | (simp [go_sem]; omega))) | ((with_reducible refine Below.setCell ?_ ?_ _); rotate_left; focus (first | omega | (simp [go_sem]; done) | (simp [go_sem]; omega))) | (with_reducible refine Below.drew ?_) | (with_reducible refine below_drewN _ ?_))))).mono ?_; rintro e w1 ⟨rfl, hbel⟩; obtain ⟨o3, j3, rfl⟩ := grow_of_below hbel; clear hbel)
  have hb0 : Below w.heap.size w (grow w (o1 ++ (o2 ++ o3)) j3) := by repeat (first | (with_reducible exact Below.refl _ _) | ((with_reducible refine below_grow ?_ ?_); rotate_left; focus (first | omega | (simp [go_sem]; done) | (simp [go_sem]; omega))) | ((with_reducible refine Below.alloc ?_ ?_ _); rotate_left; focus (first | omega | (simp [go_sem]; done) | (simp [go_sem]; omega))) | ((with_reducible refine Below.setCell ?_ ?_ _); rotate_left; focus (first | omega | (simp [go_sem]; done) | (simp [go_sem]; omega))) | (with_reducible refine Below.drew ?_) | (with_reducible refine below_drewN _ ?_))
  go_upto_region 6 with (go_at_call 18; refine (LA.out _).mono ?_; rintro e w4 ⟨v, rfl, hown, hbel⟩; obtain ⟨A, cap, rfl, hA⟩ := own_slice hown)
  have hbw : Below w.heap.size w w4 := hb0.trans (hbel.mono hb0.size)
  clear hb0 hbel
  go_upto_region 8 with (first | (go_at_call 19; refine (CA.out _).mono ?_; clear CA; rintro e w5 ⟨rfl, hbel⟩; obtain ⟨o5, j5, rfl⟩ := grow_of_below hbel; clear hbel) | (go_at_call 19; refine (CB.out _).mono ?_; rintro e w5 ⟨rfl, hbel⟩; obtain ⟨o6, j6, rfl⟩ := grow_of_below hbel; clear hbel))
  go_upto_region 10 with fail
  have hbs := hbw.size
  have hown4 := own_grow hown (o5 ++ o6) j6
  have hb4 : Below w.heap.size w (grow w4 (o5 ++ o6) j6) := by repeat (first | (with_reducible exact hbw) | ((with_reducible refine below_grow ?_ ?_); rotate_left; focus (first | omega | (simp [go_sem]; done) | (simp [go_sem]; omega))) | ((with_reducible refine Below.alloc ?_ ?_ _); rotate_left; focus (first | omega | (simp [go_sem]; done) | (simp [go_sem]; omega))) | ((with_reducible refine Below.setCell ?_ ?_ _); rotate_left; focus (first | omega | (simp [go_sem]; done) | (simp [go_sem]; omega))) | (with_reducible refine Below.drew ?_) | (with_reducible refine below_drewN _ ?_))
  have hm4 := hb4.size
  clear hown hbw hbs
  generalize grow w4 (o5 ++ o6) j6 = W4 at *
  obtain ⟨g, rfl⟩ : ∃ g, A = some ⟨g, 0, none⟩ := by rcases hA with h | h; (· omega); (· exact h)
  have hg := (hown4.lt g rfl).2
  have hcell : ∀ (j x : Nat), (cds a)[j]? = some x → W4.cell? ⟨g, j, none⟩ = some (u8v x) := fun j x hj => by
    have h1 := (List.getElem?_eq_some_iff.1 hj).1
    have := HN.out
    rw [hown4.cellAt j (by omega), List.getElem?_map, hj]
    rfl
  have hncap := own_cap hown4
  have hc1 : i ≤ cap := by omega
  have hc2 : ¬ cap = i := by omega
  have HO := Lib.hid (And.intro hown4 hcell)
  have HC := Lib.hid hncap
  clear hA hown4 hcell hncap
  refine wp_region_any (by kernel_rfl) ?_
  change wpAny _ _ _ _ _ _ _ (World.drew _)
  refine wpAny_take (i := 1) (v := ?v1) rfl (by kernel_rfl) (by kernel_rfl) (by kernel_rfl) (fun _ _ _ h => h) (Or.inl ⟨by rfl, ?y1⟩) ?r1
  case y1 => intro W; go_simp; try with_reducible rfl
  go_simp
  refine wpAny_take (i := 2) (v := ?v2) rfl (by kernel_rfl) (by kernel_rfl) (by kernel_rfl) (fun _ _ _ h => h) (Or.inl ⟨by rfl, ?y2⟩) ?r2
  case y2 => intro W; go_simp; try with_reducible rfl
  go_simp
  refine wpAny_take (i := 3) (v := ?v3) rfl (by kernel_rfl) (by kernel_rfl) (by kernel_rfl) (fun _ _ _ h => h) (Or.inl ⟨by rfl, ?y3⟩) ?r3
  case y3 => intro W; go_simp; try with_reducible rfl
  go_simp
  refine wpAny_take (i := 5) (v := ?v5) rfl (by kernel_rfl) (by kernel_rfl) (by kernel_rfl) (fun _ _ _ h => h) (Or.inl ⟨by rfl, ?y5⟩) ?r5
  case y5 => intro W; go_simp; try with_reducible rfl
  go_simp
  refine wpAny_take (i := 6) (v := ?v6) rfl (by kernel_rfl) (by kernel_rfl) (by kernel_rfl) (fun _ _ _ h => h) (Or.inl ⟨by rfl, ?y6⟩) ?r6
  case y6 => intro W; go_simp; try with_reducible rfl
  go_simp
  refine wpAny_take (i := 7) (v := ?v7) rfl (by kernel_rfl) (by kernel_rfl) (by kernel_rfl) (fun _ _ _ h => h) (Or.inl ⟨by rfl, ?y7⟩) ?r7
  case y7 => intro W; go_simp; try with_reducible rfl
  go_simp
  refine wpAny_ready (rs := [0]) (by kernel_rfl) (by simp) ?_
  refine AllReady.cons rfl (fun K hK => ?_) AllReady.nil
  go_simp
  refine hK _ _ ?_; clear hK K
  refine wpAny_ready (rs := [4]) (by kernel_rfl) (by simp) ?_
  refine AllReady.cons rfl (fun K hK => ?_) AllReady.nil
  refine step_append_own rfl _ _ 25 rfl W4.heap.size 5 i0 (.int .u8 0) 1 1 Tryd.underlying25 hi hz0 hz1 hz2 rfl (by decide) _ 0 [] rfl (World.ownsRow_made W4 #[] 0 (Nat.le_refl _) (Nat.zero_le _) (by simp)) ⟨g, i, none⟩ (n - i) (cap - i) (((cds a).drop i).map u8v) rfl (by have := HR.out; rw [List.length_map]; omega) ?cells1 (fun u hu => by obtain ⟨x, _, rfl⟩ := List.mem_map.1 hu; rfl) (by have := HH.out; unfold maxLen; omega) (by have := HH.out; omega) (by simp) ?_
  case cells1 =>
    intro j u hj
    rw [List.getElem?_map, List.getElem?_drop] at hj
    obtain ⟨x, hx, rfl⟩ := Option.map_eq_some_iff.1 hj
    have h2 := HO.out.2 (i + j) x hx
    have h3 : (⟨g, i, none⟩ : Addr).add j = ⟨g, i + j, none⟩ := by unfold Addr.add; split <;> simp_all
    rw [h3]
    have : NeZero (inW g W4) := inW_mk hg
    simpa [go_sem] using h2
  intro v6 w6 hown6 hgrow6
  have hgrow6 : (W4.alloc (.cells #[] 5)).drew.grownBy w6 (some W4.heap.size) := hgrow6
  have hb6 : Below W4.heap.size W4 w6 := Below.grown (by repeat (first | (with_reducible exact Below.refl _ _) | ((with_reducible refine below_grow ?_ ?_); rotate_left; focus (first | omega | (simp [go_sem]; done) | (simp [go_sem]; omega))) | ((with_reducible refine Below.alloc ?_ ?_ _); rotate_left; focus (first | omega | (simp [go_sem]; done) | (simp [go_sem]; omega))) | ((with_reducible refine Below.setCell ?_ ?_ _); rotate_left; focus (first | omega | (simp [go_sem]; done) | (simp [go_sem]; omega))) | (with_reducible refine Below.drew ?_) | (with_reducible refine below_drewN _ ?_))) hgrow6 (by simp) (fun k hk => by cases hk; exact Nat.le_refl _)
  have hs6 := hb6.size
  refine hK _ _ ?_; clear hK K
  refine wpAny_ready (rs := [8]) (by kernel_rfl) (by simp) ?_
  refine AllReady.cons rfl (fun K hK => ?_) AllReady.nil
  refine step_append_own rfl _ _ 25 rfl W4.heap.size 5 i0 (.int .u8 0) 1 1 Tryd.underlying25 hi hz0 hz1 hz2 rfl (by decide) v6 (0 + (n - i)) _ rfl hown6 ⟨g, 0, none⟩ i cap (((cds a).take i).map u8v) rfl (by have := HR.out; rw [List.length_map]; omega) ?cells2 (fun u hu => by obtain ⟨x, _, rfl⟩ := List.mem_map.1 hu; rfl) (by have := HH.out; unfold maxLen; omega) (by have := HH.out; omega) (by omega) ?_
  case cells2 =>
    intro j u hj
    rw [List.getElem?_map, List.getElem?_take] at hj
    obtain ⟨x, hx, rfl⟩ := Option.map_eq_some_iff.1 hj
    split at hx
    · have h2 := HO.out.2 j x hx
      have h3 : (⟨g, 0, none⟩ : Addr).add j = ⟨g, j, none⟩ := by unfold Addr.add; split <;> simp_all
      rw [h3]
      exact (hb6.cell (p := ⟨g, j, none⟩) hg).trans h2
    · cases hx
  intro v8 w8 hown8 hgrow8
  have hgrow8 : w6.grownBy w8 v6.ownBlock := hgrow8
  have hb8 : Below W4.heap.size W4 w8 := Below.grown hb6 hgrow8 hs6 (fun k hk => own_block_ge hown6 hk)
  have hs8 := hb8.size
  have hown8 : w8.ownsRow W4.heap.size 5 1 v8 n (((cds a).drop i ++ (cds a).take i).map u8v) := by
    have h := hown8
    rw [List.nil_append, ← List.map_append, show 0 + (n - i) + i = n by have := HH.out; omega] at h
    exact h
  obtain ⟨A8, cap8, rfl, hA8⟩ := own_slice hown8
  obtain ⟨g8, rfl⟩ : ∃ g, A8 = some ⟨g, 0, none⟩ := by rcases hA8 with h | h; (· omega); (· exact h)
  have hg8 := (hown8.lt g8 rfl).2
  have c8 : w8.cell? ⟨g, i, none⟩ = some (u8v c) := (hb8.cell (p := ⟨g, i, none⟩) hg).trans (HO.out.2 i c HH.out.2.2.2.2)
  have iG : NeZero (inW g w8) := inW_mk (by omega)
  clear hown6 hgrow6 hb6 hs6 hgrow8 hA8 hc1 hc2
  refine hK _ _ ?_; clear hK K
  refine wpAny_ready (rs := [9]) (by kernel_rfl) (by simp) ?_
  refine AllReady.cons rfl (fun K hK => ?_) AllReady.nil
  go_simp
  refine hK _ _ ?_; clear hK K
  refine wpAny_done (by kernel_rfl) ?_ _
  have hrl := HR.out.2.2.1
  have hb8w : Below w.heap.size w w8 := hb4.trans (hb8.mono hb4.size)
  have hrlen : ((cds a).drop i ++ (cds a).take i).length = n := by rw [List.length_append]; exact hrl
  have M1 := fun W h1 h2 => mask_calls g8 0 cap8 ((cds a).drop i ++ (cds a).take i) HR.out.2.2.2.1 (by rw [hrlen]; have := HH.out; omega) W h1 h2
  rw [hrlen, HR.out.1] at M1
  have M1 := Lib.hid M1
  have HR8 := Lib.hid (rd8_own hown8)
  have HO8 := Lib.hid hown8
  have hs8w := hb8w.size
  clear hrl hrlen hown8
  go_upto_region 14 with (go_at_call 20; refine (M1.out _ (by first | omega | (simp [go_sem]; omega)) HR8.out).mono ?_; rintro e w9 ⟨rfl, hbel⟩; obtain ⟨o9, j9, rfl⟩ := grow_of_below hbel; clear hbel)
  have hb9 : Below w.heap.size w (grow w8 o9 j9) := by repeat (first | (with_reducible exact hb8w) | ((with_reducible refine below_grow ?_ ?_); rotate_left; focus (first | omega | (simp [go_sem]; done) | (simp [go_sem]; omega))) | ((with_reducible refine Below.alloc ?_ ?_ _); rotate_left; focus (first | omega | (simp [go_sem]; done) | (simp [go_sem]; omega))) | ((with_reducible refine Below.setCell ?_ ?_ _); rotate_left; focus (first | omega | (simp [go_sem]; done) | (simp [go_sem]; omega))) | (with_reducible refine Below.drew ?_) | (with_reducible refine below_drewN _ ?_))
  have hown9 := own_grow HO8.out o9 j9
  have c9 : (grow w8 o9 j9).cell? ⟨g, i, none⟩ = some (u8v c) := by simp [go_sem, c8]
  have hs9 : W4.heap.size ≤ (grow w8 o9 j9).heap.size := by simp [go_sem]; omega
  clear M1 HR8 HO8 hb8w hs8w hb8 c8
  generalize grow w8 o9 j9 = W9 at *
  have HB9 := Lib.hid (And.intro hb9 hs9)
  have hm9 := hb9.size
  clear hb9 hs9 hs8 hg8 hb4
  have hc256 : c < 256 := by have := (cds_mem.1 (List.mem_of_getElem? HH.out.2.2.2.2)).1; omega
  have HR2 := Lib.hid (And.intro HR.out.2.1 hc256)
  clear hc256
  go_upto_region 17 with (first | (at_builtin; refine wpList_append_own _ rfl _ _ 25 rfl W4.heap.size 5 i0 (.int .u8 0) 1 1 Tryd.underlying25 hi hz0 hz1 hz2 rfl (by decide) (.slice (some ⟨g8, 0, none⟩) n cap8) n _ rfl (hown9.alloc _) ⟨W9.heap.size, 0, none⟩ 1 1 [u8v c] rfl rfl (news1 _ _ _ _ rfl rfl) (fun u hu => by simp only [List.mem_singleton] at hu; subst hu; rfl) (by have := HH.out; unfold maxLen; omega) (by have := HH.out; omega) (by have := HB9.out.2; simp; omega) ?_; intro v10 w10 hown10 hgrow10 _; obtain ⟨g10, cap10, rfl⟩ := ownsRow_succ hown10; have hb10 : Below w.heap.size w w10 := (HB9.out.1.alloc hm9 _).grown hgrow10 (by simp; omega) (fun k hk => by have := own_block_ge hown9 hk; have := hm4; omega); have hg10 := (hown10.lt g10 rfl).2; have hl10 : (((cds a).drop i ++ (cds a).take i) ++ [c]).length = n + 1 := (by have := HR.out.2.2.1; simp only [List.length_append, List.length_cons, List.length_nil]; omega); have hr10 : Rd8 w10 g10 0 (((cds a).drop i ++ (cds a).take i) ++ [c]) := rd8_own (by rw [List.map_append]; exact hown10)) | (go_at_call 20; refine (mask_at g10 (n + 1) cap10 _ 0 42 hl10 (by intro x hx; rcases List.mem_append.1 hx with h | h; (· exact HR.out.2.2.2.1 x h); (· simp only [List.mem_singleton] at h; subst h; exact HR2.out.2)) (by have := HH.out; omega) HR2.out.1 _ (by omega) hr10).mono ?_; rintro e w11 ⟨rfl, hbel⟩; obtain ⟨o10, j10, rfl⟩ := grow_of_below hbel; clear hbel))
  have hs10 := hb10.size
  clear hr10 hown10 hgrow10 hl10 hg10 hown9 HB9 hm9
  have PS := Lib.hid (parse_any s hsz)
  cases hp : prs s.data.toList with
  | none =>
    rw [hp] at PS
    simp only [parV] at PS
    go_upto_region 18 with (go_at_call 17; refine (PS.out _).mono ?_; rintro e w11 ⟨rfl, hbel⟩; obtain ⟨o11, j11, rfl⟩ := grow_of_below hbel; clear hbel)
    go_wp2_with (go_at_call 12; refine (awake_calls _ (he.below (by repeat (first | (with_reducible exact hb10) | ((with_reducible refine below_grow ?_ ?_); rotate_left; focus (first | omega | (simp [go_sem]; done) | (simp [go_sem]; omega))) | ((with_reducible refine Below.alloc ?_ ?_ _); rotate_left; focus (first | omega | (simp [go_sem]; done) | (simp [go_sem]; omega))) | ((with_reducible refine Below.setCell ?_ ?_ _); rotate_left; focus (first | omega | (simp [go_sem]; done) | (simp [go_sem]; omega))) | (with_reducible refine Below.drew ?_) | (with_reducible refine below_drewN _ ?_))))).mono ?_; rintro e w13 ⟨rfl, hbel⟩; obtain ⟨o13, j13, rfl⟩ := grow_of_below hbel; clear hbel)
    go_ret
    exact ⟨rfl, by repeat (first | (with_reducible exact hb10) | ((with_reducible refine below_grow ?_ ?_); rotate_left; focus (first | omega | (simp [go_sem]; done) | (simp [go_sem]; omega))) | ((with_reducible refine Below.alloc ?_ ?_ _); rotate_left; focus (first | omega | (simp [go_sem]; done) | (simp [go_sem]; omega))) | ((with_reducible refine Below.setCell ?_ ?_ _); rotate_left; focus (first | omega | (simp [go_sem]; done) | (simp [go_sem]; omega))) | (with_reducible refine Below.drew ?_) | (with_reducible refine below_drewN _ ?_))⟩
  | some x =>
    rw [hp] at PS
    simp only [parV] at PS
    obtain ⟨hx, hwx⟩ := wrt_prs hp
    have WX := Lib.hid (write_yes x hx)
    have hsx : s = ⟨(wrt x).toArray⟩ := by rw [hwx]
    subst hsx
    obtain ⟨X, hX⟩ : ∃ X, wrt x = X := ⟨_, rfl⟩
    simp only [hX] at PS WX
    clear hp hx hwx hsz
    rw [hX]
    clear hX
    go_upto_region 18 with (go_at_call 17; refine (PS.out _).mono ?_; rintro e w11 ⟨rfl, hbel⟩; obtain ⟨o11, j11, rfl⟩ := grow_of_below hbel; clear hbel)
    go_wp2_with (first | (go_at_call 16; refine (WX.out _).mono ?_; rintro e w12 ⟨rfl, hbel⟩; obtain ⟨o12, j12, rfl⟩ := grow_of_below hbel; clear hbel) | (go_at_call 12; refine (awake_calls _ (he.below (by repeat (first | (with_reducible exact hb10) | ((with_reducible refine below_grow ?_ ?_); rotate_left; focus (first | omega | (simp [go_sem]; done) | (simp [go_sem]; omega))) | ((with_reducible refine Below.alloc ?_ ?_ _); rotate_left; focus (first | omega | (simp [go_sem]; done) | (simp [go_sem]; omega))) | ((with_reducible refine Below.setCell ?_ ?_ _); rotate_left; focus (first | omega | (simp [go_sem]; done) | (simp [go_sem]; omega))) | (with_reducible refine Below.drew ?_) | (with_reducible refine below_drewN _ ?_))))).mono ?_; rintro e w13 ⟨rfl, hbel⟩; obtain ⟨o13, j13, rfl⟩ := grow_of_below hbel; clear hbel))
    go_ret
    exact ⟨rfl, by repeat (first | (with_reducible exact hb10) | ((with_reducible refine below_grow ?_ ?_); rotate_left; focus (first | omega | (simp [go_sem]; done) | (simp [go_sem]; omega))) | ((with_reducible refine Below.alloc ?_ ?_ _); rotate_left; focus (first | omega | (simp [go_sem]; done) | (simp [go_sem]; omega))) | ((with_reducible refine Below.setCell ?_ ?_ _); rotate_left; focus (first | omega | (simp [go_sem]; done) | (simp [go_sem]; omega))) | (with_reducible refine Below.drew ?_) | (with_reducible refine below_drewN _ ?_))⟩
end Go.Proofs.YtcfkcfbgnciccaaDoor
