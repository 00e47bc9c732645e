/- turned: the walk. -/
import Derived.Test.YtgndhdcnofblaaaDoorHU0
import Derived.Deep.LoopGhost
import Derived.Deep.RegionLaw
import Derived.Laws.IdiomCopy
import Derived.OwnWalk
import Derived.Laws.OwnMore
namespace Go.Proofs.YtgndhdcnofblaaaDoor
open Go.RowKit

theorem Tryd.infoI : (Tryd.prog.info? 3).map (fun i => (i.zero, i.size, i.bytes)) = some (some (.int .i64 0), 1, 8) := by kernel_rfl
theorem slice_lo (g q k : Nat) (hk : k ≤ 4) (W : World) : (Instr.slice 45 (.slice (some ⟨g, 0, none⟩) q 4) none (some (.int .i64 k)) none).run Tryd.prog W = .ok (.slice (some ⟨g, 0, none⟩) k 4) W := by
  have z := Tryd.sizeOf3
  have u := Tryd.underlying45
  have hk2 : (k : Int) ≤ 4 := by omega
  simp [go_sem, hk2, *]
theorem slice_hi (g q d : Nat) (hq : q ≤ 4) (hd : d ≤ q) : ∃ A2 : Addr, (∀ W, (Instr.slice 45 (.slice (some ⟨g, 0, none⟩) q 4) (some (.int .i64 d)) none none).run Tryd.prog W = .ok (.slice (some A2) (q - d) (4 - d)) W) ∧ ∀ j, j < q - d → A2.add j = ⟨g, d + j, none⟩ := by
  have z := Tryd.sizeOf3
  have u := Tryd.underlying45
  have hd2 : (d : Int) ≤ q := by omega
  by_cases h4 : d = 4
  · refine ⟨⟨g, 0, none⟩, fun W => ?_, fun j hj => by omega⟩
    subst h4
    obtain rfl : q = 4 := by omega
    simp [go_sem, *]
  · refine ⟨⟨g, d, none⟩, fun W => ?_, fun j hj => ?_⟩
    · have h5 : ¬ 4 = d := fun e => h4 e.symm
      simp [go_sem, hd2, h5, *]
    · unfold Addr.add; split <;> simp_all
/-- The block g has four cells; the first are the suits left. -/
structure Left (w : World) (g : Nat) (xs : List Nat) : Prop where
  cell : ∀ j x, xs[j]? = some x → w.cell? ⟨g, j, none⟩ = some (.int .i64 (x : Nat))
  some : ∀ j, j < 4 → (w.cell? ⟨g, j, none⟩).isSome = true
  free : ∀ j, w.frozen? ⟨g, j, none⟩ = false
  lt : g < w.heap.size
theorem size_setC (b : Nat) : ∀ (vs : List Value) (o : Nat) (w : World), (w.setCells b o vs).heap.size = w.heap.size
  | [], _, _ => rfl
  | v :: r, o, w => by rw [World.setCells, size_setC b r]; simp [World.setCell]
theorem below_setC {B : Nat} {a : World} (b : Nat) (hb : B ≤ b) : ∀ (vs : List Value) (o : Nat) {w : World}, Below B a w → Below B a (w.setCells b o vs)
  | [], _, _, h => h
  | v :: r, o, w, h => below_setC b hb r (o + 1) (h.setCell hb v)
theorem left_erase {wr : World} {g q k d : Nat} {l l' : List Nat} (h : Left wr g l) (hq : q ≤ 4) (len : l.length = q) (rn : l' = l.eraseIdx k) (hd : k + 1 = d) (hdq : d ≤ q) (W : World) (hc : ∀ x, W.cell? x = wr.cell? x) (hf : ∀ x, W.frozen? x = wr.frozen? x) (hs : W.heap.size = wr.heap.size) :
    Left (W.setCells g k ((l.map fun x : Nat => Value.int .i64 (x : Int)).drop d)) g l' := by
  rw [← List.map_drop]
  have hl : ((l.drop d).map fun x : Nat => Value.int .i64 (x : Int)).length = q - d := by rw [List.length_map, List.length_drop, len]
  have hin : ∀ j, j < ((l.drop d).map fun x : Nat => Value.int .i64 (x : Int)).length → (W.cell? ⟨g, k + j, none⟩).isSome = true := fun j hj => by
    rw [hl] at hj
    rw [hc]
    exact h.some _ (by omega)
  refine ⟨fun j x hj => ?_, fun j hj => ?_, fun j => ?_, ?_⟩
  · rw [rn, List.getElem?_eraseIdx] at hj
    by_cases hjk : j < k
    · rw [if_pos hjk] at hj
      rw [World.cell?_setCells_out _ _ _ _ _ (fun _ _ => .inl hjk), hc]
      exact h.cell _ _ hj
    · rw [if_neg hjk] at hj
      have hj2 := (List.getElem?_eq_some_iff.1 hj).1
      have := World.cell?_setCells_in g _ k W hin (j - k) (by rw [hl]; omega)
      rw [show k + (j - k) = j by omega] at this
      rw [this]
      simp only [List.getElem_map, List.getElem_drop]
      have e : d + (j - k) = j + 1 := by omega
      simp only [e]
      rw [(List.getElem?_eq_some_iff.1 hj).2]
  · by_cases hjk : k ≤ j ∧ j - k < q - d
    · have := World.cell?_setCells_in g _ k W hin (j - k) (by rw [hl]; omega)
      rw [show k + (j - k) = j by omega] at this
      rw [this]
      rfl
    · rw [World.cell?_setCells_out _ _ _ _ _ (fun _ _ => by rw [hl]; show j < k ∨ k + (q - d) ≤ j; omega), hc]
      exact h.some _ hj
  · rw [World.frozen?_setCells, hf]
    exact h.free _
  · rw [size_setC, hs]
    exact h.lt
set_option maxRecDepth 100000 in
set_option maxHeartbeats 8000000 in
theorem turned_calls (m : Nat) (hm : m < 18446744073709551616) (v : Nat) (hv : v < 256) (w : World) :
    Calls Tryd.prog 18 #[.int .u64 m, .int .u8 v] w fun e w' => e = .returned (.int .u64 (ott m (v % 24) 4)) ∧ Below w.heap.size w w' := by
  obtain ⟨i0, hi, hz0, hz1, hz2⟩ := info_parts Tryd.infoI
  have e0 : IntKind.i64.wrap (v : Int) = v := IntWalk.i64_in _ (by omega)
  have e1 : (v : Int).tmod 24 = ((v % 24 : Nat) : Int) := by rw [Int.tmod_eq_emod_of_nonneg (by omega)]; omega
  have e1' : (v : Int) % 24 = ((v % 24 : Nat) : Int) := by omega
  obtain ⟨y, hy⟩ : ∃ y : Fin 24, v % 24 = y.val := ⟨⟨v % 24, Nat.mod_lt _ (by decide)⟩, rfl⟩
  rw [hy] at e1 e1' ⊢
  have L0 := rmt_len0 y
  have T0 := tg_lt0 y
  have OL := ott_lt m y
  have yl := y.isLt
  generalize y.val = y at *
  have L0 := Lib.hid L0
  have T0 := Lib.hid T0
  have OL := Lib.hid OL
  have HV := Lib.hid hv
  clear hy hv
  go_enter Tryd.func18, Tryd.ntmps18
  go_wp2
  go_loopw [5, 6, 7, 8] (fun s5 s6 s7 s8 wr => ∃ t : Nat, s5 = .slice (some ⟨w.heap.size, 0, none⟩) (4 - t) 4 ∧ s6 = .int .u64 (ott m y t) ∧ s7 = .int .i64 (nwt y t) ∧ s8 = .int .i64 (3 - (t : Int)) ∧ t ≤ 4 ∧ Left wr w.heap.size (rmt y t) ∧ Below w.heap.size w wr) (fun _ _ _ s8 _ => (intOf s8 + 1).toNat)
  case atStart =>
    refine ⟨0, rfl, rfl, rfl, rfl, by decide, ⟨fun j x hj => ?_, fun j hj => ?_, fun j => ?_, by simp⟩, by repeat (first | (with_reducible exact Below.refl _ _) | ((with_reducible refine below_grow ?_ ?_); rotate_left; focus (first | omega | (simp [go_sem]; done) | (simp [go_sem]; omega))) | ((with_reducible refine Below.alloc ?_ ?_ _); rotate_left; focus (first | omega | (simp [go_sem]; done) | (simp [go_sem]; omega))) | ((with_reducible refine Below.setCell ?_ ?_ _); rotate_left; focus (first | omega | (simp [go_sem]; done) | (simp [go_sem]; omega))) | (with_reducible refine Below.drew ?_) | (with_reducible refine below_drewN _ ?_))⟩
    · match j with
      | 0 => cases hj; simp [go_sem]
      | 1 => cases hj; simp [go_sem]
      | 2 => cases hj; simp [go_sem]
      | 3 => cases hj; simp [go_sem]
      | j + 4 => simp [rmt] at hj
    · match j, hj with
      | 0, _ => simp [go_sem]
      | 1, _ => simp [go_sem]
      | 2, _ => simp [go_sem]
      | 3, _ => simp [go_sem]
    · simp [go_sem]
  case round =>
    obtain ⟨t, rfl, rfl, rfl, rfl, ht, hL, hb⟩ := hrel
    by_cases hlt : t < 4
    · have len : (rmt y t).length = 4 - t := L0.out ⟨t, by omega⟩
      have hq : kt y t < 4 - t := Nat.mod_lt _ (by omega)
      have tl : tg y t < 4 := T0.out ⟨t, hlt⟩
      have nl := nwt_le y t
      have ol := OL.out t ht
      have ol2 := OL.out (t + 1) hlt
      have on : ott m y (t + 1) = ott m y t ||| hol m (3 - t) * 2 ^ (13 * tg y t) := rfl
      have rn : rmt y (t + 1) = (rmt y t).eraseIdx (kt y t) := rfl
      have nn : nwt y (t + 1) = nwt y t / (4 - t) := rfl
      have kd : kt y t = nwt y t % (4 - t) := rfl
      have tgd : tg y t = (rmt y t).getD (kt y t) 0 := rfl
      obtain ⟨u, hu⟩ : ∃ u, 3 - t = u := ⟨_, rfl⟩
      have hu2 : (3 : Int) - t = (u : Int) := by omega
      have hu3 : 4 - t = u + 1 := by omega
      rw [hu3] at len hq nn kd
      rw [hu2, hu3]
      have tgc : (rmt y t)[kt y t]? = some (tg y t) := by rw [tgd, List.getD_eq_getElem?_getD, List.getElem?_eq_getElem (by omega)]; rfl
      have c1 := hL.cell _ _ tgc
      have HLf := Lib.hid hL
      have hsz := hb.size
      obtain ⟨n, hn⟩ : ∃ x, nwt y t = x := ⟨_, rfl⟩
      obtain ⟨n2, hn2⟩ : ∃ x, nwt y (t + 1) = x := ⟨_, rfl⟩
      rw [hn] at nn nl kd ⊢
      rw [hn2] at nn
      obtain ⟨k, hk⟩ : ∃ x, kt y t = x := ⟨_, rfl⟩
      rw [hk] at kd hq c1 rn
      obtain ⟨p, hp⟩ : ∃ x, tg y t = x := ⟨_, rfl⟩
      rw [hp] at tl c1 on
      obtain ⟨o, ho⟩ : ∃ x, ott m y t = x := ⟨_, rfl⟩
      obtain ⟨o2, ho2⟩ : ∃ x, ott m y (t + 1) = x := ⟨_, rfl⟩
      rw [ho] at on ol ⊢
      rw [ho2] at on ol2
      rw [hu] at on
      have hul : u < 4 := by omega
      have hh := hol_lt m u
      have d1 : IntKind.i64.wrap ((u : Int) + 1) = ((u + 1 : Nat) : Int) := by rw [IntWalk.i64_in _ (by omega)]; omega
      have d2 : (n : Int).tmod ((u + 1 : Nat) : Int) = (k : Int) := by rw [kd]; rfl
      have d2' : (n : Int) % ((u + 1 : Nat) : Int) = (k : Int) := by rw [kd]; rfl
      have d3 : (n : Int).tdiv ((u + 1 : Nat) : Int) = (n2 : Int) := by rw [nn]; rfl
      have d3' : (n : Int) / ((u + 1 : Nat) : Int) = (n2 : Int) := by rw [nn]; rfl
      have d4 : IntKind.i64.wrap ((13 : Int) * u) = ((13 * u : Nat) : Int) := by rw [IntWalk.i64_in _ (by omega)]; omega
      have d5 : min (13 * u) 64 = 13 * u := by omega
      have d6 : bits .and .u64 ((m : Int) / 2 ^ (13 * u)) 8191 = (hol m u : Int) := by
        have e3 : (m : Int) / 2 ^ (13 * u) = ((m / 2 ^ (13 * u) : Nat) : Int) := by simp
        have h2 : m / 2 ^ (13 * u) ≤ m := Nat.div_le_self _ _
        rw [e3]
        have := u64_and_nat (m / 2 ^ (13 * u)) 8191 (by omega) (by decide)
        rw [show 8191 = 2 ^ 13 - 1 from rfl, Nat.and_two_pow_sub_one_eq_mod] at this
        exact this
      have d7 : IntKind.i64.wrap ((13 : Int) * p) = ((13 * p : Nat) : Int) := by rw [IntWalk.i64_in _ (by omega)]; omega
      have d8 : min (13 * p) 64 = 13 * p := by omega
      have hp4 : hol m u * 2 ^ (13 * p) < 4503599627370496 := by
        have h4 : 2 ^ (13 * p) ≤ 2 ^ 39 := Nat.pow_le_pow_right (by decide) (by omega)
        calc hol m u * 2 ^ (13 * p) ≤ hol m u * 2 ^ 39 := Nat.mul_le_mul_left _ h4
          _ < 2 ^ 52 := by omega
      have d9 : IntKind.u64.wrap ((hol m u : Int) * 2 ^ (13 * p)) = ((hol m u * 2 ^ (13 * p) : Nat) : Int) := by
        have e : (hol m u : Int) * 2 ^ (13 * p) = ((hol m u * 2 ^ (13 * p) : Nat) : Int) := by simp
        rw [e]
        exact IntWalk.u64_in _ (by omega)
      have d10 : bits .or .u64 (o : Int) ((hol m u * 2 ^ (13 * p) : Nat) : Int) = (o2 : Int) := by rw [on]; exact u64_or_nat _ _ (by omega) (by omega)
      obtain ⟨h, hh2⟩ : ∃ x, hol m u = x := ⟨_, rfl⟩
      rw [hh2] at d6 d9 d10
      obtain ⟨tu, htu⟩ : ∃ x, 13 * u = x := ⟨_, rfl⟩
      rw [htu] at d4 d5 d6
      obtain ⟨tp, htp⟩ : ∃ x, 13 * p = x := ⟨_, rfl⟩
      rw [htp] at d7 d8 d9 d10
      obtain ⟨hs, hhs⟩ : ∃ x, h * 2 ^ tp = x := ⟨_, rfl⟩
      rw [hhs] at d9 d10
      obtain ⟨q, hq2⟩ : ∃ x, u + 1 = x := ⟨_, rfl⟩
      rw [hq2] at d1 d2 d2' d3 d3' len hq ⊢
      have d11 : ¬ (q : Int) = 0 := by omega
      have d12 : IntKind.i64.wrap (n2 : Int) = n2 := IntWalk.i64_in _ (by have : n2 ≤ n := by rw [nn]; exact Nat.div_le_self _ _
                                                                          omega)
      have d13 : IntKind.i64.wrap ((u : Int) - 1) = (u : Int) - 1 := IntWalk.i64_in _ (by omega)
      have d14 : IntKind.i64.wrap ((k : Int) + 1) = ((k + 1 : Nat) : Int) := by rw [IntWalk.i64_in _ (by omega)]; omega
      have hkq : (k : Int) < q := by omega
      have hk4 : k ≤ 4 := by omega
      have hk5 : k + 1 ≤ q := by omega
      obtain ⟨d, hd⟩ : ∃ d, k + 1 = d := ⟨_, rfl⟩
      rw [hd] at d14 hk5
      have hd4 : d ≤ q := hk5
      have sl1 : ∀ W, (Instr.slice 45 (.slice (some ⟨w.heap.size, 0, none⟩) q 4) none (some (.int .i64 k)) none).run Tryd.prog W = .ok (.slice (some ⟨w.heap.size, 0, none⟩) k 4) W := fun W => slice_lo w.heap.size q k hk4 W
      obtain ⟨A2, sl2, hA2⟩ := slice_hi w.heap.size q d (by omega) hd4
      have hL2 := hL.cell
      have HQ4 : q ≤ 4 := by omega
      have HB := Lib.hid hb
      have HT := Lib.hid hlt
      clear hn hk hp ho hh2 htu htp hhs hp4 hh on nn kd tgd ol ol2 tgc tl L0 T0 OL
      go_upto_region 9 with fail
      go_region
      go_upto_region 10 with fail
      refine wp_region_any (by kernel_rfl) ?_
      change wpAny _ _ _ _ _ _ _ (World.drew _)
      refine wpAny_take (i := 0) (v := ?v0k1) rfl (by kernel_rfl) (by kernel_rfl) (by kernel_rfl) (fun _ _ _ h => h) (Or.inl ⟨by rfl, ?y0k1⟩) ?r0k1
      case y0k1 => intro W; go_simp; try with_reducible rfl
      go_simp
      refine wpAny_take (i := 1) (v := ?v1k2) rfl (by kernel_rfl) (by kernel_rfl) (by kernel_rfl) (fun _ _ _ h => h) (Or.inl ⟨by rfl, ?y1k2⟩) ?r1k2
      case y1k2 => intro W; go_simp; try with_reducible rfl
      go_simp
      refine wpAny_take (i := 2) (v := ?v2k3) rfl (by kernel_rfl) (by kernel_rfl) (by kernel_rfl) (fun _ _ _ h => h) (Or.inl ⟨by rfl, ?y2k3⟩) ?r2k3
      case y2k3 => intro W; go_simp; try with_reducible rfl
      go_simp
      refine wpAny_take (i := 3) (v := ?v3k4) rfl (by kernel_rfl) (by kernel_rfl) (by kernel_rfl) (fun _ _ _ h => h) (Or.inl ⟨by rfl, ?y3k4⟩) ?r3k4
      case y3k4 => intro W; go_simp; try with_reducible rfl
      go_simp
      refine wpAny_take (i := 4) (v := ?v4k5) rfl (by kernel_rfl) (by kernel_rfl) (by kernel_rfl) (fun _ _ _ h => h) (Or.inl ⟨by rfl, ?y4k5⟩) ?r4k5
      case y4k5 => intro W; go_simp; try with_reducible rfl
      go_simp
      refine wpAny_take (i := 5) (v := ?v5k6) rfl (by kernel_rfl) (by kernel_rfl) (by kernel_rfl) (fun _ _ _ h => h) (Or.inl ⟨by rfl, ?y5k6⟩) ?r5k6
      case y5k6 => intro W; go_simp; try with_reducible rfl
      go_simp
      refine wpAny_take (i := 6) (v := ?v6k7) rfl (by kernel_rfl) (by kernel_rfl) (by kernel_rfl) (fun _ _ _ h => h) (Or.inl ⟨by rfl, ?y6k7⟩) ?r6k7
      case y6k7 => intro W; go_simp; try with_reducible rfl
      go_simp
      refine wpAny_ready (rs := [7]) (by kernel_rfl) (by simp) ?_
      refine AllReady.cons rfl (fun K hK => ?_) AllReady.nil
      refine step_append_room rfl (Operand.tmp 41) (Operand.tmp 45) 45 rfl 3 i0 1 Tryd.underlying45 hi hz1 w.heap.size 0 k 4 rfl A2 (q - d) (4 - d) (((rmt y t).drop d).map fun x : Nat => Value.int .i64 (x : Int)) rfl (by simp [len]) ?_ ?_ ?_ ?_ ?_
      · intro j u hj
        rw [List.getElem?_map, List.getElem?_drop] at hj
        obtain ⟨x, hx, rfl⟩ := Option.map_eq_some_iff.1 hj
        rw [hA2 j (by have := (List.getElem?_eq_some_iff.1 hx).1; omega)]
        exact HLf.out.cell _ _ hx
      · intro u hu
        obtain ⟨x, _, rfl⟩ := List.mem_map.1 hu
        rfl
      · omega
      · intro j hj
        rw [List.length_map, List.length_drop, len] at hj
        exact ⟨HLf.out.some _ (by omega), HLf.out.free _⟩
      refine hK _ _ ?_; clear hK K
      refine wpAny_take (i := 8) (v := ?v8k8) rfl (by kernel_rfl) (by kernel_rfl) (by kernel_rfl) (fun _ _ _ h => h) (Or.inl ⟨by rfl, ?y8k8⟩) ?r8k8
      case y8k8 => intro W; go_simp; try with_reducible rfl
      go_simp
      refine wpAny_done (by kernel_rfl) ?_ _
      go_wp2
      go_roundw
      case rel =>
        have hk2 := hd
        have hs3 : k + (q - d) = 4 - (t + 1) := by have := HT.out; omega
        refine ⟨t + 1, by rw [hs3], by rw [ho2], by rw [hn2], by have := HT.out; simp; omega, HT.out, ?_, ?_⟩
        · exact left_erase HLf.out HQ4 len rn hk2 hd4 _ (fun _ => rfl) (fun _ => rfl) rfl
        · refine below_setC _ (Nat.le_refl _) _ _ ?_
          repeat (first | (with_reducible exact hb) | ((with_reducible refine below_grow ?_ ?_); rotate_left; focus (first | omega | (simp [go_sem]; done) | (simp [go_sem]; omega))) | ((with_reducible refine Below.alloc ?_ ?_ _); rotate_left; focus (first | omega | (simp [go_sem]; done) | (simp [go_sem]; omega))) | ((with_reducible refine Below.setCell ?_ ?_ _); rotate_left; focus (first | omega | (simp [go_sem]; done) | (simp [go_sem]; omega))) | (with_reducible refine Below.drew ?_) | (with_reducible refine below_drewN _ ?_))
      case measure => simp [intOf]
    · obtain rfl : t = 4 := by omega
      go_wp2
      go_ret
      exact ⟨rfl, hb⟩
end Go.Proofs.YtgndhdcnofblaaaDoor
