/- The reference: Balanced, Suits. -/
import Derived.Test.YtgndhdcnofblaaaDoorRE
import Derived.Test.YtgndhdcnofblaaaDoorHX
namespace Go.Proofs.YtgndhdcnofblaaaDoor
open Go.RowKit

set_option maxRecDepth 100000 in
set_option maxHeartbeats 4000000 in
theorem refBalanced (m : Nat) (hm : m < 18446744073709551616) (w : World) : Calls Tryd.prog 36 #[.int .u64 m] w fun e w' => e = .returned (.bool (bal m)) ∧ Below w.heap.size w w' := by
  have R := refRight m hm
  have P := Lib.hid (refPattern m hm)
  unfold bal
  obtain ⟨r, hr⟩ : ∃ r, decide (m < 4503599627370496 ∧ cnt m = 13) = r := ⟨_, rfl⟩
  obtain ⟨p, hp⟩ : ∃ p, pat m = p := ⟨_, rfl⟩
  rw [hr] at R ⊢
  rw [hp] at P ⊢
  have R := Lib.hid R
  clear hr hp hm
  cases r
  · rw [Bool.false_and]
    go_enter Tryd.func36, Tryd.ntmps36
    go_wp2_with (first | (go_at_call 29; refine (R.out _).mono ?_; rintro e w1 ⟨rfl, rfl⟩) | (go_at_call 35; refine (P.out _).mono ?_; rintro e w1 ⟨rfl, hbel⟩; obtain ⟨o1, j1, rfl⟩ := grow_of_below hbel; clear hbel))
    go_ret
    refine ⟨rfl, by repeat (first | (with_reducible exact Below.refl _ _) | ((with_reducible refine below_grow ?_ ?_); rotate_left; focus (first | omega | (simp [go_sem]; done) | (simp [go_sem]; omega))) | ((with_reducible refine Below.alloc ?_ ?_ _); rotate_left; focus (first | omega | (simp [go_sem]; done) | (simp [go_sem]; omega))) | ((with_reducible refine Below.setCell ?_ ?_ _); rotate_left; focus (first | omega | (simp [go_sem]; done) | (simp [go_sem]; omega))) | (with_reducible refine Below.drew ?_) | (with_reducible refine below_drewN _ ?_))⟩
  · rw [Bool.true_and]
    unfold b1 b2 b3
    go_enter Tryd.func36, Tryd.ntmps36
    go_wp2_with (first | (go_at_call 29; refine (R.out _).mono ?_; rintro e w1 ⟨rfl, rfl⟩) | (go_at_call 35; refine (P.out _).mono ?_; rintro e w1 ⟨rfl, hbel⟩; obtain ⟨o1, j1, rfl⟩ := grow_of_below hbel; clear hbel))
    all_goals go_ret
    all_goals refine ⟨?_, by repeat (first | (with_reducible exact Below.refl _ _) | ((with_reducible refine below_grow ?_ ?_); rotate_left; focus (first | omega | (simp [go_sem]; done) | (simp [go_sem]; omega))) | ((with_reducible refine Below.alloc ?_ ?_ _); rotate_left; focus (first | omega | (simp [go_sem]; done) | (simp [go_sem]; omega))) | ((with_reducible refine Below.setCell ?_ ?_ _); rotate_left; focus (first | omega | (simp [go_sem]; done) | (simp [go_sem]; omega))) | (with_reducible refine Below.drew ?_) | (with_reducible refine below_drewN _ ?_))⟩
    all_goals first | rfl | simp_all
def rowU (f : Nat → Nat) : Array Value := #[.int .u8 (f 0 : Nat), .int .u8 (f 1 : Nat), .int .u8 (f 2 : Nat), .int .u8 (f 3 : Nat)]
theorem rowU_get (f : Nat → Nat) (q : Nat) (hq : q < 4) : (rowU f)[q]? = some (.int .u8 (f q : Nat)) := by
  match q, hq with
  | 0, _ => rfl
  | 1, _ => rfl
  | 2, _ => rfl
  | 3, _ => rfl
def putU (f : Nat → Nat) (k s : Nat) : Nat → Nat := fun i => if i = k then s else f i
theorem rowU_set (f : Nat → Nat) (k s : Nat) (hk : k < 4) : (rowU f).setIfInBounds k (.int .u8 (s : Nat)) = rowU (putU f k s) := by
  match k, hk with
  | 0, _ => rfl
  | 1, _ => rfl
  | 2, _ => rfl
  | 3, _ => rfl
set_option maxRecDepth 100000 in
set_option maxHeartbeats 4000000 in
theorem refSuits {m : Nat} {a b c d : Fin 4} (hs : srt m = #[a, b, c, d]) (k1 : 4 * lens m b + b.val < 4 * lens m a + a.val) (k2 : 4 * lens m c + c.val < 4 * lens m b + b.val) (k3 : 4 * lens m d + d.val < 4 * lens m c + c.val) (hm : m < 18446744073709551616) (w : World) : Calls Tryd.prog 37 #[.int .u64 m] w fun e w' => e = .returned (sui4 a b c d) ∧ Below w.heap.size w w' := by
  have LN := fun s (hs : s < 4) => refLength m s hm hs
  have LL : ∀ s, len (hol m s) ≤ 13 := fun s => len_le _
  have PK := fun n s hs h => sui_pick (L := fun s => len (hol m s)) k1 k2 k3 n s hs h
  have GK := fun n s hs => gt_key (fun s => len (hol m s)) n s hs
  have G0 := gt_zero fun i => 4 * len (hol m i) + i
  have G56 := gt_top (fun i => 4 * len (hol m i) + i) 56 (fun s _ => by have := LL s; show 4 * len (hol m s) + s < 56; omega)
  obtain ⟨L, hL⟩ : ∃ L : Nat → Nat, L = fun s => len (hol m s) := ⟨_, rfl⟩
  obtain ⟨G, hG⟩ : ∃ G : Nat → Nat, G = gt fun i => 4 * len (hol m i) + i := ⟨_, rfl⟩
  have LN : ∀ s : Nat, s < 4 → ∀ w, Calls Tryd.prog 50 #[.int .u64 m, .int .i64 s] w fun e w' => e = .returned (.int .i64 (L s)) ∧ w = w' := by rw [hL]; exact LN
  have GK : ∀ n s, s < 4 → G (4 * n + s) = G (4 * n + (s + 1)) + if L s = n then 1 else 0 := by rw [hL, hG]; exact GK
  have PK : ∀ n s, s < 4 → L s = n → G (4 * n + (s + 1)) < 4 ∧ at4 a b c d (G (4 * n + (s + 1))) = s := by rw [hL, hG]; exact PK
  have G0 : G 0 = 4 := by rw [hG]; exact G0
  have G56 : G 56 = 0 := by rw [hG]; exact G56
  have V0 : at4 a b c d 0 = a.val := rfl
  have V1 : at4 a b c d 1 = b.val := rfl
  have V2 : at4 a b c d 2 = c.val := rfl
  have V3 : at4 a b c d 3 = d.val := rfl
  unfold sui4 encS
  clear LL hL hG hs k1 k2 k3 hm
  generalize at4 a b c d = sv at *
  rw [← V0, ← V1, ← V2, ← V3]
  clear V0 V1 V2 V3
  clear a b c d
  have LN := Lib.hid LN
  have PK := Lib.hid PK
  have GK := Lib.hid GK
  have G0 := Lib.hid G0
  go_enter Tryd.func37, Tryd.ntmps37
  go_upto_region 3 with fail
  generalize hW : World.alloc (World.alloc _ _) _ = W
  have bel : Below w.heap.size w W := by rw [← hW]; repeat (first | (with_reducible exact Below.refl _ _) | ((with_reducible refine below_grow ?_ ?_); rotate_left; focus (first | omega | (simp [go_sem]; done) | (simp [go_sem]; omega))) | ((with_reducible refine Below.alloc ?_ ?_ _); rotate_left; focus (first | omega | (simp [go_sem]; done) | (simp [go_sem]; omega))) | ((with_reducible refine Below.setCell ?_ ?_ _); rotate_left; focus (first | omega | (simp [go_sem]; done) | (simp [go_sem]; omega))) | (with_reducible refine Below.drew ?_) | (with_reducible refine below_drewN _ ?_))
  have bz : blk W w.heap.size (rowU fun _ => 0) 42 := by rw [← hW]; exact blk_alloc (blk_new _ _ _) _
  have ba : blk W (w.heap.size + 1) (rowU fun _ => 0) 42 := by rw [← hW]; exact blk_new2 _ (by simp [go_sem]) rfl
  clear hW
  generalize hA : w.heap.size + 1 = A at *
  have BW := Lib.hid bel
  have BZ := Lib.hid bz
  have HA := Lib.hid hA
  go_wp2
  go_loopw [4, 5] (fun s4 s5 wr => ∃ (j : Nat) (f : Nat → Nat), s4 = .int .i64 (G (4 * j) : Nat) ∧ s5 = .int .i64 ((j : Int) - 1) ∧ j ≤ 14 ∧ blk wr A (rowU f) 42 ∧ (∀ i, i < G (4 * j) → f i = sv i) ∧ Below A W wr) (fun _ s5 _ => (intOf s5 + 1).toNat)
  case atStart => exact ⟨14, fun _ => 0, by rw [G56]; rfl, rfl, by decide, ba, by rw [G56]; intro i h; omega, Below.refl _ _⟩
  case round =>
    obtain ⟨j, f, rfl, rfl, hj, hb, hf, hw⟩ := hrel
    clear bel bz ba hA G56
    by_cases hlt : 0 < j
    · obtain ⟨n, rfl⟩ : ∃ n, j = n + 1 := ⟨j - 1, by omega⟩
      have zn : ((n + 1 : Nat) : Int) - 1 = (n : Int) := by omega
      rw [zn]
      have d4 : (0 : Int) ≤ (n : Int) := by omega
      have d3 : IntKind.i64.wrap ((n : Int) - 1) = (n : Int) - 1 := IntWalk.i64_in _ (by omega)
      have n14 : n < 14 := by omega
      have NH := Lib.hid n14
      have HF := Lib.hid hf
      have HB := Lib.hid hb
      have HW := Lib.hid hw
      clear hlt hj zn n14 hf hb hw
      go_wp2
      go_loopw [4, 6] (fun s4 s6 wq => ∃ (s : Nat) (f : Nat → Nat), s4 = .int .i64 (G (4 * n + s) : Nat) ∧ s6 = .int .i64 ((s : Int) - 1) ∧ s ≤ 4 ∧ blk wq A (rowU f) 42 ∧ (∀ i, i < G (4 * n + s) → f i = sv i) ∧ Below A W wq) (fun _ s6 _ => (intOf s6 + 1).toNat)
      case atStart => exact ⟨4, f, rfl, rfl, by decide, HB.out, HF.out, HW.out⟩
      case round =>
        obtain ⟨s', f, rfl, rfl, hs, hb, hf, hw⟩ := hrel
        by_cases hs4 : 0 < s'
        · obtain ⟨s, rfl⟩ : ∃ n, s' = n + 1 := ⟨s' - 1, by omega⟩
          have hs3 : s < 4 := by omega
          have zs : ((s + 1 : Nat) : Int) - 1 = (s : Int) := by omega
          rw [zs]
          have s0 : (0 : Int) ≤ (s : Int) := by omega
          have f1 : IntKind.i64.wrap ((s : Int) - 1) = (s : Int) - 1 := IntWalk.i64_in _ (by omega)
          have f2 : IntKind.u8.wrap (s : Int) = (s : Int) := by rw [IntKind.wrap_u8', Int.emod_eq_of_lt (by omega) (by omega)]
          have LC := Lib.hid (LN.out s hs3)
          have pk := PK.out n s hs3
          have ec := GK.out n s hs3
          obtain ⟨l, hl⟩ : ∃ l, L s = l := ⟨_, rfl⟩
          rw [hl] at LC pk ec
          have HS := Lib.hid hs3
          by_cases he : l = n
          · have pk := pk he
            rw [if_pos he] at ec
            rw [he] at LC
            obtain ⟨k, hk⟩ : ∃ k, G (4 * n + (s + 1)) = k := ⟨_, rfl⟩
            rw [hk] at pk hf ec ⊢
            have hk4 := pk.1
            have e1 : IntKind.i64.wrap ((k : Int) + 1) = ((k + 1 : Nat) : Int) := by rw [IntWalk.i64_in _ (by omega)]; omega
            have k40 : (k : Int) < 4 := by omega
            have ck := (blk_cell hb k).trans (rowU_get f k hk4)
            have fk := blk_free hb k
            have st := blk_set hb k (.int .u8 (s : Nat))
            rw [rowU_set f k s hk4] at st
            have hf2 : ∀ i, i < k + 1 → putU f k s i = sv i := fun i hi => by
              unfold putU
              by_cases e : i = k
              · rw [if_pos e, e, pk.2]
              · rw [if_neg e]; exact hf i (by omega)
            rw [← ec] at hf2
            have ST := Lib.hid st
            have HF2 := Lib.hid hf2
            have EC := Lib.hid ec
            have HW2 := Lib.hid (hw.setCell (p := ⟨A, k, none⟩) (Nat.le_refl _) (.int .u8 (s : Nat)))
            clear pk ec hl he hk hs4 hs st hf hf2 hb hw hs3 zs
            go_wp2_with (go_at_call 50; refine (LC.out _).mono ?_; rintro e w1 ⟨rfl, rfl⟩)
            go_roundw
            case rel => exact ⟨s, putU f k s, by rw [EC.out]; first | done | rfl | simp, by go_num, by have := HS.out; omega, ST.out, HF2.out, HW2.out⟩
            case measure => simp [intOf]
          · rw [if_neg he] at ec
            have ec : G (4 * n + s) = G (4 * n + (s + 1)) := ec
            have he2 : ¬ (l : Int) = n := by omega
            rw [← ec] at hf
            have EC := Lib.hid ec
            have HF := Lib.hid hf
            have HB := Lib.hid hb
            have HW := Lib.hid hw
            clear pk ec hl hs4 hs hf hb hw hs3 zs
            go_wp2_with (go_at_call 50; refine (LC.out _).mono ?_; rintro e w1 ⟨rfl, rfl⟩)
            go_roundw
            case rel => exact ⟨s, f, by rw [EC.out], by go_num, by have := HS.out; omega, HB.out, HF.out, HW.out⟩
            case measure => simp [intOf]
        · obtain rfl : s' = 0 := by omega
          have d4 : ¬ (0 : Int) ≤ ((0 : Nat) : Int) - 1 := by omega
          have HF := Lib.hid hf
          have HB := Lib.hid hb
          have HW := Lib.hid hw
          clear hs hs4 hf hb hw
          go_wp2
          go_roundw
          case rel => exact ⟨n, f, rfl, by go_num, by have := NH.out; omega, HB.out, HF.out, HW.out⟩
          case measure => simp [intOf]
    · obtain rfl : j = 0 := by omega
      have d4 : ¬ (0 : Int) ≤ ((0 : Nat) : Int) - 1 := by omega
      rw [show G (4 * 0) = 4 from G0.out] at hf ⊢
      have ha := HA.out
      have c0 := (blk_cell hb 0).trans (rowU_get f 0 (by decide))
      have c1 := (blk_cell hb 1).trans (rowU_get f 1 (by decide))
      have c2 := (blk_cell hb 2).trans (rowU_get f 2 (by decide))
      have c3 := (blk_cell hb 3).trans (rowU_get f 3 (by decide))
      rw [hf 0 (by decide)] at c0
      rw [hf 1 (by decide)] at c1
      rw [hf 2 (by decide)] at c2
      rw [hf 3 (by decide)] at c3
      have bz : blk wr w.heap.size (rowU fun _ => 0) 42 := (hw.block _ (by omega)).trans BZ.out
      have z0 := (blk_cell bz 0).trans (rowU_get _ 0 (by decide))
      have z1 := (blk_cell bz 1).trans (rowU_get _ 1 (by decide))
      have z2 := (blk_cell bz 2).trans (rowU_get _ 2 (by decide))
      have z3 := (blk_cell bz 3).trans (rowU_get _ 3 (by decide))
      have fz := blk_free bz
      have hzl := blk_lt bz
      have hb2 : Below w.heap.size w wr := BW.out.trans (hw.mono (by omega))
      have HB2 := Lib.hid hb2
      have bz2 := bz
      clear hb hw hf bz hb2 ha hj
      have BZ2 := Lib.hid bz2
      go_wp2
      generalize hV : World.setCell (World.setCell (World.setCell (World.setCell wr ⟨w.heap.size, 0, none⟩ (.int .u8 (sv 0 : Nat))) ⟨w.heap.size, 1, none⟩ (.int .u8 (sv 1 : Nat))) ⟨w.heap.size, 2, none⟩ (.int .u8 (sv 2 : Nat))) ⟨w.heap.size, 3, none⟩ (.int .u8 (sv 3 : Nat)) = V
      have bv : blk V w.heap.size (rowU sv) 42 := by
        rw [← hV]
        exact blk_set (blk_set (blk_set (blk_set BZ2.out 0 _) 1 _) 2 _) 3 _
      have v0 := (blk_cell bv 0).trans (rowU_get _ 0 (by decide))
      have v1 := (blk_cell bv 1).trans (rowU_get _ 1 (by decide))
      have v2 := (blk_cell bv 2).trans (rowU_get _ 2 (by decide))
      have v3 := (blk_cell bv 3).trans (rowU_get _ 3 (by decide))
      have bb : Below w.heap.size w V := by
        rw [← hV]
        exact (((HB2.out.setCell (p := ⟨w.heap.size, 0, none⟩) (Nat.le_refl _) _).setCell (p := ⟨w.heap.size, 1, none⟩) (Nat.le_refl _) _).setCell (p := ⟨w.heap.size, 2, none⟩) (Nat.le_refl _) _).setCell (p := ⟨w.heap.size, 3, none⟩) (Nat.le_refl _) _
      clear hV bv
      refine bodyPost_ret (by simp [results, Tryd.results37, go_sem, v0, v1, v2, v3]) rfl ⟨rfl, ?_⟩
      exact bb
end Go.Proofs.YtgndhdcnofblaaaDoor
