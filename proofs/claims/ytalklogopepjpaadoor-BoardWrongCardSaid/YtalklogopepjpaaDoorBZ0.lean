/- BoardWrong: defects and refusals. -/
import Derived.Test.YtalklogopepjpaaDoorBX0
import Derived.Test.YtalklogopepjpaaDoorBY0
namespace Go.Proofs.YtalklogopepjpaaDoor.Ca
open Go.RowKit
open Go.Proofs.DB (ct bt Pd Rd Dj wo Same dlr vul fc cl)

theorem ct_less {x g : Nat} (hx : x < 2 ^ 52) (hg : bt x g = 1) (hg2 : g < 52) : ct (wo x (2 ^ g)) 52 + 1 = ct x 52 := by
  have hw := fun j => DB.bt_wo (a := x) (2 ^ g) (Nat.lt_trans hx (by decide)) j
  obtain ⟨y, hy⟩ : ∃ y, wo x (2 ^ g) = y := ⟨_, rfl⟩
  rw [hy] at hw ⊢
  have b : ∀ j, bt y j = if j = g then 0 else bt x j := fun j => by
    rw [hw j, DB.bt_pow]
    by_cases h1 : j = g
    · subst h1; rw [if_pos rfl, if_pos rfl]; omega
    · rw [if_neg h1, if_neg h1]; omega
  have d1 : Dj y (2 ^ g) := DB.dj_pow (by rw [b, if_pos rfl])
  have e1 : x = y + 2 ^ g := DB.bt_ext fun j => by
    rw [DB.bt_add j d1, b, DB.bt_pow]
    by_cases h1 : j = g
    · subst h1; rw [if_pos rfl, if_pos rfl]; omega
    · rw [if_neg h1, if_neg h1]; omega
  have c1 : ct x 52 = ct y 52 + ct (2 ^ g) 52 := by rw [← DB.ct_add d1]; exact congrArg (fun t => ct t 52) e1
  rw [c1, DB.ct_one, if_pos hg2]
/-- The deal without the lowest card of the hand k. -/
def badD (d : Nat → Nat) (k : Nat) : Nat → Nat := fun i => if i = k then wo (d k) (lw (d k)) else d i
theorem badD_not {d : Nat → Nat} (h : Rd d) {k : Nat} (hk : k < 4) : ¬ Rd (badD d k) := fun g => by
  have a := g.all k hk
  obtain ⟨t, t1, t2, t3⟩ := lw_pow (hand_pos h k hk) (h.lt k hk)
  have e : badD d k k = wo (d k) (2 ^ t) := by unfold badD; rw [if_pos rfl, t2]
  rw [e] at a
  have := ct_less (h.lt k hk) t3 t1
  have := h.all k hk
  omega
theorem badD_64 {d : Nat → Nat} (h : Rd d) (k : Nat) : B64 (badD d k) := fun i hi => by
  have hl := Nat.lt_trans (h.lt i hi) (show 2 ^ 52 < 18446744073709551616 by decide)
  unfold badD
  split
  · rename_i e
    subst e
    exact Nat.lt_of_le_of_lt (DB.wo_le _ _) hl
  · exact hl
theorem dltr_inj : ∀ a b : Fin 4, dltr a.val = dltr b.val → a = b := by decide
theorem side_inj : ∀ a b : Fin 4, side a.val = side b.val → a = b := by decide
/-- A record's text with another dealer and vulnerability. -/
def alt (N : Nat) (p : Nat → Nat) (a v : Nat) : List UInt8 := Lib.itoa (N : Int) ++ 32 :: ([dltr a] ++ 32 :: (side v ++ 32 :: (78 :: 58 :: dtx p)))
theorem alt_eq {N : Nat} {p : Nat → Nat} {a v : Nat} (ha : a < 4) (hv : v < 4) : rtx N p = alt N p a v ↔ a = dlr N ∧ v = vul N := by
  constructor
  · intro h
    unfold rtx alt at h
    have h2 := List.append_cancel_left h
    simp only [List.cons.injEq, true_and, List.cons_append, List.nil_append] at h2
    have e1 := dltr_inj ⟨dlr N, DB.dlr_lt N⟩ ⟨a, ha⟩ h2.1
    have e2 := side_inj ⟨vul N, DB.vul_lt N⟩ ⟨v, hv⟩ (List.append_cancel_right h2.2)
    exact ⟨(congrArg Fin.val e1).symm, (congrArg Fin.val e2).symm⟩
  · rintro ⟨rfl, rfl⟩
    rfl
theorem alt_len {N : Nat} (h : N ≤ 128) (p : Nat → Nat) (a v : Nat) : (alt N p a v).length ≤ 240 := by
  have e := itoa_short ⟨N, by omega⟩
  have b := side_len v
  have c := dtx_length p
  dsimp only at e
  simp only [alt, List.length_append, List.length_cons, List.length_nil]
  omega
theorem rdB_alt {n : Nat} (h1 : 1 ≤ n) (h2 : n ≤ 128) {p : Nat → Nat} (hp : Rd p) {a v : Nat} (ha : a < 4) (hv : v < 4) : rdB (alt n p a v) = if a = dlr n ∧ v = vul n then some (n, quad (p 0) (p 1) (p 2) (p 3)) else none := by
  obtain ⟨a1, a2, a3⟩ := itoa_sp ⟨n, by omega⟩ h1
  dsimp only at a1 a2 a3
  have e : alt n p a v = Lib.itoa (n : Int) ++ 32 :: ([dltr a] ++ 32 :: (side v ++ 32 :: (78 :: 58 :: dtx p))) := rfl
  have hl : 4 ≤ (alt n p a v).length := by
    rw [e]
    simp only [List.length_append, List.length_cons]
    omega
  have hs : Lib.splitN (alt n p a v) [32] 4 = [Lib.itoa (n : Int), [dltr a], side v, 78 :: 58 :: dtx p] := by
    rw [splitN_K, show min 4 ((alt n p a v).length + 1) - 1 = 3 by omega, e, splitK_cons 2 a1, splitK_cons 1 (dltr_sp _), splitK_cons 0 (side_sp _)]
    rfl
  have hr : rdP (78 :: 58 :: dtx p) = quad (p 0) (p 1) (p 2) (p 3) := by unfold rdP; rw [rdD_dtx hp]; rfl
  unfold rdB
  rw [hs]
  simp only [a2, hr, Int.toNat_natCast]
  rw [rtx_same n (quad_same p)]
  by_cases hc : a = dlr n ∧ v = vul n
  · rw [if_pos ⟨by omega, by omega, rd_same (quad_same p) hp, (alt_eq ha hv).2 hc⟩, if_pos hc]
  · rw [if_neg (fun h => hc ((alt_eq ha hv).1 h.2.2.2)), if_neg hc]
theorem bturn_bad (n : Int) (p : Nat → Nat) (x : Int) (hx : ¬ x = 0) (F : ∀ w, Calls Tryd.prog 31 #[.agg #[.int .i64 n, .int .u64 (p 0 : Nat), .int .u64 (p 1 : Nat), .int .u64 (p 2 : Nat), .int .u64 (p 3 : Nat)]] w fun e w' => e = .returned (.int .i64 x) ∧ Below w.heap.size w w') (w : World) :
    Calls Tryd.prog 22 #[.agg #[.int .i64 n, .int .u64 (p 0 : Nat), .int .u64 (p 1 : Nat), .int .u64 (p 2 : Nat), .int .u64 (p 3 : Nat)], .int .i64 1] w fun e w' => e = .returned (.tuple #[.agg #[.int .i64 0, .int .u64 0, .int .u64 0, .int .u64 0, .int .u64 0], .int .i64 x]) ∧ Below w.heap.size w w' := by
  have F := Lib.hid F
  go_enter Tryd.func22, Tryd.ntmps22
  go_wp2_with (go_at_call 31; refine (F.out _).mono ?_; rintro e w9 ⟨rfl, hbel⟩; obtain ⟨o1, j1, rfl⟩ := grow_of_below hbel; clear hbel)
  refine bodyPost_ret (by simp [results, Tryd.results22, go_sem]) rfl ⟨rfl, ?_⟩
  repeat (first | (with_reducible exact Below.refl _ _) | ((with_reducible refine below_grow ?_ ?_); rotate_left; focus (first | omega | (simp [go_sem]; done) | (simp [go_sem]; omega))) | ((with_reducible refine Below.alloc ?_ ?_ _); rotate_left; focus (first | omega | (simp [go_sem]; done) | (simp [go_sem]; omega))) | ((with_reducible refine Below.setCell ?_ ?_ _); rotate_left; focus (first | omega | (simp [go_sem]; done) | (simp [go_sem]; omega))) | (with_reducible refine Below.drew ?_) | (with_reducible refine below_drewN _ ?_))
set_option maxRecDepth 100000 in
set_option maxHeartbeats 4000000 in
theorem classes_no (L : Nat → Nat → Nat) (n : Nat) (hn : n ≤ 24) (v : Value) (m : Nat) (hm : m < n) (hR : ∀ j, j < m → Rd (L j)) (hN : ¬ Rd (L m)) (h64 : ∀ j, j < n → B64 (L j)) (w : World) (hS : SlD w v L n) :
    Calls Tryd.prog 19 #[v] w fun e w' => e = .returned (.tuple #[.slice none 0 0, .int .i64 60]) ∧ Below w.heap.size w w' := by
  obtain ⟨A, cap, rfl, hA⟩ := hS
  have RR := Lib.hid (fun j hj => dright_of (L j) (hR j hj))
  have HB := Lib.hid h64
  have RM := Lib.hid (dright_not (L m) (h64 m hm) hN)
  have HM := Lib.hid hm
  have hmk := run_make_row' (P := Tryd.prog) 49 3 (.int .i64 0) 8 Tryd.underlying49 Tryd.infoInt rfl .i64 .i64 n (by omega) (by omega)
  rw [clL_zero L n] at hmk
  have hmm := @run_makeMap Tryd.prog
  have h1 : ¬ (24 : Int) < n := by omega
  have HA := Lib.hid hA
  clear hR hA hN h64 hm
  go_enter Tryd.func19, Tryd.ntmps19
  go_wp2
  generalize hW : World.alloc _ _ = W
  have b1 : blk W (w.heap.size + 1) (clL L n 0).toArray 3 := by rw [← hW]; exact blk_at _ _ _ (by simp)
  have fm : FM W w.heap.size L 0 := by rw [← hW]; exact (fm_made w L).alloc _
  have bb : Below w.heap.size w W := by rw [← hW]; repeat (first | (with_reducible exact Below.refl _ _) | ((with_reducible refine below_grow ?_ ?_); rotate_left; focus (first | omega | (simp [go_sem]; done) | (simp [go_sem]; omega))) | ((with_reducible refine Below.alloc ?_ ?_ _); rotate_left; focus (first | omega | (simp [go_sem]; done) | (simp [go_sem]; omega))) | ((with_reducible refine Below.setCell ?_ ?_ _); rotate_left; focus (first | omega | (simp [go_sem]; done) | (simp [go_sem]; omega))) | (with_reducible refine Below.drew ?_) | (with_reducible refine below_drewN _ ?_))
  clear hW
  go_loopw [6, 7, 8, 9, 19] (fun _ _ _ _ s19 wr => ∃ i : Nat, i ≤ m ∧ s19 = .int .i64 i ∧ blk wr (w.heap.size + 1) (clL L n i).toArray 3 ∧ FM wr w.heap.size L i ∧ Below w.heap.size w wr) (fun _ _ _ _ s19 _ => m - (intOf s19).toNat)
  case atStart => exact ⟨0, Nat.zero_le _, rfl, b1, fm, bb⟩
  case round =>
    obtain ⟨i, hi, rfl, c1, cf, cb⟩ := hrel
    clear b1 fm bb
    have hlt : i < n := by have := HM.out; omega
    obtain ⟨b, rfl, hb, hcell⟩ : ∃ b, A = some ⟨b, 0, none⟩ ∧ b < w.heap.size ∧ ∀ j, j < n → ∀ i, i < 4 → w.cell? ⟨b, j * 4 + i, none⟩ = some (.int .u64 (L j i : Nat)) := by
      rcases HA.out with h | h
      · omega
      · exact h
    have k0 : wr.cell? ⟨b, i * 4, none⟩ = some (.int .u64 (L i 0 : Nat)) := (cb.cell (p := ⟨b, i * 4, none⟩) hb).trans (hcell i hlt 0 (by decide))
    have k1 : wr.cell? ⟨b, i * 4 + 1, none⟩ = some (.int .u64 (L i 1 : Nat)) := (cb.cell (p := ⟨b, i * 4 + 1, none⟩) hb).trans (hcell i hlt 1 (by decide))
    have k2 : wr.cell? ⟨b, i * 4 + 2, none⟩ = some (.int .u64 (L i 2 : Nat)) := (cb.cell (p := ⟨b, i * 4 + 2, none⟩) hb).trans (hcell i hlt 2 (by decide))
    have k3 : wr.cell? ⟨b, i * 4 + 3, none⟩ = some (.int .u64 (L i 3 : Nat)) := (cb.cell (p := ⟨b, i * 4 + 3, none⟩) hb).trans (hcell i hlt 3 (by decide))
    by_cases him : i < m
    · have hlt2 : (i : Int) < n := by omega
      have e1 : IntKind.i64.wrap ((i : Int) + 1) = (i : Int) + 1 := IntWalk.i64_in _ (by omega)
      have R := Lib.hid (RR.out i him)
      have HIM := Lib.hid him
      have HBi := Lib.hid (HB.out i hlt)
      have HI := Lib.hid hlt
      have HN := Lib.hid hn
      have HC := Lib.hid c1
      have HF := Lib.hid cf
      have HCB := Lib.hid cb
      clear RR RM HB HA hb hcell hi hlt him c1 cf cb hn
      have hws := HCB.out.size
      have hws2 := blk_lt HC.out
      go_upto_region 10 with (go_at_call 28; refine (R.out _).mono ?_; rintro e w9 ⟨rfl, hbel⟩; obtain ⟨o1, j1, rfl⟩ := grow_of_below hbel; clear hbel)
      clear R k0 k1 k2 k3
      generalize hV : grow _ o1 j1 = V
      have d0 : blk V wr.heap.size (#[.int .u64 (L i 0 : Nat), .int .u64 (L i 1 : Nat), .int .u64 (L i 2 : Nat), .int .u64 (L i 3 : Nat)]) 39 := by rw [← hV]; exact blk_grow (blk_new _ _ _) _ _
      have d1 : blk V (w.heap.size + 1) (clL L n i).toArray 3 := by rw [← hV]; exact blk_grow (blk_alloc HC.out _) _ _
      have df : FM V w.heap.size L i := by rw [← hV]; exact (HF.out.alloc _).grow _ _
      have db : Below w.heap.size w V := by rw [← hV]; repeat (first | (with_reducible exact HCB.out) | ((with_reducible refine below_grow ?_ ?_); rotate_left; focus (first | omega | (simp [go_sem]; done) | (simp [go_sem]; omega))) | ((with_reducible refine Below.alloc ?_ ?_ _); rotate_left; focus (first | omega | (simp [go_sem]; done) | (simp [go_sem]; omega))) | ((with_reducible refine Below.setCell ?_ ?_ _); rotate_left; focus (first | omega | (simp [go_sem]; done) | (simp [go_sem]; omega))) | (with_reducible refine Below.drew ?_) | (with_reducible refine below_drewN _ ?_))
      have hf := df.lt
      clear hV HC HF HCB
      have hd := HBi.out
      have wsz := blk_lt d1
      have hs0 := blk_lt d0
      obtain ⟨c, hl⟩ := fm_look df (L i) hd
      have q0 : V.cell? ⟨wr.heap.size, 0, none⟩ = some (.int .u64 (L i 0 : Nat)) := blk_cell d0 0
      have q1 : V.cell? ⟨wr.heap.size, 1, none⟩ = some (.int .u64 (L i 1 : Nat)) := blk_cell d0 1
      have q2 : V.cell? ⟨wr.heap.size, 2, none⟩ = some (.int .u64 (L i 2 : Nat)) := blk_cell d0 2
      have q3 : V.cell? ⟨wr.heap.size, 3, none⟩ = some (.int .u64 (L i 3 : Nat)) := blk_cell d0 3
      have ce : ∀ X, blk X (w.heap.size + 1) (clL L n i).toArray 3 → X.cell? ⟨w.heap.size + 1, i, none⟩ = some (.int .i64 0) := fun X h => by rw [blk_cell h]; exact clL_at L n i HI.out
      by_cases hs : fc L (L i) i < i
      · have hg := fm_get df (L i) hd hs
        have hcl := DB.cl_hit hs
        rw [decide_eq_true hs] at hl
        have ce0 := ce V d1
        have f0 := blk_free d1 i
        have D1 := Lib.hid d1
        have DF := Lib.hid (fm_same df hs)
        have DB' := Lib.hid db
        rw [← hcl] at hg
        obtain ⟨x, hx⟩ : ∃ x, cl L i = x := ⟨_, rfl⟩
        have HX := Lib.hid hx
        rw [hx] at hg
        clear ce d0 d1 df db hd hs hcl hx HBi HN
        go_wp2
        go_roundw
        case rel =>
          refine ⟨i + 1, HIM.out, by go_num, ?_, DF.out.setCell (by omega) _, DB'.out.setCell (p := ⟨w.heap.size + 1, i, none⟩) (Nat.le_succ _) _⟩
          have h := blk_set D1.out i (.int .i64 (x : Nat))
          rw [← HX.out, clL_set L n i HI.out] at h
          rw [← HX.out]
          exact h
        case measure => simp [intOf]; have := HIM.out; omega
      · obtain ⟨V2, hput, df2, hgr⟩ := fm_put df hd hs (by have := HI.out; have := HN.out; omega)
        have hcl := DB.cl_new hs
        have hg := fm_get df2 (L i) hd (by rw [DB.fc_new hs (Same.refl _)]; omega)
        rw [DB.fc_new hs (Same.refl _)] at hg
        rw [decide_eq_false hs] at hl
        have d02 := blk_grown d0 hgr (by simp; omega)
        have d12 := blk_grown d1 hgr (by simp)
        have db2 : Below w.heap.size w V2 := db.grown hgr (by omega) (fun k e => by cases e; exact Nat.le_refl _)
        have r0 : V2.cell? ⟨wr.heap.size, 0, none⟩ = some (.int .u64 (L i 0 : Nat)) := blk_cell d02 0
        have r1 : V2.cell? ⟨wr.heap.size, 1, none⟩ = some (.int .u64 (L i 1 : Nat)) := blk_cell d02 1
        have r2 : V2.cell? ⟨wr.heap.size, 2, none⟩ = some (.int .u64 (L i 2 : Nat)) := blk_cell d02 2
        have r3 : V2.cell? ⟨wr.heap.size, 3, none⟩ = some (.int .u64 (L i 3 : Nat)) := blk_cell d02 3
        have ce0 := ce V2 d12
        have f0 := blk_free d12 i
        have D1 := Lib.hid d12
        have DF := Lib.hid df2
        have DB' := Lib.hid db2
        have HX := Lib.hid hcl
        clear ce d0 d1 df db hd hs hcl d02 d12 df2 db2 hgr HBi HN
        go_wp2
        go_roundw
        case rel =>
          refine ⟨i + 1, HIM.out, by go_num, ?_, DF.out.setCell (by omega) _, DB'.out.setCell (p := ⟨w.heap.size + 1, i, none⟩) (Nat.le_succ _) _⟩
          have h := blk_set D1.out i (.int .i64 (i : Nat))
          have h2 := clL_set L n i HI.out
          rw [HX.out] at h2
          rw [h2] at h
          exact h
        case measure => simp [intOf]; have := HIM.out; omega
    · obtain rfl : i = m := by omega
      have hlt2 : (i : Int) < n := by omega
      have hws := cb.size
      have CB := Lib.hid cb
      clear RR HB HA hb hcell hi hlt him c1 cf cb hn
      go_wp2_with (go_at_call 28; refine (RM.out _).mono ?_; rintro e w9 ⟨rfl, hbel⟩; obtain ⟨o1, j1, rfl⟩ := grow_of_below hbel; clear hbel)
      refine bodyPost_ret (by simp [results, Tryd.results19, go_sem]) rfl ⟨rfl, ?_⟩
      repeat (first | (with_reducible exact CB.out) | ((with_reducible refine below_grow ?_ ?_); rotate_left; focus (first | omega | (simp [go_sem]; done) | (simp [go_sem]; omega))) | ((with_reducible refine Below.alloc ?_ ?_ _); rotate_left; focus (first | omega | (simp [go_sem]; done) | (simp [go_sem]; omega))) | ((with_reducible refine Below.setCell ?_ ?_ _); rotate_left; focus (first | omega | (simp [go_sem]; done) | (simp [go_sem]; omega))) | (with_reducible refine Below.drew ?_) | (with_reducible refine below_drewN _ ?_))
end Go.Proofs.YtalklogopepjpaaDoor.Ca
