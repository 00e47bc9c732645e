/- Classes. -/
import Derived.Test.YtalklogopepjpaaDoorBH
import Derived.Test.YtalklogopepjpaaDoorBG
import Derived.Deep.OwnRows
namespace Go.Proofs.YtalklogopepjpaaDoor.Ca
open Go.RowKit
open Go.Proofs.DB (Pd Rd Same fc cl)

/-- A slice that holds n deals. -/
def SlD (W : World) (v : Value) (L : Nat → Nat → Nat) (n : Nat) : Prop :=
  ∃ A cap, v = .slice A n cap ∧ (n = 0 ∨ ∃ b, A = some ⟨b, 0, none⟩ ∧ b < W.heap.size ∧ ∀ j, j < n → ∀ i, i < 4 → W.cell? ⟨b, j * 4 + i, none⟩ = some (.int .u64 (L j i : Nat)))
theorem SlD.below {W W' : World} {v : Value} {L : Nat → Nat → Nat} {n : Nat} (h : SlD W v L n) (hb : Below W.heap.size W W') : SlD W' v L n := by
  obtain ⟨A, cap, rfl, h | ⟨b, rfl, hb2, hc⟩⟩ := h
  · exact ⟨A, cap, rfl, .inl h⟩
  · exact ⟨_, cap, rfl, .inr ⟨b, rfl, Nat.lt_of_lt_of_le hb2 hb.size, fun j hj i hi => (hb.cell (p := ⟨b, j * 4 + i, none⟩) hb2).trans (hc j hj i hi)⟩⟩
/-- The classes of the first i, 0 behind. -/
def clL (L : Nat → Nat → Nat) (n i : Nat) : List Value := (List.range n).map fun j => if j < i then .int .i64 (cl L j : Nat) else .int .i64 0
theorem clL_zero (L : Nat → Nat → Nat) (n : Nat) : madeCells #[.int .i64 0] n = (clL L n 0).toArray := by
  apply Array.ext'
  simp [madeCells, clL]
  intro a _
  rw [Nat.mod_one]
  rfl
theorem clL_len (L : Nat → Nat → Nat) (n i : Nat) : (clL L n i).length = n := by simp [clL]
theorem clL_at (L : Nat → Nat → Nat) (n i : Nat) (h : i < n) : (clL L n i).toArray[i]? = some (.int .i64 0) := by simp [clL, h]
theorem clL_set (L : Nat → Nat → Nat) (n i : Nat) (h : i < n) : (clL L n i).toArray.setIfInBounds i (.int .i64 (cl L i : Nat)) = (clL L n (i + 1)).toArray := by
  apply Array.ext'
  apply List.ext_getElem?
  intro j
  simp only [clL, List.setIfInBounds_toArray, List.getElem?_set, List.getElem?_map, List.length_map, List.length_range]
  by_cases hj : i = j
  · subst hj
    simp [h]
  · rw [if_neg hj]
    by_cases hn : j < n
    · rw [List.getElem?_range hn]
      simp only [Option.map_some]
      by_cases h1 : j < i
      · rw [if_pos h1, if_pos (by omega)]
      · rw [if_neg h1, if_neg (by omega)]
    · rw [List.getElem?_eq_none (by simp; omega)]
      rfl
theorem clL_full (L : Nat → Nat → Nat) (n : Nat) : clL L n n = (List.range n).map fun j => .int .i64 (cl L j : Nat) := by
  unfold clL
  apply List.map_congr_left
  intro j hj
  rw [if_pos (List.mem_range.1 hj)]
theorem Tryd.infoInt : (Tryd.prog.info? 3).map (fun i => (i.zero, i.size, i.bytes)) = some (some (.int .i64 0), 1, 8) := by kernel_rfl
theorem classes_many (L : Nat → Nat → Nat) (n : Nat) (hn : 24 < n) (A : Option Addr) (cap : Nat) (w : World) :
    Calls Tryd.prog 19 #[.slice A n cap] w fun e w' => e = .returned (.tuple #[.slice none 0 0, .int .i64 5]) ∧ Below w.heap.size w w' := by
  have h1 : (24 : Int) < n := by omega
  clear hn
  go_enter Tryd.func19, Tryd.ntmps19
  go_wp2
  refine bodyPost_ret (by simp [results, Tryd.results19, go_sem]) rfl ⟨rfl, ?_⟩
  repeat (first | (with_reducible exact Below.refl _ _) | ((with_reducible refine below_grow ?_ ?_); rotate_left; focus (first | omega | (simp [go_sem]; done) | (simp [go_sem]; omega))) | ((with_reducible refine Below.alloc ?_ ?_ _); rotate_left; focus (first | omega | (simp [go_sem]; done) | (simp [go_sem]; omega))) | ((with_reducible refine Below.setCell ?_ ?_ _); rotate_left; focus (first | omega | (simp [go_sem]; done) | (simp [go_sem]; omega))) | (with_reducible refine Below.drew ?_) | (with_reducible refine below_drewN _ ?_))
set_option maxRecDepth 100000 in
set_option maxHeartbeats 4000000 in
theorem classes_yes (L : Nat → Nat → Nat) (n : Nat) (hn : n ≤ 24) (v : Value) (hR : ∀ j, j < n → Rd (L j)) (w : World) (hS : SlD w v L n) :
    Calls Tryd.prog 19 #[v] w fun e w' => (∃ u, e = .returned (.tuple #[u, .int .i64 0]) ∧ w'.ownsRow w.heap.size 3 1 u n ((List.range n).map fun j => .int .i64 (cl L j : Nat))) ∧ Below w.heap.size w w' := by
  obtain ⟨A, cap, rfl, hA⟩ := hS
  have RR := Lib.hid (fun j hj => dright_of (L j) (hR j hj))
  have HB := Lib.hid (fun j (hj : j < n) => show B64 (L j) from fun i hi => Nat.lt_trans ((hR j hj).lt i hi) (by decide))
  have hmk := run_make_row' (P := Tryd.prog) 49 3 (.int .i64 0) 8 Tryd.underlying49 Tryd.infoInt rfl .i64 .i64 n (by omega) (by omega)
  rw [clL_zero L n] at hmk
  have hmm := @run_makeMap Tryd.prog
  have h1 : ¬ (24 : Int) < n := by omega
  have HA := Lib.hid hA
  clear hR hA
  go_enter Tryd.func19, Tryd.ntmps19
  go_wp2
  generalize hW : World.alloc _ _ = W
  have b1 : blk W (w.heap.size + 1) (clL L n 0).toArray 3 := by rw [← hW]; exact blk_at _ _ _ (by simp)
  have fm : FM W w.heap.size L 0 := by rw [← hW]; exact (fm_made w L).alloc _
  have bb : Below w.heap.size w W := by rw [← hW]; repeat (first | (with_reducible exact Below.refl _ _) | ((with_reducible refine below_grow ?_ ?_); rotate_left; focus (first | omega | (simp [go_sem]; done) | (simp [go_sem]; omega))) | ((with_reducible refine Below.alloc ?_ ?_ _); rotate_left; focus (first | omega | (simp [go_sem]; done) | (simp [go_sem]; omega))) | ((with_reducible refine Below.setCell ?_ ?_ _); rotate_left; focus (first | omega | (simp [go_sem]; done) | (simp [go_sem]; omega))) | (with_reducible refine Below.drew ?_) | (with_reducible refine below_drewN _ ?_))
  clear hW
  go_loopw [6, 7, 8, 9, 19] (fun _ _ _ _ s19 wr => ∃ i : Nat, i ≤ n ∧ s19 = .int .i64 i ∧ blk wr (w.heap.size + 1) (clL L n i).toArray 3 ∧ FM wr w.heap.size L i ∧ Below w.heap.size w wr) (fun _ _ _ _ s19 _ => n - (intOf s19).toNat)
  case atStart => exact ⟨0, Nat.zero_le _, rfl, b1, fm, bb⟩
  case round =>
    obtain ⟨i, hi, rfl, c1, cf, cb⟩ := hrel
    clear b1 fm bb
    by_cases hlt : i < n
    · obtain ⟨b, rfl, hb, hcell⟩ : ∃ b, A = some ⟨b, 0, none⟩ ∧ b < w.heap.size ∧ ∀ j, j < n → ∀ i, i < 4 → w.cell? ⟨b, j * 4 + i, none⟩ = some (.int .u64 (L j i : Nat)) := by
        rcases HA.out with h | h
        · omega
        · exact h
      have k0 : wr.cell? ⟨b, i * 4, none⟩ = some (.int .u64 (L i 0 : Nat)) := (cb.cell (p := ⟨b, i * 4, none⟩) hb).trans (hcell i hlt 0 (by decide))
      have k1 : wr.cell? ⟨b, i * 4 + 1, none⟩ = some (.int .u64 (L i 1 : Nat)) := (cb.cell (p := ⟨b, i * 4 + 1, none⟩) hb).trans (hcell i hlt 1 (by decide))
      have k2 : wr.cell? ⟨b, i * 4 + 2, none⟩ = some (.int .u64 (L i 2 : Nat)) := (cb.cell (p := ⟨b, i * 4 + 2, none⟩) hb).trans (hcell i hlt 2 (by decide))
      have k3 : wr.cell? ⟨b, i * 4 + 3, none⟩ = some (.int .u64 (L i 3 : Nat)) := (cb.cell (p := ⟨b, i * 4 + 3, none⟩) hb).trans (hcell i hlt 3 (by decide))
      have hlt2 : (i : Int) < n := by omega
      have e1 : IntKind.i64.wrap ((i : Int) + 1) = (i : Int) + 1 := IntWalk.i64_in _ (by omega)
      have R := Lib.hid (RR.out i hlt)
      have HBi := Lib.hid (HB.out i hlt)
      have HI := Lib.hid hlt
      have HN := Lib.hid hn
      have HC := Lib.hid c1
      have HF := Lib.hid cf
      have HCB := Lib.hid cb
      clear RR HB HA hb hcell hi hlt c1 cf cb hn
      have hws := HCB.out.size
      have hws2 := blk_lt HC.out
      go_upto_region 10 with (go_at_call 28; refine (R.out _).mono ?_; rintro e w9 ⟨rfl, hbel⟩; obtain ⟨o1, j1, rfl⟩ := grow_of_below hbel; clear hbel)
      clear R k0 k1 k2 k3
      generalize hV : grow _ o1 j1 = V
      have d0 : blk V wr.heap.size (#[.int .u64 (L i 0 : Nat), .int .u64 (L i 1 : Nat), .int .u64 (L i 2 : Nat), .int .u64 (L i 3 : Nat)]) 39 := by rw [← hV]; exact blk_grow (blk_new _ _ _) _ _
      have d1 : blk V (w.heap.size + 1) (clL L n i).toArray 3 := by rw [← hV]; exact blk_grow (blk_alloc HC.out _) _ _
      have df : FM V w.heap.size L i := by rw [← hV]; exact (HF.out.alloc _).grow _ _
      have db : Below w.heap.size w V := by rw [← hV]; repeat (first | (with_reducible exact HCB.out) | ((with_reducible refine below_grow ?_ ?_); rotate_left; focus (first | omega | (simp [go_sem]; done) | (simp [go_sem]; omega))) | ((with_reducible refine Below.alloc ?_ ?_ _); rotate_left; focus (first | omega | (simp [go_sem]; done) | (simp [go_sem]; omega))) | ((with_reducible refine Below.setCell ?_ ?_ _); rotate_left; focus (first | omega | (simp [go_sem]; done) | (simp [go_sem]; omega))) | (with_reducible refine Below.drew ?_) | (with_reducible refine below_drewN _ ?_))
      have hf := df.lt
      clear hV HC HF HCB
      have hd := HBi.out
      have wsz := blk_lt d1
      have hs0 := blk_lt d0
      obtain ⟨c, hl⟩ := fm_look df (L i) hd
      have q0 : V.cell? ⟨wr.heap.size, 0, none⟩ = some (.int .u64 (L i 0 : Nat)) := blk_cell d0 0
      have q1 : V.cell? ⟨wr.heap.size, 1, none⟩ = some (.int .u64 (L i 1 : Nat)) := blk_cell d0 1
      have q2 : V.cell? ⟨wr.heap.size, 2, none⟩ = some (.int .u64 (L i 2 : Nat)) := blk_cell d0 2
      have q3 : V.cell? ⟨wr.heap.size, 3, none⟩ = some (.int .u64 (L i 3 : Nat)) := blk_cell d0 3
      have ce : ∀ X, blk X (w.heap.size + 1) (clL L n i).toArray 3 → X.cell? ⟨w.heap.size + 1, i, none⟩ = some (.int .i64 0) := fun X h => by rw [blk_cell h]; exact clL_at L n i HI.out
      by_cases hs : fc L (L i) i < i
      · have hg := fm_get df (L i) hd hs
        have hcl := DB.cl_hit hs
        rw [decide_eq_true hs] at hl
        have ce0 := ce V d1
        have f0 := blk_free d1 i
        have D1 := Lib.hid d1
        have DF := Lib.hid (fm_same df hs)
        have DB' := Lib.hid db
        rw [← hcl] at hg
        obtain ⟨x, hx⟩ : ∃ x, cl L i = x := ⟨_, rfl⟩
        have HX := Lib.hid hx
        rw [hx] at hg
        clear ce d0 d1 df db hd hs hcl hx HBi HN
        go_wp2
        go_roundw
        case rel =>
          refine ⟨i + 1, HI.out, by go_num, ?_, DF.out.setCell (by omega) _, DB'.out.setCell (p := ⟨w.heap.size + 1, i, none⟩) (Nat.le_succ _) _⟩
          have h := blk_set D1.out i (.int .i64 (x : Nat))
          rw [← HX.out, clL_set L n i HI.out] at h
          rw [← HX.out]
          exact h
        case measure => simp [intOf]; have := HI.out; omega
      · obtain ⟨V2, hput, df2, hgr⟩ := fm_put df hd hs (by have := HI.out; have := HN.out; omega)
        have hcl := DB.cl_new hs
        have hg := fm_get df2 (L i) hd (by rw [DB.fc_new hs (Same.refl _)]; omega)
        rw [DB.fc_new hs (Same.refl _)] at hg
        rw [decide_eq_false hs] at hl
        have d02 := blk_grown d0 hgr (by simp; omega)
        have d12 := blk_grown d1 hgr (by simp)
        have db2 : Below w.heap.size w V2 := db.grown hgr (by omega) (fun k e => by cases e; exact Nat.le_refl _)
        have r0 : V2.cell? ⟨wr.heap.size, 0, none⟩ = some (.int .u64 (L i 0 : Nat)) := blk_cell d02 0
        have r1 : V2.cell? ⟨wr.heap.size, 1, none⟩ = some (.int .u64 (L i 1 : Nat)) := blk_cell d02 1
        have r2 : V2.cell? ⟨wr.heap.size, 2, none⟩ = some (.int .u64 (L i 2 : Nat)) := blk_cell d02 2
        have r3 : V2.cell? ⟨wr.heap.size, 3, none⟩ = some (.int .u64 (L i 3 : Nat)) := blk_cell d02 3
        have ce0 := ce V2 d12
        have f0 := blk_free d12 i
        have D1 := Lib.hid d12
        have DF := Lib.hid df2
        have DB' := Lib.hid db2
        have HX := Lib.hid hcl
        clear ce d0 d1 df db hd hs hcl d02 d12 df2 db2 hgr HBi HN
        go_wp2
        go_roundw
        case rel =>
          refine ⟨i + 1, HI.out, by go_num, ?_, DF.out.setCell (by omega) _, DB'.out.setCell (p := ⟨w.heap.size + 1, i, none⟩) (Nat.le_succ _) _⟩
          have h := blk_set D1.out i (.int .i64 (i : Nat))
          have h2 := clL_set L n i HI.out
          rw [HX.out] at h2
          rw [h2] at h
          exact h
        case measure => simp [intOf]; have := HI.out; omega
    · obtain rfl : i = n := by omega
      go_wp2
      refine bodyPost_ret (by simp [results, Tryd.results19, go_sem]) rfl ⟨⟨.slice (some ⟨w.heap.size + 1, 0, none⟩) i i, rfl, ?_⟩, cb⟩
      rw [← clL_full]
      exact ⟨by rw [clL_len]; omega, .inr ⟨w.heap.size + 1, i, _, rfl, by omega, c1, Nat.le_refl _, by unfold maxLen; omega, by simp [clL_len], by rw [Nat.mul_one]; exact List.take_of_length_le (by rw [clL_len]; exact Nat.le_refl _)⟩⟩
end Go.Proofs.YtalklogopepjpaaDoor.Ca
