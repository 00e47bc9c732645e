/- Changes. -/
import Derived.Test.YtalklogopepjpaaDoorBF
import Derived.Deep.LoopGhost
namespace Go.Proofs.YtalklogopepjpaaDoor.Ca
open Go.RowKit
open Go.Proofs.DB (Pd Rd bt own chg)

theorem dright_any (p : Nat → Nat) (h64 : ∀ i, i < 4 → p i < 18446744073709551616) (w : World) : Calls Tryd.prog 28 #[.agg #[.int .u64 (p 0 : Nat), .int .u64 (p 1 : Nat), .int .u64 (p 2 : Nat), .int .u64 (p 3 : Nat)]] w fun e w' => e = .returned (.bool (decide (Rd p))) ∧ Below w.heap.size w w' := by
  by_cases h : Pd p
  · exact dright_yes p h w
  · have := dright_no p h64 h w
    rwa [show decide (Rd p) = false from decide_eq_false fun g => h g.toPd]
theorem dright_of (p : Nat → Nat) (hp : Rd p) (w : World) : Calls Tryd.prog 28 #[.agg #[.int .u64 (p 0 : Nat), .int .u64 (p 1 : Nat), .int .u64 (p 2 : Nat), .int .u64 (p 3 : Nat)]] w fun e w' => e = .returned (.bool true) ∧ Below w.heap.size w w' := by
  have := dright_yes p hp.toPd w
  rwa [decide_eq_true hp] at this
theorem dright_not (p : Nat → Nat) (h64 : ∀ i, i < 4 → p i < 18446744073709551616) (hp : ¬ Rd p) (w : World) : Calls Tryd.prog 28 #[.agg #[.int .u64 (p 0 : Nat), .int .u64 (p 1 : Nat), .int .u64 (p 2 : Nat), .int .u64 (p 3 : Nat)]] w fun e w' => e = .returned (.bool false) ∧ Below w.heap.size w w' := by
  have := dright_any p h64 w
  rwa [decide_eq_false hp] at this
theorem changes_no (p q : Nat → Nat) (hp : ∀ i, i < 4 → p i < 18446744073709551616) (hq : ∀ i, i < 4 → q i < 18446744073709551616) (h : ¬ (Rd p ∧ Rd q)) (w : World) :
    Calls Tryd.prog 17 #[.agg #[.int .u64 (p 0 : Nat), .int .u64 (p 1 : Nat), .int .u64 (p 2 : Nat), .int .u64 (p 3 : Nat)], .agg #[.int .u64 (q 0 : Nat), .int .u64 (q 1 : Nat), .int .u64 (q 2 : Nat), .int .u64 (q 3 : Nat)]] w fun e w' => e = .returned (.tuple #[.slice none 0 0, .int .i64 60]) ∧ Below w.heap.size w w' := by
  by_cases h1 : Rd p
  · have P := Lib.hid (dright_of p h1)
    have Q := Lib.hid (dright_not q hq (fun g => h ⟨h1, g⟩))
    clear hp hq h h1
    go_enter Tryd.func17, Tryd.ntmps17
    go_wp2_with (first | (go_at_call_of 28 (Value.int .u64 (p 0 : Nat)); refine (P.out _).mono ?_; rintro e w9 ⟨rfl, hbel⟩; obtain ⟨o1, j1, rfl⟩ := grow_of_below hbel; clear hbel) | (go_at_call_of 28 (Value.int .u64 (q 0 : Nat)); refine (Q.out _).mono ?_; rintro e w9 ⟨rfl, hbel⟩; obtain ⟨o2, j2, rfl⟩ := grow_of_below hbel; clear hbel))
    refine bodyPost_ret (by simp [results, Tryd.results17, go_sem]) rfl ⟨rfl, ?_⟩
    repeat (first | (with_reducible exact Below.refl _ _) | ((with_reducible refine below_grow ?_ ?_); rotate_left; focus (first | omega | (simp [go_sem]; done) | (simp [go_sem]; omega))) | ((with_reducible refine Below.alloc ?_ ?_ _); rotate_left; focus (first | omega | (simp [go_sem]; done) | (simp [go_sem]; omega))) | ((with_reducible refine Below.setCell ?_ ?_ _); rotate_left; focus (first | omega | (simp [go_sem]; done) | (simp [go_sem]; omega))) | (with_reducible refine Below.drew ?_) | (with_reducible refine below_drewN _ ?_))
  · have P := Lib.hid (dright_not p hp h1)
    clear hp hq h h1
    go_enter Tryd.func17, Tryd.ntmps17
    go_wp2_with (go_at_call 28; refine (P.out _).mono ?_; rintro e w9 ⟨rfl, hbel⟩; obtain ⟨o1, j1, rfl⟩ := grow_of_below hbel; clear hbel)
    refine bodyPost_ret (by simp [results, Tryd.results17, go_sem]) rfl ⟨rfl, ?_⟩
    repeat (first | (with_reducible exact Below.refl _ _) | ((with_reducible refine below_grow ?_ ?_); rotate_left; focus (first | omega | (simp [go_sem]; done) | (simp [go_sem]; omega))) | ((with_reducible refine Below.alloc ?_ ?_ _); rotate_left; focus (first | omega | (simp [go_sem]; done) | (simp [go_sem]; omega))) | ((with_reducible refine Below.setCell ?_ ?_ _); rotate_left; focus (first | omega | (simp [go_sem]; done) | (simp [go_sem]; omega))) | (with_reducible refine Below.drew ?_) | (with_reducible refine below_drewN _ ?_))
theorem chV_len (p q : Nat → Nat) (l : List Nat) : (chV p q l).length = l.length * 3 := by
  induction l with
  | nil => rfl
  | cons c l ih => simp only [chV, List.flatMap_cons, List.length_append, List.length_cons, List.length_nil] at ih ⊢; omega
set_option maxRecDepth 100000 in
set_option maxHeartbeats 4000000 in
theorem changes_yes (p q : Nat → Nat) (hp : Rd p) (hq : Rd q) (w : World) :
    Calls Tryd.prog 17 #[.agg #[.int .u64 (p 0 : Nat), .int .u64 (p 1 : Nat), .int .u64 (p 2 : Nat), .int .u64 (p 3 : Nat)], .agg #[.int .u64 (q 0 : Nat), .int .u64 (q 1 : Nat), .int .u64 (q 2 : Nat), .int .u64 (q 3 : Nat)]] w fun e w' => (∃ v, e = .returned (.tuple #[v, .int .i64 0]) ∧ w'.ownsRow w.heap.size 45 3 v (chg p q 52).length (chV p q (chg p q 52))) ∧ Below w.heap.size w w' := by
  have P := Lib.hid (dright_of p hp)
  have Q := Lib.hid (dright_of q hq)
  have CL := Lib.hid (fun c (hc : c < 52) => chg1_calls p q hp hq c hc)
  clear hp hq
  go_enter Tryd.func17, Tryd.ntmps17
  go_upto_region 5 with (first | (go_at_call_of 28 (Value.int .u64 (p 0 : Nat)); refine (P.out _).mono ?_; rintro e w9 ⟨rfl, hbel⟩; obtain ⟨o1, j1, rfl⟩ := grow_of_below hbel; clear hbel) | (go_at_call_of 28 (Value.int .u64 (q 0 : Nat)); refine (Q.out _).mono ?_; rintro e w9 ⟨rfl, hbel⟩; obtain ⟨o2, j2, rfl⟩ := grow_of_below hbel; clear hbel))
  clear P Q
  generalize hW : World.alloc (grow _ _ j2) _ = W
  generalize hbs : w.heap.size + 1 + 1 + sz (o1 ++ o2) = bs at *
  have b0 : blk W w.heap.size (#[.int .u64 (p 0 : Nat), .int .u64 (p 1 : Nat), .int .u64 (p 2 : Nat), .int .u64 (p 3 : Nat)]) 39 := by rw [← hW]; exact blk_alloc (blk_grow (blk_alloc (blk_new _ _ _) _) _ _) _
  have b1 : blk W (w.heap.size + 1) (#[.int .u64 (q 0 : Nat), .int .u64 (q 1 : Nat), .int .u64 (q 2 : Nat), .int .u64 (q 3 : Nat)]) 39 := by rw [← hW]; exact blk_alloc (blk_grow (blk_at _ _ _ (by simp)) _ _) _
  have b2 : blk W bs #[.slice none 0 0] 41 := by rw [← hW]; exact blk_at _ _ _ (by rw [← hbs]; simp [go_sem])
  have bb : Below w.heap.size w W := by rw [← hW]; repeat (first | (with_reducible exact Below.refl _ _) | ((with_reducible refine below_grow ?_ ?_); rotate_left; focus (first | omega | (simp [go_sem]; done) | (simp [go_sem]; omega))) | ((with_reducible refine Below.alloc ?_ ?_ _); rotate_left; focus (first | omega | (simp [go_sem]; done) | (simp [go_sem]; omega))) | ((with_reducible refine Below.setCell ?_ ?_ _); rotate_left; focus (first | omega | (simp [go_sem]; done) | (simp [go_sem]; omega))) | (with_reducible refine Below.drew ?_) | (with_reducible refine below_drewN _ ?_))
  have hwb : w.heap.size + 1 < bs := by omega
  clear hW hbs
  go_wp2
  go_loopw [8, 18] (fun s8 s18 wr => ∃ i : Nat, i ≤ 52 ∧ s18 = .int .u8 i ∧ blk wr w.heap.size (#[.int .u64 (p 0 : Nat), .int .u64 (p 1 : Nat), .int .u64 (p 2 : Nat), .int .u64 (p 3 : Nat)]) 39 ∧ blk wr (w.heap.size + 1) (#[.int .u64 (q 0 : Nat), .int .u64 (q 1 : Nat), .int .u64 (q 2 : Nat), .int .u64 (q 3 : Nat)]) 39 ∧ (∃ v, blk wr bs #[v] 41 ∧ wr.ownsRow (bs + 1) 45 3 v (chg p q i).length (chV p q (chg p q i))) ∧ Below w.heap.size w wr) (fun _ s18 _ => 52 - (intOf s18).toNat)
  case atStart => exact ⟨0, by decide, rfl, b0, b1, ⟨_, b2, World.ownsRow_nil _ _ _ _⟩, bb⟩
  case round =>
    obtain ⟨i, hi, rfl, c0, c1, ⟨v, c2, hown⟩, cb⟩ := hrel
    clear b0 b1 b2 bb
    by_cases hlt : i < 52
    · have hlt2 : (i : Int) < 52 := by omega
      have e1 : IntKind.u8.wrap ((i : Int) + 1) = (i : Int) + 1 := u8_wrap (by omega) (by omega)
      have hln := DB.chg_len p q i
      have C := Lib.hid (CL.out i hlt w.heap.size (w.heap.size + 1) bs w.heap.size (chg p q i).length v _ wr (by omega) (by omega) hwb c0 c1 c2 hown (by omega))
      clear CL c0 c1 c2 hown
      have CB := Lib.hid cb
      have HI := Lib.hid hlt
      clear cb hi hlt hln
      go_wp2_with (go_at_call 29; refine C.out.mono ?_; rintro e w1 ⟨⟨u, rfl⟩, d1, d2, d3, d4, v', d5, d6⟩)
      go_roundw
      case rel =>
        refine ⟨i + 1, HI.out, by go_num, d2, d3, ⟨v', d5, ?_⟩, CB.out.trans d1⟩
        by_cases hs : own p i = own q i
        · rw [if_pos hs] at d6
          rw [DB.chg, if_pos hs]
          exact d6
        · rw [if_neg hs] at d6
          rw [DB.chg, if_neg hs, chV_snoc]
          simpa using d6
      case measure => simp [intOf]; have := HI.out; omega
    · obtain rfl : i = 52 := by omega
      have k2 : wr.cell? ⟨bs, 0, none⟩ = some v := blk_cell c2 0
      obtain ⟨A, cap, rfl⟩ := own_slice_any hown
      go_wp2
      refine bodyPost_ret (by simp [results, Tryd.results17, go_sem]) rfl ⟨⟨.slice A (chg p q 52).length cap, rfl, ?_⟩, cb⟩
      have h := hown
      rw [show bs + 1 = w.heap.size + (bs + 1 - w.heap.size) by omega] at h
      exact own_base h
end Go.Proofs.YtalklogopepjpaaDoor.Ca
