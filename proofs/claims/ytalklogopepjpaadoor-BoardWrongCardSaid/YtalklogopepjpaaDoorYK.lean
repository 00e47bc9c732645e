/- Text. -/
import Derived.Test.YtalklogopepjpaaDoorYJ
import Derived.Test.YtalklogopepjpaaDoorXB
import Derived.Test.YtalklogopepjpaaDoorMH
namespace Go.Proofs.YtalklogopepjpaaDoor.Ca
open Go.RowKit
open Go.Proofs.DB (ct bt Pd lack)

/-- The text of a deal. -/
def dtx (p : Nat → Nat) : List UInt8 := DB.four 32 fun i => wrt (p i)
theorem dtx_join (p : Nat → Nat) : Lib.join (([⟨(wrt (p 0)).toArray⟩, ⟨(wrt (p 1)).toArray⟩, ⟨(wrt (p 2)).toArray⟩, ⟨(wrt (p 3)).toArray⟩] : List ByteArray).map (·.data.toList)) (ByteArray.mk #[32]).data.toList = dtx p := by
  simp only [List.map_cons, List.map_nil]
  rw [Lib.join_cons]
  simp [Lib.joinTail, dtx, DB.four]
theorem wrt_len (m : Nat) : (wrt m).length ≤ 55 := by
  have := wrt_length m
  have := cds_length_le m
  omega
theorem dtx_length (p : Nat → Nat) : (dtx p).length ≤ 223 := by
  have := wrt_len (p 0); have := wrt_len (p 1); have := wrt_len (p 2); have := wrt_len (p 3)
  simp only [dtx, DB.four, List.length_append, List.length_cons]
  omega
theorem text_no (p : Nat → Nat) (h64 : ∀ i, i < 4 → p i < 18446744073709551616) (hp : ¬ Pd p) (w : World) : Calls Tryd.prog 23 #[.agg #[.int .u64 (p 0 : Nat), .int .u64 (p 1 : Nat), .int .u64 (p 2 : Nat), .int .u64 (p 3 : Nat)]] w fun e w' => e = .returned (.tuple #[.string ⟨#[]⟩, .int .i64 60]) ∧ Below w.heap.size w w' := by
  have P := Lib.hid (partial_no p h64 hp)
  clear hp h64
  go_enter Tryd.func23, Tryd.ntmps23
  go_wp2_with (go_at_call 37; refine (P.out _).mono ?_; rintro e w9 ⟨rfl, hbel⟩; obtain ⟨o1, j1, rfl⟩ := grow_of_below hbel; clear hbel)
  refine bodyPost_ret (by simp [results, Tryd.results23, go_sem]) rfl ⟨rfl, ?_⟩
  repeat (first | (with_reducible exact Below.refl _ _) | ((with_reducible refine below_grow ?_ ?_); rotate_left; focus (first | omega | (simp [go_sem]; done) | (simp [go_sem]; omega))) | ((with_reducible refine Below.alloc ?_ ?_ _); rotate_left; focus (first | omega | (simp [go_sem]; done) | (simp [go_sem]; omega))) | ((with_reducible refine Below.setCell ?_ ?_ _); rotate_left; focus (first | omega | (simp [go_sem]; done) | (simp [go_sem]; omega))) | (with_reducible refine Below.drew ?_) | (with_reducible refine below_drewN _ ?_))
set_option maxRecDepth 100000 in
set_option maxHeartbeats 8000000 in
theorem text_yes (p : Nat → Nat) (hp : Pd p) (w : World) : Calls Tryd.prog 23 #[.agg #[.int .u64 (p 0 : Nat), .int .u64 (p 1 : Nat), .int .u64 (p 2 : Nat), .int .u64 (p 3 : Nat)]] w fun e w' => e = .returned (.tuple #[strv (78 :: 58 :: dtx p), .int .i64 0]) ∧ Below w.heap.size w w' := by
  have P := Lib.hid (partial_yes p hp)
  have W0 := Lib.hid (write_yes (p 0) (hp.lt 0 (by decide)))
  have W1 := Lib.hid (write_yes (p 1) (hp.lt 1 (by decide)))
  have W2 := Lib.hid (write_yes (p 2) (hp.lt 2 (by decide)))
  have W3 := Lib.hid (write_yes (p 3) (hp.lt 3 (by decide)))
  have j := dtx_join p
  have hl := dtx_length p
  have ao := add_op [78, 58] (dtx p) (by decide) (by omega)
  have av := add_strv [78, 58] (dtx p) (by decide) (by omega)
  clear hp
  go_enter Tryd.func23, Tryd.ntmps23
  go_upto_region 5 with (go_at_call 37; refine (P.out _).mono ?_; rintro e w9 ⟨rfl, hbel⟩; obtain ⟨o1, j1, rfl⟩ := grow_of_below hbel; clear hbel)
  generalize hW : World.alloc (grow _ o1 j1) _ = W
  generalize hq : w.heap.size + 1 + sz o1 = q at *
  have b1 : blk W q #[.string ⟨#[]⟩, .string ⟨#[]⟩, .string ⟨#[]⟩, .string ⟨#[]⟩] 61 := by rw [← hW]; exact blk_at _ _ _ (by rw [← hq]; simp [go_sem])
  have bb : Below w.heap.size w W := by rw [← hW]; repeat (first | (with_reducible exact Below.refl _ _) | ((with_reducible refine below_grow ?_ ?_); rotate_left; focus (first | omega | (simp [go_sem]; done) | (simp [go_sem]; omega))) | ((with_reducible refine Below.alloc ?_ ?_ _); rotate_left; focus (first | omega | (simp [go_sem]; done) | (simp [go_sem]; omega))) | ((with_reducible refine Below.setCell ?_ ?_ _); rotate_left; focus (first | omega | (simp [go_sem]; done) | (simp [go_sem]; omega))) | (with_reducible refine Below.drew ?_) | (with_reducible refine below_drewN _ ?_))
  have hwq : w.heap.size ≤ q := by omega
  clear hW hq P
  have hbs := bb.size
  have k0 : W.cell? ⟨q, 0, none⟩ = some (.string ⟨#[]⟩) := blk_cell b1 0
  have k1 : W.cell? ⟨q, 1, none⟩ = some (.string ⟨#[]⟩) := blk_cell b1 1
  have k2 : W.cell? ⟨q, 2, none⟩ = some (.string ⟨#[]⟩) := blk_cell b1 2
  have k3 : W.cell? ⟨q, 3, none⟩ = some (.string ⟨#[]⟩) := blk_cell b1 3
  have f1 : ∀ j, W.frozen? ⟨q, j, none⟩ = false := fun j => blk_free b1 j
  haveI i1 : NeZero (inW q W) := inW_mk (blk_lt b1)
  have hqW := blk_lt b1
  have w2 : IntKind.i64.wrap 1 = 1 := rfl
  have w3 : IntKind.i64.wrap 2 = 2 := rfl
  have w4 : IntKind.i64.wrap 3 = 3 := rfl
  have w5 : IntKind.i64.wrap 4 = 4 := rfl
  have B1 := Lib.hid b1
  have AO := Lib.hid ao
  have AV := Lib.hid av
  have J0 := Lib.hid j
  clear b1 ao av j
  have ix0 : ∀ W, (Instr.index 39 (.agg #[.int .u64 (p 0 : Nat), .int .u64 (p 1 : Nat), .int .u64 (p 2 : Nat), .int .u64 (p 3 : Nat)]) (.int .i64 0)).run Tryd.prog W = .ok (.int .u64 (p 0 : Nat)) W := fun W => index_deal p 0 (by decide) W
  have ix1 : ∀ W, (Instr.index 39 (.agg #[.int .u64 (p 0 : Nat), .int .u64 (p 1 : Nat), .int .u64 (p 2 : Nat), .int .u64 (p 3 : Nat)]) (.int .i64 1)).run Tryd.prog W = .ok (.int .u64 (p 1 : Nat)) W := fun W => index_deal p 1 (by decide) W
  have ix2 : ∀ W, (Instr.index 39 (.agg #[.int .u64 (p 0 : Nat), .int .u64 (p 1 : Nat), .int .u64 (p 2 : Nat), .int .u64 (p 3 : Nat)]) (.int .i64 2)).run Tryd.prog W = .ok (.int .u64 (p 2 : Nat)) W := fun W => index_deal p 2 (by decide) W
  have ix3 : ∀ W, (Instr.index 39 (.agg #[.int .u64 (p 0 : Nat), .int .u64 (p 1 : Nat), .int .u64 (p 2 : Nat), .int .u64 (p 3 : Nat)]) (.int .i64 3)).run Tryd.prog W = .ok (.int .u64 (p 3 : Nat)) W := fun W => index_deal p 3 (by decide) W
  refine wp_loop_rounds 5 ?_
  rw [rounds_succ]
  go_wp2_with (go_at_call 38; refine (W0.out _).mono ?_; rintro e w9 ⟨rfl, hbel⟩; obtain ⟨o2, j2, rfl⟩ := grow_of_below hbel; clear hbel)
  clear W0
  rw [rounds_succ]
  go_wp2_with (go_at_call 38; refine (W1.out _).mono ?_; rintro e w9 ⟨rfl, hbel⟩; obtain ⟨o3, j3, rfl⟩ := grow_of_below hbel; clear hbel)
  clear W1
  rw [rounds_succ]
  go_wp2_with (go_at_call 38; refine (W2.out _).mono ?_; rintro e w9 ⟨rfl, hbel⟩; obtain ⟨o4, j4, rfl⟩ := grow_of_below hbel; clear hbel)
  clear W2
  rw [rounds_succ]
  go_wp2_with (go_at_call 38; refine (W3.out _).mono ?_; rintro e w9 ⟨rfl, hbel⟩; obtain ⟨o5, j5, rfl⟩ := grow_of_below hbel; clear hbel)
  clear W3
  rw [rounds_succ]
  go_upto_region 9 with fail
  generalize hV : grow _ _ j5 = V
  have c1 : blk V q #[.string ⟨(wrt (p 0)).toArray⟩, .string ⟨(wrt (p 1)).toArray⟩, .string ⟨(wrt (p 2)).toArray⟩, .string ⟨(wrt (p 3)).toArray⟩] 61 := by
    rw [← hV]
    exact blk_grow (blk_set (blk_set (blk_set (blk_set B1.out 0 _) 1 _) 2 _) 3 _) _ _
  have cb : Below w.heap.size w V := by rw [← hV]; repeat (first | (with_reducible exact bb) | ((with_reducible refine below_grow ?_ ?_); rotate_left; focus (first | omega | (simp [go_sem]; done) | (simp [go_sem]; omega))) | ((with_reducible refine Below.alloc ?_ ?_ _); rotate_left; focus (first | omega | (simp [go_sem]; done) | (simp [go_sem]; omega))) | ((with_reducible refine Below.setCell ?_ ?_ _); rotate_left; focus (first | omega | (simp [go_sem]; done) | (simp [go_sem]; omega))) | (with_reducible refine Below.drew ?_) | (with_reducible refine below_drewN _ ?_))
  clear hV
  have JN := Lib.hid (Tryd.strings_Join q 0 4 [⟨(wrt (p 0)).toArray⟩, ⟨(wrt (p 1)).toArray⟩, ⟨(wrt (p 2)).toArray⟩, ⟨(wrt (p 3)).toArray⟩] ⟨#[32]⟩ V (by
      intro j x hj
      rw [Nat.zero_add]
      match j, hj with
      | 0, hj => rw [blk_cell c1]; cases hj; rfl
      | 1, hj => rw [blk_cell c1]; cases hj; rfl
      | 2, hj => rw [blk_cell c1]; cases hj; rfl
      | 3, hj => rw [blk_cell c1]; cases hj; rfl) (blk_lt c1) (by simp) (by simp) (by rw [J0.out]; omega))
  rw [J0.out] at JN
  have ao := AO.out
  have av := AV.out
  clear c1 k0 k1 k2 k3 f1 i1 hqW w2 w3 w4 w5 B1 AO AV J0 ix0 ix1 ix2 ix3 hbs
  have hbs := cb.size
  go_wp2_with (go_at_call 33; refine JN.out.mono ?_; rintro e w9 ⟨rfl, hbel⟩; obtain ⟨o6, j6, rfl⟩ := grow_of_below hbel; clear hbel)
  refine bodyPost_ret (by simp [results, Tryd.results23, go_sem]) rfl ⟨rfl, ?_⟩
  repeat (first | (with_reducible exact cb) | ((with_reducible refine below_grow ?_ ?_); rotate_left; focus (first | omega | (simp [go_sem]; done) | (simp [go_sem]; omega))) | ((with_reducible refine Below.alloc ?_ ?_ _); rotate_left; focus (first | omega | (simp [go_sem]; done) | (simp [go_sem]; omega))) | ((with_reducible refine Below.setCell ?_ ?_ _); rotate_left; focus (first | omega | (simp [go_sem]; done) | (simp [go_sem]; omega))) | (with_reducible refine Below.drew ?_) | (with_reducible refine below_drewN _ ?_))
end Go.Proofs.YtalklogopepjpaaDoor.Ca
