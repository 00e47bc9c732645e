/- Text of a record. -/
import Derived.Test.YtalklogopepjpaaDoorBJ
import Derived.Deep.RegionHeld3
namespace Go.Proofs.YtalklogopepjpaaDoor.Ca
open Go.RowKit
open Go.Proofs.DB (Pd Rd dlr vul)

theorem btext_bad (n : Int) (p : Nat → Nat) (x : Int) (hx : ¬ x = 0) (F : ∀ w, Calls Tryd.prog 31 #[.agg #[.int .i64 n, .int .u64 (p 0 : Nat), .int .u64 (p 1 : Nat), .int .u64 (p 2 : Nat), .int .u64 (p 3 : Nat)]] w fun e w' => e = .returned (.int .i64 x) ∧ Below w.heap.size w w') (w : World) :
    Calls Tryd.prog 20 #[.agg #[.int .i64 n, .int .u64 (p 0 : Nat), .int .u64 (p 1 : Nat), .int .u64 (p 2 : Nat), .int .u64 (p 3 : Nat)]] w fun e w' => e = .returned (.tuple #[.string ⟨#[]⟩, .int .i64 x]) ∧ Below w.heap.size w w' := by
  have F := Lib.hid F
  go_enter Tryd.func20, Tryd.ntmps20
  go_wp2_with (go_at_call 31; refine (F.out _).mono ?_; rintro e w9 ⟨rfl, hbel⟩; obtain ⟨o1, j1, rfl⟩ := grow_of_below hbel; clear hbel)
  refine bodyPost_ret (by simp [results, Tryd.results20, go_sem]) rfl ⟨rfl, ?_⟩
  repeat (first | (with_reducible exact Below.refl _ _) | ((with_reducible refine below_grow ?_ ?_); rotate_left; focus (first | omega | (simp [go_sem]; done) | (simp [go_sem]; omega))) | ((with_reducible refine Below.alloc ?_ ?_ _); rotate_left; focus (first | omega | (simp [go_sem]; done) | (simp [go_sem]; omega))) | ((with_reducible refine Below.setCell ?_ ?_ _); rotate_left; focus (first | omega | (simp [go_sem]; done) | (simp [go_sem]; omega))) | (with_reducible refine Below.drew ?_) | (with_reducible refine below_drewN _ ?_))
theorem slice_ltr (d : Nat) (h : d < 4) (W : World) : (Instr.slice 9 (.string ⟨#[78, 69, 83, 87]⟩) (some (.int .u8 (d : Int))) (some (.int .u8 (IntKind.u8.wrap ((d : Int) + 1)))) none).run Tryd.prog W = .ok (strv [dltr d]) W := by
  match d, h with
  | 0, _ => show _ = _; kernel_rfl
  | 1, _ => show _ = _; kernel_rfl
  | 2, _ => show _ = _; kernel_rfl
  | 3, _ => show _ = _; kernel_rfl
/-- The text of a record. -/
def rtx (n : Nat) (p : Nat → Nat) : List UInt8 := Lib.itoa (n : Int) ++ 32 :: ([dltr (dlr n)] ++ 32 :: (side (vul n) ++ 32 :: (78 :: 58 :: dtx p)))
theorem rtx_join (n : Nat) (p : Nat → Nat) : Lib.join (([⟨(Lib.itoa (n : Int)).toArray⟩, ⟨[dltr (dlr n)].toArray⟩, ⟨(side (vul n)).toArray⟩, ⟨(78 :: 58 :: dtx p).toArray⟩] : List ByteArray).map (·.data.toList)) (ByteArray.mk #[32]).data.toList = rtx n p := by
  simp only [List.map_cons, List.map_nil]
  rw [Lib.join_cons]
  simp [Lib.joinTail, rtx]
theorem itoa_short : ∀ n : Fin 129, (Lib.itoa ((n.val : Nat) : Int)).length ≤ 3 := by decide +kernel
theorem side_len (v : Nat) : (side v).length ≤ 4 := by
  unfold side
  split <;> decide
theorem rtx_length {n : Nat} (h2 : n ≤ 128) (p : Nat → Nat) : (rtx n p).length ≤ 240 := by
  have a := itoa_short ⟨n, by omega⟩
  have b := side_len (vul n)
  have c := dtx_length p
  dsimp only at a
  simp only [rtx, List.length_append, List.length_cons, List.length_nil]
  omega
set_option maxRecDepth 100000 in
set_option maxHeartbeats 4000000 in
theorem btext_yes (n : Nat) (h1 : 1 ≤ n) (h2 : n ≤ 128) (p : Nat → Nat) (hp : Rd p) (w : World) (he : EnvB w) :
    Calls Tryd.prog 20 #[.agg #[.int .i64 n, .int .u64 (p 0 : Nat), .int .u64 (p 1 : Nat), .int .u64 (p 2 : Nat), .int .u64 (p 3 : Nat)]] w fun e w' => e = .returned (.tuple #[strv (rtx n p), .int .i64 0]) ∧ Below w.heap.size w w' := by
  have F := Lib.hid (fault_yes n h1 h2 p hp)
  have D := Lib.hid (dealer_yes n h1 h2)
  have V := Lib.hid (vul_yes n h1 h2)
  have T := Lib.hid (text_yes p hp.toPd)
  have I := Lib.hid (fun W (hW : Below w.heap.size w W) => itoa_calls n (by omega) (by omega) W (he.below hW))
  have sl := slice_ltr (dlr n) (DB.dlr_lt n)
  have j := rtx_join n p
  have hl := rtx_length h2 p
  have hv := DB.vul_lt n
  have sd := he.sd (vul n) hv
  have hg := World.block_lt_of_cell? w _ sd
  haveI ig : NeZero (inW 0 w) := inW_mk hg
  have hv2 : ((vul n : Nat) : Int) < 4 := by omega
  have JN0 := Lib.hid (fun q W => Tryd.strings_Join q 0 4 [⟨(Lib.itoa (n : Int)).toArray⟩, ⟨[dltr (dlr n)].toArray⟩, ⟨(side (vul n)).toArray⟩, ⟨(78 :: 58 :: dtx p).toArray⟩] ⟨#[32]⟩ W)
  rw [j] at JN0
  obtain ⟨R, hR⟩ : ∃ R, rtx n p = R := ⟨_, rfl⟩
  obtain ⟨d, hd⟩ : ∃ d, dlr n = d := ⟨_, rfl⟩
  obtain ⟨v, hvv⟩ : ∃ d, vul n = d := ⟨_, rfl⟩
  rw [hR] at hl JN0 ⊢
  rw [hd] at sl D JN0
  rw [hvv] at V sd hv2 JN0
  have HL := Lib.hid hl
  clear hd hvv hR h1 h2 hp hv j hl
  go_enter Tryd.func20, Tryd.ntmps20
  go_upto_region 7 with (first | (go_at_call 31; refine (F.out _).mono ?_; rintro e w9 ⟨rfl, hbel⟩; obtain ⟨o1, j1, rfl⟩ := grow_of_below hbel; clear hbel) | (go_at_call 9; refine (D.out _).mono ?_; rintro e w9 ⟨rfl, rfl⟩) | (go_at_call 11; refine (V.out _).mono ?_; rintro e w9 ⟨rfl, rfl⟩) | (go_at_call 23; refine (T.out _).mono ?_; rintro e w9 ⟨rfl, hbel⟩; obtain ⟨o2, j2, rfl⟩ := grow_of_below hbel; clear hbel))
  clear F D V T
  generalize hW : grow _ _ j2 = W
  have b0 : blk W w.heap.size #[.int .i64 n, .int .u64 (p 0 : Nat), .int .u64 (p 1 : Nat), .int .u64 (p 2 : Nat), .int .u64 (p 3 : Nat)] 53 := by rw [← hW]; exact blk_grow (blk_new _ _ _) _ _
  have bb : Below w.heap.size w W := by rw [← hW]; repeat (first | (with_reducible exact Below.refl _ _) | ((with_reducible refine below_grow ?_ ?_); rotate_left; focus (first | omega | (simp [go_sem]; done) | (simp [go_sem]; omega))) | ((with_reducible refine Below.alloc ?_ ?_ _); rotate_left; focus (first | omega | (simp [go_sem]; done) | (simp [go_sem]; omega))) | ((with_reducible refine Below.setCell ?_ ?_ _); rotate_left; focus (first | omega | (simp [go_sem]; done) | (simp [go_sem]; omega))) | (with_reducible refine Below.drew ?_) | (with_reducible refine below_drewN _ ?_))
  have k0 : W.cell? ⟨w.heap.size, 0, none⟩ = some (.int .i64 n) := blk_cell b0 0
  have ks : W.cell? ⟨0, v, none⟩ = some (strv (side v)) := (bb.cell (p := ⟨0, v, none⟩) hg).trans sd
  haveI i0 : NeZero (inW w.heap.size W) := inW_mk (blk_lt b0)
  haveI ig2 : NeZero (inW 0 W) := inW_mk (Nat.lt_of_lt_of_le hg bb.size)
  have hbs := bb.size
  have IT := Lib.hid (fun X (hX : Below w.heap.size W X) => I.out X (bb.trans hX))
  have BB' := Lib.hid bb
  clear hW b0 bb ig sd I
  go_region_held3 (fun w' => w'.cell? ⟨w.heap.size, 0, none⟩ = some (.int .i64 n) ∧ w'.cell? ⟨0, v, none⟩ = some (strv (side v))) (simp [*, go_sem])
    (first | (go_at_call 32; refine (IT.out _ (by repeat (first | (with_reducible exact Below.refl _ _) | ((with_reducible refine below_grow ?_ ?_); rotate_left; focus (first | omega | (simp [go_sem]; done) | (simp [go_sem]; omega))) | ((with_reducible refine Below.alloc ?_ ?_ _); rotate_left; focus (first | omega | (simp [go_sem]; done) | (simp [go_sem]; omega))) | ((with_reducible refine Below.setCell ?_ ?_ _); rotate_left; focus (first | omega | (simp [go_sem]; done) | (simp [go_sem]; omega))) | (with_reducible refine Below.drew ?_) | (with_reducible refine below_drewN _ ?_)))).mono ?_; rintro e w9 ⟨rfl, hbel⟩; obtain ⟨o3, j3, rfl⟩ := grow_of_below hbel; clear hbel))
  all_goals clear IT k0 ks i0 ig2
  · generalize hY : World.alloc (grow W o3 j3) _ = Y
    generalize hq : W.heap.size + sz o3 = q at *
    have c1 : blk Y q #[strv (Lib.itoa (n : Int)), strv [dltr d], strv (side v), strv (78 :: 58 :: dtx p)] 61 := by rw [← hY]; exact blk_at _ _ _ (by rw [← hq]; simp [go_sem])
    have cb : Below w.heap.size w Y := by rw [← hY]; repeat (first | (with_reducible exact BB'.out) | ((with_reducible refine below_grow ?_ ?_); rotate_left; focus (first | omega | (simp [go_sem]; done) | (simp [go_sem]; omega))) | ((with_reducible refine Below.alloc ?_ ?_ _); rotate_left; focus (first | omega | (simp [go_sem]; done) | (simp [go_sem]; omega))) | ((with_reducible refine Below.setCell ?_ ?_ _); rotate_left; focus (first | omega | (simp [go_sem]; done) | (simp [go_sem]; omega))) | (with_reducible refine Below.drew ?_) | (with_reducible refine below_drewN _ ?_))
    clear hY BB'
    have JN := Lib.hid (JN0.out q Y (by
      intro j x hj
      rw [Nat.zero_add]
      match j, hj with
      | 0, hj => rw [blk_cell c1]; cases hj; rfl
      | 1, hj => rw [blk_cell c1]; cases hj; rfl
      | 2, hj => rw [blk_cell c1]; cases hj; rfl
      | 3, hj => rw [blk_cell c1]; cases hj; rfl) (blk_lt c1) (by simp) (by simp) (by have := HL.out; omega))
    clear c1 JN0 hq
    have hbs := cb.size
    go_wp2_with (go_at_call 33; refine JN.out.mono ?_; rintro e w9 ⟨rfl, hbel⟩; obtain ⟨o6, j6, rfl⟩ := grow_of_below hbel; clear hbel)
    refine bodyPost_ret (by simp [results, Tryd.results20, go_sem]) rfl ⟨rfl, ?_⟩
    repeat (first | (with_reducible exact cb) | ((with_reducible refine below_grow ?_ ?_); rotate_left; focus (first | omega | (simp [go_sem]; done) | (simp [go_sem]; omega))) | ((with_reducible refine Below.alloc ?_ ?_ _); rotate_left; focus (first | omega | (simp [go_sem]; done) | (simp [go_sem]; omega))) | ((with_reducible refine Below.setCell ?_ ?_ _); rotate_left; focus (first | omega | (simp [go_sem]; done) | (simp [go_sem]; omega))) | (with_reducible refine Below.drew ?_) | (with_reducible refine below_drewN _ ?_))
  · generalize hY : grow (World.alloc W _) o3 j3 = Y
    generalize hq : W.heap.size = q at *
    have c1 : blk Y q #[strv (Lib.itoa (n : Int)), strv [dltr d], strv (side v), strv (78 :: 58 :: dtx p)] 61 := by rw [← hY]; exact blk_grow (blk_at _ _ _ hq.symm) _ _
    have cb : Below w.heap.size w Y := by rw [← hY]; repeat (first | (with_reducible exact BB'.out) | ((with_reducible refine below_grow ?_ ?_); rotate_left; focus (first | omega | (simp [go_sem]; done) | (simp [go_sem]; omega))) | ((with_reducible refine Below.alloc ?_ ?_ _); rotate_left; focus (first | omega | (simp [go_sem]; done) | (simp [go_sem]; omega))) | ((with_reducible refine Below.setCell ?_ ?_ _); rotate_left; focus (first | omega | (simp [go_sem]; done) | (simp [go_sem]; omega))) | (with_reducible refine Below.drew ?_) | (with_reducible refine below_drewN _ ?_))
    clear hY BB'
    have JN := Lib.hid (JN0.out q Y (by
      intro j x hj
      rw [Nat.zero_add]
      match j, hj with
      | 0, hj => rw [blk_cell c1]; cases hj; rfl
      | 1, hj => rw [blk_cell c1]; cases hj; rfl
      | 2, hj => rw [blk_cell c1]; cases hj; rfl
      | 3, hj => rw [blk_cell c1]; cases hj; rfl) (blk_lt c1) (by simp) (by simp) (by have := HL.out; omega))
    clear c1 JN0 hq
    have hbs := cb.size
    go_wp2_with (go_at_call 33; refine JN.out.mono ?_; rintro e w9 ⟨rfl, hbel⟩; obtain ⟨o6, j6, rfl⟩ := grow_of_below hbel; clear hbel)
    refine bodyPost_ret (by simp [results, Tryd.results20, go_sem]) rfl ⟨rfl, ?_⟩
    repeat (first | (with_reducible exact cb) | ((with_reducible refine below_grow ?_ ?_); rotate_left; focus (first | omega | (simp [go_sem]; done) | (simp [go_sem]; omega))) | ((with_reducible refine Below.alloc ?_ ?_ _); rotate_left; focus (first | omega | (simp [go_sem]; done) | (simp [go_sem]; omega))) | ((with_reducible refine Below.setCell ?_ ?_ _); rotate_left; focus (first | omega | (simp [go_sem]; done) | (simp [go_sem]; omega))) | (with_reducible refine Below.drew ?_) | (with_reducible refine below_drewN _ ?_))
end Go.Proofs.YtalklogopepjpaaDoor.Ca
