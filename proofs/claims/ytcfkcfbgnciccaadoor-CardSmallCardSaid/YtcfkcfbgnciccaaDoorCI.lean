/- List; Write. -/
import Derived.Test.YtcfkcfbgnciccaaDoorCH
import Derived.Shelf.RegionOpen
namespace Go.Proofs.YtcfkcfbgnciccaaDoor
open Go.RowKit
attribute [local go_sem] Oper.semAt_some

theorem collect_calls (bk m : Nat) (hm : m < 4503599627370496) (w : World) (hc : w.cell? ⟨bk, 0, none⟩ = some (.int .u64 m)) :
    Calls Tryd.prog 48 #[.func (.func 55) #[] #[.pointer (some ⟨bk, 0, none⟩)]] w fun e w' => ∃ v, e = .returned v ∧ w'.ownsRow w.heap.size 5 1 v (cds m).length ((cds m).map u8v) ∧ Below w.heap.size w w' := by
  have A := Lib.hid (appendSeq_calls bk m hm w hc)
  go_enter Tryd.func48, Tryd.ntmps48
  go_wp2_with (go_at_call 61; refine A.out.mono ?_; rintro e w1 ⟨v, rfl, hown, hbel⟩)
  go_ret
  exact ⟨v, rfl, hown, hbel⟩
theorem list_yes (m : Nat) (hm : m < 4503599627370496) (w : World) :
    Calls Tryd.prog 18 #[.int .u64 m] w fun e w' => ∃ v, e = .returned (.tuple #[v, .int .i64 0]) ∧ w'.ownsRow w.heap.size 5 1 v (cds m).length ((cds m).map u8v) ∧ Below w.heap.size w w' := by
  have R := Lib.hid (rightMask_yes m hm)
  have C := Lib.hid (collect_calls w.heap.size m hm (w.alloc (.cells #[.int .u64 m] 24)) (by simp [go_sem]))
  go_enter Tryd.func18, Tryd.ntmps18
  go_wp2_with (first | (go_at_call 42; refine (R.out _).mono ?_; rintro e w1 ⟨rfl, rfl⟩) | (go_at_call 43; refine (cards_calls m _).mono ?_; rintro e w1 ⟨rfl, rfl⟩) | (go_at_call 48; refine C.out.mono ?_; rintro e w2 ⟨v, rfl, hown, hbel⟩))
  refine bodyPost_ret (by simp [results, Tryd.results18, go_sem]) rfl ⟨v, rfl, own_base (C := 1) (by simpa using hown), ?_⟩
  exact Below.trans (by repeat (first | (with_reducible exact Below.refl _ _) | ((with_reducible refine below_grow ?_ ?_); rotate_left; focus (first | omega | (simp [go_sem]; done) | (simp [go_sem]; omega))) | ((with_reducible refine Below.alloc ?_ ?_ _); rotate_left; focus (first | omega | (simp [go_sem]; done) | (simp [go_sem]; omega))) | ((with_reducible refine Below.setCell ?_ ?_ _); rotate_left; focus (first | omega | (simp [go_sem]; done) | (simp [go_sem]; omega))) | (with_reducible refine Below.drew ?_) | (with_reducible refine below_drewN _ ?_))) (hbel.mono (by simp))
theorem list_no (m : Nat) (hm : ¬ m < 4503599627370496) (w : World) :
    Calls Tryd.prog 18 #[.int .u64 m] w fun e w' => e = .returned (.tuple #[.slice none 0 0, .int .i64 41]) ∧ w = w' := by
  have R := Lib.hid (rightMask_no m hm)
  go_enter Tryd.func18, Tryd.ntmps18
  go_wp2_with (first | (go_at_call 42; refine (R.out _).mono ?_; rintro e w1 ⟨rfl, rfl⟩))
  refine bodyPost_ret (by simp [results, Tryd.results18, go_sem]) rfl ⟨rfl, rfl⟩
abbrev strv (l : List UInt8) : Value := .string ⟨l.toArray⟩
theorem add_strv (l r : List UInt8) (h : l.length ≤ 8388608) (h' : r.length ≤ 8388608) (W : World) : (binOp .add 9 (strv l) (strv r)).run Tryd.prog W = .ok (strv (l ++ r)) W := by
  have h1 := run_string_add_lists (P := Tryd.prog) (w := W) l r (by omega) (by omega)
  unfold binOp
  simp [h1]
theorem add_op (l r : List UInt8) (h : l.length ≤ 8388608) (h' : r.length ≤ 8388608) (W : World) : (Op.stringOp .add ⟨l.toArray⟩ ⟨r.toArray⟩).run Tryd.prog W = .ok (strv (l ++ r)) W :=
  run_string_add_lists (P := Tryd.prog) (w := W) l r (by omega) (by omega)
/-- The four parts. -/
def prtC (l : List Nat) : Array Value := #[strv (chs l 3), strv (chs l 2), strv (chs l 1), strv (chs l 0)]
theorem slice_chr (r : Nat) (h : r < 13) (W : World) : (Instr.slice 9 (.string ⟨#[50, 51, 52, 53, 54, 55, 56, 57, 84, 74, 81, 75, 65]⟩) (some (.int .u8 (r : Int))) (some (.int .u8 (IntKind.u8.wrap ((r : Int) + 1)))) none).run Tryd.prog W = .ok (.string ⟨#[chr r]⟩) W := by
  match r, h with
  | 0, _ => show _ = _; kernel_rfl
  | 1, _ => show _ = _; kernel_rfl
  | 2, _ => show _ = _; kernel_rfl
  | 3, _ => show _ = _; kernel_rfl
  | 4, _ => show _ = _; kernel_rfl
  | 5, _ => show _ = _; kernel_rfl
  | 6, _ => show _ = _; kernel_rfl
  | 7, _ => show _ = _; kernel_rfl
  | 8, _ => show _ = _; kernel_rfl
  | 9, _ => show _ = _; kernel_rfl
  | 10, _ => show _ = _; kernel_rfl
  | 11, _ => show _ = _; kernel_rfl
  | 12, _ => show _ = _; kernel_rfl
theorem blk_drew {w : World} {b : Nat} {cs : Array Value} {t : TypeId} (h : blk w b cs t) : blk w.drew b cs t := h
theorem blk_other {w : World} {b : Nat} {cs : Array Value} {t : TypeId} (h : blk w b cs t) {c i : Nat} (hne : c ≠ b) (v : Value) : blk (w.setCell ⟨c, i, none⟩ v) b cs t :=
  (Below.heap_setCell _ _ _ _ (show b ≠ c by omega)).trans h
theorem join_wrt (m : Nat) : Lib.join (([⟨(prt m 3).toArray⟩, ⟨(prt m 2).toArray⟩, ⟨(prt m 1).toArray⟩, ⟨(prt m 0).toArray⟩] : List ByteArray).map (·.data.toList)) (ByteArray.mk #[46]).data.toList = wrt m := by
  simp only [List.map_cons, List.map_nil]
  rw [Lib.join_cons]
  simp [Lib.joinTail, wrt]
/-- Between two rounds: the parts' characters that have come. -/
def wrI (w : World) (m : Nat) (i : Nat) (W : World) : Prop := blk W w.heap.size (prtC ((cds m).take i)) 63 ∧ blk W (w.heap.size + 1) #[.int .u64 m] 24 ∧ Below w.heap.size w W
set_option maxRecDepth 100000 in
set_option maxHeartbeats 4000000 in
theorem write_yes (m : Nat) (hm : m < 4503599627370496) (w : World) :
    Calls Tryd.prog 16 #[.int .u64 m] w fun e w' => e = .returned (.tuple #[strv (wrt m), .int .i64 0]) ∧ Below w.heap.size w w' := by
  have R := Lib.hid (rightMask_yes m hm)
  refine (callsIn_wide (n := 3)).1 ?_
  refine callsIn_of_wp_marks Tryd.func16 rfl trivial ?_ rfl
  refine wpIn_wide.2 ?_
  simp only [Tryd.ntmps16, List.size_toArray, List.length_cons, List.length_nil, Nat.reduceAdd, Nat.reduceSub, Array.replicate_succ, Array.replicate_zero, List.push_toArray, List.append_toArray, List.nil_append, List.cons_append]
  go_wp2_with (first | (go_at_call 42; refine (R.out _).mono ?_; rintro e w1 ⟨rfl, rfl⟩) | (go_at_call 43; refine (cards_calls m _).mono ?_; rintro e w1 ⟨rfl, rfl⟩))
  have z0 : blk ((w.alloc (.cells #[.string ⟨#[]⟩, .string ⟨#[]⟩, .string ⟨#[]⟩, .string ⟨#[]⟩] 63)).alloc (.cells #[.int .u64 m] 24)) w.heap.size (prtC []) 63 := blk_alloc (blk_new _ _ _) _
  have z1 : blk ((w.alloc (.cells #[.string ⟨#[]⟩, .string ⟨#[]⟩, .string ⟨#[]⟩, .string ⟨#[]⟩] 63)).alloc (.cells #[.int .u64 m] 24)) (w.heap.size + 1) #[.int .u64 m] 24 := blk_at _ _ _ (by simp)
  have zb : Below w.heap.size w ((w.alloc (.cells #[.string ⟨#[]⟩, .string ⟨#[]⟩, .string ⟨#[]⟩, .string ⟨#[]⟩] 63)).alloc (.cells #[.int .u64 m] 24)) := by repeat (first | (with_reducible exact Below.refl _ _) | ((with_reducible refine below_grow ?_ ?_); rotate_left; focus (first | omega | (simp [go_sem]; done) | (simp [go_sem]; omega))) | ((with_reducible refine Below.alloc ?_ ?_ _); rotate_left; focus (first | omega | (simp [go_sem]; done) | (simp [go_sem]; omega))) | ((with_reducible refine Below.setCell ?_ ?_ _); rotate_left; focus (first | omega | (simp [go_sem]; done) | (simp [go_sem]; omega))) | (with_reducible refine Below.drew ?_) | (with_reducible refine below_drewN _ ?_))
  have zs : ((w.alloc (.cells #[.string ⟨#[]⟩, .string ⟨#[]⟩, .string ⟨#[]⟩, .string ⟨#[]⟩] 63)).alloc (.cells #[.int .u64 m] 24)).heap.size = w.heap.size + 2 := by simp
  generalize ((w.alloc (.cells #[.string ⟨#[]⟩, .string ⟨#[]⟩, .string ⟨#[]⟩, .string ⟨#[]⟩] 63)).alloc (.cells #[.int .u64 m] 24)) = W at *
  refine range_seq (gf := 55) (lb := #[.pointer (some ⟨w.heap.size + 1, 0, none⟩)]) rfl (enters_of Tryd.func55 (by kernel_rfl) rfl) rfl
    ((cds m).map u8v) (wrI w m) ?hI ⟨z0, z1, zb⟩ ?seq 5 ?assign ?body ?done
  case hI =>
    rintro i X Y ⟨h1, h2, h3⟩ hb hk
    exact ⟨blk_keep h1 hk, blk_keep h2 hk, h3.trans (hb.mono (by omega))⟩
  case seq =>
    intro l J X hJI hY h0
    rw [List.length_map]
    refine cards1_calls l (w.heap.size + 1) m hm J ?_ X ?_ h0
    · intro i v Y hv hJi
      exact hY i _ Y (by rw [List.getElem?_map, hv]; rfl) hJi
    · obtain ⟨⟨c0, c1, cb⟩, hs⟩ := hJI 0 X h0
      rw [blk_cell c1]
      rfl
  case assign =>
    intro l x X KK hK'
    simp only [List.setIfInBounds_toArray, List.set_cons_zero, List.set_cons_succ] at hK' ⊢
    gi_wp2
    exact hK'
  case body =>
    rintro l i x X hx ⟨hp, hc, hb⟩ hsz
    rw [List.getElem?_map] at hx
    obtain ⟨c, hc1, rfl⟩ := Option.map_eq_some_iff.1 hx
    have hc52 : c < 52 := (cds_mem.1 (List.mem_of_getElem? hc1)).1
    have hil := (List.getElem?_eq_some_iff.1 hc1).1
    have S := Lib.hid (suit_yes c hc52)
    have K := Lib.hid (rank_yes c hc52)
    simp only [List.setIfInBounds_toArray, List.set_cons_zero, List.set_cons_succ]
    have hnext : (cds m).take (i + 1) = (cds m).take i ++ [c] := by rw [List.take_add_one, hc1]; rfl
    have hL : ∀ s, (chs ((cds m).take i) s).length ≤ 52 := fun s => by
      have h1 := cds_length_le m
      unfold chs
      rw [List.length_map]
      have h2 := List.length_filter_le (fun c => c / 13 == s) ((cds m).take i)
      have h3 : ((cds m).take i).length ≤ (cds m).length := by rw [List.length_take]; omega
      omega
    obtain ⟨s, hs⟩ : ∃ s, c / 13 = s := ⟨_, rfl⟩
    obtain ⟨r, hr⟩ : ∃ r, c % 13 = r := ⟨_, rfl⟩
    have hs4 : s < 4 := by omega
    have hr13 : r < 13 := by omega
    have P := Lib.hid (place_calls s hs4)
    rw [hs] at S
    rw [hr] at K
    have hsn := fun t => chs_snoc ((cds m).take i) c t
    rw [hs, hr] at hsn
    have hsl := slice_chr r hr13
    have HL := Lib.hid hL
    have HN := Lib.hid hnext
    have HS := Lib.hid hsn
    clear hL hnext hsn
    have hmx : Tryd.prog.follows .mixedOrders = true := by kernel_rfl
    match s, hs4 with
    | 0, _ =>
      have k0 := (blk_cell hp 3).trans (show _ = some (strv (chs ((cds m).take i) 0)) from rfl)
      have f0 := blk_free hp 3
      have l0 : (chs ((cds m).take i) 0).length ≤ 52 := HL.out 0
      have hA := add_op (chs ((cds m).take i) 0) [chr r] (by omega) (by simp)
      have hB := add_strv (chs ((cds m).take i) 0) [chr r] (by omega) (by simp)
      clear l0
      gi_wp2_with (refine ⟨trivial, ?_⟩; gi_at_call 23; refine (CallsIn.inRound l (callsIn_wide.2 (K.out _))).mono ?_; rintro e w1 ⟨rfl, rfl⟩)
      refine wpIn_round_any hmx (by kernel_rfl) ?_
      refine wpAnyIn_take (i := 0) (v := ?v0q0) rfl rfl (by kernel_rfl) (by kernel_rfl) (by kernel_rfl) (fun _ _ _ h => h) ⟨Or.inl ⟨by rfl, ?y0q0⟩, fun _ => rfl⟩ ?r0q0
      case y0q0 => intro W; go_simp; try with_reducible rfl
      refine wpAnyIn_take (i := 5) (v := ?v5q0) rfl rfl (by kernel_rfl) (by kernel_rfl) (by kernel_rfl) (fun _ _ _ h => h) ⟨Or.inl ⟨by rfl, ?y5q0⟩, fun _ => rfl⟩ ?r5q0
      case y5q0 => intro W; go_simp; try with_reducible rfl
      refine wpAnyIn_take (i := 6) (v := ?v6q0) rfl rfl (by kernel_rfl) (by kernel_rfl) (by kernel_rfl) (fun _ _ _ h => h) ⟨Or.inl ⟨by rfl, ?y6q0⟩, fun _ => rfl⟩ ?r6q0
      case y6q0 => intro W; go_simp; try with_reducible rfl
      refine wpAnyIn_take (i := 7) (v := ?v7q0) rfl rfl (by kernel_rfl) (by kernel_rfl) (by kernel_rfl) (fun _ _ _ h => h) ⟨Or.inl ⟨by rfl, ?y7q0⟩, fun _ => rfl⟩ ?r7q0
      case y7q0 => intro W; go_simp; try with_reducible rfl
      refine wpAnyIn_take (i := 8) (v := ?v8q0) rfl rfl (by kernel_rfl) (by kernel_rfl) (by kernel_rfl) (fun _ _ _ h => h) ⟨Or.inl ⟨by rfl, ?y8q0⟩, fun _ => rfl⟩ ?r8q0
      case y8q0 => intro W; go_simp; try with_reducible rfl
      refine wpAnyIn_ready (rs := [1]) (by kernel_rfl) (by simp) ?_
      refine AllReadyIn.cons rfl (fun K hK => ?_) AllReadyIn.nil
      go_simp
      refine ⟨trivial, ?_⟩; gi_at_call 22; refine (callsIn_wide.2 (S.out _)).mono ?_; rintro e w1 ⟨rfl, rfl⟩
      refine hK _ _ ?_; clear hK K
      refine wpAnyIn_ready (rs := [2]) (by kernel_rfl) (by simp) ?_
      refine AllReadyIn.cons rfl (fun K hK => ?_) AllReadyIn.nil
      go_simp
      refine ⟨trivial, ?_⟩; gi_at_call 44; refine (callsIn_wide.2 (P.out _)).mono ?_; rintro e w1 ⟨rfl, rfl⟩
      refine hK _ _ ?_; clear hK K
      refine wpAnyIn_ready (rs := [3]) (by kernel_rfl) (by simp) ?_
      refine AllReadyIn.cons rfl (fun K hK => ?_) AllReadyIn.nil
      go_simp
      refine hK _ _ ?_; clear hK K
      refine wpAnyIn_ready (rs := [4]) (by kernel_rfl) (by simp) ?_
      refine AllReadyIn.cons rfl (fun K hK => ?_) AllReadyIn.nil
      go_simp
      refine hK _ _ ?_; clear hK K
      refine wpAnyIn_ready (rs := [9]) (by kernel_rfl) (by simp) ?_
      refine AllReadyIn.cons rfl (fun K hK => ?_) AllReadyIn.nil
      go_simp
      refine hK _ _ ?_; clear hK K
      refine wpAnyIn_ready (rs := [10]) (by kernel_rfl) (by simp) ?_
      refine AllReadyIn.cons rfl (fun K hK => ?_) AllReadyIn.nil
      go_simp
      refine hK _ _ ?_; clear hK K
      refine wpAnyIn_ready (rs := [11]) (by kernel_rfl) (by simp) ?_
      refine AllReadyIn.cons rfl (fun K hK => ?_) AllReadyIn.nil
      go_simp
      refine hK _ _ ?_; clear hK K
      refine wpAnyIn_done (by kernel_rfl) ?_ _
      change KeepsOthers X _ ∧ wrI w m (i + 1) _
      refine ⟨(KeepsOthers.drew _).trans (KeepsOthers.setCell _ _ _), ?_, blk_other (blk_drew hc) (by omega) _, by repeat (first | (with_reducible exact hb) | ((with_reducible refine below_grow ?_ ?_); rotate_left; focus (first | omega | (simp [go_sem]; done) | (simp [go_sem]; omega))) | ((with_reducible refine Below.alloc ?_ ?_ _); rotate_left; focus (first | omega | (simp [go_sem]; done) | (simp [go_sem]; omega))) | ((with_reducible refine Below.setCell ?_ ?_ _); rotate_left; focus (first | omega | (simp [go_sem]; done) | (simp [go_sem]; omega))) | (with_reducible refine Below.drew ?_) | (with_reducible refine below_drewN _ ?_))⟩
      have h := blk_set (blk_drew hp) 3 (strv (chs ((cds m).take i) 0 ++ [chr r]))
      rw [HN.out]
      have e : prtC ((cds m).take i ++ [c]) = (prtC ((cds m).take i)).setIfInBounds 3 (strv (chs ((cds m).take i) 0 ++ [chr r])) := by
        unfold prtC
        rw [HS.out 0, HS.out 1, HS.out 2, HS.out 3]
        rfl
      rw [e]
      exact h
    | 1, _ =>
      have k0 := (blk_cell hp 2).trans (show _ = some (strv (chs ((cds m).take i) 1)) from rfl)
      have f0 := blk_free hp 2
      have l0 : (chs ((cds m).take i) 1).length ≤ 52 := HL.out 1
      have hA := add_op (chs ((cds m).take i) 1) [chr r] (by omega) (by simp)
      have hB := add_strv (chs ((cds m).take i) 1) [chr r] (by omega) (by simp)
      clear l0
      gi_wp2_with (refine ⟨trivial, ?_⟩; gi_at_call 23; refine (CallsIn.inRound l (callsIn_wide.2 (K.out _))).mono ?_; rintro e w1 ⟨rfl, rfl⟩)
      refine wpIn_round_any hmx (by kernel_rfl) ?_
      refine wpAnyIn_take (i := 0) (v := ?v0q1) rfl rfl (by kernel_rfl) (by kernel_rfl) (by kernel_rfl) (fun _ _ _ h => h) ⟨Or.inl ⟨by rfl, ?y0q1⟩, fun _ => rfl⟩ ?r0q1
      case y0q1 => intro W; go_simp; try with_reducible rfl
      refine wpAnyIn_take (i := 5) (v := ?v5q1) rfl rfl (by kernel_rfl) (by kernel_rfl) (by kernel_rfl) (fun _ _ _ h => h) ⟨Or.inl ⟨by rfl, ?y5q1⟩, fun _ => rfl⟩ ?r5q1
      case y5q1 => intro W; go_simp; try with_reducible rfl
      refine wpAnyIn_take (i := 6) (v := ?v6q1) rfl rfl (by kernel_rfl) (by kernel_rfl) (by kernel_rfl) (fun _ _ _ h => h) ⟨Or.inl ⟨by rfl, ?y6q1⟩, fun _ => rfl⟩ ?r6q1
      case y6q1 => intro W; go_simp; try with_reducible rfl
      refine wpAnyIn_take (i := 7) (v := ?v7q1) rfl rfl (by kernel_rfl) (by kernel_rfl) (by kernel_rfl) (fun _ _ _ h => h) ⟨Or.inl ⟨by rfl, ?y7q1⟩, fun _ => rfl⟩ ?r7q1
      case y7q1 => intro W; go_simp; try with_reducible rfl
      refine wpAnyIn_take (i := 8) (v := ?v8q1) rfl rfl (by kernel_rfl) (by kernel_rfl) (by kernel_rfl) (fun _ _ _ h => h) ⟨Or.inl ⟨by rfl, ?y8q1⟩, fun _ => rfl⟩ ?r8q1
      case y8q1 => intro W; go_simp; try with_reducible rfl
      refine wpAnyIn_ready (rs := [1]) (by kernel_rfl) (by simp) ?_
      refine AllReadyIn.cons rfl (fun K hK => ?_) AllReadyIn.nil
      go_simp
      refine ⟨trivial, ?_⟩; gi_at_call 22; refine (callsIn_wide.2 (S.out _)).mono ?_; rintro e w1 ⟨rfl, rfl⟩
      refine hK _ _ ?_; clear hK K
      refine wpAnyIn_ready (rs := [2]) (by kernel_rfl) (by simp) ?_
      refine AllReadyIn.cons rfl (fun K hK => ?_) AllReadyIn.nil
      go_simp
      refine ⟨trivial, ?_⟩; gi_at_call 44; refine (callsIn_wide.2 (P.out _)).mono ?_; rintro e w1 ⟨rfl, rfl⟩
      refine hK _ _ ?_; clear hK K
      refine wpAnyIn_ready (rs := [3]) (by kernel_rfl) (by simp) ?_
      refine AllReadyIn.cons rfl (fun K hK => ?_) AllReadyIn.nil
      go_simp
      refine hK _ _ ?_; clear hK K
      refine wpAnyIn_ready (rs := [4]) (by kernel_rfl) (by simp) ?_
      refine AllReadyIn.cons rfl (fun K hK => ?_) AllReadyIn.nil
      go_simp
      refine hK _ _ ?_; clear hK K
      refine wpAnyIn_ready (rs := [9]) (by kernel_rfl) (by simp) ?_
      refine AllReadyIn.cons rfl (fun K hK => ?_) AllReadyIn.nil
      go_simp
      refine hK _ _ ?_; clear hK K
      refine wpAnyIn_ready (rs := [10]) (by kernel_rfl) (by simp) ?_
      refine AllReadyIn.cons rfl (fun K hK => ?_) AllReadyIn.nil
      go_simp
      refine hK _ _ ?_; clear hK K
      refine wpAnyIn_ready (rs := [11]) (by kernel_rfl) (by simp) ?_
      refine AllReadyIn.cons rfl (fun K hK => ?_) AllReadyIn.nil
      go_simp
      refine hK _ _ ?_; clear hK K
      refine wpAnyIn_done (by kernel_rfl) ?_ _
      change KeepsOthers X _ ∧ wrI w m (i + 1) _
      refine ⟨(KeepsOthers.drew _).trans (KeepsOthers.setCell _ _ _), ?_, blk_other (blk_drew hc) (by omega) _, by repeat (first | (with_reducible exact hb) | ((with_reducible refine below_grow ?_ ?_); rotate_left; focus (first | omega | (simp [go_sem]; done) | (simp [go_sem]; omega))) | ((with_reducible refine Below.alloc ?_ ?_ _); rotate_left; focus (first | omega | (simp [go_sem]; done) | (simp [go_sem]; omega))) | ((with_reducible refine Below.setCell ?_ ?_ _); rotate_left; focus (first | omega | (simp [go_sem]; done) | (simp [go_sem]; omega))) | (with_reducible refine Below.drew ?_) | (with_reducible refine below_drewN _ ?_))⟩
      have h := blk_set (blk_drew hp) 2 (strv (chs ((cds m).take i) 1 ++ [chr r]))
      rw [HN.out]
      have e : prtC ((cds m).take i ++ [c]) = (prtC ((cds m).take i)).setIfInBounds 2 (strv (chs ((cds m).take i) 1 ++ [chr r])) := by
        unfold prtC
        rw [HS.out 0, HS.out 1, HS.out 2, HS.out 3]
        rfl
      rw [e]
      exact h
    | 2, _ =>
      have k0 := (blk_cell hp 1).trans (show _ = some (strv (chs ((cds m).take i) 2)) from rfl)
      have f0 := blk_free hp 1
      have l0 : (chs ((cds m).take i) 2).length ≤ 52 := HL.out 2
      have hA := add_op (chs ((cds m).take i) 2) [chr r] (by omega) (by simp)
      have hB := add_strv (chs ((cds m).take i) 2) [chr r] (by omega) (by simp)
      clear l0
      gi_wp2_with (refine ⟨trivial, ?_⟩; gi_at_call 23; refine (CallsIn.inRound l (callsIn_wide.2 (K.out _))).mono ?_; rintro e w1 ⟨rfl, rfl⟩)
      refine wpIn_round_any hmx (by kernel_rfl) ?_
      refine wpAnyIn_take (i := 0) (v := ?v0q2) rfl rfl (by kernel_rfl) (by kernel_rfl) (by kernel_rfl) (fun _ _ _ h => h) ⟨Or.inl ⟨by rfl, ?y0q2⟩, fun _ => rfl⟩ ?r0q2
      case y0q2 => intro W; go_simp; try with_reducible rfl
      refine wpAnyIn_take (i := 5) (v := ?v5q2) rfl rfl (by kernel_rfl) (by kernel_rfl) (by kernel_rfl) (fun _ _ _ h => h) ⟨Or.inl ⟨by rfl, ?y5q2⟩, fun _ => rfl⟩ ?r5q2
      case y5q2 => intro W; go_simp; try with_reducible rfl
      refine wpAnyIn_take (i := 6) (v := ?v6q2) rfl rfl (by kernel_rfl) (by kernel_rfl) (by kernel_rfl) (fun _ _ _ h => h) ⟨Or.inl ⟨by rfl, ?y6q2⟩, fun _ => rfl⟩ ?r6q2
      case y6q2 => intro W; go_simp; try with_reducible rfl
      refine wpAnyIn_take (i := 7) (v := ?v7q2) rfl rfl (by kernel_rfl) (by kernel_rfl) (by kernel_rfl) (fun _ _ _ h => h) ⟨Or.inl ⟨by rfl, ?y7q2⟩, fun _ => rfl⟩ ?r7q2
      case y7q2 => intro W; go_simp; try with_reducible rfl
      refine wpAnyIn_take (i := 8) (v := ?v8q2) rfl rfl (by kernel_rfl) (by kernel_rfl) (by kernel_rfl) (fun _ _ _ h => h) ⟨Or.inl ⟨by rfl, ?y8q2⟩, fun _ => rfl⟩ ?r8q2
      case y8q2 => intro W; go_simp; try with_reducible rfl
      refine wpAnyIn_ready (rs := [1]) (by kernel_rfl) (by simp) ?_
      refine AllReadyIn.cons rfl (fun K hK => ?_) AllReadyIn.nil
      go_simp
      refine ⟨trivial, ?_⟩; gi_at_call 22; refine (callsIn_wide.2 (S.out _)).mono ?_; rintro e w1 ⟨rfl, rfl⟩
      refine hK _ _ ?_; clear hK K
      refine wpAnyIn_ready (rs := [2]) (by kernel_rfl) (by simp) ?_
      refine AllReadyIn.cons rfl (fun K hK => ?_) AllReadyIn.nil
      go_simp
      refine ⟨trivial, ?_⟩; gi_at_call 44; refine (callsIn_wide.2 (P.out _)).mono ?_; rintro e w1 ⟨rfl, rfl⟩
      refine hK _ _ ?_; clear hK K
      refine wpAnyIn_ready (rs := [3]) (by kernel_rfl) (by simp) ?_
      refine AllReadyIn.cons rfl (fun K hK => ?_) AllReadyIn.nil
      go_simp
      refine hK _ _ ?_; clear hK K
      refine wpAnyIn_ready (rs := [4]) (by kernel_rfl) (by simp) ?_
      refine AllReadyIn.cons rfl (fun K hK => ?_) AllReadyIn.nil
      go_simp
      refine hK _ _ ?_; clear hK K
      refine wpAnyIn_ready (rs := [9]) (by kernel_rfl) (by simp) ?_
      refine AllReadyIn.cons rfl (fun K hK => ?_) AllReadyIn.nil
      go_simp
      refine hK _ _ ?_; clear hK K
      refine wpAnyIn_ready (rs := [10]) (by kernel_rfl) (by simp) ?_
      refine AllReadyIn.cons rfl (fun K hK => ?_) AllReadyIn.nil
      go_simp
      refine hK _ _ ?_; clear hK K
      refine wpAnyIn_ready (rs := [11]) (by kernel_rfl) (by simp) ?_
      refine AllReadyIn.cons rfl (fun K hK => ?_) AllReadyIn.nil
      go_simp
      refine hK _ _ ?_; clear hK K
      refine wpAnyIn_done (by kernel_rfl) ?_ _
      change KeepsOthers X _ ∧ wrI w m (i + 1) _
      refine ⟨(KeepsOthers.drew _).trans (KeepsOthers.setCell _ _ _), ?_, blk_other (blk_drew hc) (by omega) _, by repeat (first | (with_reducible exact hb) | ((with_reducible refine below_grow ?_ ?_); rotate_left; focus (first | omega | (simp [go_sem]; done) | (simp [go_sem]; omega))) | ((with_reducible refine Below.alloc ?_ ?_ _); rotate_left; focus (first | omega | (simp [go_sem]; done) | (simp [go_sem]; omega))) | ((with_reducible refine Below.setCell ?_ ?_ _); rotate_left; focus (first | omega | (simp [go_sem]; done) | (simp [go_sem]; omega))) | (with_reducible refine Below.drew ?_) | (with_reducible refine below_drewN _ ?_))⟩
      have h := blk_set (blk_drew hp) 1 (strv (chs ((cds m).take i) 2 ++ [chr r]))
      rw [HN.out]
      have e : prtC ((cds m).take i ++ [c]) = (prtC ((cds m).take i)).setIfInBounds 1 (strv (chs ((cds m).take i) 2 ++ [chr r])) := by
        unfold prtC
        rw [HS.out 0, HS.out 1, HS.out 2, HS.out 3]
        rfl
      rw [e]
      exact h
    | 3, _ =>
      have k0 := (blk_cell hp 0).trans (show _ = some (strv (chs ((cds m).take i) 3)) from rfl)
      have f0 := blk_free hp 0
      have l0 : (chs ((cds m).take i) 3).length ≤ 52 := HL.out 3
      have hA := add_op (chs ((cds m).take i) 3) [chr r] (by omega) (by simp)
      have hB := add_strv (chs ((cds m).take i) 3) [chr r] (by omega) (by simp)
      clear l0
      gi_wp2_with (refine ⟨trivial, ?_⟩; gi_at_call 23; refine (CallsIn.inRound l (callsIn_wide.2 (K.out _))).mono ?_; rintro e w1 ⟨rfl, rfl⟩)
      refine wpIn_round_any hmx (by kernel_rfl) ?_
      refine wpAnyIn_take (i := 0) (v := ?v0q3) rfl rfl (by kernel_rfl) (by kernel_rfl) (by kernel_rfl) (fun _ _ _ h => h) ⟨Or.inl ⟨by rfl, ?y0q3⟩, fun _ => rfl⟩ ?r0q3
      case y0q3 => intro W; go_simp; try with_reducible rfl
      refine wpAnyIn_take (i := 5) (v := ?v5q3) rfl rfl (by kernel_rfl) (by kernel_rfl) (by kernel_rfl) (fun _ _ _ h => h) ⟨Or.inl ⟨by rfl, ?y5q3⟩, fun _ => rfl⟩ ?r5q3
      case y5q3 => intro W; go_simp; try with_reducible rfl
      refine wpAnyIn_take (i := 6) (v := ?v6q3) rfl rfl (by kernel_rfl) (by kernel_rfl) (by kernel_rfl) (fun _ _ _ h => h) ⟨Or.inl ⟨by rfl, ?y6q3⟩, fun _ => rfl⟩ ?r6q3
      case y6q3 => intro W; go_simp; try with_reducible rfl
      refine wpAnyIn_take (i := 7) (v := ?v7q3) rfl rfl (by kernel_rfl) (by kernel_rfl) (by kernel_rfl) (fun _ _ _ h => h) ⟨Or.inl ⟨by rfl, ?y7q3⟩, fun _ => rfl⟩ ?r7q3
      case y7q3 => intro W; go_simp; try with_reducible rfl
      refine wpAnyIn_take (i := 8) (v := ?v8q3) rfl rfl (by kernel_rfl) (by kernel_rfl) (by kernel_rfl) (fun _ _ _ h => h) ⟨Or.inl ⟨by rfl, ?y8q3⟩, fun _ => rfl⟩ ?r8q3
      case y8q3 => intro W; go_simp; try with_reducible rfl
      refine wpAnyIn_ready (rs := [1]) (by kernel_rfl) (by simp) ?_
      refine AllReadyIn.cons rfl (fun K hK => ?_) AllReadyIn.nil
      go_simp
      refine ⟨trivial, ?_⟩; gi_at_call 22; refine (callsIn_wide.2 (S.out _)).mono ?_; rintro e w1 ⟨rfl, rfl⟩
      refine hK _ _ ?_; clear hK K
      refine wpAnyIn_ready (rs := [2]) (by kernel_rfl) (by simp) ?_
      refine AllReadyIn.cons rfl (fun K hK => ?_) AllReadyIn.nil
      go_simp
      refine ⟨trivial, ?_⟩; gi_at_call 44; refine (callsIn_wide.2 (P.out _)).mono ?_; rintro e w1 ⟨rfl, rfl⟩
      refine hK _ _ ?_; clear hK K
      refine wpAnyIn_ready (rs := [3]) (by kernel_rfl) (by simp) ?_
      refine AllReadyIn.cons rfl (fun K hK => ?_) AllReadyIn.nil
      go_simp
      refine hK _ _ ?_; clear hK K
      refine wpAnyIn_ready (rs := [4]) (by kernel_rfl) (by simp) ?_
      refine AllReadyIn.cons rfl (fun K hK => ?_) AllReadyIn.nil
      go_simp
      refine hK _ _ ?_; clear hK K
      refine wpAnyIn_ready (rs := [9]) (by kernel_rfl) (by simp) ?_
      refine AllReadyIn.cons rfl (fun K hK => ?_) AllReadyIn.nil
      go_simp
      refine hK _ _ ?_; clear hK K
      refine wpAnyIn_ready (rs := [10]) (by kernel_rfl) (by simp) ?_
      refine AllReadyIn.cons rfl (fun K hK => ?_) AllReadyIn.nil
      go_simp
      refine hK _ _ ?_; clear hK K
      refine wpAnyIn_ready (rs := [11]) (by kernel_rfl) (by simp) ?_
      refine AllReadyIn.cons rfl (fun K hK => ?_) AllReadyIn.nil
      go_simp
      refine hK _ _ ?_; clear hK K
      refine wpAnyIn_done (by kernel_rfl) ?_ _
      change KeepsOthers X _ ∧ wrI w m (i + 1) _
      refine ⟨(KeepsOthers.drew _).trans (KeepsOthers.setCell _ _ _), ?_, blk_other (blk_drew hc) (by omega) _, by repeat (first | (with_reducible exact hb) | ((with_reducible refine below_grow ?_ ?_); rotate_left; focus (first | omega | (simp [go_sem]; done) | (simp [go_sem]; omega))) | ((with_reducible refine Below.alloc ?_ ?_ _); rotate_left; focus (first | omega | (simp [go_sem]; done) | (simp [go_sem]; omega))) | ((with_reducible refine Below.setCell ?_ ?_ _); rotate_left; focus (first | omega | (simp [go_sem]; done) | (simp [go_sem]; omega))) | (with_reducible refine Below.drew ?_) | (with_reducible refine below_drewN _ ?_))⟩
      have h := blk_set (blk_drew hp) 0 (strv (chs ((cds m).take i) 3 ++ [chr r]))
      rw [HN.out]
      have e : prtC ((cds m).take i ++ [c]) = (prtC ((cds m).take i)).setIfInBounds 0 (strv (chs ((cds m).take i) 3 ++ [chr r])) := by
        unfold prtC
        rw [HS.out 0, HS.out 1, HS.out 2, HS.out 3]
        rfl
      rw [e]
      exact h
  case done =>
    rintro D X ⟨hp, hc, hb⟩ hD hX
    rw [List.length_map, List.take_of_length_le (Nat.le_refl _)] at hp
    have hlt := blk_lt hp
    have k0 := (blk_cell hp 0).trans (show _ = some (strv (chs (cds m) 3)) from rfl)
    have k1 := (blk_cell hp 1).trans (show _ = some (strv (chs (cds m) 2)) from rfl)
    have k2 := (blk_cell hp 2).trans (show _ = some (strv (chs (cds m) 1)) from rfl)
    have k3 := (blk_cell hp 3).trans (show _ = some (strv (chs (cds m) 0)) from rfl)
    have J := Lib.hid (Tryd.strings_Join w.heap.size 0 4 [⟨(prt m 3).toArray⟩, ⟨(prt m 2).toArray⟩, ⟨(prt m 1).toArray⟩, ⟨(prt m 0).toArray⟩] ⟨#[46]⟩ X (by
      intro j x hj
      rw [chs_cds m 0 (by decide)] at k3
      rw [chs_cds m 1 (by decide)] at k2
      rw [chs_cds m 2 (by decide)] at k1
      rw [chs_cds m 3 (by decide)] at k0
      rw [Nat.zero_add]
      match j, hj with
      | 0, hj => rw [k0]; cases hj; rfl
      | 1, hj => rw [k1]; cases hj; rfl
      | 2, hj => rw [k2]; cases hj; rfl
      | 3, hj => rw [k3]; cases hj; rfl) hlt (by simp) (by simp) (by
        have := wrt_length m
        have h2 := cds_length_le m
        rw [join_wrt]
        omega))
    rw [join_wrt] at J
    clear k0 k1 k2 k3
    have hXlt := (Array.getElem?_eq_some_iff.1 hX).1
    go_wp2_with (go_at_call 45; refine J.out.mono ?_; rintro e w5 ⟨rfl, hb5⟩)
    have hX5 := (hb5.block D hXlt).trans hX
    have hs5 := hb5.size
    have hbY : Below w.heap.size w (w5.putObj D (.deferred none)) := (hb.trans (hb5.mono hb.size)).trans (below_putObj _ _ _ _ (by omega))
    refine ⟨by simp, .inl ⟨_, _, rfl, run_takeDeferred hX5, ?_⟩⟩
    refine ⟨_, ?_, rfl, hbY⟩
    simp [results, Tryd.results16, go_sem]
theorem write_no (m : Nat) (hm : ¬ m < 4503599627370496) (w : World) :
    Calls Tryd.prog 16 #[.int .u64 m] w fun e w' => e = .returned (.tuple #[.string ⟨#[]⟩, .int .i64 41]) ∧ w = w' := by
  have R := Lib.hid (rightMask_no m hm)
  go_enter Tryd.func16, Tryd.ntmps16
  go_wp2_with (first | (go_at_call 42; refine (R.out _).mono ?_; rintro e w1 ⟨rfl, rfl⟩))
  refine bodyPost_ret (by simp [results, Tryd.results16, go_sem]) rfl ⟨rfl, rfl⟩
end Go.Proofs.YtcfkcfbgnciccaaDoor
