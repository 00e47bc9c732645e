/- Auctions: slices.Repeat of a hyphen. -/
import Derived.Test.YtacgikhedhiaaaaDoorLH
import Derived.OwnWalk
import Derived.Laws.IdiomCopy
import Derived.Laws.MakeOwn
namespace Go.Proofs.YtacgikhedhiaaaaDoor
open Go.RowKit

theorem Tryd.infoStr : (Tryd.prog.info? 9).map (fun i => (i.zero, i.size, i.bytes)) = some (some (.string ⟨#[]⟩), 1, 16) := by kernel_rfl
theorem copy_run (ty : TypeId) (b o' dl dc off sl sc : Nat) (hmin : Nat.min sl dl = 1) (v u : Value) (h1 : v.oneCell' = true) (W : World) (hsrc : W.cell? ⟨b, off, none⟩ = some v) (hdst : W.cell? ⟨b, o', none⟩ = some u) (hf : W.frozen? ⟨b, o', none⟩ = false) :
    (Builtin.copy_ #[51, 51] ty #[.slice (some ⟨b, o', none⟩) dl dc, .slice (some ⟨b, off, none⟩) sl sc]).run Tryd.prog W = .ok (.int .i64 1) (W.setCell ⟨b, o', none⟩ v) := by
  obtain ⟨i, hi, hz, h4, h5⟩ := info_parts Tryd.infoStr
  exact run_copy_cells (P := Tryd.prog) W 51 51 ty 9 b o' dl dc ⟨b, off, none⟩ sl sc [v] Tryd.underlying51 (by rw [hi]; simp [h4]) (by rw [hmin]; rfl)
      (fun j y hj => by
        match j, hj with
        | 0, hj =>
          simp only [List.getElem?_cons_zero, Option.some.injEq] at hj
          subst hj
          exact hsrc) (fun j hj => by
        have : j = 0 := by simp at hj; exact hj
        subst this
        rw [Nat.add_zero, hdst]; rfl) (fun j hj => by
        have : j = 0 := by simp at hj; exact hj
        subst this
        exact hf) (fun y hy => by simp at hy; subst hy; exact h1)
theorem wpList_copy1 {ops : Array Oper} {rest : List Oper} {o : Oper} {a : Act} {Q : Exit → Act → World → Prop} {W : World} (hw : Region.wanted o (yielded ops a.tmps) = true) (d x : Operand)
    (ho : o.op = .call { callee := .builtin .copy, args := #[d, x], argTypes := #[51, 51] }) (b o' dl dc : Nat) (ad : Addr) (sl sc : Nat) (v : Value)
    (hd : a.eval d = .slice (some ⟨b, o', none⟩) dl dc) (hx : a.eval x = .slice (some ad) sl sc) (hmin : Nat.min sl dl = 1) (hsrc : W.cell? ad = some v) (u : Value) (hdst : W.cell? ⟨b, o', none⟩ = some u) (hf : W.frozen? ⟨b, o', none⟩ = false) (h1 : v.oneCell' = true) (hsp : ad.spot = none)
    (h : wpList Tryd.prog ops Q rest (a.put o.dst (.int .i64 1)) (W.setCell ⟨b, o', none⟩ v)) : wpList Tryd.prog ops Q (o :: rest) a W :=
  wpList_step fun K hK => by
    rw [if_pos hw]
    obtain ⟨i, hi, hz, h4, h5⟩ := info_parts Tryd.infoStr
    have hr := run_copy_cells (P := Tryd.prog) W 51 51 o.type 9 b o' dl dc ad sl sc [v] Tryd.underlying51 (by rw [hi]; simp [h4]) (by rw [hmin]; rfl)
      (fun j y hj => by
        match j, hj with
        | 0, hj =>
          simp only [List.getElem?_cons_zero, Option.some.injEq] at hj
          subst hj
          rw [show ad.add 0 = ad by obtain ⟨b1, o1, s1⟩ := ad; simp only at hsp; subst hsp; rfl]
          exact hsrc) (fun j hj => by
        have : j = 0 := by simp at hj; exact hj
        subst this
        rw [Nat.add_zero, hdst]; rfl) (fun j hj => by
        have : j = 0 := by simp at hj; exact hj
        subst this
        exact hf) (fun y hy => by simp at hy; subst hy; exact h1)
    unfold Oper.wp execOp
    simp only [ho, resolve, invoke, builtin, Sem.run_bind, Sem.run_pure, Result.andThen_ok, List.map_toArray, List.map_cons, List.map_nil, hd, hx, hr]
    exact hK _ _ h
theorem wpList_copy0 {ops : Array Oper} {rest : List Oper} {o : Oper} {a : Act} {Q : Exit → Act → World → Prop} {W : World} (hw : Region.wanted o (yielded ops a.tmps) = true) (d x : Operand)
    (ho : o.op = .call { callee := .builtin .copy, args := #[d, x], argTypes := #[51, 51] }) (p q : Option Addr) (dl dc sl sc : Nat)
    (hd : a.eval d = .slice p dl dc) (hx : a.eval x = .slice q sl sc) (hmin : Nat.min sl dl = 0)
    (h : wpList Tryd.prog ops Q rest (a.put o.dst (.int .i64 0)) W) : wpList Tryd.prog ops Q (o :: rest) a W :=
  wpList_step fun K hK => by
    rw [if_pos hw]
    obtain ⟨i, hi, hz, h4, h5⟩ := info_parts Tryd.infoStr
    have hr := run_copy_none (P := Tryd.prog) W 51 51 o.type 9 p q dl dc sl sc Tryd.underlying51 (by rw [hi]; simp [h4]) hmin
    unfold Oper.wp execOp
    simp only [ho, resolve, invoke, builtin, Sem.run_bind, Sem.run_pure, Result.andThen_ok, List.map_toArray, List.map_cons, List.map_nil, hd, hx, hr]
    exact hK _ _ h
theorem made_rep (z : Value) (d : Nat) : madeCells #[z] d = Array.replicate d z := by
  apply Array.ext
  · simp [madeCells]
  · intro i h1 h2
    simp [madeCells, Nat.mod_one]
theorem make_str (d : Nat) (hd : d < 100) (w : World) : (Instr.makeSlice 51 (.int .i64 d) (.int .i64 d)).run Tryd.prog w = .ok (.slice (some ⟨w.heap.size, 0, none⟩) d d) (w.alloc (.cells (madeCells #[.string ⟨#[]⟩] d) 9)) := by
  obtain ⟨i, hi, hz, h4, h5⟩ := info_parts Tryd.infoStr
  have := run_makeSlice (P := Tryd.prog) w 51 9 i (.string ⟨#[]⟩) Tryd.underlying51 hi hz .i64 .i64 d d (by omega) (by omega) (by rw [h4]; omega) (by rw [h5]; omega) (by omega)
  rw [h4] at this
  simpa [Value.cells] using this
theorem row_of_new (w : World) (q : Nat) (d : Nat) (hd : d < 100) (W : World) (hW : blk W q (List.replicate d (strv [45])).toArray 9) (hq : w.heap.size ≤ q) : W.ownsRow w.heap.size 9 1 (.slice (some ⟨q, 0, none⟩) d d) d (List.replicate d (strv [45])) :=
  ⟨by simp, .inr ⟨q, d, _, rfl, hq, hW, Nat.le_refl _, by unfold maxLen; omega, by simp, by simp⟩⟩
set_option maxRecDepth 100000 in
set_option maxHeartbeats 8000000 in
theorem rep0 (w : World) (b : Nat) (hb : w.cell? ⟨b, 0, none⟩ = some (strv [45])) (hlt : b < w.heap.size) :
    Calls Tryd.prog 52 #[.slice (some ⟨b, 0, none⟩) 1 1, .int .i64 0] w fun e w' => (∃ v, e = .returned v ∧ w'.ownsRow w.heap.size 9 1 v 0 (List.replicate 0 (strv [45]))) ∧ Below w.heap.size w w' := by
  have M := Lib.hid (Tryd.bits_Mul 1 0 (by decide) (by decide))
  have MK : ∀ w, (Instr.makeSlice 51 (.int .i64 0) (.int .i64 0)).run Tryd.prog w = .ok (.slice (some ⟨w.heap.size, 0, none⟩) 0 0) (w.alloc (.cells #[] 9)) := fun w => by
    have h := make_str 0 (by decide) w
    rw [show madeCells #[.string ⟨#[]⟩] 0 = #[] from by rw [made_rep]; rfl] at h
    exact h
  haveI := inW_mk hlt
  go_enter Tryd.func52, Tryd.ntmps52
  go_upto_region 6 with (go_at_call 73; refine (M.out _).mono ?_; rintro e w9 ⟨rfl, rfl⟩)
  go_upto_region 7 with fail
  go_upto_region 8 with (refine wpList_copy0 rfl _ _ rfl _ _ _ _ _ _ rfl rfl rfl ?_)
  go_wp2
  refine wp_loop_rounds 1 ?_
  rw [rounds_succ]
  go_wp2
  refine bodyPost_ret (by first | (simp [results, Tryd.results52, go_sem]; done) | (simp [results, Tryd.results52, go_sem]; rfl)) rfl ⟨⟨_, rfl, row_of_new w9 w9.heap.size _ (by decide) _ (blk_new w9 _ 9) (Nat.le_refl _)⟩, by repeat (first | (with_reducible exact Below.refl _ _) | ((with_reducible refine below_grow ?_ ?_); rotate_left; focus (first | omega | (simp [go_sem]; done) | (simp [go_sem]; omega))) | ((with_reducible refine Below.alloc ?_ ?_ _); rotate_left; focus (first | omega | (simp [go_sem]; done) | (simp [go_sem]; omega))) | ((with_reducible refine Below.setCell ?_ ?_ _); rotate_left; focus (first | omega | (simp [go_sem]; done) | (simp [go_sem]; omega))) | (with_reducible refine Below.drew ?_) | (with_reducible refine below_drewN _ ?_))⟩
set_option maxRecDepth 100000 in
set_option maxHeartbeats 8000000 in
theorem rep1 (w : World) (b : Nat) (hb : w.cell? ⟨b, 0, none⟩ = some (strv [45])) (hlt : b < w.heap.size) :
    Calls Tryd.prog 52 #[.slice (some ⟨b, 0, none⟩) 1 1, .int .i64 1] w fun e w' => (∃ v, e = .returned v ∧ w'.ownsRow w.heap.size 9 1 v 1 (List.replicate 1 (strv [45]))) ∧ Below w.heap.size w w' := by
  have M := Lib.hid (Tryd.bits_Mul 1 1 (by decide) (by decide))
  have MK : ∀ w, (Instr.makeSlice 51 (.int .i64 1) (.int .i64 1)).run Tryd.prog w = .ok (.slice (some ⟨w.heap.size, 0, none⟩) 1 1) (w.alloc (.cells #[.string ⟨#[]⟩] 9)) := fun w => by
    have h := make_str 1 (by decide) w
    rw [show madeCells #[.string ⟨#[]⟩] 1 = #[.string ⟨#[]⟩] from by rw [made_rep]; rfl] at h
    exact h
  haveI := inW_mk hlt
  go_enter Tryd.func52, Tryd.ntmps52
  go_upto_region 6 with (go_at_call 73; refine (M.out _).mono ?_; rintro e w9 ⟨rfl, rfl⟩)
  go_upto_region 7 with fail
  go_upto_region 8 with (refine wpList_copy1 rfl _ _ rfl w9.heap.size 0 _ _ ⟨b, 0, none⟩ _ _ (strv [45]) rfl rfl rfl (by simp [go_sem, *]) (.string ⟨#[]⟩) (by simp [go_sem]) (by simp [go_sem]) rfl rfl ?_)
  go_wp2
  refine wp_loop_rounds 1 ?_
  rw [rounds_succ]
  go_wp2
  refine bodyPost_ret (by first | (simp [results, Tryd.results52, go_sem]; done) | (simp [results, Tryd.results52, go_sem]; rfl)) rfl ⟨⟨_, rfl, row_of_new w9 w9.heap.size _ (by decide) _ (blk_new w9 _ 9) (Nat.le_refl _)⟩, by repeat (first | (with_reducible exact Below.refl _ _) | ((with_reducible refine below_grow ?_ ?_); rotate_left; focus (first | omega | (simp [go_sem]; done) | (simp [go_sem]; omega))) | ((with_reducible refine Below.alloc ?_ ?_ _); rotate_left; focus (first | omega | (simp [go_sem]; done) | (simp [go_sem]; omega))) | ((with_reducible refine Below.setCell ?_ ?_ _); rotate_left; focus (first | omega | (simp [go_sem]; done) | (simp [go_sem]; omega))) | (with_reducible refine Below.drew ?_) | (with_reducible refine below_drewN _ ?_))⟩
set_option maxRecDepth 100000 in
set_option maxHeartbeats 8000000 in
theorem rep2 (w : World) (b : Nat) (hb : w.cell? ⟨b, 0, none⟩ = some (strv [45])) (hlt : b < w.heap.size) :
    Calls Tryd.prog 52 #[.slice (some ⟨b, 0, none⟩) 1 1, .int .i64 2] w fun e w' => (∃ v, e = .returned v ∧ w'.ownsRow w.heap.size 9 1 v 2 (List.replicate 2 (strv [45]))) ∧ Below w.heap.size w w' := by
  have M := Lib.hid (Tryd.bits_Mul 1 2 (by decide) (by decide))
  have MK : ∀ w, (Instr.makeSlice 51 (.int .i64 2) (.int .i64 2)).run Tryd.prog w = .ok (.slice (some ⟨w.heap.size, 0, none⟩) 2 2) (w.alloc (.cells #[.string ⟨#[]⟩, .string ⟨#[]⟩] 9)) := fun w => by
    have h := make_str 2 (by decide) w
    rw [show madeCells #[.string ⟨#[]⟩] 2 = #[.string ⟨#[]⟩, .string ⟨#[]⟩] from by rw [made_rep]; rfl] at h
    exact h
  haveI := inW_mk hlt
  go_enter Tryd.func52, Tryd.ntmps52
  go_upto_region 6 with (go_at_call 73; refine (M.out _).mono ?_; rintro e w9 ⟨rfl, rfl⟩)
  go_upto_region 7 with fail
  go_upto_region 8 with (refine wpList_copy1 rfl _ _ rfl w9.heap.size 0 _ _ ⟨b, 0, none⟩ _ _ (strv [45]) rfl rfl rfl (by simp [go_sem, *]) (.string ⟨#[]⟩) (by simp [go_sem]) (by simp [go_sem]) rfl rfl ?_)
  go_wp2
  refine wp_loop_rounds 2 ?_
  rw [rounds_succ]
  have CP1 : ∀ W : World, W.cell? ⟨w9.heap.size, 0, none⟩ = some (strv [45]) → W.cell? ⟨w9.heap.size, 1, none⟩ = some (.string ⟨#[]⟩) → W.frozen? ⟨w9.heap.size, 1, none⟩ = false → (Builtin.copy_ #[51, 51] 3 #[.slice (some ⟨w9.heap.size, 1, none⟩) 1 1, .slice (some ⟨w9.heap.size, 0, none⟩) 1 2]).run Tryd.prog W = .ok (.int .i64 1) (W.setCell ⟨w9.heap.size, 1, none⟩ (strv [45])) := fun W a b c => copy_run _ _ _ _ _ _ _ _ rfl _ _ rfl W a b c
  go_upto_region 9 with fail
  go_region
  go_wp2
  rw [rounds_succ]
  go_wp2
  refine bodyPost_ret (by first | (simp [results, Tryd.results52, go_sem]; done) | (simp [results, Tryd.results52, go_sem]; rfl)) rfl ⟨⟨_, rfl, row_of_new w9 w9.heap.size _ (by decide) _ (blk_new w9 _ 9) (Nat.le_refl _)⟩, by repeat (first | (with_reducible exact Below.refl _ _) | ((with_reducible refine below_grow ?_ ?_); rotate_left; focus (first | omega | (simp [go_sem]; done) | (simp [go_sem]; omega))) | ((with_reducible refine Below.alloc ?_ ?_ _); rotate_left; focus (first | omega | (simp [go_sem]; done) | (simp [go_sem]; omega))) | ((with_reducible refine Below.setCell ?_ ?_ _); rotate_left; focus (first | omega | (simp [go_sem]; done) | (simp [go_sem]; omega))) | (with_reducible refine Below.drew ?_) | (with_reducible refine below_drewN _ ?_))⟩
set_option maxRecDepth 100000 in
set_option maxHeartbeats 8000000 in
theorem rep3 (w : World) (b : Nat) (hb : w.cell? ⟨b, 0, none⟩ = some (strv [45])) (hlt : b < w.heap.size) :
    Calls Tryd.prog 52 #[.slice (some ⟨b, 0, none⟩) 1 1, .int .i64 3] w fun e w' => (∃ v, e = .returned v ∧ w'.ownsRow w.heap.size 9 1 v 3 (List.replicate 3 (strv [45]))) ∧ Below w.heap.size w w' := by
  have M := Lib.hid (Tryd.bits_Mul 1 3 (by decide) (by decide))
  have MK : ∀ w, (Instr.makeSlice 51 (.int .i64 3) (.int .i64 3)).run Tryd.prog w = .ok (.slice (some ⟨w.heap.size, 0, none⟩) 3 3) (w.alloc (.cells #[.string ⟨#[]⟩, .string ⟨#[]⟩, .string ⟨#[]⟩] 9)) := fun w => by
    have h := make_str 3 (by decide) w
    rw [show madeCells #[.string ⟨#[]⟩] 3 = #[.string ⟨#[]⟩, .string ⟨#[]⟩, .string ⟨#[]⟩] from by rw [made_rep]; rfl] at h
    exact h
  haveI := inW_mk hlt
  go_enter Tryd.func52, Tryd.ntmps52
  go_upto_region 6 with (go_at_call 73; refine (M.out _).mono ?_; rintro e w9 ⟨rfl, rfl⟩)
  go_upto_region 7 with fail
  go_upto_region 8 with (refine wpList_copy1 rfl _ _ rfl w9.heap.size 0 _ _ ⟨b, 0, none⟩ _ _ (strv [45]) rfl rfl rfl (by simp [go_sem, *]) (.string ⟨#[]⟩) (by simp [go_sem]) (by simp [go_sem]) rfl rfl ?_)
  go_wp2
  refine wp_loop_rounds 3 ?_
  rw [rounds_succ]
  have CP1 : ∀ W : World, W.cell? ⟨w9.heap.size, 0, none⟩ = some (strv [45]) → W.cell? ⟨w9.heap.size, 1, none⟩ = some (.string ⟨#[]⟩) → W.frozen? ⟨w9.heap.size, 1, none⟩ = false → (Builtin.copy_ #[51, 51] 3 #[.slice (some ⟨w9.heap.size, 1, none⟩) 2 2, .slice (some ⟨w9.heap.size, 0, none⟩) 1 3]).run Tryd.prog W = .ok (.int .i64 1) (W.setCell ⟨w9.heap.size, 1, none⟩ (strv [45])) := fun W a b c => copy_run _ _ _ _ _ _ _ _ rfl _ _ rfl W a b c
  go_upto_region 9 with fail
  go_region
  go_wp2
  rw [rounds_succ]
  have CP2 : ∀ W : World, W.cell? ⟨w9.heap.size, 0, none⟩ = some (strv [45]) → W.cell? ⟨w9.heap.size, 2, none⟩ = some (.string ⟨#[]⟩) → W.frozen? ⟨w9.heap.size, 2, none⟩ = false → (Builtin.copy_ #[51, 51] 3 #[.slice (some ⟨w9.heap.size, 2, none⟩) 1 1, .slice (some ⟨w9.heap.size, 0, none⟩) 2 3]).run Tryd.prog W = .ok (.int .i64 1) (W.setCell ⟨w9.heap.size, 2, none⟩ (strv [45])) := fun W a b c => copy_run _ _ _ _ _ _ _ _ rfl _ _ rfl W a b c
  go_upto_region 9 with fail
  go_region
  go_wp2
  rw [rounds_succ]
  go_wp2
  refine bodyPost_ret (by first | (simp [results, Tryd.results52, go_sem]; done) | (simp [results, Tryd.results52, go_sem]; rfl)) rfl ⟨⟨_, rfl, row_of_new w9 w9.heap.size _ (by decide) _ (blk_new w9 _ 9) (Nat.le_refl _)⟩, by repeat (first | (with_reducible exact Below.refl _ _) | ((with_reducible refine below_grow ?_ ?_); rotate_left; focus (first | omega | (simp [go_sem]; done) | (simp [go_sem]; omega))) | ((with_reducible refine Below.alloc ?_ ?_ _); rotate_left; focus (first | omega | (simp [go_sem]; done) | (simp [go_sem]; omega))) | ((with_reducible refine Below.setCell ?_ ?_ _); rotate_left; focus (first | omega | (simp [go_sem]; done) | (simp [go_sem]; omega))) | (with_reducible refine Below.drew ?_) | (with_reducible refine below_drewN _ ?_))⟩
end Go.Proofs.YtacgikhedhiaaaaDoor
