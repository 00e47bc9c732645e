/- CardOne: the walk. -/
import Derived.Test.YtcfkcfbgnciccaaDoorCN
namespace Go.Proofs.YtcfkcfbgnciccaaDoor
open Go.RowKit

theorem wrt_one0 : ∀ r : Fin 13, wrt (2 ^ (13 * 0 + r.val)) = [46, 46, 46, chr r.val] := by decide +kernel
theorem wrt_one1 : ∀ r : Fin 13, wrt (2 ^ (13 * 1 + r.val)) = [46, 46, chr r.val, 46] := by decide +kernel
theorem wrt_one2 : ∀ r : Fin 13, wrt (2 ^ (13 * 2 + r.val)) = [46, chr r.val, 46, 46] := by decide +kernel
theorem wrt_one3 : ∀ r : Fin 13, wrt (2 ^ (13 * 3 + r.val)) = [chr r.val, 46, 46, 46] := by decide +kernel
theorem read_text (s r : Nat) (hs : s < 4) (hr : r < 13) (w : World) : Calls Tryd.prog 25 #[.string ⟨#[ltr s, chr r]⟩] w fun e w' => e = .returned (.tuple #[.int .u8 ((13 * s + r : Nat) : Int), .int .i64 0]) ∧ Below w.heap.size w w' := by
  have h := read_two (ltr s) (chr r) w
  have h1 := sdx_ltr ⟨s, hs⟩
  have h2 := idx_chr ⟨r, hr⟩
  unfold rdc rde at h
  rw [show sdx (ltr s) = s from h1, show idx (chr r) = r from h2, if_neg (by omega), if_neg (by omega)] at h
  exact h
theorem suit_at (s r : Nat) (hs : s < 4) (hr : r < 13) (w : World) : Calls Tryd.prog 22 #[.int .u8 ((13 * s + r : Nat) : Int)] w fun e w' => e = .returned (.int .u8 (s : Int)) ∧ w = w' := by
  have h := suit_yes (13 * s + r) (by omega) w
  rwa [show (13 * s + r) / 13 = s by omega] at h
theorem rank_at (s r : Nat) (hs : s < 4) (hr : r < 13) (w : World) : Calls Tryd.prog 23 #[.int .u8 ((13 * s + r : Nat) : Int)] w fun e w' => e = .returned (.int .u8 (r : Int)) ∧ w = w' := by
  have h := rank_yes (13 * s + r) (by omega) w
  rwa [show (13 * s + r) % 13 = r by omega] at h
theorem text_at (s r : Nat) (hs : s < 4) (hr : r < 13) (w : World) : Calls Tryd.prog 24 #[.int .u8 ((13 * s + r : Nat) : Int)] w fun e w' => e = .returned (.tuple #[.string ⟨#[ltr s, chr r]⟩, .int .i64 0]) ∧ Below w.heap.size w w' := by
  have h := text_yes (13 * s + r) (by omega) w
  rwa [show (13 * s + r) / 13 = s by omega, show (13 * s + r) % 13 = r by omega] at h
theorem write_at (c : Nat) (h : c < 52) (w : World) : Calls Tryd.prog 16 #[.int .u64 ((2 : Int) ^ c)] w fun e w' => e = .returned (.tuple #[strv (wrt (2 ^ c)), .int .i64 0]) ∧ Below w.heap.size w w' := by
  have h2 : 2 ^ c < 2 ^ 52 := Nat.pow_lt_pow_right (by decide) h
  have h := write_yes (2 ^ c) h2 w
  rwa [show ((2 ^ c : Nat) : Int) = (2 : Int) ^ c by simp] at h
set_option maxRecDepth 100000 in
set_option maxHeartbeats 8000000 in
theorem one_0 (a0 : Int) (r : Nat) (hr : r < 13) (ha : a0.tmod 52 = ((13 * 0 + r : Nat) : Int)) (w : World) (he : Env w) :
    Calls Tryd.prog 7 #[.int .u8 a0] w fun e w' => e = .returned (.bool true) ∧ Below w.heap.size w w' := by
  have S := Lib.hid (suit_at 0 r (by decide) hr)
  have R := Lib.hid (rank_at 0 r (by decide) hr)
  have O := Lib.hid (of_yes 0 r (by decide) hr)
  have T := Lib.hid (text_at 0 r (by decide) hr)
  have D := Lib.hid (read_text 0 r (by decide) hr)
  have W := Lib.hid (write_at (13 * 0 + r) (by omega))
  have Y := Lib.hid (right_yes (13 * 0 + r) (by omega))
  have wo : wrt (2 ^ (13 * 0 + r)) = [46, 46, 46, chr r] := wrt_one0 ⟨r, hr⟩
  rw [wo] at W
  clear wo
  obtain ⟨c, hc⟩ : ∃ c, 13 * 0 + r = c := ⟨_, rfl⟩
  have hc52 : c < 52 := by omega
  rw [hc] at S R O T D W Y ha
  have e1 := (clr_num 0 c (by decide) (by omega)).1
  have hmn : min c 64 = c := by omega
  have u1 : IntKind.u8.wrap (c : Int) = (c : Int) := u8_wrap (by omega) (by omega)
  have s1 : ∀ W, (Instr.slice 9 (.string ⟨#[46, 46, 46, chr r]⟩) none (some (.int .i64 3)) none).run Tryd.prog W = .ok (.string ⟨#[46, 46, 46]⟩) W := fun W => by kernel_rfl
  have s2 : ∀ W, (Instr.slice 9 (.string ⟨#[46, 46, 46, chr r]⟩) (some (.int .i64 4)) none none).run Tryd.prog W = .ok (.string ⟨#[]⟩) W := fun W => by kernel_rfl
  have w4 : IntKind.i64.wrap 4 = 4 := by decide
  have w3 : IntKind.i64.wrap 3 = 3 := by decide
  have ad : ∀ W, (Op.stringOp .add ⟨#[46, 46, 46]⟩ ⟨#[]⟩).run Tryd.prog W = .ok (.string ⟨#[46, 46, 46]⟩) W := fun W => by kernel_rfl
  have i1 : ∀ W, (Instr.index 9 (strv [46, 46, 46, chr r]) (.int .i64 3)).run Tryd.prog W = .ok (.int .u8 (chr r).toNat) W := fun W => by kernel_rfl
  have i2 : ∀ W, (Instr.index 9 (.string ⟨#[ltr 0, chr r]⟩) (.int .i64 1)).run Tryd.prog W = .ok (.int .u8 (chr r).toNat) W := fun W => by kernel_rfl
  have hb := fun (w1 : World) (h : Below w.heap.size w w1) => awake_calls w1 (he.below h)
  have AW := Lib.hid hb
  clear hb hc hc52 hr
  go_enter Tryd.func7, Tryd.ntmps7
  go_upto_region 3 with (first | (go_at_call 22; refine (S.out _).mono ?_; rintro e w1 ⟨rfl, rfl⟩) | (go_at_call 23; refine (R.out _).mono ?_; rintro e w1 ⟨rfl, rfl⟩) | (go_at_call 21; refine (O.out _).mono ?_; rintro e w1 ⟨rfl, rfl⟩))
  go_upto_region 4 with (first | (go_at_call 24; refine (T.out _).mono ?_; rintro e w1 ⟨rfl, hbel⟩; obtain ⟨o1, j1, rfl⟩ := grow_of_below hbel; clear hbel))
  go_upto_region 5 with (first | (go_at_call 25; refine (D.out _).mono ?_; rintro e w1 ⟨rfl, hbel⟩; obtain ⟨o2, j2, rfl⟩ := grow_of_below hbel; clear hbel))
  go_upto_region 6 with (first | (go_at_call 16; refine (W.out _).mono ?_; rintro e w1 ⟨rfl, hbel⟩; obtain ⟨o3, j3, rfl⟩ := grow_of_below hbel; clear hbel))
  go_upto_region 9 with (first | (go_at_call 26; refine (Y.out _).mono ?_; rintro e w1 ⟨rfl, rfl⟩) | (go_at_call 22; refine (S.out _).mono ?_; rintro e w1 ⟨rfl, rfl⟩))
  refine wp_region_any (by kernel_rfl) ?_
  change wpAny _ _ _ _ _ _ _ (World.drew _)
  refine wpAny_take (i := 0) (v := ?v0q0) rfl (by kernel_rfl) (by kernel_rfl) (by kernel_rfl) (fun _ _ _ h => h) (Or.inl ⟨by rfl, ?y0q0⟩) ?r0q0
  case y0q0 => intro W; go_simp; try with_reducible rfl
  go_simp
  refine wpAny_take (i := 1) (v := ?v1q0) rfl (by kernel_rfl) (by kernel_rfl) (by kernel_rfl) (fun _ _ _ h => h) (Or.inl ⟨by rfl, ?y1q0⟩) ?r1q0
  case y1q0 => intro W; go_simp; try with_reducible rfl
  go_simp
  refine wpAny_take (i := 2) (v := ?v2q0) rfl (by kernel_rfl) (by kernel_rfl) (by kernel_rfl) (fun _ _ _ h => h) (Or.inl ⟨by rfl, ?y2q0⟩) ?r2q0
  case y2q0 => intro W; go_simp; try with_reducible rfl
  go_simp
  refine wpAny_take (i := 3) (v := ?v3q0) rfl (by kernel_rfl) (by kernel_rfl) (by kernel_rfl) (fun _ _ _ h => h) (Or.inl ⟨by rfl, ?y3q0⟩) ?r3q0
  case y3q0 => intro W; go_simp; try with_reducible rfl
  go_simp
  refine wpAny_take (i := 4) (v := ?v4q0) rfl (by kernel_rfl) (by kernel_rfl) (by kernel_rfl) (fun _ _ _ h => h) (Or.inl ⟨by rfl, ?y4q0⟩) ?r4q0
  case y4q0 => intro W; go_simp; try with_reducible rfl
  go_simp
  refine wpAny_take (i := 5) (v := ?v5q0) rfl (by kernel_rfl) (by kernel_rfl) (by kernel_rfl) (fun _ _ _ h => h) (Or.inl ⟨by rfl, ?y5q0⟩) ?r5q0
  case y5q0 => intro W; go_simp; try with_reducible rfl
  go_simp
  refine wpAny_take (i := 6) (v := ?v6q0) rfl (by kernel_rfl) (by kernel_rfl) (by kernel_rfl) (fun _ _ _ h => h) (Or.inl ⟨by rfl, ?y6q0⟩) ?r6q0
  case y6q0 => intro W; go_simp; try with_reducible rfl
  go_simp
  refine wpAny_take (i := 7) (v := ?v7q0) rfl (by kernel_rfl) (by kernel_rfl) (by kernel_rfl) (fun _ _ _ h => h) (Or.inl ⟨by rfl, ?y7q0⟩) ?r7q0
  case y7q0 => intro W; go_simp; try with_reducible rfl
  go_simp
  refine wpAny_take (i := 8) (v := ?v8q0) rfl (by kernel_rfl) (by kernel_rfl) (by kernel_rfl) (fun _ _ _ h => h) (Or.inl ⟨by rfl, ?y8q0⟩) ?r8q0
  case y8q0 => intro W; go_simp; try with_reducible rfl
  go_simp
  refine wpAny_take (i := 9) (v := ?v9q0) rfl (by kernel_rfl) (by kernel_rfl) (by kernel_rfl) (fun _ _ _ h => h) (Or.inl ⟨by rfl, ?y9q0⟩) ?r9q0
  case y9q0 => intro W; go_simp; try with_reducible rfl
  go_simp
  refine wpAny_take (i := 10) (v := ?v10q0) rfl (by kernel_rfl) (by kernel_rfl) (by kernel_rfl) (fun _ _ _ h => h) (Or.inl ⟨by rfl, ?y10q0⟩) ?r10q0
  case y10q0 => intro W; go_simp; try with_reducible rfl
  go_simp
  refine wpAny_take (i := 11) (v := ?v11q0) rfl (by kernel_rfl) (by kernel_rfl) (by kernel_rfl) (fun _ _ _ h => h) (Or.inl ⟨by rfl, ?y11q0⟩) ?r11q0
  case y11q0 => intro W; go_simp; try with_reducible rfl
  go_simp
  refine wpAny_take (i := 12) (v := ?v12q0) rfl (by kernel_rfl) (by kernel_rfl) (by kernel_rfl) (fun _ _ _ h => h) (Or.inl ⟨by rfl, ?y12q0⟩) ?r12q0
  case y12q0 => intro W; go_simp; try with_reducible rfl
  go_simp
  refine wpAny_take (i := 13) (v := ?v13q0) rfl (by kernel_rfl) (by kernel_rfl) (by kernel_rfl) (fun _ _ _ h => h) (Or.inl ⟨by rfl, ?y13q0⟩) ?r13q0
  case y13q0 => intro W; go_simp; try with_reducible rfl
  go_simp
  refine wpAny_take (i := 14) (v := ?v14q0) rfl (by kernel_rfl) (by kernel_rfl) (by kernel_rfl) (fun _ _ _ h => h) (Or.inl ⟨by rfl, ?y14q0⟩) ?r14q0
  case y14q0 => intro W; go_simp; try with_reducible rfl
  go_simp
  refine wpAny_take (i := 15) (v := ?v15q0) rfl (by kernel_rfl) (by kernel_rfl) (by kernel_rfl) (fun _ _ _ h => h) (Or.inl ⟨by rfl, ?y15q0⟩) ?r15q0
  case y15q0 => intro W; go_simp; try with_reducible rfl
  go_simp
  refine wpAny_take (i := 16) (v := ?v16q0) rfl (by kernel_rfl) (by kernel_rfl) (by kernel_rfl) (fun _ _ _ h => h) (Or.inl ⟨by rfl, ?y16q0⟩) ?r16q0
  case y16q0 => intro W; go_simp; try with_reducible rfl
  go_simp
  refine wpAny_take (i := 17) (v := ?v17q0) rfl (by kernel_rfl) (by kernel_rfl) (by kernel_rfl) (fun _ _ _ h => h) (Or.inl ⟨by rfl, ?y17q0⟩) ?r17q0
  case y17q0 => intro W; go_simp; try with_reducible rfl
  go_simp
  refine wpAny_ready (rs := [18]) (by kernel_rfl) (by simp) ?_
  refine AllReady.cons rfl (fun K hK => ?_) AllReady.nil
  go_simp
  go_at_call 12; refine (AW.out _ (by repeat (first | (with_reducible exact Below.refl _ _) | ((with_reducible refine below_grow ?_ ?_); rotate_left; focus (first | omega | (simp [go_sem]; done) | (simp [go_sem]; omega))) | ((with_reducible refine Below.alloc ?_ ?_ _); rotate_left; focus (first | omega | (simp [go_sem]; done) | (simp [go_sem]; omega))) | ((with_reducible refine Below.setCell ?_ ?_ _); rotate_left; focus (first | omega | (simp [go_sem]; done) | (simp [go_sem]; omega))) | (with_reducible refine Below.drew ?_) | (with_reducible refine below_drewN _ ?_)))).mono ?_; rintro e w1 ⟨rfl, hbel⟩; obtain ⟨o4, j4, rfl⟩ := grow_of_below hbel; clear hbel
  refine hK _ _ ?_; clear hK K
  refine wpAny_ready (rs := [19]) (by kernel_rfl) (by simp) ?_
  refine AllReady.cons rfl (fun K hK => ?_) AllReady.nil
  go_simp
  refine hK _ _ ?_; clear hK K
  refine wpAny_ready (rs := [20]) (by kernel_rfl) (by simp) ?_
  refine AllReady.cons rfl (fun K hK => ?_) AllReady.nil
  go_simp
  refine hK _ _ ?_; clear hK K
  refine wpAny_done (by kernel_rfl) ?_ _
  go_wp2
  go_ret
  exact ⟨rfl, by repeat (first | (with_reducible exact Below.refl _ _) | ((with_reducible refine below_grow ?_ ?_); rotate_left; focus (first | omega | (simp [go_sem]; done) | (simp [go_sem]; omega))) | ((with_reducible refine Below.alloc ?_ ?_ _); rotate_left; focus (first | omega | (simp [go_sem]; done) | (simp [go_sem]; omega))) | ((with_reducible refine Below.setCell ?_ ?_ _); rotate_left; focus (first | omega | (simp [go_sem]; done) | (simp [go_sem]; omega))) | (with_reducible refine Below.drew ?_) | (with_reducible refine below_drewN _ ?_))⟩
set_option maxRecDepth 100000 in
set_option maxHeartbeats 8000000 in
theorem one_1 (a0 : Int) (r : Nat) (hr : r < 13) (ha : a0.tmod 52 = ((13 * 1 + r : Nat) : Int)) (w : World) (he : Env w) :
    Calls Tryd.prog 7 #[.int .u8 a0] w fun e w' => e = .returned (.bool true) ∧ Below w.heap.size w w' := by
  have S := Lib.hid (suit_at 1 r (by decide) hr)
  have R := Lib.hid (rank_at 1 r (by decide) hr)
  have O := Lib.hid (of_yes 1 r (by decide) hr)
  have T := Lib.hid (text_at 1 r (by decide) hr)
  have D := Lib.hid (read_text 1 r (by decide) hr)
  have W := Lib.hid (write_at (13 * 1 + r) (by omega))
  have Y := Lib.hid (right_yes (13 * 1 + r) (by omega))
  have wo : wrt (2 ^ (13 * 1 + r)) = [46, 46, chr r, 46] := wrt_one1 ⟨r, hr⟩
  rw [wo] at W
  clear wo
  obtain ⟨c, hc⟩ : ∃ c, 13 * 1 + r = c := ⟨_, rfl⟩
  have hc52 : c < 52 := by omega
  rw [hc] at S R O T D W Y ha
  have e1 := (clr_num 0 c (by decide) (by omega)).1
  have hmn : min c 64 = c := by omega
  have u1 : IntKind.u8.wrap (c : Int) = (c : Int) := u8_wrap (by omega) (by omega)
  have s1 : ∀ W, (Instr.slice 9 (.string ⟨#[46, 46, chr r, 46]⟩) none (some (.int .i64 2)) none).run Tryd.prog W = .ok (.string ⟨#[46, 46]⟩) W := fun W => by kernel_rfl
  have s2 : ∀ W, (Instr.slice 9 (.string ⟨#[46, 46, chr r, 46]⟩) (some (.int .i64 3)) none none).run Tryd.prog W = .ok (.string ⟨#[46]⟩) W := fun W => by kernel_rfl
  have w4 : IntKind.i64.wrap 3 = 3 := by decide
  have w3 : IntKind.i64.wrap 2 = 2 := by decide
  have ad : ∀ W, (Op.stringOp .add ⟨#[46, 46]⟩ ⟨#[46]⟩).run Tryd.prog W = .ok (.string ⟨#[46, 46, 46]⟩) W := fun W => by kernel_rfl
  have i1 : ∀ W, (Instr.index 9 (strv [46, 46, chr r, 46]) (.int .i64 2)).run Tryd.prog W = .ok (.int .u8 (chr r).toNat) W := fun W => by kernel_rfl
  have i2 : ∀ W, (Instr.index 9 (.string ⟨#[ltr 1, chr r]⟩) (.int .i64 1)).run Tryd.prog W = .ok (.int .u8 (chr r).toNat) W := fun W => by kernel_rfl
  have hb := fun (w1 : World) (h : Below w.heap.size w w1) => awake_calls w1 (he.below h)
  have AW := Lib.hid hb
  clear hb hc hc52 hr
  go_enter Tryd.func7, Tryd.ntmps7
  go_upto_region 3 with (first | (go_at_call 22; refine (S.out _).mono ?_; rintro e w1 ⟨rfl, rfl⟩) | (go_at_call 23; refine (R.out _).mono ?_; rintro e w1 ⟨rfl, rfl⟩) | (go_at_call 21; refine (O.out _).mono ?_; rintro e w1 ⟨rfl, rfl⟩))
  go_upto_region 4 with (first | (go_at_call 24; refine (T.out _).mono ?_; rintro e w1 ⟨rfl, hbel⟩; obtain ⟨o1, j1, rfl⟩ := grow_of_below hbel; clear hbel))
  go_upto_region 5 with (first | (go_at_call 25; refine (D.out _).mono ?_; rintro e w1 ⟨rfl, hbel⟩; obtain ⟨o2, j2, rfl⟩ := grow_of_below hbel; clear hbel))
  go_upto_region 6 with (first | (go_at_call 16; refine (W.out _).mono ?_; rintro e w1 ⟨rfl, hbel⟩; obtain ⟨o3, j3, rfl⟩ := grow_of_below hbel; clear hbel))
  go_upto_region 9 with (first | (go_at_call 26; refine (Y.out _).mono ?_; rintro e w1 ⟨rfl, rfl⟩) | (go_at_call 22; refine (S.out _).mono ?_; rintro e w1 ⟨rfl, rfl⟩))
  refine wp_region_any (by kernel_rfl) ?_
  change wpAny _ _ _ _ _ _ _ (World.drew _)
  refine wpAny_take (i := 0) (v := ?v0q1) rfl (by kernel_rfl) (by kernel_rfl) (by kernel_rfl) (fun _ _ _ h => h) (Or.inl ⟨by rfl, ?y0q1⟩) ?r0q1
  case y0q1 => intro W; go_simp; try with_reducible rfl
  go_simp
  refine wpAny_take (i := 1) (v := ?v1q1) rfl (by kernel_rfl) (by kernel_rfl) (by kernel_rfl) (fun _ _ _ h => h) (Or.inl ⟨by rfl, ?y1q1⟩) ?r1q1
  case y1q1 => intro W; go_simp; try with_reducible rfl
  go_simp
  refine wpAny_take (i := 2) (v := ?v2q1) rfl (by kernel_rfl) (by kernel_rfl) (by kernel_rfl) (fun _ _ _ h => h) (Or.inl ⟨by rfl, ?y2q1⟩) ?r2q1
  case y2q1 => intro W; go_simp; try with_reducible rfl
  go_simp
  refine wpAny_take (i := 3) (v := ?v3q1) rfl (by kernel_rfl) (by kernel_rfl) (by kernel_rfl) (fun _ _ _ h => h) (Or.inl ⟨by rfl, ?y3q1⟩) ?r3q1
  case y3q1 => intro W; go_simp; try with_reducible rfl
  go_simp
  refine wpAny_take (i := 4) (v := ?v4q1) rfl (by kernel_rfl) (by kernel_rfl) (by kernel_rfl) (fun _ _ _ h => h) (Or.inl ⟨by rfl, ?y4q1⟩) ?r4q1
  case y4q1 => intro W; go_simp; try with_reducible rfl
  go_simp
  refine wpAny_take (i := 5) (v := ?v5q1) rfl (by kernel_rfl) (by kernel_rfl) (by kernel_rfl) (fun _ _ _ h => h) (Or.inl ⟨by rfl, ?y5q1⟩) ?r5q1
  case y5q1 => intro W; go_simp; try with_reducible rfl
  go_simp
  refine wpAny_take (i := 6) (v := ?v6q1) rfl (by kernel_rfl) (by kernel_rfl) (by kernel_rfl) (fun _ _ _ h => h) (Or.inl ⟨by rfl, ?y6q1⟩) ?r6q1
  case y6q1 => intro W; go_simp; try with_reducible rfl
  go_simp
  refine wpAny_take (i := 7) (v := ?v7q1) rfl (by kernel_rfl) (by kernel_rfl) (by kernel_rfl) (fun _ _ _ h => h) (Or.inl ⟨by rfl, ?y7q1⟩) ?r7q1
  case y7q1 => intro W; go_simp; try with_reducible rfl
  go_simp
  refine wpAny_take (i := 8) (v := ?v8q1) rfl (by kernel_rfl) (by kernel_rfl) (by kernel_rfl) (fun _ _ _ h => h) (Or.inl ⟨by rfl, ?y8q1⟩) ?r8q1
  case y8q1 => intro W; go_simp; try with_reducible rfl
  go_simp
  refine wpAny_take (i := 9) (v := ?v9q1) rfl (by kernel_rfl) (by kernel_rfl) (by kernel_rfl) (fun _ _ _ h => h) (Or.inl ⟨by rfl, ?y9q1⟩) ?r9q1
  case y9q1 => intro W; go_simp; try with_reducible rfl
  go_simp
  refine wpAny_take (i := 10) (v := ?v10q1) rfl (by kernel_rfl) (by kernel_rfl) (by kernel_rfl) (fun _ _ _ h => h) (Or.inl ⟨by rfl, ?y10q1⟩) ?r10q1
  case y10q1 => intro W; go_simp; try with_reducible rfl
  go_simp
  refine wpAny_take (i := 11) (v := ?v11q1) rfl (by kernel_rfl) (by kernel_rfl) (by kernel_rfl) (fun _ _ _ h => h) (Or.inl ⟨by rfl, ?y11q1⟩) ?r11q1
  case y11q1 => intro W; go_simp; try with_reducible rfl
  go_simp
  refine wpAny_take (i := 12) (v := ?v12q1) rfl (by kernel_rfl) (by kernel_rfl) (by kernel_rfl) (fun _ _ _ h => h) (Or.inl ⟨by rfl, ?y12q1⟩) ?r12q1
  case y12q1 => intro W; go_simp; try with_reducible rfl
  go_simp
  refine wpAny_take (i := 13) (v := ?v13q1) rfl (by kernel_rfl) (by kernel_rfl) (by kernel_rfl) (fun _ _ _ h => h) (Or.inl ⟨by rfl, ?y13q1⟩) ?r13q1
  case y13q1 => intro W; go_simp; try with_reducible rfl
  go_simp
  refine wpAny_take (i := 14) (v := ?v14q1) rfl (by kernel_rfl) (by kernel_rfl) (by kernel_rfl) (fun _ _ _ h => h) (Or.inl ⟨by rfl, ?y14q1⟩) ?r14q1
  case y14q1 => intro W; go_simp; try with_reducible rfl
  go_simp
  refine wpAny_take (i := 15) (v := ?v15q1) rfl (by kernel_rfl) (by kernel_rfl) (by kernel_rfl) (fun _ _ _ h => h) (Or.inl ⟨by rfl, ?y15q1⟩) ?r15q1
  case y15q1 => intro W; go_simp; try with_reducible rfl
  go_simp
  refine wpAny_take (i := 16) (v := ?v16q1) rfl (by kernel_rfl) (by kernel_rfl) (by kernel_rfl) (fun _ _ _ h => h) (Or.inl ⟨by rfl, ?y16q1⟩) ?r16q1
  case y16q1 => intro W; go_simp; try with_reducible rfl
  go_simp
  refine wpAny_take (i := 17) (v := ?v17q1) rfl (by kernel_rfl) (by kernel_rfl) (by kernel_rfl) (fun _ _ _ h => h) (Or.inl ⟨by rfl, ?y17q1⟩) ?r17q1
  case y17q1 => intro W; go_simp; try with_reducible rfl
  go_simp
  refine wpAny_ready (rs := [18]) (by kernel_rfl) (by simp) ?_
  refine AllReady.cons rfl (fun K hK => ?_) AllReady.nil
  go_simp
  go_at_call 12; refine (AW.out _ (by repeat (first | (with_reducible exact Below.refl _ _) | ((with_reducible refine below_grow ?_ ?_); rotate_left; focus (first | omega | (simp [go_sem]; done) | (simp [go_sem]; omega))) | ((with_reducible refine Below.alloc ?_ ?_ _); rotate_left; focus (first | omega | (simp [go_sem]; done) | (simp [go_sem]; omega))) | ((with_reducible refine Below.setCell ?_ ?_ _); rotate_left; focus (first | omega | (simp [go_sem]; done) | (simp [go_sem]; omega))) | (with_reducible refine Below.drew ?_) | (with_reducible refine below_drewN _ ?_)))).mono ?_; rintro e w1 ⟨rfl, hbel⟩; obtain ⟨o4, j4, rfl⟩ := grow_of_below hbel; clear hbel
  refine hK _ _ ?_; clear hK K
  refine wpAny_ready (rs := [19]) (by kernel_rfl) (by simp) ?_
  refine AllReady.cons rfl (fun K hK => ?_) AllReady.nil
  go_simp
  refine hK _ _ ?_; clear hK K
  refine wpAny_ready (rs := [20]) (by kernel_rfl) (by simp) ?_
  refine AllReady.cons rfl (fun K hK => ?_) AllReady.nil
  go_simp
  refine hK _ _ ?_; clear hK K
  refine wpAny_done (by kernel_rfl) ?_ _
  go_wp2
  go_ret
  exact ⟨rfl, by repeat (first | (with_reducible exact Below.refl _ _) | ((with_reducible refine below_grow ?_ ?_); rotate_left; focus (first | omega | (simp [go_sem]; done) | (simp [go_sem]; omega))) | ((with_reducible refine Below.alloc ?_ ?_ _); rotate_left; focus (first | omega | (simp [go_sem]; done) | (simp [go_sem]; omega))) | ((with_reducible refine Below.setCell ?_ ?_ _); rotate_left; focus (first | omega | (simp [go_sem]; done) | (simp [go_sem]; omega))) | (with_reducible refine Below.drew ?_) | (with_reducible refine below_drewN _ ?_))⟩
set_option maxRecDepth 100000 in
set_option maxHeartbeats 8000000 in
theorem one_2 (a0 : Int) (r : Nat) (hr : r < 13) (ha : a0.tmod 52 = ((13 * 2 + r : Nat) : Int)) (w : World) (he : Env w) :
    Calls Tryd.prog 7 #[.int .u8 a0] w fun e w' => e = .returned (.bool true) ∧ Below w.heap.size w w' := by
  have S := Lib.hid (suit_at 2 r (by decide) hr)
  have R := Lib.hid (rank_at 2 r (by decide) hr)
  have O := Lib.hid (of_yes 2 r (by decide) hr)
  have T := Lib.hid (text_at 2 r (by decide) hr)
  have D := Lib.hid (read_text 2 r (by decide) hr)
  have W := Lib.hid (write_at (13 * 2 + r) (by omega))
  have Y := Lib.hid (right_yes (13 * 2 + r) (by omega))
  have wo : wrt (2 ^ (13 * 2 + r)) = [46, chr r, 46, 46] := wrt_one2 ⟨r, hr⟩
  rw [wo] at W
  clear wo
  obtain ⟨c, hc⟩ : ∃ c, 13 * 2 + r = c := ⟨_, rfl⟩
  have hc52 : c < 52 := by omega
  rw [hc] at S R O T D W Y ha
  have e1 := (clr_num 0 c (by decide) (by omega)).1
  have hmn : min c 64 = c := by omega
  have u1 : IntKind.u8.wrap (c : Int) = (c : Int) := u8_wrap (by omega) (by omega)
  have s1 : ∀ W, (Instr.slice 9 (.string ⟨#[46, chr r, 46, 46]⟩) none (some (.int .i64 1)) none).run Tryd.prog W = .ok (.string ⟨#[46]⟩) W := fun W => by kernel_rfl
  have s2 : ∀ W, (Instr.slice 9 (.string ⟨#[46, chr r, 46, 46]⟩) (some (.int .i64 2)) none none).run Tryd.prog W = .ok (.string ⟨#[46, 46]⟩) W := fun W => by kernel_rfl
  have w4 : IntKind.i64.wrap 2 = 2 := by decide
  have w3 : IntKind.i64.wrap 1 = 1 := by decide
  have ad : ∀ W, (Op.stringOp .add ⟨#[46]⟩ ⟨#[46, 46]⟩).run Tryd.prog W = .ok (.string ⟨#[46, 46, 46]⟩) W := fun W => by kernel_rfl
  have i1 : ∀ W, (Instr.index 9 (strv [46, chr r, 46, 46]) (.int .i64 1)).run Tryd.prog W = .ok (.int .u8 (chr r).toNat) W := fun W => by kernel_rfl
  have i2 : ∀ W, (Instr.index 9 (.string ⟨#[ltr 2, chr r]⟩) (.int .i64 1)).run Tryd.prog W = .ok (.int .u8 (chr r).toNat) W := fun W => by kernel_rfl
  have hb := fun (w1 : World) (h : Below w.heap.size w w1) => awake_calls w1 (he.below h)
  have AW := Lib.hid hb
  clear hb hc hc52 hr
  go_enter Tryd.func7, Tryd.ntmps7
  go_upto_region 3 with (first | (go_at_call 22; refine (S.out _).mono ?_; rintro e w1 ⟨rfl, rfl⟩) | (go_at_call 23; refine (R.out _).mono ?_; rintro e w1 ⟨rfl, rfl⟩) | (go_at_call 21; refine (O.out _).mono ?_; rintro e w1 ⟨rfl, rfl⟩))
  go_upto_region 4 with (first | (go_at_call 24; refine (T.out _).mono ?_; rintro e w1 ⟨rfl, hbel⟩; obtain ⟨o1, j1, rfl⟩ := grow_of_below hbel; clear hbel))
  go_upto_region 5 with (first | (go_at_call 25; refine (D.out _).mono ?_; rintro e w1 ⟨rfl, hbel⟩; obtain ⟨o2, j2, rfl⟩ := grow_of_below hbel; clear hbel))
  go_upto_region 6 with (first | (go_at_call 16; refine (W.out _).mono ?_; rintro e w1 ⟨rfl, hbel⟩; obtain ⟨o3, j3, rfl⟩ := grow_of_below hbel; clear hbel))
  go_upto_region 9 with (first | (go_at_call 26; refine (Y.out _).mono ?_; rintro e w1 ⟨rfl, rfl⟩) | (go_at_call 22; refine (S.out _).mono ?_; rintro e w1 ⟨rfl, rfl⟩))
  refine wp_region_any (by kernel_rfl) ?_
  change wpAny _ _ _ _ _ _ _ (World.drew _)
  refine wpAny_take (i := 0) (v := ?v0q2) rfl (by kernel_rfl) (by kernel_rfl) (by kernel_rfl) (fun _ _ _ h => h) (Or.inl ⟨by rfl, ?y0q2⟩) ?r0q2
  case y0q2 => intro W; go_simp; try with_reducible rfl
  go_simp
  refine wpAny_take (i := 1) (v := ?v1q2) rfl (by kernel_rfl) (by kernel_rfl) (by kernel_rfl) (fun _ _ _ h => h) (Or.inl ⟨by rfl, ?y1q2⟩) ?r1q2
  case y1q2 => intro W; go_simp; try with_reducible rfl
  go_simp
  refine wpAny_take (i := 2) (v := ?v2q2) rfl (by kernel_rfl) (by kernel_rfl) (by kernel_rfl) (fun _ _ _ h => h) (Or.inl ⟨by rfl, ?y2q2⟩) ?r2q2
  case y2q2 => intro W; go_simp; try with_reducible rfl
  go_simp
  refine wpAny_take (i := 3) (v := ?v3q2) rfl (by kernel_rfl) (by kernel_rfl) (by kernel_rfl) (fun _ _ _ h => h) (Or.inl ⟨by rfl, ?y3q2⟩) ?r3q2
  case y3q2 => intro W; go_simp; try with_reducible rfl
  go_simp
  refine wpAny_take (i := 4) (v := ?v4q2) rfl (by kernel_rfl) (by kernel_rfl) (by kernel_rfl) (fun _ _ _ h => h) (Or.inl ⟨by rfl, ?y4q2⟩) ?r4q2
  case y4q2 => intro W; go_simp; try with_reducible rfl
  go_simp
  refine wpAny_take (i := 5) (v := ?v5q2) rfl (by kernel_rfl) (by kernel_rfl) (by kernel_rfl) (fun _ _ _ h => h) (Or.inl ⟨by rfl, ?y5q2⟩) ?r5q2
  case y5q2 => intro W; go_simp; try with_reducible rfl
  go_simp
  refine wpAny_take (i := 6) (v := ?v6q2) rfl (by kernel_rfl) (by kernel_rfl) (by kernel_rfl) (fun _ _ _ h => h) (Or.inl ⟨by rfl, ?y6q2⟩) ?r6q2
  case y6q2 => intro W; go_simp; try with_reducible rfl
  go_simp
  refine wpAny_take (i := 7) (v := ?v7q2) rfl (by kernel_rfl) (by kernel_rfl) (by kernel_rfl) (fun _ _ _ h => h) (Or.inl ⟨by rfl, ?y7q2⟩) ?r7q2
  case y7q2 => intro W; go_simp; try with_reducible rfl
  go_simp
  refine wpAny_take (i := 8) (v := ?v8q2) rfl (by kernel_rfl) (by kernel_rfl) (by kernel_rfl) (fun _ _ _ h => h) (Or.inl ⟨by rfl, ?y8q2⟩) ?r8q2
  case y8q2 => intro W; go_simp; try with_reducible rfl
  go_simp
  refine wpAny_take (i := 9) (v := ?v9q2) rfl (by kernel_rfl) (by kernel_rfl) (by kernel_rfl) (fun _ _ _ h => h) (Or.inl ⟨by rfl, ?y9q2⟩) ?r9q2
  case y9q2 => intro W; go_simp; try with_reducible rfl
  go_simp
  refine wpAny_take (i := 10) (v := ?v10q2) rfl (by kernel_rfl) (by kernel_rfl) (by kernel_rfl) (fun _ _ _ h => h) (Or.inl ⟨by rfl, ?y10q2⟩) ?r10q2
  case y10q2 => intro W; go_simp; try with_reducible rfl
  go_simp
  refine wpAny_take (i := 11) (v := ?v11q2) rfl (by kernel_rfl) (by kernel_rfl) (by kernel_rfl) (fun _ _ _ h => h) (Or.inl ⟨by rfl, ?y11q2⟩) ?r11q2
  case y11q2 => intro W; go_simp; try with_reducible rfl
  go_simp
  refine wpAny_take (i := 12) (v := ?v12q2) rfl (by kernel_rfl) (by kernel_rfl) (by kernel_rfl) (fun _ _ _ h => h) (Or.inl ⟨by rfl, ?y12q2⟩) ?r12q2
  case y12q2 => intro W; go_simp; try with_reducible rfl
  go_simp
  refine wpAny_take (i := 13) (v := ?v13q2) rfl (by kernel_rfl) (by kernel_rfl) (by kernel_rfl) (fun _ _ _ h => h) (Or.inl ⟨by rfl, ?y13q2⟩) ?r13q2
  case y13q2 => intro W; go_simp; try with_reducible rfl
  go_simp
  refine wpAny_take (i := 14) (v := ?v14q2) rfl (by kernel_rfl) (by kernel_rfl) (by kernel_rfl) (fun _ _ _ h => h) (Or.inl ⟨by rfl, ?y14q2⟩) ?r14q2
  case y14q2 => intro W; go_simp; try with_reducible rfl
  go_simp
  refine wpAny_take (i := 15) (v := ?v15q2) rfl (by kernel_rfl) (by kernel_rfl) (by kernel_rfl) (fun _ _ _ h => h) (Or.inl ⟨by rfl, ?y15q2⟩) ?r15q2
  case y15q2 => intro W; go_simp; try with_reducible rfl
  go_simp
  refine wpAny_take (i := 16) (v := ?v16q2) rfl (by kernel_rfl) (by kernel_rfl) (by kernel_rfl) (fun _ _ _ h => h) (Or.inl ⟨by rfl, ?y16q2⟩) ?r16q2
  case y16q2 => intro W; go_simp; try with_reducible rfl
  go_simp
  refine wpAny_take (i := 17) (v := ?v17q2) rfl (by kernel_rfl) (by kernel_rfl) (by kernel_rfl) (fun _ _ _ h => h) (Or.inl ⟨by rfl, ?y17q2⟩) ?r17q2
  case y17q2 => intro W; go_simp; try with_reducible rfl
  go_simp
  refine wpAny_ready (rs := [18]) (by kernel_rfl) (by simp) ?_
  refine AllReady.cons rfl (fun K hK => ?_) AllReady.nil
  go_simp
  go_at_call 12; refine (AW.out _ (by repeat (first | (with_reducible exact Below.refl _ _) | ((with_reducible refine below_grow ?_ ?_); rotate_left; focus (first | omega | (simp [go_sem]; done) | (simp [go_sem]; omega))) | ((with_reducible refine Below.alloc ?_ ?_ _); rotate_left; focus (first | omega | (simp [go_sem]; done) | (simp [go_sem]; omega))) | ((with_reducible refine Below.setCell ?_ ?_ _); rotate_left; focus (first | omega | (simp [go_sem]; done) | (simp [go_sem]; omega))) | (with_reducible refine Below.drew ?_) | (with_reducible refine below_drewN _ ?_)))).mono ?_; rintro e w1 ⟨rfl, hbel⟩; obtain ⟨o4, j4, rfl⟩ := grow_of_below hbel; clear hbel
  refine hK _ _ ?_; clear hK K
  refine wpAny_ready (rs := [19]) (by kernel_rfl) (by simp) ?_
  refine AllReady.cons rfl (fun K hK => ?_) AllReady.nil
  go_simp
  refine hK _ _ ?_; clear hK K
  refine wpAny_ready (rs := [20]) (by kernel_rfl) (by simp) ?_
  refine AllReady.cons rfl (fun K hK => ?_) AllReady.nil
  go_simp
  refine hK _ _ ?_; clear hK K
  refine wpAny_done (by kernel_rfl) ?_ _
  go_wp2
  go_ret
  exact ⟨rfl, by repeat (first | (with_reducible exact Below.refl _ _) | ((with_reducible refine below_grow ?_ ?_); rotate_left; focus (first | omega | (simp [go_sem]; done) | (simp [go_sem]; omega))) | ((with_reducible refine Below.alloc ?_ ?_ _); rotate_left; focus (first | omega | (simp [go_sem]; done) | (simp [go_sem]; omega))) | ((with_reducible refine Below.setCell ?_ ?_ _); rotate_left; focus (first | omega | (simp [go_sem]; done) | (simp [go_sem]; omega))) | (with_reducible refine Below.drew ?_) | (with_reducible refine below_drewN _ ?_))⟩
set_option maxRecDepth 100000 in
set_option maxHeartbeats 8000000 in
theorem one_3 (a0 : Int) (r : Nat) (hr : r < 13) (ha : a0.tmod 52 = ((13 * 3 + r : Nat) : Int)) (w : World) (he : Env w) :
    Calls Tryd.prog 7 #[.int .u8 a0] w fun e w' => e = .returned (.bool true) ∧ Below w.heap.size w w' := by
  have S := Lib.hid (suit_at 3 r (by decide) hr)
  have R := Lib.hid (rank_at 3 r (by decide) hr)
  have O := Lib.hid (of_yes 3 r (by decide) hr)
  have T := Lib.hid (text_at 3 r (by decide) hr)
  have D := Lib.hid (read_text 3 r (by decide) hr)
  have W := Lib.hid (write_at (13 * 3 + r) (by omega))
  have Y := Lib.hid (right_yes (13 * 3 + r) (by omega))
  have wo : wrt (2 ^ (13 * 3 + r)) = [chr r, 46, 46, 46] := wrt_one3 ⟨r, hr⟩
  rw [wo] at W
  clear wo
  obtain ⟨c, hc⟩ : ∃ c, 13 * 3 + r = c := ⟨_, rfl⟩
  have hc52 : c < 52 := by omega
  rw [hc] at S R O T D W Y ha
  have e1 := (clr_num 0 c (by decide) (by omega)).1
  have hmn : min c 64 = c := by omega
  have u1 : IntKind.u8.wrap (c : Int) = (c : Int) := u8_wrap (by omega) (by omega)
  have s1 : ∀ W, (Instr.slice 9 (.string ⟨#[chr r, 46, 46, 46]⟩) none (some (.int .i64 0)) none).run Tryd.prog W = .ok (.string ⟨#[]⟩) W := fun W => by kernel_rfl
  have s2 : ∀ W, (Instr.slice 9 (.string ⟨#[chr r, 46, 46, 46]⟩) (some (.int .i64 1)) none none).run Tryd.prog W = .ok (.string ⟨#[46, 46, 46]⟩) W := fun W => by kernel_rfl
  have w4 : IntKind.i64.wrap 1 = 1 := by decide
  have w3 : IntKind.i64.wrap 0 = 0 := by decide
  have ad : ∀ W, (Op.stringOp .add ⟨#[]⟩ ⟨#[46, 46, 46]⟩).run Tryd.prog W = .ok (.string ⟨#[46, 46, 46]⟩) W := fun W => by kernel_rfl
  have i1 : ∀ W, (Instr.index 9 (strv [chr r, 46, 46, 46]) (.int .i64 0)).run Tryd.prog W = .ok (.int .u8 (chr r).toNat) W := fun W => by kernel_rfl
  have i2 : ∀ W, (Instr.index 9 (.string ⟨#[ltr 3, chr r]⟩) (.int .i64 1)).run Tryd.prog W = .ok (.int .u8 (chr r).toNat) W := fun W => by kernel_rfl
  have hb := fun (w1 : World) (h : Below w.heap.size w w1) => awake_calls w1 (he.below h)
  have AW := Lib.hid hb
  clear hb hc hc52 hr
  go_enter Tryd.func7, Tryd.ntmps7
  go_upto_region 3 with (first | (go_at_call 22; refine (S.out _).mono ?_; rintro e w1 ⟨rfl, rfl⟩) | (go_at_call 23; refine (R.out _).mono ?_; rintro e w1 ⟨rfl, rfl⟩) | (go_at_call 21; refine (O.out _).mono ?_; rintro e w1 ⟨rfl, rfl⟩))
  go_upto_region 4 with (first | (go_at_call 24; refine (T.out _).mono ?_; rintro e w1 ⟨rfl, hbel⟩; obtain ⟨o1, j1, rfl⟩ := grow_of_below hbel; clear hbel))
  go_upto_region 5 with (first | (go_at_call 25; refine (D.out _).mono ?_; rintro e w1 ⟨rfl, hbel⟩; obtain ⟨o2, j2, rfl⟩ := grow_of_below hbel; clear hbel))
  go_upto_region 6 with (first | (go_at_call 16; refine (W.out _).mono ?_; rintro e w1 ⟨rfl, hbel⟩; obtain ⟨o3, j3, rfl⟩ := grow_of_below hbel; clear hbel))
  go_upto_region 9 with (first | (go_at_call 26; refine (Y.out _).mono ?_; rintro e w1 ⟨rfl, rfl⟩) | (go_at_call 22; refine (S.out _).mono ?_; rintro e w1 ⟨rfl, rfl⟩))
  refine wp_region_any (by kernel_rfl) ?_
  change wpAny _ _ _ _ _ _ _ (World.drew _)
  refine wpAny_take (i := 0) (v := ?v0q3) rfl (by kernel_rfl) (by kernel_rfl) (by kernel_rfl) (fun _ _ _ h => h) (Or.inl ⟨by rfl, ?y0q3⟩) ?r0q3
  case y0q3 => intro W; go_simp; try with_reducible rfl
  go_simp
  refine wpAny_take (i := 1) (v := ?v1q3) rfl (by kernel_rfl) (by kernel_rfl) (by kernel_rfl) (fun _ _ _ h => h) (Or.inl ⟨by rfl, ?y1q3⟩) ?r1q3
  case y1q3 => intro W; go_simp; try with_reducible rfl
  go_simp
  refine wpAny_take (i := 2) (v := ?v2q3) rfl (by kernel_rfl) (by kernel_rfl) (by kernel_rfl) (fun _ _ _ h => h) (Or.inl ⟨by rfl, ?y2q3⟩) ?r2q3
  case y2q3 => intro W; go_simp; try with_reducible rfl
  go_simp
  refine wpAny_take (i := 3) (v := ?v3q3) rfl (by kernel_rfl) (by kernel_rfl) (by kernel_rfl) (fun _ _ _ h => h) (Or.inl ⟨by rfl, ?y3q3⟩) ?r3q3
  case y3q3 => intro W; go_simp; try with_reducible rfl
  go_simp
  refine wpAny_take (i := 4) (v := ?v4q3) rfl (by kernel_rfl) (by kernel_rfl) (by kernel_rfl) (fun _ _ _ h => h) (Or.inl ⟨by rfl, ?y4q3⟩) ?r4q3
  case y4q3 => intro W; go_simp; try with_reducible rfl
  go_simp
  refine wpAny_take (i := 5) (v := ?v5q3) rfl (by kernel_rfl) (by kernel_rfl) (by kernel_rfl) (fun _ _ _ h => h) (Or.inl ⟨by rfl, ?y5q3⟩) ?r5q3
  case y5q3 => intro W; go_simp; try with_reducible rfl
  go_simp
  refine wpAny_take (i := 6) (v := ?v6q3) rfl (by kernel_rfl) (by kernel_rfl) (by kernel_rfl) (fun _ _ _ h => h) (Or.inl ⟨by rfl, ?y6q3⟩) ?r6q3
  case y6q3 => intro W; go_simp; try with_reducible rfl
  go_simp
  refine wpAny_take (i := 7) (v := ?v7q3) rfl (by kernel_rfl) (by kernel_rfl) (by kernel_rfl) (fun _ _ _ h => h) (Or.inl ⟨by rfl, ?y7q3⟩) ?r7q3
  case y7q3 => intro W; go_simp; try with_reducible rfl
  go_simp
  refine wpAny_take (i := 8) (v := ?v8q3) rfl (by kernel_rfl) (by kernel_rfl) (by kernel_rfl) (fun _ _ _ h => h) (Or.inl ⟨by rfl, ?y8q3⟩) ?r8q3
  case y8q3 => intro W; go_simp; try with_reducible rfl
  go_simp
  refine wpAny_take (i := 9) (v := ?v9q3) rfl (by kernel_rfl) (by kernel_rfl) (by kernel_rfl) (fun _ _ _ h => h) (Or.inl ⟨by rfl, ?y9q3⟩) ?r9q3
  case y9q3 => intro W; go_simp; try with_reducible rfl
  go_simp
  refine wpAny_take (i := 10) (v := ?v10q3) rfl (by kernel_rfl) (by kernel_rfl) (by kernel_rfl) (fun _ _ _ h => h) (Or.inl ⟨by rfl, ?y10q3⟩) ?r10q3
  case y10q3 => intro W; go_simp; try with_reducible rfl
  go_simp
  refine wpAny_take (i := 11) (v := ?v11q3) rfl (by kernel_rfl) (by kernel_rfl) (by kernel_rfl) (fun _ _ _ h => h) (Or.inl ⟨by rfl, ?y11q3⟩) ?r11q3
  case y11q3 => intro W; go_simp; try with_reducible rfl
  go_simp
  refine wpAny_take (i := 12) (v := ?v12q3) rfl (by kernel_rfl) (by kernel_rfl) (by kernel_rfl) (fun _ _ _ h => h) (Or.inl ⟨by rfl, ?y12q3⟩) ?r12q3
  case y12q3 => intro W; go_simp; try with_reducible rfl
  go_simp
  refine wpAny_take (i := 13) (v := ?v13q3) rfl (by kernel_rfl) (by kernel_rfl) (by kernel_rfl) (fun _ _ _ h => h) (Or.inl ⟨by rfl, ?y13q3⟩) ?r13q3
  case y13q3 => intro W; go_simp; try with_reducible rfl
  go_simp
  refine wpAny_take (i := 14) (v := ?v14q3) rfl (by kernel_rfl) (by kernel_rfl) (by kernel_rfl) (fun _ _ _ h => h) (Or.inl ⟨by rfl, ?y14q3⟩) ?r14q3
  case y14q3 => intro W; go_simp; try with_reducible rfl
  go_simp
  refine wpAny_take (i := 15) (v := ?v15q3) rfl (by kernel_rfl) (by kernel_rfl) (by kernel_rfl) (fun _ _ _ h => h) (Or.inl ⟨by rfl, ?y15q3⟩) ?r15q3
  case y15q3 => intro W; go_simp; try with_reducible rfl
  go_simp
  refine wpAny_take (i := 16) (v := ?v16q3) rfl (by kernel_rfl) (by kernel_rfl) (by kernel_rfl) (fun _ _ _ h => h) (Or.inl ⟨by rfl, ?y16q3⟩) ?r16q3
  case y16q3 => intro W; go_simp; try with_reducible rfl
  go_simp
  refine wpAny_take (i := 17) (v := ?v17q3) rfl (by kernel_rfl) (by kernel_rfl) (by kernel_rfl) (fun _ _ _ h => h) (Or.inl ⟨by rfl, ?y17q3⟩) ?r17q3
  case y17q3 => intro W; go_simp; try with_reducible rfl
  go_simp
  refine wpAny_ready (rs := [18]) (by kernel_rfl) (by simp) ?_
  refine AllReady.cons rfl (fun K hK => ?_) AllReady.nil
  go_simp
  go_at_call 12; refine (AW.out _ (by repeat (first | (with_reducible exact Below.refl _ _) | ((with_reducible refine below_grow ?_ ?_); rotate_left; focus (first | omega | (simp [go_sem]; done) | (simp [go_sem]; omega))) | ((with_reducible refine Below.alloc ?_ ?_ _); rotate_left; focus (first | omega | (simp [go_sem]; done) | (simp [go_sem]; omega))) | ((with_reducible refine Below.setCell ?_ ?_ _); rotate_left; focus (first | omega | (simp [go_sem]; done) | (simp [go_sem]; omega))) | (with_reducible refine Below.drew ?_) | (with_reducible refine below_drewN _ ?_)))).mono ?_; rintro e w1 ⟨rfl, hbel⟩; obtain ⟨o4, j4, rfl⟩ := grow_of_below hbel; clear hbel
  refine hK _ _ ?_; clear hK K
  refine wpAny_ready (rs := [19]) (by kernel_rfl) (by simp) ?_
  refine AllReady.cons rfl (fun K hK => ?_) AllReady.nil
  go_simp
  refine hK _ _ ?_; clear hK K
  refine wpAny_ready (rs := [20]) (by kernel_rfl) (by simp) ?_
  refine AllReady.cons rfl (fun K hK => ?_) AllReady.nil
  go_simp
  refine hK _ _ ?_; clear hK K
  refine wpAny_done (by kernel_rfl) ?_ _
  go_wp2
  go_ret
  exact ⟨rfl, by repeat (first | (with_reducible exact Below.refl _ _) | ((with_reducible refine below_grow ?_ ?_); rotate_left; focus (first | omega | (simp [go_sem]; done) | (simp [go_sem]; omega))) | ((with_reducible refine Below.alloc ?_ ?_ _); rotate_left; focus (first | omega | (simp [go_sem]; done) | (simp [go_sem]; omega))) | ((with_reducible refine Below.setCell ?_ ?_ _); rotate_left; focus (first | omega | (simp [go_sem]; done) | (simp [go_sem]; omega))) | (with_reducible refine Below.drew ?_) | (with_reducible refine below_drewN _ ?_))⟩
end Go.Proofs.YtcfkcfbgnciccaaDoor
