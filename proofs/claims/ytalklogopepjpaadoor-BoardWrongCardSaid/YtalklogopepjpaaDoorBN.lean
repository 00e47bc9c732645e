/- deal.Read: four parts. -/
import Derived.Test.YtalklogopepjpaaDoorBM
namespace Go.Proofs.YtalklogopepjpaaDoor.Ca
open Go.RowKit
open Go.Proofs.DB (Pd Rd)

theorem parse_strv (l : List UInt8) (hl : l.length ≤ 140737488355328) (r : Option Nat) (h : prs l = r) (w : World) : Calls Tryd.prog 49 #[strv l] w fun e w' => e = .returned (parV r) ∧ Below w.heap.size w w' := by
  have := parse_any ⟨l.toArray⟩ (by show l.toArray.size ≤ _; simpa using hl) w
  rw [show (ByteArray.mk l.toArray).data.toList = l from by simp] at this
  rwa [h] at this
/-- The parts are no longer than the whole. -/
theorem splitK_short (sep : List UInt8) : ∀ (k : Nat) (s x : List UInt8), x ∈ Lib.splitK sep 0 k s → x.length ≤ s.length
  | 0, s, x, h => by
    obtain rfl := List.mem_singleton.1 h
    exact Nat.le_refl _
  | k + 1, s, x, h => by
    unfold Lib.splitK at h
    split at h
    · obtain rfl := List.mem_singleton.1 h
      exact Nat.le_refl _
    · rcases List.mem_cons.1 h with rfl | h
      · simp; omega
      · have := splitK_short sep k _ x h
        simp at this
        omega
theorem splitN_short {l x : List UInt8} {n : Nat} (h : x ∈ Lib.splitN l [32] n) : x.length ≤ l.length := splitK_short _ _ _ _ h
set_option maxRecDepth 100000 in
set_option maxHeartbeats 4000000 in
theorem dread_f0 (l : List UInt8) (hl : l.length ≤ 140737488355328) (hf : Lib.hasPrefix l [78, 58] = true) (a b c d : List UInt8) (hs : Lib.splitN (Lib.trimPrefix l [78, 58]) [32] 5 = [a, b, c, d])  (h0 : prs a = none) (w : World) (_ : EnvB w) :
    Calls Tryd.prog 36 #[strv l] w fun e w' => e = .returned (rdV none) ∧ Below w.heap.size w w' := by
  have C := Lib.hid (cutp_calls l)
  have ht := trim_length l [78, 58]
  have P0 := Lib.hid (parse_strv a (by have := splitN_short (l := Lib.trimPrefix l [78, 58]) (x := a) (n := 5) (by rw [hs]; simp); omega) none h0)
  simp only [parV] at P0
  have S := Lib.hid (fun W (_ : Below w.heap.size w W) => splitn_calls (Lib.trimPrefix l [78, 58]) (by omega) 5 (by decide) (by decide) W)
  simp only [hs] at S
  rw [hf] at C
  clear ht hs h0
  have z : rdV none = .tuple #[.agg #[.int .u64 0, .int .u64 0, .int .u64 0, .int .u64 0], .int .i64 61] := rfl
  rw [z]
  clear z hl hf
  obtain ⟨T, hT⟩ : ∃ T, Lib.trimPrefix l [78, 58] = T := ⟨_, rfl⟩
  rw [hT] at C S
  clear hT
  go_enter Tryd.func36, Tryd.ntmps36
  go_upto_region 6 with (first | (go_at_call 48; refine (C.out _).mono ?_; rintro e w9 ⟨rfl, rfl⟩) | (go_at_call 34; refine (S.out _ (by repeat (first | (with_reducible exact Below.refl _ _) | ((with_reducible refine below_grow ?_ ?_); rotate_left; focus (first | omega | (simp [go_sem]; done) | (simp [go_sem]; omega))) | ((with_reducible refine Below.alloc ?_ ?_ _); rotate_left; focus (first | omega | (simp [go_sem]; done) | (simp [go_sem]; omega))) | ((with_reducible refine Below.setCell ?_ ?_ _); rotate_left; focus (first | omega | (simp [go_sem]; done) | (simp [go_sem]; omega))) | (with_reducible refine Below.drew ?_) | (with_reducible refine below_drewN _ ?_)))).mono ?_; rintro e w9 ⟨⟨cp, rfl⟩, hc, hb, hsz⟩))
  clear S C
  have hwz : (w.alloc (.cells #[.int .u64 0, .int .u64 0, .int .u64 0, .int .u64 0] 39)).heap.size = w.heap.size + 1 := by simp
  have c0 : blk w9 w.heap.size #[.int .u64 0, .int .u64 0, .int .u64 0, .int .u64 0] 39 := blk_below (blk_new _ _ _) hb (by simp)
  have bb : Below w.heap.size w w9 := (show Below w.heap.size w _ by repeat (first | (with_reducible exact Below.refl _ _) | ((with_reducible refine below_grow ?_ ?_); rotate_left; focus (first | omega | (simp [go_sem]; done) | (simp [go_sem]; omega))) | ((with_reducible refine Below.alloc ?_ ?_ _); rotate_left; focus (first | omega | (simp [go_sem]; done) | (simp [go_sem]; omega))) | ((with_reducible refine Below.setCell ?_ ?_ _); rotate_left; focus (first | omega | (simp [go_sem]; done) | (simp [go_sem]; omega))) | (with_reducible refine Below.drew ?_) | (with_reducible refine below_drewN _ ?_))).trans (hb.mono (by simp))
  rw [hwz] at hc hsz
  have q0 : w9.cell? ⟨w.heap.size + 1, 0, none⟩ = some (strv a) := hc 0 a rfl
  have q1 : w9.cell? ⟨w.heap.size + 1, 1, none⟩ = some (strv b) := hc 1 b rfl
  have q2 : w9.cell? ⟨w.heap.size + 1, 2, none⟩ = some (strv c) := hc 2 c rfl
  have q3 : w9.cell? ⟨w.heap.size + 1, 3, none⟩ = some (strv d) := hc 3 d rfl
  clear hb hc hwz
  have f0 : ∀ j, w9.frozen? ⟨w.heap.size, j, none⟩ = false := fun j => blk_free c0 j
  have r0 := blk_cell c0 0; have r1 := blk_cell c0 1; have r2 := blk_cell c0 2; have r3 := blk_cell c0 3
  simp only [List.getElem?_toArray, List.getElem?_cons_zero, List.getElem?_cons_succ] at r0 r1 r2 r3
  haveI i0 : NeZero (inW w.heap.size w9) := inW_mk (blk_lt c0)
  haveI i1 : NeZero (inW (w.heap.size + 1) w9) := inW_mk (by omega)
  generalize hY : World.alloc w9 _ = Y
  have hq : w9.heap.size = w.heap.size + 1 + 1 := by omega
  have c1 : blk Y (w.heap.size + 1 + 1) #[.int .u64 0, .int .u64 0, .int .u64 0, .int .u64 0] 39 := by rw [← hY]; exact blk_at _ _ _ hq.symm
  have d0 : blk Y w.heap.size #[.int .u64 0, .int .u64 0, .int .u64 0, .int .u64 0] 39 := by rw [← hY]; exact blk_alloc c0 _
  have yb : Below w.heap.size w Y := by rw [← hY]; repeat (first | (with_reducible exact bb) | ((with_reducible refine below_grow ?_ ?_); rotate_left; focus (first | omega | (simp [go_sem]; done) | (simp [go_sem]; omega))) | ((with_reducible refine Below.alloc ?_ ?_ _); rotate_left; focus (first | omega | (simp [go_sem]; done) | (simp [go_sem]; omega))) | ((with_reducible refine Below.setCell ?_ ?_ _); rotate_left; focus (first | omega | (simp [go_sem]; done) | (simp [go_sem]; omega))) | (with_reducible refine Below.drew ?_) | (with_reducible refine below_drewN _ ?_))
  have y0 : Y.cell? ⟨w.heap.size + 1, 0, none⟩ = some (strv a) := by rw [← hY, World.cell?_alloc_old _ _ _ (by show w.heap.size + 1 ≠ w9.heap.size; omega)]; exact q0
  have y1 : Y.cell? ⟨w.heap.size + 1, 1, none⟩ = some (strv b) := by rw [← hY, World.cell?_alloc_old _ _ _ (by show w.heap.size + 1 ≠ w9.heap.size; omega)]; exact q1
  have y2 : Y.cell? ⟨w.heap.size + 1, 2, none⟩ = some (strv c) := by rw [← hY, World.cell?_alloc_old _ _ _ (by show w.heap.size + 1 ≠ w9.heap.size; omega)]; exact q2
  have y3 : Y.cell? ⟨w.heap.size + 1, 3, none⟩ = some (strv d) := by rw [← hY, World.cell?_alloc_old _ _ _ (by show w.heap.size + 1 ≠ w9.heap.size; omega)]; exact q3
  have yl : w.heap.size + 1 + 1 < Y.heap.size := blk_lt c1
  clear hY q0 q1 q2 q3 r0 r1 r2 r3 f0 i0 i1 c0 bb hsz
  clear hq
  have k0 : Y.cell? ⟨w.heap.size + 1 + 1, 0, none⟩ = some (.int .u64 0) := blk_cell c1 0
  have k1 : Y.cell? ⟨w.heap.size + 1 + 1, 1, none⟩ = some (.int .u64 0) := blk_cell c1 1
  have k2 : Y.cell? ⟨w.heap.size + 1 + 1, 2, none⟩ = some (.int .u64 0) := blk_cell c1 2
  have k3 : Y.cell? ⟨w.heap.size + 1 + 1, 3, none⟩ = some (.int .u64 0) := blk_cell c1 3
  have f1 : ∀ j, Y.frozen? ⟨w.heap.size + 1 + 1, j, none⟩ = false := fun j => blk_free c1 j
  have f0 : ∀ j, Y.frozen? ⟨w.heap.size, j, none⟩ = false := fun j => blk_free d0 j
  have r0 := blk_cell d0 0; have r1 := blk_cell d0 1; have r2 := blk_cell d0 2; have r3 := blk_cell d0 3
  simp only [List.getElem?_toArray, List.getElem?_cons_zero, List.getElem?_cons_succ] at r0 r1 r2 r3
  haveI i0 : NeZero (inW w.heap.size Y) := inW_mk (by omega)
  haveI i1 : NeZero (inW (w.heap.size + 1) Y) := inW_mk (by omega)
  haveI i2 : NeZero (inW (w.heap.size + 1 + 1) Y) := inW_mk (by omega)
  have n1 : ¬ w.heap.size + 1 + 1 = w.heap.size := by omega
  have n2 : ¬ w.heap.size = w.heap.size + 1 + 1 := by omega
  have n3 : ¬ w.heap.size + 1 = w.heap.size + 1 + 1 := by omega
  have n4 : ¬ w.heap.size + 1 + 1 = w.heap.size + 1 := by omega
  have w2 : IntKind.i64.wrap 1 = 1 := rfl
  have w3 : IntKind.i64.wrap 2 = 2 := rfl
  have w4 : IntKind.i64.wrap 3 = 3 := rfl
  have w5 : IntKind.i64.wrap 4 = 4 := rfl
  have hbs := yb.size
  clear c1 d0
  go_wp2
  refine wp_loop_rounds 5 ?_
  rw [rounds_succ]
  go_wp2_with (go_at_call 49; refine (P0.out _).mono ?_; rintro e w9 ⟨rfl, hbel⟩; obtain ⟨o2, j2, rfl⟩ := grow_of_below hbel; clear hbel)
  clear P0
  refine bodyPost_ret (by simp [results, Tryd.results36, go_sem, r0, r1, r2, r3, k0, k1, k2, k3]) rfl ⟨rfl, ?_⟩
  repeat (first | (with_reducible exact yb) | ((with_reducible refine below_grow ?_ ?_); rotate_left; focus (first | omega | (simp [go_sem]; done) | (simp [go_sem]; omega))) | ((with_reducible refine Below.alloc ?_ ?_ _); rotate_left; focus (first | omega | (simp [go_sem]; done) | (simp [go_sem]; omega))) | ((with_reducible refine Below.setCell ?_ ?_ _); rotate_left; focus (first | omega | (simp [go_sem]; done) | (simp [go_sem]; omega))) | (with_reducible refine Below.drew ?_) | (with_reducible refine below_drewN _ ?_))
set_option maxRecDepth 100000 in
set_option maxHeartbeats 4000000 in
theorem dread_f1 (l : List UInt8) (hl : l.length ≤ 140737488355328) (hf : Lib.hasPrefix l [78, 58] = true) (a b c d : List UInt8) (hs : Lib.splitN (Lib.trimPrefix l [78, 58]) [32] 5 = [a, b, c, d]) (x : Nat) (h0 : prs a = some x) (h1 : prs b = none) (w : World) (_ : EnvB w) :
    Calls Tryd.prog 36 #[strv l] w fun e w' => e = .returned (rdV none) ∧ Below w.heap.size w w' := by
  have C := Lib.hid (cutp_calls l)
  have ht := trim_length l [78, 58]
  have P0 := Lib.hid (parse_strv a (by have := splitN_short (l := Lib.trimPrefix l [78, 58]) (x := a) (n := 5) (by rw [hs]; simp); omega) (some x) h0)
  simp only [parV] at P0
  have P1 := Lib.hid (parse_strv b (by have := splitN_short (l := Lib.trimPrefix l [78, 58]) (x := b) (n := 5) (by rw [hs]; simp); omega) none h1)
  simp only [parV] at P1
  have S := Lib.hid (fun W (_ : Below w.heap.size w W) => splitn_calls (Lib.trimPrefix l [78, 58]) (by omega) 5 (by decide) (by decide) W)
  simp only [hs] at S
  rw [hf] at C
  clear ht hs h0 h1
  have z : rdV none = .tuple #[.agg #[.int .u64 0, .int .u64 0, .int .u64 0, .int .u64 0], .int .i64 61] := rfl
  rw [z]
  clear z hl hf
  obtain ⟨T, hT⟩ : ∃ T, Lib.trimPrefix l [78, 58] = T := ⟨_, rfl⟩
  rw [hT] at C S
  clear hT
  go_enter Tryd.func36, Tryd.ntmps36
  go_upto_region 6 with (first | (go_at_call 48; refine (C.out _).mono ?_; rintro e w9 ⟨rfl, rfl⟩) | (go_at_call 34; refine (S.out _ (by repeat (first | (with_reducible exact Below.refl _ _) | ((with_reducible refine below_grow ?_ ?_); rotate_left; focus (first | omega | (simp [go_sem]; done) | (simp [go_sem]; omega))) | ((with_reducible refine Below.alloc ?_ ?_ _); rotate_left; focus (first | omega | (simp [go_sem]; done) | (simp [go_sem]; omega))) | ((with_reducible refine Below.setCell ?_ ?_ _); rotate_left; focus (first | omega | (simp [go_sem]; done) | (simp [go_sem]; omega))) | (with_reducible refine Below.drew ?_) | (with_reducible refine below_drewN _ ?_)))).mono ?_; rintro e w9 ⟨⟨cp, rfl⟩, hc, hb, hsz⟩))
  clear S C
  have hwz : (w.alloc (.cells #[.int .u64 0, .int .u64 0, .int .u64 0, .int .u64 0] 39)).heap.size = w.heap.size + 1 := by simp
  have c0 : blk w9 w.heap.size #[.int .u64 0, .int .u64 0, .int .u64 0, .int .u64 0] 39 := blk_below (blk_new _ _ _) hb (by simp)
  have bb : Below w.heap.size w w9 := (show Below w.heap.size w _ by repeat (first | (with_reducible exact Below.refl _ _) | ((with_reducible refine below_grow ?_ ?_); rotate_left; focus (first | omega | (simp [go_sem]; done) | (simp [go_sem]; omega))) | ((with_reducible refine Below.alloc ?_ ?_ _); rotate_left; focus (first | omega | (simp [go_sem]; done) | (simp [go_sem]; omega))) | ((with_reducible refine Below.setCell ?_ ?_ _); rotate_left; focus (first | omega | (simp [go_sem]; done) | (simp [go_sem]; omega))) | (with_reducible refine Below.drew ?_) | (with_reducible refine below_drewN _ ?_))).trans (hb.mono (by simp))
  rw [hwz] at hc hsz
  have q0 : w9.cell? ⟨w.heap.size + 1, 0, none⟩ = some (strv a) := hc 0 a rfl
  have q1 : w9.cell? ⟨w.heap.size + 1, 1, none⟩ = some (strv b) := hc 1 b rfl
  have q2 : w9.cell? ⟨w.heap.size + 1, 2, none⟩ = some (strv c) := hc 2 c rfl
  have q3 : w9.cell? ⟨w.heap.size + 1, 3, none⟩ = some (strv d) := hc 3 d rfl
  clear hb hc hwz
  have f0 : ∀ j, w9.frozen? ⟨w.heap.size, j, none⟩ = false := fun j => blk_free c0 j
  have r0 := blk_cell c0 0; have r1 := blk_cell c0 1; have r2 := blk_cell c0 2; have r3 := blk_cell c0 3
  simp only [List.getElem?_toArray, List.getElem?_cons_zero, List.getElem?_cons_succ] at r0 r1 r2 r3
  haveI i0 : NeZero (inW w.heap.size w9) := inW_mk (blk_lt c0)
  haveI i1 : NeZero (inW (w.heap.size + 1) w9) := inW_mk (by omega)
  generalize hY : World.alloc w9 _ = Y
  have hq : w9.heap.size = w.heap.size + 1 + 1 := by omega
  have c1 : blk Y (w.heap.size + 1 + 1) #[.int .u64 0, .int .u64 0, .int .u64 0, .int .u64 0] 39 := by rw [← hY]; exact blk_at _ _ _ hq.symm
  have d0 : blk Y w.heap.size #[.int .u64 0, .int .u64 0, .int .u64 0, .int .u64 0] 39 := by rw [← hY]; exact blk_alloc c0 _
  have yb : Below w.heap.size w Y := by rw [← hY]; repeat (first | (with_reducible exact bb) | ((with_reducible refine below_grow ?_ ?_); rotate_left; focus (first | omega | (simp [go_sem]; done) | (simp [go_sem]; omega))) | ((with_reducible refine Below.alloc ?_ ?_ _); rotate_left; focus (first | omega | (simp [go_sem]; done) | (simp [go_sem]; omega))) | ((with_reducible refine Below.setCell ?_ ?_ _); rotate_left; focus (first | omega | (simp [go_sem]; done) | (simp [go_sem]; omega))) | (with_reducible refine Below.drew ?_) | (with_reducible refine below_drewN _ ?_))
  have y0 : Y.cell? ⟨w.heap.size + 1, 0, none⟩ = some (strv a) := by rw [← hY, World.cell?_alloc_old _ _ _ (by show w.heap.size + 1 ≠ w9.heap.size; omega)]; exact q0
  have y1 : Y.cell? ⟨w.heap.size + 1, 1, none⟩ = some (strv b) := by rw [← hY, World.cell?_alloc_old _ _ _ (by show w.heap.size + 1 ≠ w9.heap.size; omega)]; exact q1
  have y2 : Y.cell? ⟨w.heap.size + 1, 2, none⟩ = some (strv c) := by rw [← hY, World.cell?_alloc_old _ _ _ (by show w.heap.size + 1 ≠ w9.heap.size; omega)]; exact q2
  have y3 : Y.cell? ⟨w.heap.size + 1, 3, none⟩ = some (strv d) := by rw [← hY, World.cell?_alloc_old _ _ _ (by show w.heap.size + 1 ≠ w9.heap.size; omega)]; exact q3
  have yl : w.heap.size + 1 + 1 < Y.heap.size := blk_lt c1
  clear hY q0 q1 q2 q3 r0 r1 r2 r3 f0 i0 i1 c0 bb hsz
  clear hq
  have k0 : Y.cell? ⟨w.heap.size + 1 + 1, 0, none⟩ = some (.int .u64 0) := blk_cell c1 0
  have k1 : Y.cell? ⟨w.heap.size + 1 + 1, 1, none⟩ = some (.int .u64 0) := blk_cell c1 1
  have k2 : Y.cell? ⟨w.heap.size + 1 + 1, 2, none⟩ = some (.int .u64 0) := blk_cell c1 2
  have k3 : Y.cell? ⟨w.heap.size + 1 + 1, 3, none⟩ = some (.int .u64 0) := blk_cell c1 3
  have f1 : ∀ j, Y.frozen? ⟨w.heap.size + 1 + 1, j, none⟩ = false := fun j => blk_free c1 j
  have f0 : ∀ j, Y.frozen? ⟨w.heap.size, j, none⟩ = false := fun j => blk_free d0 j
  have r0 := blk_cell d0 0; have r1 := blk_cell d0 1; have r2 := blk_cell d0 2; have r3 := blk_cell d0 3
  simp only [List.getElem?_toArray, List.getElem?_cons_zero, List.getElem?_cons_succ] at r0 r1 r2 r3
  haveI i0 : NeZero (inW w.heap.size Y) := inW_mk (by omega)
  haveI i1 : NeZero (inW (w.heap.size + 1) Y) := inW_mk (by omega)
  haveI i2 : NeZero (inW (w.heap.size + 1 + 1) Y) := inW_mk (by omega)
  have n1 : ¬ w.heap.size + 1 + 1 = w.heap.size := by omega
  have n2 : ¬ w.heap.size = w.heap.size + 1 + 1 := by omega
  have n3 : ¬ w.heap.size + 1 = w.heap.size + 1 + 1 := by omega
  have n4 : ¬ w.heap.size + 1 + 1 = w.heap.size + 1 := by omega
  have w2 : IntKind.i64.wrap 1 = 1 := rfl
  have w3 : IntKind.i64.wrap 2 = 2 := rfl
  have w4 : IntKind.i64.wrap 3 = 3 := rfl
  have w5 : IntKind.i64.wrap 4 = 4 := rfl
  have hbs := yb.size
  clear c1 d0
  go_wp2
  refine wp_loop_rounds 5 ?_
  rw [rounds_succ]
  go_wp2_with (go_at_call 49; refine (P0.out _).mono ?_; rintro e w9 ⟨rfl, hbel⟩; obtain ⟨o2, j2, rfl⟩ := grow_of_below hbel; clear hbel)
  clear P0
  rw [rounds_succ]
  go_wp2_with (go_at_call 49; refine (P1.out _).mono ?_; rintro e w9 ⟨rfl, hbel⟩; obtain ⟨o3, j3, rfl⟩ := grow_of_below hbel; clear hbel)
  clear P1
  refine bodyPost_ret (by simp [results, Tryd.results36, go_sem, r0, r1, r2, r3, k0, k1, k2, k3]) rfl ⟨rfl, ?_⟩
  repeat (first | (with_reducible exact yb) | ((with_reducible refine below_grow ?_ ?_); rotate_left; focus (first | omega | (simp [go_sem]; done) | (simp [go_sem]; omega))) | ((with_reducible refine Below.alloc ?_ ?_ _); rotate_left; focus (first | omega | (simp [go_sem]; done) | (simp [go_sem]; omega))) | ((with_reducible refine Below.setCell ?_ ?_ _); rotate_left; focus (first | omega | (simp [go_sem]; done) | (simp [go_sem]; omega))) | (with_reducible refine Below.drew ?_) | (with_reducible refine below_drewN _ ?_))
set_option maxRecDepth 100000 in
set_option maxHeartbeats 4000000 in
theorem dread_f2 (l : List UInt8) (hl : l.length ≤ 140737488355328) (hf : Lib.hasPrefix l [78, 58] = true) (a b c d : List UInt8) (hs : Lib.splitN (Lib.trimPrefix l [78, 58]) [32] 5 = [a, b, c, d]) (x : Nat) (h0 : prs a = some x) (y : Nat) (h1 : prs b = some y) (h2 : prs c = none) (w : World) (_ : EnvB w) :
    Calls Tryd.prog 36 #[strv l] w fun e w' => e = .returned (rdV none) ∧ Below w.heap.size w w' := by
  have C := Lib.hid (cutp_calls l)
  have ht := trim_length l [78, 58]
  have P0 := Lib.hid (parse_strv a (by have := splitN_short (l := Lib.trimPrefix l [78, 58]) (x := a) (n := 5) (by rw [hs]; simp); omega) (some x) h0)
  simp only [parV] at P0
  have P1 := Lib.hid (parse_strv b (by have := splitN_short (l := Lib.trimPrefix l [78, 58]) (x := b) (n := 5) (by rw [hs]; simp); omega) (some y) h1)
  simp only [parV] at P1
  have P2 := Lib.hid (parse_strv c (by have := splitN_short (l := Lib.trimPrefix l [78, 58]) (x := c) (n := 5) (by rw [hs]; simp); omega) none h2)
  simp only [parV] at P2
  have S := Lib.hid (fun W (_ : Below w.heap.size w W) => splitn_calls (Lib.trimPrefix l [78, 58]) (by omega) 5 (by decide) (by decide) W)
  simp only [hs] at S
  rw [hf] at C
  clear ht hs h0 h1 h2
  have z : rdV none = .tuple #[.agg #[.int .u64 0, .int .u64 0, .int .u64 0, .int .u64 0], .int .i64 61] := rfl
  rw [z]
  clear z hl hf
  obtain ⟨T, hT⟩ : ∃ T, Lib.trimPrefix l [78, 58] = T := ⟨_, rfl⟩
  rw [hT] at C S
  clear hT
  go_enter Tryd.func36, Tryd.ntmps36
  go_upto_region 6 with (first | (go_at_call 48; refine (C.out _).mono ?_; rintro e w9 ⟨rfl, rfl⟩) | (go_at_call 34; refine (S.out _ (by repeat (first | (with_reducible exact Below.refl _ _) | ((with_reducible refine below_grow ?_ ?_); rotate_left; focus (first | omega | (simp [go_sem]; done) | (simp [go_sem]; omega))) | ((with_reducible refine Below.alloc ?_ ?_ _); rotate_left; focus (first | omega | (simp [go_sem]; done) | (simp [go_sem]; omega))) | ((with_reducible refine Below.setCell ?_ ?_ _); rotate_left; focus (first | omega | (simp [go_sem]; done) | (simp [go_sem]; omega))) | (with_reducible refine Below.drew ?_) | (with_reducible refine below_drewN _ ?_)))).mono ?_; rintro e w9 ⟨⟨cp, rfl⟩, hc, hb, hsz⟩))
  clear S C
  have hwz : (w.alloc (.cells #[.int .u64 0, .int .u64 0, .int .u64 0, .int .u64 0] 39)).heap.size = w.heap.size + 1 := by simp
  have c0 : blk w9 w.heap.size #[.int .u64 0, .int .u64 0, .int .u64 0, .int .u64 0] 39 := blk_below (blk_new _ _ _) hb (by simp)
  have bb : Below w.heap.size w w9 := (show Below w.heap.size w _ by repeat (first | (with_reducible exact Below.refl _ _) | ((with_reducible refine below_grow ?_ ?_); rotate_left; focus (first | omega | (simp [go_sem]; done) | (simp [go_sem]; omega))) | ((with_reducible refine Below.alloc ?_ ?_ _); rotate_left; focus (first | omega | (simp [go_sem]; done) | (simp [go_sem]; omega))) | ((with_reducible refine Below.setCell ?_ ?_ _); rotate_left; focus (first | omega | (simp [go_sem]; done) | (simp [go_sem]; omega))) | (with_reducible refine Below.drew ?_) | (with_reducible refine below_drewN _ ?_))).trans (hb.mono (by simp))
  rw [hwz] at hc hsz
  have q0 : w9.cell? ⟨w.heap.size + 1, 0, none⟩ = some (strv a) := hc 0 a rfl
  have q1 : w9.cell? ⟨w.heap.size + 1, 1, none⟩ = some (strv b) := hc 1 b rfl
  have q2 : w9.cell? ⟨w.heap.size + 1, 2, none⟩ = some (strv c) := hc 2 c rfl
  have q3 : w9.cell? ⟨w.heap.size + 1, 3, none⟩ = some (strv d) := hc 3 d rfl
  clear hb hc hwz
  have f0 : ∀ j, w9.frozen? ⟨w.heap.size, j, none⟩ = false := fun j => blk_free c0 j
  have r0 := blk_cell c0 0; have r1 := blk_cell c0 1; have r2 := blk_cell c0 2; have r3 := blk_cell c0 3
  simp only [List.getElem?_toArray, List.getElem?_cons_zero, List.getElem?_cons_succ] at r0 r1 r2 r3
  haveI i0 : NeZero (inW w.heap.size w9) := inW_mk (blk_lt c0)
  haveI i1 : NeZero (inW (w.heap.size + 1) w9) := inW_mk (by omega)
  generalize hY : World.alloc w9 _ = Y
  have hq : w9.heap.size = w.heap.size + 1 + 1 := by omega
  have c1 : blk Y (w.heap.size + 1 + 1) #[.int .u64 0, .int .u64 0, .int .u64 0, .int .u64 0] 39 := by rw [← hY]; exact blk_at _ _ _ hq.symm
  have d0 : blk Y w.heap.size #[.int .u64 0, .int .u64 0, .int .u64 0, .int .u64 0] 39 := by rw [← hY]; exact blk_alloc c0 _
  have yb : Below w.heap.size w Y := by rw [← hY]; repeat (first | (with_reducible exact bb) | ((with_reducible refine below_grow ?_ ?_); rotate_left; focus (first | omega | (simp [go_sem]; done) | (simp [go_sem]; omega))) | ((with_reducible refine Below.alloc ?_ ?_ _); rotate_left; focus (first | omega | (simp [go_sem]; done) | (simp [go_sem]; omega))) | ((with_reducible refine Below.setCell ?_ ?_ _); rotate_left; focus (first | omega | (simp [go_sem]; done) | (simp [go_sem]; omega))) | (with_reducible refine Below.drew ?_) | (with_reducible refine below_drewN _ ?_))
  have y0 : Y.cell? ⟨w.heap.size + 1, 0, none⟩ = some (strv a) := by rw [← hY, World.cell?_alloc_old _ _ _ (by show w.heap.size + 1 ≠ w9.heap.size; omega)]; exact q0
  have y1 : Y.cell? ⟨w.heap.size + 1, 1, none⟩ = some (strv b) := by rw [← hY, World.cell?_alloc_old _ _ _ (by show w.heap.size + 1 ≠ w9.heap.size; omega)]; exact q1
  have y2 : Y.cell? ⟨w.heap.size + 1, 2, none⟩ = some (strv c) := by rw [← hY, World.cell?_alloc_old _ _ _ (by show w.heap.size + 1 ≠ w9.heap.size; omega)]; exact q2
  have y3 : Y.cell? ⟨w.heap.size + 1, 3, none⟩ = some (strv d) := by rw [← hY, World.cell?_alloc_old _ _ _ (by show w.heap.size + 1 ≠ w9.heap.size; omega)]; exact q3
  have yl : w.heap.size + 1 + 1 < Y.heap.size := blk_lt c1
  clear hY q0 q1 q2 q3 r0 r1 r2 r3 f0 i0 i1 c0 bb hsz
  clear hq
  have k0 : Y.cell? ⟨w.heap.size + 1 + 1, 0, none⟩ = some (.int .u64 0) := blk_cell c1 0
  have k1 : Y.cell? ⟨w.heap.size + 1 + 1, 1, none⟩ = some (.int .u64 0) := blk_cell c1 1
  have k2 : Y.cell? ⟨w.heap.size + 1 + 1, 2, none⟩ = some (.int .u64 0) := blk_cell c1 2
  have k3 : Y.cell? ⟨w.heap.size + 1 + 1, 3, none⟩ = some (.int .u64 0) := blk_cell c1 3
  have f1 : ∀ j, Y.frozen? ⟨w.heap.size + 1 + 1, j, none⟩ = false := fun j => blk_free c1 j
  have f0 : ∀ j, Y.frozen? ⟨w.heap.size, j, none⟩ = false := fun j => blk_free d0 j
  have r0 := blk_cell d0 0; have r1 := blk_cell d0 1; have r2 := blk_cell d0 2; have r3 := blk_cell d0 3
  simp only [List.getElem?_toArray, List.getElem?_cons_zero, List.getElem?_cons_succ] at r0 r1 r2 r3
  haveI i0 : NeZero (inW w.heap.size Y) := inW_mk (by omega)
  haveI i1 : NeZero (inW (w.heap.size + 1) Y) := inW_mk (by omega)
  haveI i2 : NeZero (inW (w.heap.size + 1 + 1) Y) := inW_mk (by omega)
  have n1 : ¬ w.heap.size + 1 + 1 = w.heap.size := by omega
  have n2 : ¬ w.heap.size = w.heap.size + 1 + 1 := by omega
  have n3 : ¬ w.heap.size + 1 = w.heap.size + 1 + 1 := by omega
  have n4 : ¬ w.heap.size + 1 + 1 = w.heap.size + 1 := by omega
  have w2 : IntKind.i64.wrap 1 = 1 := rfl
  have w3 : IntKind.i64.wrap 2 = 2 := rfl
  have w4 : IntKind.i64.wrap 3 = 3 := rfl
  have w5 : IntKind.i64.wrap 4 = 4 := rfl
  have hbs := yb.size
  clear c1 d0
  go_wp2
  refine wp_loop_rounds 5 ?_
  rw [rounds_succ]
  go_wp2_with (go_at_call 49; refine (P0.out _).mono ?_; rintro e w9 ⟨rfl, hbel⟩; obtain ⟨o2, j2, rfl⟩ := grow_of_below hbel; clear hbel)
  clear P0
  rw [rounds_succ]
  go_wp2_with (go_at_call 49; refine (P1.out _).mono ?_; rintro e w9 ⟨rfl, hbel⟩; obtain ⟨o3, j3, rfl⟩ := grow_of_below hbel; clear hbel)
  clear P1
  rw [rounds_succ]
  go_wp2_with (go_at_call 49; refine (P2.out _).mono ?_; rintro e w9 ⟨rfl, hbel⟩; obtain ⟨o4, j4, rfl⟩ := grow_of_below hbel; clear hbel)
  clear P2
  refine bodyPost_ret (by simp [results, Tryd.results36, go_sem, r0, r1, r2, r3, k0, k1, k2, k3]) rfl ⟨rfl, ?_⟩
  repeat (first | (with_reducible exact yb) | ((with_reducible refine below_grow ?_ ?_); rotate_left; focus (first | omega | (simp [go_sem]; done) | (simp [go_sem]; omega))) | ((with_reducible refine Below.alloc ?_ ?_ _); rotate_left; focus (first | omega | (simp [go_sem]; done) | (simp [go_sem]; omega))) | ((with_reducible refine Below.setCell ?_ ?_ _); rotate_left; focus (first | omega | (simp [go_sem]; done) | (simp [go_sem]; omega))) | (with_reducible refine Below.drew ?_) | (with_reducible refine below_drewN _ ?_))
set_option maxRecDepth 100000 in
set_option maxHeartbeats 4000000 in
theorem dread_f3 (l : List UInt8) (hl : l.length ≤ 140737488355328) (hf : Lib.hasPrefix l [78, 58] = true) (a b c d : List UInt8) (hs : Lib.splitN (Lib.trimPrefix l [78, 58]) [32] 5 = [a, b, c, d]) (x : Nat) (h0 : prs a = some x) (y : Nat) (h1 : prs b = some y) (z : Nat) (h2 : prs c = some z) (h3 : prs d = none) (w : World) (_ : EnvB w) :
    Calls Tryd.prog 36 #[strv l] w fun e w' => e = .returned (rdV none) ∧ Below w.heap.size w w' := by
  have C := Lib.hid (cutp_calls l)
  have ht := trim_length l [78, 58]
  have P0 := Lib.hid (parse_strv a (by have := splitN_short (l := Lib.trimPrefix l [78, 58]) (x := a) (n := 5) (by rw [hs]; simp); omega) (some x) h0)
  simp only [parV] at P0
  have P1 := Lib.hid (parse_strv b (by have := splitN_short (l := Lib.trimPrefix l [78, 58]) (x := b) (n := 5) (by rw [hs]; simp); omega) (some y) h1)
  simp only [parV] at P1
  have P2 := Lib.hid (parse_strv c (by have := splitN_short (l := Lib.trimPrefix l [78, 58]) (x := c) (n := 5) (by rw [hs]; simp); omega) (some z) h2)
  simp only [parV] at P2
  have P3 := Lib.hid (parse_strv d (by have := splitN_short (l := Lib.trimPrefix l [78, 58]) (x := d) (n := 5) (by rw [hs]; simp); omega) none h3)
  simp only [parV] at P3
  have S := Lib.hid (fun W (_ : Below w.heap.size w W) => splitn_calls (Lib.trimPrefix l [78, 58]) (by omega) 5 (by decide) (by decide) W)
  simp only [hs] at S
  rw [hf] at C
  clear ht hs h0 h1 h2 h3
  have z : rdV none = .tuple #[.agg #[.int .u64 0, .int .u64 0, .int .u64 0, .int .u64 0], .int .i64 61] := rfl
  rw [z]
  clear z hl hf
  obtain ⟨T, hT⟩ : ∃ T, Lib.trimPrefix l [78, 58] = T := ⟨_, rfl⟩
  rw [hT] at C S
  clear hT
  go_enter Tryd.func36, Tryd.ntmps36
  go_upto_region 6 with (first | (go_at_call 48; refine (C.out _).mono ?_; rintro e w9 ⟨rfl, rfl⟩) | (go_at_call 34; refine (S.out _ (by repeat (first | (with_reducible exact Below.refl _ _) | ((with_reducible refine below_grow ?_ ?_); rotate_left; focus (first | omega | (simp [go_sem]; done) | (simp [go_sem]; omega))) | ((with_reducible refine Below.alloc ?_ ?_ _); rotate_left; focus (first | omega | (simp [go_sem]; done) | (simp [go_sem]; omega))) | ((with_reducible refine Below.setCell ?_ ?_ _); rotate_left; focus (first | omega | (simp [go_sem]; done) | (simp [go_sem]; omega))) | (with_reducible refine Below.drew ?_) | (with_reducible refine below_drewN _ ?_)))).mono ?_; rintro e w9 ⟨⟨cp, rfl⟩, hc, hb, hsz⟩))
  clear S C
  have hwz : (w.alloc (.cells #[.int .u64 0, .int .u64 0, .int .u64 0, .int .u64 0] 39)).heap.size = w.heap.size + 1 := by simp
  have c0 : blk w9 w.heap.size #[.int .u64 0, .int .u64 0, .int .u64 0, .int .u64 0] 39 := blk_below (blk_new _ _ _) hb (by simp)
  have bb : Below w.heap.size w w9 := (show Below w.heap.size w _ by repeat (first | (with_reducible exact Below.refl _ _) | ((with_reducible refine below_grow ?_ ?_); rotate_left; focus (first | omega | (simp [go_sem]; done) | (simp [go_sem]; omega))) | ((with_reducible refine Below.alloc ?_ ?_ _); rotate_left; focus (first | omega | (simp [go_sem]; done) | (simp [go_sem]; omega))) | ((with_reducible refine Below.setCell ?_ ?_ _); rotate_left; focus (first | omega | (simp [go_sem]; done) | (simp [go_sem]; omega))) | (with_reducible refine Below.drew ?_) | (with_reducible refine below_drewN _ ?_))).trans (hb.mono (by simp))
  rw [hwz] at hc hsz
  have q0 : w9.cell? ⟨w.heap.size + 1, 0, none⟩ = some (strv a) := hc 0 a rfl
  have q1 : w9.cell? ⟨w.heap.size + 1, 1, none⟩ = some (strv b) := hc 1 b rfl
  have q2 : w9.cell? ⟨w.heap.size + 1, 2, none⟩ = some (strv c) := hc 2 c rfl
  have q3 : w9.cell? ⟨w.heap.size + 1, 3, none⟩ = some (strv d) := hc 3 d rfl
  clear hb hc hwz
  have f0 : ∀ j, w9.frozen? ⟨w.heap.size, j, none⟩ = false := fun j => blk_free c0 j
  have r0 := blk_cell c0 0; have r1 := blk_cell c0 1; have r2 := blk_cell c0 2; have r3 := blk_cell c0 3
  simp only [List.getElem?_toArray, List.getElem?_cons_zero, List.getElem?_cons_succ] at r0 r1 r2 r3
  haveI i0 : NeZero (inW w.heap.size w9) := inW_mk (blk_lt c0)
  haveI i1 : NeZero (inW (w.heap.size + 1) w9) := inW_mk (by omega)
  generalize hY : World.alloc w9 _ = Y
  have hq : w9.heap.size = w.heap.size + 1 + 1 := by omega
  have c1 : blk Y (w.heap.size + 1 + 1) #[.int .u64 0, .int .u64 0, .int .u64 0, .int .u64 0] 39 := by rw [← hY]; exact blk_at _ _ _ hq.symm
  have d0 : blk Y w.heap.size #[.int .u64 0, .int .u64 0, .int .u64 0, .int .u64 0] 39 := by rw [← hY]; exact blk_alloc c0 _
  have yb : Below w.heap.size w Y := by rw [← hY]; repeat (first | (with_reducible exact bb) | ((with_reducible refine below_grow ?_ ?_); rotate_left; focus (first | omega | (simp [go_sem]; done) | (simp [go_sem]; omega))) | ((with_reducible refine Below.alloc ?_ ?_ _); rotate_left; focus (first | omega | (simp [go_sem]; done) | (simp [go_sem]; omega))) | ((with_reducible refine Below.setCell ?_ ?_ _); rotate_left; focus (first | omega | (simp [go_sem]; done) | (simp [go_sem]; omega))) | (with_reducible refine Below.drew ?_) | (with_reducible refine below_drewN _ ?_))
  have y0 : Y.cell? ⟨w.heap.size + 1, 0, none⟩ = some (strv a) := by rw [← hY, World.cell?_alloc_old _ _ _ (by show w.heap.size + 1 ≠ w9.heap.size; omega)]; exact q0
  have y1 : Y.cell? ⟨w.heap.size + 1, 1, none⟩ = some (strv b) := by rw [← hY, World.cell?_alloc_old _ _ _ (by show w.heap.size + 1 ≠ w9.heap.size; omega)]; exact q1
  have y2 : Y.cell? ⟨w.heap.size + 1, 2, none⟩ = some (strv c) := by rw [← hY, World.cell?_alloc_old _ _ _ (by show w.heap.size + 1 ≠ w9.heap.size; omega)]; exact q2
  have y3 : Y.cell? ⟨w.heap.size + 1, 3, none⟩ = some (strv d) := by rw [← hY, World.cell?_alloc_old _ _ _ (by show w.heap.size + 1 ≠ w9.heap.size; omega)]; exact q3
  have yl : w.heap.size + 1 + 1 < Y.heap.size := blk_lt c1
  clear hY q0 q1 q2 q3 r0 r1 r2 r3 f0 i0 i1 c0 bb hsz
  clear hq
  have k0 : Y.cell? ⟨w.heap.size + 1 + 1, 0, none⟩ = some (.int .u64 0) := blk_cell c1 0
  have k1 : Y.cell? ⟨w.heap.size + 1 + 1, 1, none⟩ = some (.int .u64 0) := blk_cell c1 1
  have k2 : Y.cell? ⟨w.heap.size + 1 + 1, 2, none⟩ = some (.int .u64 0) := blk_cell c1 2
  have k3 : Y.cell? ⟨w.heap.size + 1 + 1, 3, none⟩ = some (.int .u64 0) := blk_cell c1 3
  have f1 : ∀ j, Y.frozen? ⟨w.heap.size + 1 + 1, j, none⟩ = false := fun j => blk_free c1 j
  have f0 : ∀ j, Y.frozen? ⟨w.heap.size, j, none⟩ = false := fun j => blk_free d0 j
  have r0 := blk_cell d0 0; have r1 := blk_cell d0 1; have r2 := blk_cell d0 2; have r3 := blk_cell d0 3
  simp only [List.getElem?_toArray, List.getElem?_cons_zero, List.getElem?_cons_succ] at r0 r1 r2 r3
  haveI i0 : NeZero (inW w.heap.size Y) := inW_mk (by omega)
  haveI i1 : NeZero (inW (w.heap.size + 1) Y) := inW_mk (by omega)
  haveI i2 : NeZero (inW (w.heap.size + 1 + 1) Y) := inW_mk (by omega)
  have n1 : ¬ w.heap.size + 1 + 1 = w.heap.size := by omega
  have n2 : ¬ w.heap.size = w.heap.size + 1 + 1 := by omega
  have n3 : ¬ w.heap.size + 1 = w.heap.size + 1 + 1 := by omega
  have n4 : ¬ w.heap.size + 1 + 1 = w.heap.size + 1 := by omega
  have w2 : IntKind.i64.wrap 1 = 1 := rfl
  have w3 : IntKind.i64.wrap 2 = 2 := rfl
  have w4 : IntKind.i64.wrap 3 = 3 := rfl
  have w5 : IntKind.i64.wrap 4 = 4 := rfl
  have hbs := yb.size
  clear c1 d0
  go_wp2
  refine wp_loop_rounds 5 ?_
  rw [rounds_succ]
  go_wp2_with (go_at_call 49; refine (P0.out _).mono ?_; rintro e w9 ⟨rfl, hbel⟩; obtain ⟨o2, j2, rfl⟩ := grow_of_below hbel; clear hbel)
  clear P0
  rw [rounds_succ]
  go_wp2_with (go_at_call 49; refine (P1.out _).mono ?_; rintro e w9 ⟨rfl, hbel⟩; obtain ⟨o3, j3, rfl⟩ := grow_of_below hbel; clear hbel)
  clear P1
  rw [rounds_succ]
  go_wp2_with (go_at_call 49; refine (P2.out _).mono ?_; rintro e w9 ⟨rfl, hbel⟩; obtain ⟨o4, j4, rfl⟩ := grow_of_below hbel; clear hbel)
  clear P2
  rw [rounds_succ]
  go_wp2_with (go_at_call 49; refine (P3.out _).mono ?_; rintro e w9 ⟨rfl, hbel⟩; obtain ⟨o5, j5, rfl⟩ := grow_of_below hbel; clear hbel)
  clear P3
  refine bodyPost_ret (by simp [results, Tryd.results36, go_sem, r0, r1, r2, r3, k0, k1, k2, k3]) rfl ⟨rfl, ?_⟩
  repeat (first | (with_reducible exact yb) | ((with_reducible refine below_grow ?_ ?_); rotate_left; focus (first | omega | (simp [go_sem]; done) | (simp [go_sem]; omega))) | ((with_reducible refine Below.alloc ?_ ?_ _); rotate_left; focus (first | omega | (simp [go_sem]; done) | (simp [go_sem]; omega))) | ((with_reducible refine Below.setCell ?_ ?_ _); rotate_left; focus (first | omega | (simp [go_sem]; done) | (simp [go_sem]; omega))) | (with_reducible refine Below.drew ?_) | (with_reducible refine below_drewN _ ?_))
set_option maxRecDepth 100000 in
set_option maxHeartbeats 4000000 in
theorem dread_np (l : List UInt8) (hl : l.length ≤ 140737488355328) (hf : Lib.hasPrefix l [78, 58] = true) (a b c d : List UInt8) (hs : Lib.splitN (Lib.trimPrefix l [78, 58]) [32] 5 = [a, b, c, d]) (x : Nat) (h0 : prs a = some x) (y : Nat) (h1 : prs b = some y) (z : Nat) (h2 : prs c = some z) (t : Nat) (h3 : prs d = some t) (hp : ¬ Pd (quad x y z t)) (w : World) (_ : EnvB w) :
    Calls Tryd.prog 36 #[strv l] w fun e w' => e = .returned (rdV none) ∧ Below w.heap.size w w' := by
  have C := Lib.hid (cutp_calls l)
  have ht := trim_length l [78, 58]
  have P0 := Lib.hid (parse_strv a (by have := splitN_short (l := Lib.trimPrefix l [78, 58]) (x := a) (n := 5) (by rw [hs]; simp); omega) (some x) h0)
  simp only [parV] at P0
  have P1 := Lib.hid (parse_strv b (by have := splitN_short (l := Lib.trimPrefix l [78, 58]) (x := b) (n := 5) (by rw [hs]; simp); omega) (some y) h1)
  simp only [parV] at P1
  have P2 := Lib.hid (parse_strv c (by have := splitN_short (l := Lib.trimPrefix l [78, 58]) (x := c) (n := 5) (by rw [hs]; simp); omega) (some z) h2)
  simp only [parV] at P2
  have P3 := Lib.hid (parse_strv d (by have := splitN_short (l := Lib.trimPrefix l [78, 58]) (x := d) (n := 5) (by rw [hs]; simp); omega) (some t) h3)
  simp only [parV] at P3
  have q64 : ∀ i, i < 4 → quad x y z t i < 18446744073709551616 := by
    have g0 := (wrt_prs h0).1; have g1 := (wrt_prs h1).1; have g2 := (wrt_prs h2).1; have g3 := (wrt_prs h3).1
    intro i hi
    obtain rfl | rfl | rfl | rfl : i = 0 ∨ i = 1 ∨ i = 2 ∨ i = 3 := by omega
    all_goals (simp only [quad]; omega)
  have PP := Lib.hid (partial_no _ q64 hp)
  simp only [quad] at PP
  have S := Lib.hid (fun W (_ : Below w.heap.size w W) => splitn_calls (Lib.trimPrefix l [78, 58]) (by omega) 5 (by decide) (by decide) W)
  simp only [hs] at S
  rw [hf] at C
  clear ht hs h0 h1 h2 h3 hp q64
  have z : rdV none = .tuple #[.agg #[.int .u64 0, .int .u64 0, .int .u64 0, .int .u64 0], .int .i64 61] := rfl
  rw [z]
  clear z hl hf
  obtain ⟨T, hT⟩ : ∃ T, Lib.trimPrefix l [78, 58] = T := ⟨_, rfl⟩
  rw [hT] at C S
  clear hT
  go_enter Tryd.func36, Tryd.ntmps36
  go_upto_region 6 with (first | (go_at_call 48; refine (C.out _).mono ?_; rintro e w9 ⟨rfl, rfl⟩) | (go_at_call 34; refine (S.out _ (by repeat (first | (with_reducible exact Below.refl _ _) | ((with_reducible refine below_grow ?_ ?_); rotate_left; focus (first | omega | (simp [go_sem]; done) | (simp [go_sem]; omega))) | ((with_reducible refine Below.alloc ?_ ?_ _); rotate_left; focus (first | omega | (simp [go_sem]; done) | (simp [go_sem]; omega))) | ((with_reducible refine Below.setCell ?_ ?_ _); rotate_left; focus (first | omega | (simp [go_sem]; done) | (simp [go_sem]; omega))) | (with_reducible refine Below.drew ?_) | (with_reducible refine below_drewN _ ?_)))).mono ?_; rintro e w9 ⟨⟨cp, rfl⟩, hc, hb, hsz⟩))
  clear S C
  have hwz : (w.alloc (.cells #[.int .u64 0, .int .u64 0, .int .u64 0, .int .u64 0] 39)).heap.size = w.heap.size + 1 := by simp
  have c0 : blk w9 w.heap.size #[.int .u64 0, .int .u64 0, .int .u64 0, .int .u64 0] 39 := blk_below (blk_new _ _ _) hb (by simp)
  have bb : Below w.heap.size w w9 := (show Below w.heap.size w _ by repeat (first | (with_reducible exact Below.refl _ _) | ((with_reducible refine below_grow ?_ ?_); rotate_left; focus (first | omega | (simp [go_sem]; done) | (simp [go_sem]; omega))) | ((with_reducible refine Below.alloc ?_ ?_ _); rotate_left; focus (first | omega | (simp [go_sem]; done) | (simp [go_sem]; omega))) | ((with_reducible refine Below.setCell ?_ ?_ _); rotate_left; focus (first | omega | (simp [go_sem]; done) | (simp [go_sem]; omega))) | (with_reducible refine Below.drew ?_) | (with_reducible refine below_drewN _ ?_))).trans (hb.mono (by simp))
  rw [hwz] at hc hsz
  have q0 : w9.cell? ⟨w.heap.size + 1, 0, none⟩ = some (strv a) := hc 0 a rfl
  have q1 : w9.cell? ⟨w.heap.size + 1, 1, none⟩ = some (strv b) := hc 1 b rfl
  have q2 : w9.cell? ⟨w.heap.size + 1, 2, none⟩ = some (strv c) := hc 2 c rfl
  have q3 : w9.cell? ⟨w.heap.size + 1, 3, none⟩ = some (strv d) := hc 3 d rfl
  clear hb hc hwz
  have f0 : ∀ j, w9.frozen? ⟨w.heap.size, j, none⟩ = false := fun j => blk_free c0 j
  have r0 := blk_cell c0 0; have r1 := blk_cell c0 1; have r2 := blk_cell c0 2; have r3 := blk_cell c0 3
  simp only [List.getElem?_toArray, List.getElem?_cons_zero, List.getElem?_cons_succ] at r0 r1 r2 r3
  haveI i0 : NeZero (inW w.heap.size w9) := inW_mk (blk_lt c0)
  haveI i1 : NeZero (inW (w.heap.size + 1) w9) := inW_mk (by omega)
  generalize hY : World.alloc w9 _ = Y
  have hq : w9.heap.size = w.heap.size + 1 + 1 := by omega
  have c1 : blk Y (w.heap.size + 1 + 1) #[.int .u64 0, .int .u64 0, .int .u64 0, .int .u64 0] 39 := by rw [← hY]; exact blk_at _ _ _ hq.symm
  have d0 : blk Y w.heap.size #[.int .u64 0, .int .u64 0, .int .u64 0, .int .u64 0] 39 := by rw [← hY]; exact blk_alloc c0 _
  have yb : Below w.heap.size w Y := by rw [← hY]; repeat (first | (with_reducible exact bb) | ((with_reducible refine below_grow ?_ ?_); rotate_left; focus (first | omega | (simp [go_sem]; done) | (simp [go_sem]; omega))) | ((with_reducible refine Below.alloc ?_ ?_ _); rotate_left; focus (first | omega | (simp [go_sem]; done) | (simp [go_sem]; omega))) | ((with_reducible refine Below.setCell ?_ ?_ _); rotate_left; focus (first | omega | (simp [go_sem]; done) | (simp [go_sem]; omega))) | (with_reducible refine Below.drew ?_) | (with_reducible refine below_drewN _ ?_))
  have y0 : Y.cell? ⟨w.heap.size + 1, 0, none⟩ = some (strv a) := by rw [← hY, World.cell?_alloc_old _ _ _ (by show w.heap.size + 1 ≠ w9.heap.size; omega)]; exact q0
  have y1 : Y.cell? ⟨w.heap.size + 1, 1, none⟩ = some (strv b) := by rw [← hY, World.cell?_alloc_old _ _ _ (by show w.heap.size + 1 ≠ w9.heap.size; omega)]; exact q1
  have y2 : Y.cell? ⟨w.heap.size + 1, 2, none⟩ = some (strv c) := by rw [← hY, World.cell?_alloc_old _ _ _ (by show w.heap.size + 1 ≠ w9.heap.size; omega)]; exact q2
  have y3 : Y.cell? ⟨w.heap.size + 1, 3, none⟩ = some (strv d) := by rw [← hY, World.cell?_alloc_old _ _ _ (by show w.heap.size + 1 ≠ w9.heap.size; omega)]; exact q3
  have yl : w.heap.size + 1 + 1 < Y.heap.size := blk_lt c1
  clear hY q0 q1 q2 q3 r0 r1 r2 r3 f0 i0 i1 c0 bb hsz
  clear hq
  have k0 : Y.cell? ⟨w.heap.size + 1 + 1, 0, none⟩ = some (.int .u64 0) := blk_cell c1 0
  have k1 : Y.cell? ⟨w.heap.size + 1 + 1, 1, none⟩ = some (.int .u64 0) := blk_cell c1 1
  have k2 : Y.cell? ⟨w.heap.size + 1 + 1, 2, none⟩ = some (.int .u64 0) := blk_cell c1 2
  have k3 : Y.cell? ⟨w.heap.size + 1 + 1, 3, none⟩ = some (.int .u64 0) := blk_cell c1 3
  have f1 : ∀ j, Y.frozen? ⟨w.heap.size + 1 + 1, j, none⟩ = false := fun j => blk_free c1 j
  have f0 : ∀ j, Y.frozen? ⟨w.heap.size, j, none⟩ = false := fun j => blk_free d0 j
  have r0 := blk_cell d0 0; have r1 := blk_cell d0 1; have r2 := blk_cell d0 2; have r3 := blk_cell d0 3
  simp only [List.getElem?_toArray, List.getElem?_cons_zero, List.getElem?_cons_succ] at r0 r1 r2 r3
  haveI i0 : NeZero (inW w.heap.size Y) := inW_mk (by omega)
  haveI i1 : NeZero (inW (w.heap.size + 1) Y) := inW_mk (by omega)
  haveI i2 : NeZero (inW (w.heap.size + 1 + 1) Y) := inW_mk (by omega)
  have n1 : ¬ w.heap.size + 1 + 1 = w.heap.size := by omega
  have n2 : ¬ w.heap.size = w.heap.size + 1 + 1 := by omega
  have n3 : ¬ w.heap.size + 1 = w.heap.size + 1 + 1 := by omega
  have n4 : ¬ w.heap.size + 1 + 1 = w.heap.size + 1 := by omega
  have w2 : IntKind.i64.wrap 1 = 1 := rfl
  have w3 : IntKind.i64.wrap 2 = 2 := rfl
  have w4 : IntKind.i64.wrap 3 = 3 := rfl
  have w5 : IntKind.i64.wrap 4 = 4 := rfl
  have hbs := yb.size
  clear c1 d0
  go_wp2
  refine wp_loop_rounds 5 ?_
  rw [rounds_succ]
  go_wp2_with (go_at_call 49; refine (P0.out _).mono ?_; rintro e w9 ⟨rfl, hbel⟩; obtain ⟨o2, j2, rfl⟩ := grow_of_below hbel; clear hbel)
  clear P0
  rw [rounds_succ]
  go_wp2_with (go_at_call 49; refine (P1.out _).mono ?_; rintro e w9 ⟨rfl, hbel⟩; obtain ⟨o3, j3, rfl⟩ := grow_of_below hbel; clear hbel)
  clear P1
  rw [rounds_succ]
  go_wp2_with (go_at_call 49; refine (P2.out _).mono ?_; rintro e w9 ⟨rfl, hbel⟩; obtain ⟨o4, j4, rfl⟩ := grow_of_below hbel; clear hbel)
  clear P2
  rw [rounds_succ]
  go_wp2_with (go_at_call 49; refine (P3.out _).mono ?_; rintro e w9 ⟨rfl, hbel⟩; obtain ⟨o5, j5, rfl⟩ := grow_of_below hbel; clear hbel)
  clear P3
  rw [rounds_succ]
  go_wp2_with (go_at_call 37; refine (PP.out _).mono ?_; rintro e w9 ⟨rfl, hbel⟩; obtain ⟨o6, j6, rfl⟩ := grow_of_below hbel; clear hbel)
  refine bodyPost_ret (by simp [results, Tryd.results36, go_sem, r0, r1, r2, r3, k0, k1, k2, k3]) rfl ⟨rfl, ?_⟩
  repeat (first | (with_reducible exact yb) | ((with_reducible refine below_grow ?_ ?_); rotate_left; focus (first | omega | (simp [go_sem]; done) | (simp [go_sem]; omega))) | ((with_reducible refine Below.alloc ?_ ?_ _); rotate_left; focus (first | omega | (simp [go_sem]; done) | (simp [go_sem]; omega))) | ((with_reducible refine Below.setCell ?_ ?_ _); rotate_left; focus (first | omega | (simp [go_sem]; done) | (simp [go_sem]; omega))) | (with_reducible refine Below.drew ?_) | (with_reducible refine below_drewN _ ?_))
set_option maxRecDepth 100000 in
set_option maxHeartbeats 4000000 in
theorem dread_ok (l : List UInt8) (hl : l.length ≤ 140737488355328) (hf : Lib.hasPrefix l [78, 58] = true) (a b c d : List UInt8) (hs : Lib.splitN (Lib.trimPrefix l [78, 58]) [32] 5 = [a, b, c, d]) (x : Nat) (h0 : prs a = some x) (y : Nat) (h1 : prs b = some y) (z : Nat) (h2 : prs c = some z) (t : Nat) (h3 : prs d = some t) (hp : Pd (quad x y z t)) (w : World) (_ : EnvB w) :
    Calls Tryd.prog 36 #[strv l] w fun e w' => e = .returned (rdV (some (quad x y z t))) ∧ Below w.heap.size w w' := by
  have C := Lib.hid (cutp_calls l)
  have ht := trim_length l [78, 58]
  have P0 := Lib.hid (parse_strv a (by have := splitN_short (l := Lib.trimPrefix l [78, 58]) (x := a) (n := 5) (by rw [hs]; simp); omega) (some x) h0)
  simp only [parV] at P0
  have P1 := Lib.hid (parse_strv b (by have := splitN_short (l := Lib.trimPrefix l [78, 58]) (x := b) (n := 5) (by rw [hs]; simp); omega) (some y) h1)
  simp only [parV] at P1
  have P2 := Lib.hid (parse_strv c (by have := splitN_short (l := Lib.trimPrefix l [78, 58]) (x := c) (n := 5) (by rw [hs]; simp); omega) (some z) h2)
  simp only [parV] at P2
  have P3 := Lib.hid (parse_strv d (by have := splitN_short (l := Lib.trimPrefix l [78, 58]) (x := d) (n := 5) (by rw [hs]; simp); omega) (some t) h3)
  simp only [parV] at P3
  have q64 : ∀ i, i < 4 → quad x y z t i < 18446744073709551616 := by
    have g0 := (wrt_prs h0).1; have g1 := (wrt_prs h1).1; have g2 := (wrt_prs h2).1; have g3 := (wrt_prs h3).1
    intro i hi
    obtain rfl | rfl | rfl | rfl : i = 0 ∨ i = 1 ∨ i = 2 ∨ i = 3 := by omega
    all_goals (simp only [quad]; omega)
  have PP := Lib.hid (partial_yes _ hp)
  simp only [quad] at PP
  have S := Lib.hid (fun W (_ : Below w.heap.size w W) => splitn_calls (Lib.trimPrefix l [78, 58]) (by omega) 5 (by decide) (by decide) W)
  simp only [hs] at S
  rw [hf] at C
  clear ht hs h0 h1 h2 h3 hp q64
  have z : rdV (some (quad x y z t)) = .tuple #[.agg #[.int .u64 x, .int .u64 y, .int .u64 z, .int .u64 t], .int .i64 0] := rfl
  rw [z]
  clear z hl hf
  obtain ⟨T, hT⟩ : ∃ T, Lib.trimPrefix l [78, 58] = T := ⟨_, rfl⟩
  rw [hT] at C S
  clear hT
  go_enter Tryd.func36, Tryd.ntmps36
  go_upto_region 6 with (first | (go_at_call 48; refine (C.out _).mono ?_; rintro e w9 ⟨rfl, rfl⟩) | (go_at_call 34; refine (S.out _ (by repeat (first | (with_reducible exact Below.refl _ _) | ((with_reducible refine below_grow ?_ ?_); rotate_left; focus (first | omega | (simp [go_sem]; done) | (simp [go_sem]; omega))) | ((with_reducible refine Below.alloc ?_ ?_ _); rotate_left; focus (first | omega | (simp [go_sem]; done) | (simp [go_sem]; omega))) | ((with_reducible refine Below.setCell ?_ ?_ _); rotate_left; focus (first | omega | (simp [go_sem]; done) | (simp [go_sem]; omega))) | (with_reducible refine Below.drew ?_) | (with_reducible refine below_drewN _ ?_)))).mono ?_; rintro e w9 ⟨⟨cp, rfl⟩, hc, hb, hsz⟩))
  clear S C
  have hwz : (w.alloc (.cells #[.int .u64 0, .int .u64 0, .int .u64 0, .int .u64 0] 39)).heap.size = w.heap.size + 1 := by simp
  have c0 : blk w9 w.heap.size #[.int .u64 0, .int .u64 0, .int .u64 0, .int .u64 0] 39 := blk_below (blk_new _ _ _) hb (by simp)
  have bb : Below w.heap.size w w9 := (show Below w.heap.size w _ by repeat (first | (with_reducible exact Below.refl _ _) | ((with_reducible refine below_grow ?_ ?_); rotate_left; focus (first | omega | (simp [go_sem]; done) | (simp [go_sem]; omega))) | ((with_reducible refine Below.alloc ?_ ?_ _); rotate_left; focus (first | omega | (simp [go_sem]; done) | (simp [go_sem]; omega))) | ((with_reducible refine Below.setCell ?_ ?_ _); rotate_left; focus (first | omega | (simp [go_sem]; done) | (simp [go_sem]; omega))) | (with_reducible refine Below.drew ?_) | (with_reducible refine below_drewN _ ?_))).trans (hb.mono (by simp))
  rw [hwz] at hc hsz
  have q0 : w9.cell? ⟨w.heap.size + 1, 0, none⟩ = some (strv a) := hc 0 a rfl
  have q1 : w9.cell? ⟨w.heap.size + 1, 1, none⟩ = some (strv b) := hc 1 b rfl
  have q2 : w9.cell? ⟨w.heap.size + 1, 2, none⟩ = some (strv c) := hc 2 c rfl
  have q3 : w9.cell? ⟨w.heap.size + 1, 3, none⟩ = some (strv d) := hc 3 d rfl
  clear hb hc hwz
  have f0 : ∀ j, w9.frozen? ⟨w.heap.size, j, none⟩ = false := fun j => blk_free c0 j
  have r0 := blk_cell c0 0; have r1 := blk_cell c0 1; have r2 := blk_cell c0 2; have r3 := blk_cell c0 3
  simp only [List.getElem?_toArray, List.getElem?_cons_zero, List.getElem?_cons_succ] at r0 r1 r2 r3
  haveI i0 : NeZero (inW w.heap.size w9) := inW_mk (blk_lt c0)
  haveI i1 : NeZero (inW (w.heap.size + 1) w9) := inW_mk (by omega)
  generalize hY : World.alloc w9 _ = Y
  have hq : w9.heap.size = w.heap.size + 1 + 1 := by omega
  have c1 : blk Y (w.heap.size + 1 + 1) #[.int .u64 0, .int .u64 0, .int .u64 0, .int .u64 0] 39 := by rw [← hY]; exact blk_at _ _ _ hq.symm
  have d0 : blk Y w.heap.size #[.int .u64 0, .int .u64 0, .int .u64 0, .int .u64 0] 39 := by rw [← hY]; exact blk_alloc c0 _
  have yb : Below w.heap.size w Y := by rw [← hY]; repeat (first | (with_reducible exact bb) | ((with_reducible refine below_grow ?_ ?_); rotate_left; focus (first | omega | (simp [go_sem]; done) | (simp [go_sem]; omega))) | ((with_reducible refine Below.alloc ?_ ?_ _); rotate_left; focus (first | omega | (simp [go_sem]; done) | (simp [go_sem]; omega))) | ((with_reducible refine Below.setCell ?_ ?_ _); rotate_left; focus (first | omega | (simp [go_sem]; done) | (simp [go_sem]; omega))) | (with_reducible refine Below.drew ?_) | (with_reducible refine below_drewN _ ?_))
  have y0 : Y.cell? ⟨w.heap.size + 1, 0, none⟩ = some (strv a) := by rw [← hY, World.cell?_alloc_old _ _ _ (by show w.heap.size + 1 ≠ w9.heap.size; omega)]; exact q0
  have y1 : Y.cell? ⟨w.heap.size + 1, 1, none⟩ = some (strv b) := by rw [← hY, World.cell?_alloc_old _ _ _ (by show w.heap.size + 1 ≠ w9.heap.size; omega)]; exact q1
  have y2 : Y.cell? ⟨w.heap.size + 1, 2, none⟩ = some (strv c) := by rw [← hY, World.cell?_alloc_old _ _ _ (by show w.heap.size + 1 ≠ w9.heap.size; omega)]; exact q2
  have y3 : Y.cell? ⟨w.heap.size + 1, 3, none⟩ = some (strv d) := by rw [← hY, World.cell?_alloc_old _ _ _ (by show w.heap.size + 1 ≠ w9.heap.size; omega)]; exact q3
  have yl : w.heap.size + 1 + 1 < Y.heap.size := blk_lt c1
  clear hY q0 q1 q2 q3 r0 r1 r2 r3 f0 i0 i1 c0 bb hsz
  clear hq
  have k0 : Y.cell? ⟨w.heap.size + 1 + 1, 0, none⟩ = some (.int .u64 0) := blk_cell c1 0
  have k1 : Y.cell? ⟨w.heap.size + 1 + 1, 1, none⟩ = some (.int .u64 0) := blk_cell c1 1
  have k2 : Y.cell? ⟨w.heap.size + 1 + 1, 2, none⟩ = some (.int .u64 0) := blk_cell c1 2
  have k3 : Y.cell? ⟨w.heap.size + 1 + 1, 3, none⟩ = some (.int .u64 0) := blk_cell c1 3
  have f1 : ∀ j, Y.frozen? ⟨w.heap.size + 1 + 1, j, none⟩ = false := fun j => blk_free c1 j
  have f0 : ∀ j, Y.frozen? ⟨w.heap.size, j, none⟩ = false := fun j => blk_free d0 j
  have r0 := blk_cell d0 0; have r1 := blk_cell d0 1; have r2 := blk_cell d0 2; have r3 := blk_cell d0 3
  simp only [List.getElem?_toArray, List.getElem?_cons_zero, List.getElem?_cons_succ] at r0 r1 r2 r3
  haveI i0 : NeZero (inW w.heap.size Y) := inW_mk (by omega)
  haveI i1 : NeZero (inW (w.heap.size + 1) Y) := inW_mk (by omega)
  haveI i2 : NeZero (inW (w.heap.size + 1 + 1) Y) := inW_mk (by omega)
  have n1 : ¬ w.heap.size + 1 + 1 = w.heap.size := by omega
  have n2 : ¬ w.heap.size = w.heap.size + 1 + 1 := by omega
  have n3 : ¬ w.heap.size + 1 = w.heap.size + 1 + 1 := by omega
  have n4 : ¬ w.heap.size + 1 + 1 = w.heap.size + 1 := by omega
  have w2 : IntKind.i64.wrap 1 = 1 := rfl
  have w3 : IntKind.i64.wrap 2 = 2 := rfl
  have w4 : IntKind.i64.wrap 3 = 3 := rfl
  have w5 : IntKind.i64.wrap 4 = 4 := rfl
  have hbs := yb.size
  clear c1 d0
  go_wp2
  refine wp_loop_rounds 5 ?_
  rw [rounds_succ]
  go_wp2_with (go_at_call 49; refine (P0.out _).mono ?_; rintro e w9 ⟨rfl, hbel⟩; obtain ⟨o2, j2, rfl⟩ := grow_of_below hbel; clear hbel)
  clear P0
  rw [rounds_succ]
  go_wp2_with (go_at_call 49; refine (P1.out _).mono ?_; rintro e w9 ⟨rfl, hbel⟩; obtain ⟨o3, j3, rfl⟩ := grow_of_below hbel; clear hbel)
  clear P1
  rw [rounds_succ]
  go_wp2_with (go_at_call 49; refine (P2.out _).mono ?_; rintro e w9 ⟨rfl, hbel⟩; obtain ⟨o4, j4, rfl⟩ := grow_of_below hbel; clear hbel)
  clear P2
  rw [rounds_succ]
  go_wp2_with (go_at_call 49; refine (P3.out _).mono ?_; rintro e w9 ⟨rfl, hbel⟩; obtain ⟨o5, j5, rfl⟩ := grow_of_below hbel; clear hbel)
  clear P3
  rw [rounds_succ]
  go_wp2_with (go_at_call 37; refine (PP.out _).mono ?_; rintro e w9 ⟨rfl, hbel⟩; obtain ⟨o6, j6, rfl⟩ := grow_of_below hbel; clear hbel)
  refine bodyPost_ret (by simp [results, Tryd.results36, go_sem, r0, r1, r2, r3, k0, k1, k2, k3]) rfl ⟨rfl, ?_⟩
  repeat (first | (with_reducible exact yb) | ((with_reducible refine below_grow ?_ ?_); rotate_left; focus (first | omega | (simp [go_sem]; done) | (simp [go_sem]; omega))) | ((with_reducible refine Below.alloc ?_ ?_ _); rotate_left; focus (first | omega | (simp [go_sem]; done) | (simp [go_sem]; omega))) | ((with_reducible refine Below.setCell ?_ ?_ _); rotate_left; focus (first | omega | (simp [go_sem]; done) | (simp [go_sem]; omega))) | (with_reducible refine Below.drew ?_) | (with_reducible refine below_drewN _ ?_))
end Go.Proofs.YtalklogopepjpaaDoor.Ca
