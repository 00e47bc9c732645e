/- board.Read: the walk. -/
import Derived.Test.YtalklogopepjpaaDoorBO
namespace Go.Proofs.YtalklogopepjpaaDoor.Ca
open Go.RowKit
open Go.Proofs.DB (Pd Rd)

set_option maxRecDepth 100000 in
set_option maxHeartbeats 2000000 in
theorem bread_len (l : List UInt8) (hl : l.length ≤ 140737488355328) (h : (Lib.splitN l [32] 4).length ≠ 4) (w : World) (_ : EnvB w) :
    Calls Tryd.prog 21 #[strv l] w fun e w' => e = .returned (rbV none) ∧ Below w.heap.size w w' := by
  have S := Lib.hid (fun W (_ : Below w.heap.size w W) => splitn_calls l hl 4 (by decide) (by decide) W)
  obtain ⟨k, hk⟩ : ∃ k, (Lib.splitN l [32] 4).length = k := ⟨_, rfl⟩
  rw [hk] at h
  simp only [hk] at S
  have h4 : ¬ (k : Int) = 4 := by omega
  have z : rbV none = .tuple #[.agg #[.int .i64 0, .int .u64 0, .int .u64 0, .int .u64 0, .int .u64 0], .int .i64 71] := rfl
  rw [z]
  clear z h hk hl
  go_enter Tryd.func21, Tryd.ntmps21
  go_upto_region 2 with (go_at_call 34; refine (S.out _ (by repeat (first | (with_reducible exact Below.refl _ _) | ((with_reducible refine below_grow ?_ ?_); rotate_left; focus (first | omega | (simp [go_sem]; done) | (simp [go_sem]; omega))) | ((with_reducible refine Below.alloc ?_ ?_ _); rotate_left; focus (first | omega | (simp [go_sem]; done) | (simp [go_sem]; omega))) | ((with_reducible refine Below.setCell ?_ ?_ _); rotate_left; focus (first | omega | (simp [go_sem]; done) | (simp [go_sem]; omega))) | (with_reducible refine Below.drew ?_) | (with_reducible refine below_drewN _ ?_)))).mono ?_; rintro e w9 ⟨⟨cp, rfl⟩, hc, hb, hsz⟩; clear hc)
  have hwz : (w.alloc (.cells #[.int .i64 0, .int .u64 0, .int .u64 0, .int .u64 0, .int .u64 0] 53)).heap.size = w.heap.size + 1 := by simp
  have c0 : blk w9 w.heap.size #[.int .i64 0, .int .u64 0, .int .u64 0, .int .u64 0, .int .u64 0] 53 := blk_below (blk_new _ _ _) hb (by simp)
  have bb : Below w.heap.size w w9 := (show Below w.heap.size w _ by repeat (first | (with_reducible exact Below.refl _ _) | ((with_reducible refine below_grow ?_ ?_); rotate_left; focus (first | omega | (simp [go_sem]; done) | (simp [go_sem]; omega))) | ((with_reducible refine Below.alloc ?_ ?_ _); rotate_left; focus (first | omega | (simp [go_sem]; done) | (simp [go_sem]; omega))) | ((with_reducible refine Below.setCell ?_ ?_ _); rotate_left; focus (first | omega | (simp [go_sem]; done) | (simp [go_sem]; omega))) | (with_reducible refine Below.drew ?_) | (with_reducible refine below_drewN _ ?_))).trans (hb.mono (by simp))
  clear hb hsz hwz S
  have f0 : ∀ j, w9.frozen? ⟨w.heap.size, j, none⟩ = false := fun j => blk_free c0 j
  have r0 := blk_cell c0 0; have r1 := blk_cell c0 1; have r2 := blk_cell c0 2; have r3 := blk_cell c0 3; have r4 := blk_cell c0 4
  simp only [List.getElem?_toArray, List.getElem?_cons_zero, List.getElem?_cons_succ] at r0 r1 r2 r3 r4
  haveI i0 : NeZero (inW w.heap.size w9) := inW_mk (blk_lt c0)
  clear c0
  have hbs := bb.size
  go_wp2
  refine bodyPost_ret (by simp [results, Tryd.results21, go_sem, r0, r1, r2, r3, r4]) rfl ⟨rfl, ?_⟩
  repeat (first | (with_reducible exact bb) | ((with_reducible refine below_grow ?_ ?_); rotate_left; focus (first | omega | (simp [go_sem]; done) | (simp [go_sem]; omega))) | ((with_reducible refine Below.alloc ?_ ?_ _); rotate_left; focus (first | omega | (simp [go_sem]; done) | (simp [go_sem]; omega))) | ((with_reducible refine Below.setCell ?_ ?_ _); rotate_left; focus (first | omega | (simp [go_sem]; done) | (simp [go_sem]; omega))) | (with_reducible refine Below.drew ?_) | (with_reducible refine below_drewN _ ?_))
set_option maxRecDepth 100000 in
set_option maxHeartbeats 4000000 in
theorem bread_bad (l : List UInt8) (hl : l.length ≤ 140737488355328) (a b c d : List UInt8) (hs : Lib.splitN l [32] 4 = [a, b, c, d]) (t : List UInt8) (x : Int) (hx : ¬ x = 0)  (w : World) (he : EnvB w)
    (HT : ∀ W, Below w.heap.size w W → Calls Tryd.prog 20 #[.agg #[.int .i64 (bnum a), .int .u64 (rdP d 0 : Nat), .int .u64 (rdP d 1 : Nat), .int .u64 (rdP d 2 : Nat), .int .u64 (rdP d 3 : Nat)]] W fun e w' => e = .returned (.tuple #[strv t, .int .i64 x]) ∧ Below W.heap.size W w') :
    Calls Tryd.prog 21 #[strv l] w fun e w' => e = .returned (rbV none) ∧ Below w.heap.size w w' := by
  have S := Lib.hid (fun W (_ : Below w.heap.size w W) => splitn_calls l hl 4 (by decide) (by decide) W)
  have ha := splitN_short (l := l) (x := a) (n := 4) (by rw [hs]; simp)
  have hd := splitN_short (l := l) (x := d) (n := 4) (by rw [hs]; simp)
  have A := Lib.hid (fun W (hW : Below w.heap.size w W) => atoi_calls a (by omega) W (he.below hW))
  have D := Lib.hid (fun W (hW : Below w.heap.size w W) => dread_p d (by omega) W (he.below hW))
  have T := Lib.hid HT
  simp only [hs] at S
  have z : rbV none = .tuple #[.agg #[.int .i64 0, .int .u64 0, .int .u64 0, .int .u64 0, .int .u64 0], .int .i64 71] := rfl
  rw [z]
  clear z hl ha hd hs HT
  obtain ⟨p, hp⟩ : ∃ p, rdP d = p := ⟨_, rfl⟩
  obtain ⟨n, hn'⟩ : ∃ n, bnum a = n := ⟨_, rfl⟩
  simp only [hp, hn'] at T A D ⊢
  clear hp hn'
  go_enter Tryd.func21, Tryd.ntmps21
  go_upto_region 4 with (go_at_call 34; refine (S.out _ (by repeat (first | (with_reducible exact Below.refl _ _) | ((with_reducible refine below_grow ?_ ?_); rotate_left; focus (first | omega | (simp [go_sem]; done) | (simp [go_sem]; omega))) | ((with_reducible refine Below.alloc ?_ ?_ _); rotate_left; focus (first | omega | (simp [go_sem]; done) | (simp [go_sem]; omega))) | ((with_reducible refine Below.setCell ?_ ?_ _); rotate_left; focus (first | omega | (simp [go_sem]; done) | (simp [go_sem]; omega))) | (with_reducible refine Below.drew ?_) | (with_reducible refine below_drewN _ ?_)))).mono ?_; rintro e w9 ⟨⟨cp, rfl⟩, hc, hb, hsz⟩)
  have hwz : (w.alloc (.cells #[.int .i64 0, .int .u64 0, .int .u64 0, .int .u64 0, .int .u64 0] 53)).heap.size = w.heap.size + 1 := by simp
  have c0 : blk w9 w.heap.size #[.int .i64 0, .int .u64 0, .int .u64 0, .int .u64 0, .int .u64 0] 53 := blk_below (blk_new _ _ _) hb (by simp)
  have bb : Below w.heap.size w w9 := (show Below w.heap.size w _ by repeat (first | (with_reducible exact Below.refl _ _) | ((with_reducible refine below_grow ?_ ?_); rotate_left; focus (first | omega | (simp [go_sem]; done) | (simp [go_sem]; omega))) | ((with_reducible refine Below.alloc ?_ ?_ _); rotate_left; focus (first | omega | (simp [go_sem]; done) | (simp [go_sem]; omega))) | ((with_reducible refine Below.setCell ?_ ?_ _); rotate_left; focus (first | omega | (simp [go_sem]; done) | (simp [go_sem]; omega))) | (with_reducible refine Below.drew ?_) | (with_reducible refine below_drewN _ ?_))).trans (hb.mono (by simp))
  rw [hwz] at hc hsz
  have q0 : w9.cell? ⟨w.heap.size + 1, 0, none⟩ = some (strv a) := hc 0 a rfl
  have q3 : w9.cell? ⟨w.heap.size + 1, 3, none⟩ = some (strv d) := hc 3 d rfl
  clear hb hc hwz S
  have f0 : ∀ j, w9.frozen? ⟨w.heap.size, j, none⟩ = false := fun j => blk_free c0 j
  have r0 := blk_cell c0 0; have r1 := blk_cell c0 1; have r2 := blk_cell c0 2; have r3 := blk_cell c0 3; have r4 := blk_cell c0 4
  simp only [List.getElem?_toArray, List.getElem?_cons_zero, List.getElem?_cons_succ] at r0 r1 r2 r3 r4
  haveI i0 : NeZero (inW w.heap.size w9) := inW_mk (blk_lt c0)
  haveI i1 : NeZero (inW (w.heap.size + 1) w9) := inW_mk (by omega)
  have hbs := bb.size
  have n1 : ¬ w.heap.size + 1 = w.heap.size := by omega
  clear c0 hsz
  go_upto_region 5 with (go_at_call 35; refine (A.out _ (by repeat (first | (with_reducible exact bb) | ((with_reducible refine below_grow ?_ ?_); rotate_left; focus (first | omega | (simp [go_sem]; done) | (simp [go_sem]; omega))) | ((with_reducible refine Below.alloc ?_ ?_ _); rotate_left; focus (first | omega | (simp [go_sem]; done) | (simp [go_sem]; omega))) | ((with_reducible refine Below.setCell ?_ ?_ _); rotate_left; focus (first | omega | (simp [go_sem]; done) | (simp [go_sem]; omega))) | (with_reducible refine Below.drew ?_) | (with_reducible refine below_drewN _ ?_)))).mono ?_; rintro e w8 ⟨⟨ev, rfl⟩, hbel⟩; obtain ⟨o1, j1, rfl⟩ := grow_of_below hbel; clear hbel)
  go_upto_region 6 with (go_at_call 36; refine (D.out _ (by repeat (first | (with_reducible exact bb) | ((with_reducible refine below_grow ?_ ?_); rotate_left; focus (first | omega | (simp [go_sem]; done) | (simp [go_sem]; omega))) | ((with_reducible refine Below.alloc ?_ ?_ _); rotate_left; focus (first | omega | (simp [go_sem]; done) | (simp [go_sem]; omega))) | ((with_reducible refine Below.setCell ?_ ?_ _); rotate_left; focus (first | omega | (simp [go_sem]; done) | (simp [go_sem]; omega))) | (with_reducible refine Below.drew ?_) | (with_reducible refine below_drewN _ ?_)))).mono ?_; rintro e w8 ⟨⟨x2, rfl⟩, hbel⟩; obtain ⟨o2, j2, rfl⟩ := grow_of_below hbel; clear hbel)
  go_wp2_with (go_at_call 20; refine (T.out _ (by repeat (first | (with_reducible exact bb) | ((with_reducible refine below_grow ?_ ?_); rotate_left; focus (first | omega | (simp [go_sem]; done) | (simp [go_sem]; omega))) | ((with_reducible refine Below.alloc ?_ ?_ _); rotate_left; focus (first | omega | (simp [go_sem]; done) | (simp [go_sem]; omega))) | ((with_reducible refine Below.setCell ?_ ?_ _); rotate_left; focus (first | omega | (simp [go_sem]; done) | (simp [go_sem]; omega))) | (with_reducible refine Below.drew ?_) | (with_reducible refine below_drewN _ ?_)))).mono ?_; rintro e w8 ⟨rfl, hbel⟩; obtain ⟨o3, j3, rfl⟩ := grow_of_below hbel; clear hbel)
  refine bodyPost_ret (by simp [results, Tryd.results21, go_sem, r0, r1, r2, r3, r4]) rfl ⟨rfl, ?_⟩
  repeat (first | (with_reducible exact bb) | ((with_reducible refine below_grow ?_ ?_); rotate_left; focus (first | omega | (simp [go_sem]; done) | (simp [go_sem]; omega))) | ((with_reducible refine Below.alloc ?_ ?_ _); rotate_left; focus (first | omega | (simp [go_sem]; done) | (simp [go_sem]; omega))) | ((with_reducible refine Below.setCell ?_ ?_ _); rotate_left; focus (first | omega | (simp [go_sem]; done) | (simp [go_sem]; omega))) | (with_reducible refine Below.drew ?_) | (with_reducible refine below_drewN _ ?_))
set_option maxRecDepth 100000 in
set_option maxHeartbeats 4000000 in
theorem bread_ne (l : List UInt8) (hl : l.length ≤ 140737488355328) (a b c d : List UInt8) (hs : Lib.splitN l [32] 4 = [a, b, c, d]) (t : List UInt8) (hx : t ≠ l)  (w : World) (he : EnvB w)
    (HT : ∀ W, Below w.heap.size w W → Calls Tryd.prog 20 #[.agg #[.int .i64 (bnum a), .int .u64 (rdP d 0 : Nat), .int .u64 (rdP d 1 : Nat), .int .u64 (rdP d 2 : Nat), .int .u64 (rdP d 3 : Nat)]] W fun e w' => e = .returned (.tuple #[strv t, .int .i64 0]) ∧ Below W.heap.size W w') :
    Calls Tryd.prog 21 #[strv l] w fun e w' => e = .returned (rbV none) ∧ Below w.heap.size w w' := by
  have S := Lib.hid (fun W (_ : Below w.heap.size w W) => splitn_calls l hl 4 (by decide) (by decide) W)
  have ha := splitN_short (l := l) (x := a) (n := 4) (by rw [hs]; simp)
  have hd := splitN_short (l := l) (x := d) (n := 4) (by rw [hs]; simp)
  have A := Lib.hid (fun W (hW : Below w.heap.size w W) => atoi_calls a (by omega) W (he.below hW))
  have D := Lib.hid (fun W (hW : Below w.heap.size w W) => dread_p d (by omega) W (he.below hW))
  have T := Lib.hid HT
  simp only [hs] at S
  have z : rbV none = .tuple #[.agg #[.int .i64 0, .int .u64 0, .int .u64 0, .int .u64 0, .int .u64 0], .int .i64 71] := rfl
  rw [z]
  clear z hl ha hd hs HT
  have hne : (t == l) = false := beq_eq_false_iff_ne.2 hx
  obtain ⟨p, hp⟩ : ∃ p, rdP d = p := ⟨_, rfl⟩
  obtain ⟨n, hn'⟩ : ∃ n, bnum a = n := ⟨_, rfl⟩
  simp only [hp, hn'] at T A D ⊢
  clear hp hn'
  go_enter Tryd.func21, Tryd.ntmps21
  go_upto_region 4 with (go_at_call 34; refine (S.out _ (by repeat (first | (with_reducible exact Below.refl _ _) | ((with_reducible refine below_grow ?_ ?_); rotate_left; focus (first | omega | (simp [go_sem]; done) | (simp [go_sem]; omega))) | ((with_reducible refine Below.alloc ?_ ?_ _); rotate_left; focus (first | omega | (simp [go_sem]; done) | (simp [go_sem]; omega))) | ((with_reducible refine Below.setCell ?_ ?_ _); rotate_left; focus (first | omega | (simp [go_sem]; done) | (simp [go_sem]; omega))) | (with_reducible refine Below.drew ?_) | (with_reducible refine below_drewN _ ?_)))).mono ?_; rintro e w9 ⟨⟨cp, rfl⟩, hc, hb, hsz⟩)
  have hwz : (w.alloc (.cells #[.int .i64 0, .int .u64 0, .int .u64 0, .int .u64 0, .int .u64 0] 53)).heap.size = w.heap.size + 1 := by simp
  have c0 : blk w9 w.heap.size #[.int .i64 0, .int .u64 0, .int .u64 0, .int .u64 0, .int .u64 0] 53 := blk_below (blk_new _ _ _) hb (by simp)
  have bb : Below w.heap.size w w9 := (show Below w.heap.size w _ by repeat (first | (with_reducible exact Below.refl _ _) | ((with_reducible refine below_grow ?_ ?_); rotate_left; focus (first | omega | (simp [go_sem]; done) | (simp [go_sem]; omega))) | ((with_reducible refine Below.alloc ?_ ?_ _); rotate_left; focus (first | omega | (simp [go_sem]; done) | (simp [go_sem]; omega))) | ((with_reducible refine Below.setCell ?_ ?_ _); rotate_left; focus (first | omega | (simp [go_sem]; done) | (simp [go_sem]; omega))) | (with_reducible refine Below.drew ?_) | (with_reducible refine below_drewN _ ?_))).trans (hb.mono (by simp))
  rw [hwz] at hc hsz
  have q0 : w9.cell? ⟨w.heap.size + 1, 0, none⟩ = some (strv a) := hc 0 a rfl
  have q3 : w9.cell? ⟨w.heap.size + 1, 3, none⟩ = some (strv d) := hc 3 d rfl
  clear hb hc hwz S
  have f0 : ∀ j, w9.frozen? ⟨w.heap.size, j, none⟩ = false := fun j => blk_free c0 j
  have r0 := blk_cell c0 0; have r1 := blk_cell c0 1; have r2 := blk_cell c0 2; have r3 := blk_cell c0 3; have r4 := blk_cell c0 4
  simp only [List.getElem?_toArray, List.getElem?_cons_zero, List.getElem?_cons_succ] at r0 r1 r2 r3 r4
  haveI i0 : NeZero (inW w.heap.size w9) := inW_mk (blk_lt c0)
  haveI i1 : NeZero (inW (w.heap.size + 1) w9) := inW_mk (by omega)
  have hbs := bb.size
  have n1 : ¬ w.heap.size + 1 = w.heap.size := by omega
  clear c0 hsz
  go_upto_region 5 with (go_at_call 35; refine (A.out _ (by repeat (first | (with_reducible exact bb) | ((with_reducible refine below_grow ?_ ?_); rotate_left; focus (first | omega | (simp [go_sem]; done) | (simp [go_sem]; omega))) | ((with_reducible refine Below.alloc ?_ ?_ _); rotate_left; focus (first | omega | (simp [go_sem]; done) | (simp [go_sem]; omega))) | ((with_reducible refine Below.setCell ?_ ?_ _); rotate_left; focus (first | omega | (simp [go_sem]; done) | (simp [go_sem]; omega))) | (with_reducible refine Below.drew ?_) | (with_reducible refine below_drewN _ ?_)))).mono ?_; rintro e w8 ⟨⟨ev, rfl⟩, hbel⟩; obtain ⟨o1, j1, rfl⟩ := grow_of_below hbel; clear hbel)
  go_upto_region 6 with (go_at_call 36; refine (D.out _ (by repeat (first | (with_reducible exact bb) | ((with_reducible refine below_grow ?_ ?_); rotate_left; focus (first | omega | (simp [go_sem]; done) | (simp [go_sem]; omega))) | ((with_reducible refine Below.alloc ?_ ?_ _); rotate_left; focus (first | omega | (simp [go_sem]; done) | (simp [go_sem]; omega))) | ((with_reducible refine Below.setCell ?_ ?_ _); rotate_left; focus (first | omega | (simp [go_sem]; done) | (simp [go_sem]; omega))) | (with_reducible refine Below.drew ?_) | (with_reducible refine below_drewN _ ?_)))).mono ?_; rintro e w8 ⟨⟨x2, rfl⟩, hbel⟩; obtain ⟨o2, j2, rfl⟩ := grow_of_below hbel; clear hbel)
  go_wp2_with (go_at_call 20; refine (T.out _ (by repeat (first | (with_reducible exact bb) | ((with_reducible refine below_grow ?_ ?_); rotate_left; focus (first | omega | (simp [go_sem]; done) | (simp [go_sem]; omega))) | ((with_reducible refine Below.alloc ?_ ?_ _); rotate_left; focus (first | omega | (simp [go_sem]; done) | (simp [go_sem]; omega))) | ((with_reducible refine Below.setCell ?_ ?_ _); rotate_left; focus (first | omega | (simp [go_sem]; done) | (simp [go_sem]; omega))) | (with_reducible refine Below.drew ?_) | (with_reducible refine below_drewN _ ?_)))).mono ?_; rintro e w8 ⟨rfl, hbel⟩; obtain ⟨o3, j3, rfl⟩ := grow_of_below hbel; clear hbel)
  refine bodyPost_ret (by simp [results, Tryd.results21, go_sem, r0, r1, r2, r3, r4]) rfl ⟨rfl, ?_⟩
  repeat (first | (with_reducible exact bb) | ((with_reducible refine below_grow ?_ ?_); rotate_left; focus (first | omega | (simp [go_sem]; done) | (simp [go_sem]; omega))) | ((with_reducible refine Below.alloc ?_ ?_ _); rotate_left; focus (first | omega | (simp [go_sem]; done) | (simp [go_sem]; omega))) | ((with_reducible refine Below.setCell ?_ ?_ _); rotate_left; focus (first | omega | (simp [go_sem]; done) | (simp [go_sem]; omega))) | (with_reducible refine Below.drew ?_) | (with_reducible refine below_drewN _ ?_))
set_option maxRecDepth 100000 in
set_option maxHeartbeats 4000000 in
theorem bread_ok (l : List UInt8) (hl : l.length ≤ 140737488355328) (a b c d : List UInt8) (hs : Lib.splitN l [32] 4 = [a, b, c, d])  (hn : 0 ≤ bnum a) (w : World) (he : EnvB w)
    (HT : ∀ W, Below w.heap.size w W → Calls Tryd.prog 20 #[.agg #[.int .i64 (bnum a), .int .u64 (rdP d 0 : Nat), .int .u64 (rdP d 1 : Nat), .int .u64 (rdP d 2 : Nat), .int .u64 (rdP d 3 : Nat)]] W fun e w' => e = .returned (.tuple #[strv l, .int .i64 0]) ∧ Below W.heap.size W w') :
    Calls Tryd.prog 21 #[strv l] w fun e w' => e = .returned (rbV (some ((bnum a).toNat, rdP d))) ∧ Below w.heap.size w w' := by
  have S := Lib.hid (fun W (_ : Below w.heap.size w W) => splitn_calls l hl 4 (by decide) (by decide) W)
  have ha := splitN_short (l := l) (x := a) (n := 4) (by rw [hs]; simp)
  have hd := splitN_short (l := l) (x := d) (n := 4) (by rw [hs]; simp)
  have A := Lib.hid (fun W (hW : Below w.heap.size w W) => atoi_calls a (by omega) W (he.below hW))
  have D := Lib.hid (fun W (hW : Below w.heap.size w W) => dread_p d (by omega) W (he.below hW))
  have T := Lib.hid HT
  simp only [hs] at S
  have z : rbV (some ((bnum a).toNat, rdP d)) = .tuple #[.agg #[.int .i64 (bnum a), .int .u64 (rdP d 0 : Nat), .int .u64 (rdP d 1 : Nat), .int .u64 (rdP d 2 : Nat), .int .u64 (rdP d 3 : Nat)], .int .i64 0] := by
    show Value.tuple #[.agg #[.int .i64 (((bnum a).toNat : Nat) : Int), _, _, _, _], _] = _
    rw [Int.toNat_of_nonneg hn]
  rw [z]
  clear z hl ha hd hs HT hn
  obtain ⟨p, hp⟩ : ∃ p, rdP d = p := ⟨_, rfl⟩
  obtain ⟨n, hn'⟩ : ∃ n, bnum a = n := ⟨_, rfl⟩
  simp only [hp, hn'] at T A D ⊢
  clear hp hn'
  go_enter Tryd.func21, Tryd.ntmps21
  go_upto_region 4 with (go_at_call 34; refine (S.out _ (by repeat (first | (with_reducible exact Below.refl _ _) | ((with_reducible refine below_grow ?_ ?_); rotate_left; focus (first | omega | (simp [go_sem]; done) | (simp [go_sem]; omega))) | ((with_reducible refine Below.alloc ?_ ?_ _); rotate_left; focus (first | omega | (simp [go_sem]; done) | (simp [go_sem]; omega))) | ((with_reducible refine Below.setCell ?_ ?_ _); rotate_left; focus (first | omega | (simp [go_sem]; done) | (simp [go_sem]; omega))) | (with_reducible refine Below.drew ?_) | (with_reducible refine below_drewN _ ?_)))).mono ?_; rintro e w9 ⟨⟨cp, rfl⟩, hc, hb, hsz⟩)
  have hwz : (w.alloc (.cells #[.int .i64 0, .int .u64 0, .int .u64 0, .int .u64 0, .int .u64 0] 53)).heap.size = w.heap.size + 1 := by simp
  have c0 : blk w9 w.heap.size #[.int .i64 0, .int .u64 0, .int .u64 0, .int .u64 0, .int .u64 0] 53 := blk_below (blk_new _ _ _) hb (by simp)
  have bb : Below w.heap.size w w9 := (show Below w.heap.size w _ by repeat (first | (with_reducible exact Below.refl _ _) | ((with_reducible refine below_grow ?_ ?_); rotate_left; focus (first | omega | (simp [go_sem]; done) | (simp [go_sem]; omega))) | ((with_reducible refine Below.alloc ?_ ?_ _); rotate_left; focus (first | omega | (simp [go_sem]; done) | (simp [go_sem]; omega))) | ((with_reducible refine Below.setCell ?_ ?_ _); rotate_left; focus (first | omega | (simp [go_sem]; done) | (simp [go_sem]; omega))) | (with_reducible refine Below.drew ?_) | (with_reducible refine below_drewN _ ?_))).trans (hb.mono (by simp))
  rw [hwz] at hc hsz
  have q0 : w9.cell? ⟨w.heap.size + 1, 0, none⟩ = some (strv a) := hc 0 a rfl
  have q3 : w9.cell? ⟨w.heap.size + 1, 3, none⟩ = some (strv d) := hc 3 d rfl
  clear hb hc hwz S
  have f0 : ∀ j, w9.frozen? ⟨w.heap.size, j, none⟩ = false := fun j => blk_free c0 j
  have r0 := blk_cell c0 0; have r1 := blk_cell c0 1; have r2 := blk_cell c0 2; have r3 := blk_cell c0 3; have r4 := blk_cell c0 4
  simp only [List.getElem?_toArray, List.getElem?_cons_zero, List.getElem?_cons_succ] at r0 r1 r2 r3 r4
  haveI i0 : NeZero (inW w.heap.size w9) := inW_mk (blk_lt c0)
  haveI i1 : NeZero (inW (w.heap.size + 1) w9) := inW_mk (by omega)
  have hbs := bb.size
  have n1 : ¬ w.heap.size + 1 = w.heap.size := by omega
  clear c0 hsz
  go_upto_region 5 with (go_at_call 35; refine (A.out _ (by repeat (first | (with_reducible exact bb) | ((with_reducible refine below_grow ?_ ?_); rotate_left; focus (first | omega | (simp [go_sem]; done) | (simp [go_sem]; omega))) | ((with_reducible refine Below.alloc ?_ ?_ _); rotate_left; focus (first | omega | (simp [go_sem]; done) | (simp [go_sem]; omega))) | ((with_reducible refine Below.setCell ?_ ?_ _); rotate_left; focus (first | omega | (simp [go_sem]; done) | (simp [go_sem]; omega))) | (with_reducible refine Below.drew ?_) | (with_reducible refine below_drewN _ ?_)))).mono ?_; rintro e w8 ⟨⟨ev, rfl⟩, hbel⟩; obtain ⟨o1, j1, rfl⟩ := grow_of_below hbel; clear hbel)
  go_upto_region 6 with (go_at_call 36; refine (D.out _ (by repeat (first | (with_reducible exact bb) | ((with_reducible refine below_grow ?_ ?_); rotate_left; focus (first | omega | (simp [go_sem]; done) | (simp [go_sem]; omega))) | ((with_reducible refine Below.alloc ?_ ?_ _); rotate_left; focus (first | omega | (simp [go_sem]; done) | (simp [go_sem]; omega))) | ((with_reducible refine Below.setCell ?_ ?_ _); rotate_left; focus (first | omega | (simp [go_sem]; done) | (simp [go_sem]; omega))) | (with_reducible refine Below.drew ?_) | (with_reducible refine below_drewN _ ?_)))).mono ?_; rintro e w8 ⟨⟨x2, rfl⟩, hbel⟩; obtain ⟨o2, j2, rfl⟩ := grow_of_below hbel; clear hbel)
  go_wp2_with (go_at_call 20; refine (T.out _ (by repeat (first | (with_reducible exact bb) | ((with_reducible refine below_grow ?_ ?_); rotate_left; focus (first | omega | (simp [go_sem]; done) | (simp [go_sem]; omega))) | ((with_reducible refine Below.alloc ?_ ?_ _); rotate_left; focus (first | omega | (simp [go_sem]; done) | (simp [go_sem]; omega))) | ((with_reducible refine Below.setCell ?_ ?_ _); rotate_left; focus (first | omega | (simp [go_sem]; done) | (simp [go_sem]; omega))) | (with_reducible refine Below.drew ?_) | (with_reducible refine below_drewN _ ?_)))).mono ?_; rintro e w8 ⟨rfl, hbel⟩; obtain ⟨o3, j3, rfl⟩ := grow_of_below hbel; clear hbel)
  refine bodyPost_ret (by simp [results, Tryd.results21, go_sem, r0, r1, r2, r3, r4]) rfl ⟨rfl, ?_⟩
  repeat (first | (with_reducible exact bb) | ((with_reducible refine below_grow ?_ ?_); rotate_left; focus (first | omega | (simp [go_sem]; done) | (simp [go_sem]; omega))) | ((with_reducible refine Below.alloc ?_ ?_ _); rotate_left; focus (first | omega | (simp [go_sem]; done) | (simp [go_sem]; omega))) | ((with_reducible refine Below.setCell ?_ ?_ _); rotate_left; focus (first | omega | (simp [go_sem]; done) | (simp [go_sem]; omega))) | (with_reducible refine Below.drew ?_) | (with_reducible refine below_drewN _ ?_))
end Go.Proofs.YtalklogopepjpaaDoor.Ca
