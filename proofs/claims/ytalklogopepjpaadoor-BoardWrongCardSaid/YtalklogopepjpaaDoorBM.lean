/- deal.Read: the walk. -/
import Derived.Test.YtalklogopepjpaaDoorBL
namespace Go.Proofs.YtalklogopepjpaaDoor.Ca
open Go.RowKit
open Go.Proofs.DB (Pd Rd)

theorem trim_length (l p : List UInt8) : (Lib.trimPrefix l p).length ≤ l.length := by
  unfold Lib.trimPrefix
  split
  · simp
  · exact Nat.le_refl _
theorem cutp_calls (l : List UInt8) (w : World) : Calls Tryd.prog 48 #[strv l, .string ⟨#[78, 58]⟩] w fun e w' => e = .returned (.tuple #[strv (Lib.trimPrefix l [78, 58]), .bool (Lib.hasPrefix l [78, 58])]) ∧ w = w' :=
  (Tryd.strings_CutPrefix ⟨l.toArray⟩ ⟨#[78, 58]⟩ w).mono fun e w' ⟨h, h2⟩ => ⟨by simpa using h, h2.symm⟩
set_option maxRecDepth 100000 in
set_option maxHeartbeats 2000000 in
theorem dread_none (l : List UInt8) (hl : l.length ≤ 140737488355328) (h : Lib.hasPrefix l [78, 58] = false ∨ (Lib.splitN (Lib.trimPrefix l [78, 58]) [32] 5).length ≠ 4) (w : World) (_ : EnvB w) :
    Calls Tryd.prog 36 #[strv l] w fun e w' => e = .returned (rdV none) ∧ Below w.heap.size w w' := by
  have C := Lib.hid (cutp_calls l)
  have ht := trim_length l [78, 58]
  have S := Lib.hid (fun W (_ : Below w.heap.size w W) => splitn_calls (Lib.trimPrefix l [78, 58]) (by omega) 5 (by decide) (by decide) W)
  clear ht
  obtain ⟨T, hT⟩ : ∃ T, Lib.trimPrefix l [78, 58] = T := ⟨_, rfl⟩
  obtain ⟨f, hf⟩ : ∃ f, Lib.hasPrefix l [78, 58] = f := ⟨_, rfl⟩
  rw [hT] at C S h
  rw [hf] at C h
  obtain ⟨k, hk⟩ : ∃ k, (Lib.splitN T [32] 5).length = k := ⟨_, rfl⟩
  rw [hk] at h
  simp only [hk] at S
  have z : rdV none = .tuple #[.agg #[.int .u64 0, .int .u64 0, .int .u64 0, .int .u64 0], .int .i64 61] := rfl
  rw [z]
  clear hT hf hk z hl
  cases f with
  | false =>
    clear h
    go_enter Tryd.func36, Tryd.ntmps36
    go_upto_region 4 with (first | (go_at_call 48; refine (C.out _).mono ?_; rintro e w9 ⟨rfl, rfl⟩) | (go_at_call 34; refine (S.out _ (by repeat (first | (with_reducible exact Below.refl _ _) | ((with_reducible refine below_grow ?_ ?_); rotate_left; focus (first | omega | (simp [go_sem]; done) | (simp [go_sem]; omega))) | ((with_reducible refine Below.alloc ?_ ?_ _); rotate_left; focus (first | omega | (simp [go_sem]; done) | (simp [go_sem]; omega))) | ((with_reducible refine Below.setCell ?_ ?_ _); rotate_left; focus (first | omega | (simp [go_sem]; done) | (simp [go_sem]; omega))) | (with_reducible refine Below.drew ?_) | (with_reducible refine below_drewN _ ?_)))).mono ?_; rintro e w9 ⟨⟨c, rfl⟩, hc, hb, hsz⟩; clear hc))
    have c0 : blk w9 w.heap.size #[.int .u64 0, .int .u64 0, .int .u64 0, .int .u64 0] 39 := blk_below (blk_new _ _ _) hb (by simp)
    have bb : Below w.heap.size w w9 := (show Below w.heap.size w _ by repeat (first | (with_reducible exact Below.refl _ _) | ((with_reducible refine below_grow ?_ ?_); rotate_left; focus (first | omega | (simp [go_sem]; done) | (simp [go_sem]; omega))) | ((with_reducible refine Below.alloc ?_ ?_ _); rotate_left; focus (first | omega | (simp [go_sem]; done) | (simp [go_sem]; omega))) | ((with_reducible refine Below.setCell ?_ ?_ _); rotate_left; focus (first | omega | (simp [go_sem]; done) | (simp [go_sem]; omega))) | (with_reducible refine Below.drew ?_) | (with_reducible refine below_drewN _ ?_))).trans (hb.mono (by simp))
    clear hb hsz
    have f0 : ∀ j, w9.frozen? ⟨w.heap.size, j, none⟩ = false := fun j => blk_free c0 j
    have r0 := blk_cell c0 0; have r1 := blk_cell c0 1; have r2 := blk_cell c0 2; have r3 := blk_cell c0 3
    simp only [List.getElem?_toArray, List.getElem?_cons_zero, List.getElem?_cons_succ] at r0 r1 r2 r3
    haveI i0 : NeZero (inW w.heap.size w9) := inW_mk (blk_lt c0)
    go_wp2
    refine bodyPost_ret (by simp [results, Tryd.results36, go_sem, r0, r1, r2, r3]) rfl ⟨rfl, ?_⟩
    repeat (first | (with_reducible exact bb) | ((with_reducible refine below_grow ?_ ?_); rotate_left; focus (first | omega | (simp [go_sem]; done) | (simp [go_sem]; omega))) | ((with_reducible refine Below.alloc ?_ ?_ _); rotate_left; focus (first | omega | (simp [go_sem]; done) | (simp [go_sem]; omega))) | ((with_reducible refine Below.setCell ?_ ?_ _); rotate_left; focus (first | omega | (simp [go_sem]; done) | (simp [go_sem]; omega))) | (with_reducible refine Below.drew ?_) | (with_reducible refine below_drewN _ ?_))
  | true =>
    have h4 : ¬ (k : Int) = 4 := by
      rcases h with h | h
      · cases h
      · omega
    clear h
    go_enter Tryd.func36, Tryd.ntmps36
    go_upto_region 4 with (first | (go_at_call 48; refine (C.out _).mono ?_; rintro e w9 ⟨rfl, rfl⟩) | (go_at_call 34; refine (S.out _ (by repeat (first | (with_reducible exact Below.refl _ _) | ((with_reducible refine below_grow ?_ ?_); rotate_left; focus (first | omega | (simp [go_sem]; done) | (simp [go_sem]; omega))) | ((with_reducible refine Below.alloc ?_ ?_ _); rotate_left; focus (first | omega | (simp [go_sem]; done) | (simp [go_sem]; omega))) | ((with_reducible refine Below.setCell ?_ ?_ _); rotate_left; focus (first | omega | (simp [go_sem]; done) | (simp [go_sem]; omega))) | (with_reducible refine Below.drew ?_) | (with_reducible refine below_drewN _ ?_)))).mono ?_; rintro e w9 ⟨⟨c, rfl⟩, hc, hb, hsz⟩; clear hc))
    have c0 : blk w9 w.heap.size #[.int .u64 0, .int .u64 0, .int .u64 0, .int .u64 0] 39 := blk_below (blk_new _ _ _) hb (by simp)
    have bb : Below w.heap.size w w9 := (show Below w.heap.size w _ by repeat (first | (with_reducible exact Below.refl _ _) | ((with_reducible refine below_grow ?_ ?_); rotate_left; focus (first | omega | (simp [go_sem]; done) | (simp [go_sem]; omega))) | ((with_reducible refine Below.alloc ?_ ?_ _); rotate_left; focus (first | omega | (simp [go_sem]; done) | (simp [go_sem]; omega))) | ((with_reducible refine Below.setCell ?_ ?_ _); rotate_left; focus (first | omega | (simp [go_sem]; done) | (simp [go_sem]; omega))) | (with_reducible refine Below.drew ?_) | (with_reducible refine below_drewN _ ?_))).trans (hb.mono (by simp))
    clear hb hsz
    have f0 : ∀ j, w9.frozen? ⟨w.heap.size, j, none⟩ = false := fun j => blk_free c0 j
    have r0 := blk_cell c0 0; have r1 := blk_cell c0 1; have r2 := blk_cell c0 2; have r3 := blk_cell c0 3
    simp only [List.getElem?_toArray, List.getElem?_cons_zero, List.getElem?_cons_succ] at r0 r1 r2 r3
    haveI i0 : NeZero (inW w.heap.size w9) := inW_mk (blk_lt c0)
    go_wp2
    refine bodyPost_ret (by simp [results, Tryd.results36, go_sem, r0, r1, r2, r3]) rfl ⟨rfl, ?_⟩
    repeat (first | (with_reducible exact bb) | ((with_reducible refine below_grow ?_ ?_); rotate_left; focus (first | omega | (simp [go_sem]; done) | (simp [go_sem]; omega))) | ((with_reducible refine Below.alloc ?_ ?_ _); rotate_left; focus (first | omega | (simp [go_sem]; done) | (simp [go_sem]; omega))) | ((with_reducible refine Below.setCell ?_ ?_ _); rotate_left; focus (first | omega | (simp [go_sem]; done) | (simp [go_sem]; omega))) | (with_reducible refine Below.drew ?_) | (with_reducible refine below_drewN _ ?_))
end Go.Proofs.YtalklogopepjpaaDoor.Ca
