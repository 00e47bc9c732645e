/- KeptBytes: a list that was lent is as it was, and so are the marks behind it. -/
import Derived.Test.YtblmdnmnodogiaaDoorKMb
namespace Go.Proofs.YtblmdnmnodogiaaDoor
open Go.RowKit

set_option maxRecDepth 100000 in
set_option maxHeartbeats 4000000 in
theorem kept_calls (g cap : Nat) (v2 : Value) (xs : List Nat) (w : World) (hn : xs.length ≤ 10000) (hcap : xs.length + 12 ≤ cap) (hg : ∀ (j : Nat) (x : Nat), (xs ++ mbs 1 12)[j]? = some x → w.cell? ⟨g, j, none⟩ = some (u8v x)) (hS : SlB w v2 xs) :
    Calls Tryd.prog 37 #[.slice (some ⟨g, 0, none⟩) xs.length cap, v2] w fun e w' => e = .returned (.bool true) ∧ Below w.heap.size w w' := by
  obtain ⟨p, c, rfl, hc, hx⟩ := hS
  obtain ⟨n, hnn⟩ : ∃ n, xs.length = n := ⟨_, rfl⟩
  have HG := Lib.hid hg
  have HX := Lib.hid (fun (h : 0 < n) => hx (by rintro rfl; simp at hnn; omega))
  rw [hnn] at hn hcap hc ⊢
  have HC := Lib.hid hcap
  have e0 : IntKind.i64.wrap ((n : Int) + 12) = (n : Int) + 12 := IntWalk.i64_in _ (by omega)
  have hcap2 : (n : Int) + 12 ≤ cap := by omega
  clear hg hx
  go_enter Tryd.func37, Tryd.ntmps37
  go_wp2
  go_loopw [6] (fun s6 wr => ∃ i : Nat, s6 = .int .i64 i ∧ i ≤ n + 12 ∧ Below w.heap.size w wr) (fun s6 _ => n + 12 - (intOf s6).toNat)
  case atStart => exact ⟨0, rfl, by omega, Below.refl _ _⟩
  case round =>
    obtain ⟨i, rfl, hi, cb⟩ := hrel
    by_cases h1 : i < n + 12
    · have i1 : (i : Int) < (n : Int) + 12 := by omega
      have i1' : (i : Int) < ((n + 12 : Nat) : Int) := by omega
      have u1 : IntKind.i64.wrap ((i : Int) + 1) = (i : Int) + 1 := IntWalk.i64_in _ (by omega)
      by_cases h2 : i < n
      · have i2 : (i : Int) < (n : Int) := by omega
        have i3 : decide (n ≤ i) = false := by simp; omega
        have i4 : decide ((n : Int) ≤ (i : Int)) = false := by simp; omega
        obtain ⟨b, off, rfl, hb, hx⟩ := HX.out (by omega)
        obtain ⟨x, hxi⟩ : ∃ x, xs[i]? = some x := ⟨_, List.getElem?_eq_getElem (by omega)⟩
        have f0 : w.cell? ⟨g, i, none⟩ = some (u8v x) := HG.out i x (by rw [List.getElem?_append_left (by omega)]; exact hxi)
        have f1 : wr.cell? ⟨g, i, none⟩ = some (.int .u8 x) := (cb.cell (p := ⟨g, i, none⟩) (World.block_lt_of_cell? w _ f0)).trans f0
        have f2 : wr.cell? ⟨b, off + i, none⟩ = some (.int .u8 x) := (cb.cell (p := ⟨b, off + i, none⟩) hb).trans (hx i x hxi)
        have CB := Lib.hid cb
        have hbs := cb.size
        clear hxi hx hb f0 cb
        go_upto_region 7 with fail
        go_quiet (fail)
        go_wp2
        go_roundw
        case rel => exact ⟨i + 1, by go_num, by omega, by repeat (first | (with_reducible exact CB.out) | ((with_reducible refine below_grow ?_ ?_); rotate_left; focus (first | omega | (simp [go_sem]; done) | (simp [go_sem]; omega))) | ((with_reducible refine Below.alloc ?_ ?_ _); rotate_left; focus (first | omega | (simp [go_sem]; done) | (simp [go_sem]; omega))) | ((with_reducible refine Below.setCell ?_ ?_ _); rotate_left; focus (first | omega | (simp [go_sem]; done) | (simp [go_sem]; omega))) | (with_reducible refine Below.drew ?_) | (with_reducible refine below_drewN _ ?_))⟩
        case measure => simp [intOf]; omega
      · obtain ⟨d, hd⟩ : ∃ d, i = n + d := ⟨i - n, by omega⟩
        have i2 : decide (i < n) = false := by simp; omega
        have i2' : decide ((i : Int) < (n : Int)) = false := by simp; omega
        have i3 : (n : Int) ≤ (i : Int) := by omega
        have i3' : n ≤ i := by omega
        have i4 : IntKind.i64.wrap ((i : Int) - (n : Int)) = (d : Int) := by rw [IntWalk.i64_in _ (by omega)]; omega
        have f0 : w.cell? ⟨g, i, none⟩ = some (u8v (mb 1 d)) := HG.out i _ (by rw [List.getElem?_append_right (by omega), hnn, show i - n = d by omega]; exact mbs_at 1 12 d (by omega))
        have H1 : Hid (∀ W : World, Calls Tryd.prog 53 #[.int .i64 1, .int .i64 d] W fun e w' => e = .returned (.int .u8 (mb 1 d : Nat)) ∧ W = w') := Lib.hid (markByte_calls 1 d (by decide) (by omega))
        obtain ⟨x, hx⟩ : ∃ x, mb 1 d = x := ⟨_, rfl⟩
        rw [hx] at f0 H1
        have f1 : wr.cell? ⟨g, i, none⟩ = some (.int .u8 x) := (cb.cell (p := ⟨g, i, none⟩) (World.block_lt_of_cell? w _ f0)).trans f0
        have CB := Lib.hid cb
        have hbs := cb.size
        clear hx hd HX h2 f0 cb
        go_upto_region 7 with fail
        go_quiet ((go_at_call 53; exact Calls.quiet_of_same ((H1.out _).mono fun e w1 h => ⟨h.1, h.2.symm⟩)))
        go_wp2
        go_roundw
        case rel => exact ⟨i + 1, by go_num, by omega, by repeat (first | (with_reducible exact CB.out) | ((with_reducible refine below_grow ?_ ?_); rotate_left; focus (first | omega | (simp [go_sem]; done) | (simp [go_sem]; omega))) | ((with_reducible refine Below.alloc ?_ ?_ _); rotate_left; focus (first | omega | (simp [go_sem]; done) | (simp [go_sem]; omega))) | ((with_reducible refine Below.setCell ?_ ?_ _); rotate_left; focus (first | omega | (simp [go_sem]; done) | (simp [go_sem]; omega))) | (with_reducible refine Below.drew ?_) | (with_reducible refine below_drewN _ ?_))⟩
        case measure => simp [intOf]; omega
    · obtain rfl : i = n + 12 := by omega
      go_wp2
      refine bodyPost_ret (by simp [results, Tryd.results37, go_sem]) rfl ⟨rfl, cb⟩
end Go.Proofs.YtblmdnmnodogiaaDoor
