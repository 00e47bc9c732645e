/- Pick. -/
import Derived.Test.YtcgecgagecobeaaSH
namespace Go.Proofs.Ytcgecgagecobeaa
open Go.RowKit Go.Shelf

theorem pick_calls (x : Int) (w : World) : Calls Try.prog 17 #[.int .i64 x, .int .i64 2147483646] w fun e w' => e = .returned (.int .i64 (stp x)) ∧ Below w.heap.size w w' := by
  obtain ⟨t1, t2, t3⟩ := tmod_V x
  obtain ⟨s, hs⟩ : ∃ s, stp x = s := ⟨_, rfl⟩
  obtain ⟨r, hr⟩ : ∃ r, x.tmod 2147483646 = r := ⟨_, rfl⟩
  have hsr : (s : Int) = r % 2147483646 := by rw [← hs, ← hr, t3]; unfold stp; omega
  rw [hr] at t1 t2
  rw [hs]
  clear hs t3
  by_cases h : r < 0
  · have e1 : IntKind.i64.wrap (r + 2147483646) = (s : Int) := by rw [IntWalk.i64_in _ (by omega)]; omega
    clear hsr
    go_enter Try.func17, Try.ntmps17
    go_wp2
    refine bodyPost_ret (by simp [results, Try.results17, go_sem]) rfl ⟨rfl, ?_⟩
    repeat (first | (with_reducible exact Below.refl _ _) | ((with_reducible refine below_grow ?_ ?_); rotate_left; focus (first | omega | (simp [go_sem]; done) | (simp [go_sem]; omega))) | ((with_reducible refine Below.alloc ?_ ?_ _); rotate_left; focus (first | omega | (simp [go_sem]; done) | (simp [go_sem]; omega))) | ((with_reducible refine Below.setCell ?_ ?_ _); rotate_left; focus (first | omega | (simp [go_sem]; done) | (simp [go_sem]; omega))) | (with_reducible refine Below.drew ?_) | (with_reducible refine below_drewN _ ?_))
  · obtain rfl : r = s := by omega
    clear hsr
    go_enter Try.func17, Try.ntmps17
    go_wp2
    refine bodyPost_ret (by simp [results, Try.results17, go_sem]) rfl ⟨rfl, ?_⟩
    repeat (first | (with_reducible exact Below.refl _ _) | ((with_reducible refine below_grow ?_ ?_); rotate_left; focus (first | omega | (simp [go_sem]; done) | (simp [go_sem]; omega))) | ((with_reducible refine Below.alloc ?_ ?_ _); rotate_left; focus (first | omega | (simp [go_sem]; done) | (simp [go_sem]; omega))) | ((with_reducible refine Below.setCell ?_ ?_ _); rotate_left; focus (first | omega | (simp [go_sem]; done) | (simp [go_sem]; omega))) | (with_reducible refine Below.drew ?_) | (with_reducible refine below_drewN _ ?_))
end Go.Proofs.Ytcgecgagecobeaa
