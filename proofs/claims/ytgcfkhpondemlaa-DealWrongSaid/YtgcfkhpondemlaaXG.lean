/- Ways. -/
import Derived.Test.YtgcfkhpondemlaaXF
namespace Go.Proofs.Ytgcfkhpondemlaa.Ca
open Go.RowKit
open Go.Proofs.DB (ct bt Pd lack W2 W3 W4)

theorem index_ways (f : Nat → Nat) (W : World) : (Instr.index 63 (.agg (wc f)) (.int .i64 0)).run Try.prog W = .ok (.agg #[.int .u32 (pt ((f 0)) 0), .int .u32 (pt ((f 0)) 1), .int .u32 (pt ((f 0)) 2), .int .u32 (pt ((f 0)) 3)]) W := by
  have u := run_underlying Try.underlying63 W
  have u2 := run_underlying Try.underlying26 W
  have z := Try.sizeOf26 W
  have a := Try.isAgg26 W
  simp [Instr.index, Sem.run_bind, u, z, wc, go_sem]
theorem ways_yes (p : Nat → Nat) (hp : Pd p) (w : World) : Calls Try.prog 10 #[.agg #[.int .u64 (p 0 : Nat), .int .u64 (p 1 : Nat), .int .u64 (p 2 : Nat), .int .u64 (p 3 : Nat)]] w fun e w' => e = .returned (.tuple #[.agg #[.int .u32 (pt ((DB.ways bin p)) 0), .int .u32 (pt ((DB.ways bin p)) 1), .int .u32 (pt ((DB.ways bin p)) 2), .int .u32 (pt ((DB.ways bin p)) 3)], .int .i64 0]) ∧ Below w.heap.size w w' := by
  have P := Lib.hid (partial_yes p hp)
  have F := Lib.hid (waysFrom_calls p hp)
  have ix := index_ways (Wv p)
  rw [show Wv p 0 = DB.ways bin p from rfl] at ix
  obtain ⟨m, hm⟩ : ∃ m, DB.ways bin p = m := ⟨_, rfl⟩
  rw [hm] at ix ⊢
  obtain ⟨c, hc⟩ : ∃ c, wc (Wv p) = c := ⟨_, rfl⟩
  rw [hc] at F ix
  clear hm hp hc
  go_enter Try.func10, Try.ntmps10
  go_wp2_with (first | (go_at_call 18; refine (P.out _).mono ?_; rintro e w9 ⟨rfl, hbel⟩; obtain ⟨o1, j1, rfl⟩ := grow_of_below hbel; clear hbel) | (go_at_call 28; refine (F.out _).mono ?_; rintro e w9 ⟨rfl, hbel⟩; obtain ⟨o2, j2, rfl⟩ := grow_of_below hbel; clear hbel))
  refine bodyPost_ret (by simp [results, Try.results10, go_sem]) rfl ⟨rfl, ?_⟩
  repeat (first | (with_reducible exact Below.refl _ _) | ((with_reducible refine below_grow ?_ ?_); rotate_left; focus (first | omega | (simp [go_sem]; done) | (simp [go_sem]; omega))) | ((with_reducible refine Below.alloc ?_ ?_ _); rotate_left; focus (first | omega | (simp [go_sem]; done) | (simp [go_sem]; omega))) | ((with_reducible refine Below.setCell ?_ ?_ _); rotate_left; focus (first | omega | (simp [go_sem]; done) | (simp [go_sem]; omega))) | (with_reducible refine Below.drew ?_) | (with_reducible refine below_drewN _ ?_))
theorem ways_no (p : Nat → Nat) (h64 : ∀ i, i < 4 → p i < 18446744073709551616) (hp : ¬ Pd p) (w : World) : Calls Try.prog 10 #[.agg #[.int .u64 (p 0 : Nat), .int .u64 (p 1 : Nat), .int .u64 (p 2 : Nat), .int .u64 (p 3 : Nat)]] w fun e w' => e = .returned (.tuple #[.agg #[.int .u32 0, .int .u32 0, .int .u32 0, .int .u32 0], .int .i64 60]) ∧ Below w.heap.size w w' := by
  have P := Lib.hid (partial_no p h64 hp)
  clear hp h64
  go_enter Try.func10, Try.ntmps10
  go_wp2_with (go_at_call 18; refine (P.out _).mono ?_; rintro e w9 ⟨rfl, hbel⟩; obtain ⟨o1, j1, rfl⟩ := grow_of_below hbel; clear hbel)
  refine bodyPost_ret (by simp [results, Try.results10, go_sem]) rfl ⟨rfl, ?_⟩
  repeat (first | (with_reducible exact Below.refl _ _) | ((with_reducible refine below_grow ?_ ?_); rotate_left; focus (first | omega | (simp [go_sem]; done) | (simp [go_sem]; omega))) | ((with_reducible refine Below.alloc ?_ ?_ _); rotate_left; focus (first | omega | (simp [go_sem]; done) | (simp [go_sem]; omega))) | ((with_reducible refine Below.setCell ?_ ?_ _); rotate_left; focus (first | omega | (simp [go_sem]; done) | (simp [go_sem]; omega))) | (with_reducible refine Below.drew ?_) | (with_reducible refine below_drewN _ ?_))
end Go.Proofs.Ytgcfkhpondemlaa.Ca
