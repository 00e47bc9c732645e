/- has, length, OnesCount16, OnesCount64, Right. -/
import Derived.Test.YtgndhdcnofblaaaDoorHB0
import Derived.Test.YtgndhdcnofblaaaDoorG
import Derived.Test.YtgndhdcnofblaaaDoorProg
import Derived.Lib.Hide
import Derived.Deep.RegionWith
import Derived.Lib.BitFns
import Derived.Laws.BitsAllLaws
namespace Go.Proofs.YtgndhdcnofblaaaDoor
open Go.RowKit

theorem has_calls (h r : Nat) (hh : h < 65536) (hr : r < 16) (w : World) : Calls Tryd.prog 53 #[.int .u16 h, .int .i64 r] w fun e w' => e = .returned (.bool (decide (h / 2 ^ r % 2 = 1))) ∧ w = w' := by
  have hmn : min r 64 = r := by omega
  have h2 : h / 2 ^ r ≤ h := Nat.div_le_self _ _
  have e0 : (h : Int) / (2 : Int) ^ r = ((h / 2 ^ r : Nat) : Int) := by simp
  obtain ⟨q, hq⟩ : ∃ q, h / 2 ^ r = q := ⟨_, rfl⟩
  rw [hq] at e0 h2 ⊢
  have e1 : bits .and .u16 (q : Int) 1 = ((q % 2 : Nat) : Int) := by
    have := u16_and_nat q 1 (by omega) (by decide)
    rw [Nat.and_one_is_mod] at this
    exact this
  go_enter Tryd.func53, Tryd.ntmps53
  go_wp2
  go_ret
  refine ⟨?_, rfl⟩
  have : (((q % 2 : Nat) : Int) == 1) = decide (q % 2 = 1) := by
    by_cases hq : q % 2 = 1
    · rw [hq]; rfl
    · rw [decide_eq_false hq, beq_eq_false_iff_ne]; omega
  simpa using this
theorem pop_len0 : ∀ a : Fin 32, ∀ b : Fin 256, Lib.pop8 (a.val : Int) + Lib.pop8 (b.val : Int) = (len (256 * a.val + b.val) : Int) := by decide +kernel
theorem pop_len (h : Nat) (hh : h < 8192) : Lib.pop8 ((h / 256 : Nat) : Int) + Lib.pop8 ((h % 256 : Nat) : Int) = (len h : Int) := by
  have := pop_len0 ⟨h / 256, by omega⟩ ⟨h % 256, Nat.mod_lt _ (by decide)⟩
  simp only [Nat.div_add_mod] at this
  exact this
set_option maxRecDepth 100000 in
theorem ones16_calls (h : Nat) (hh : h < 8192) (w : World) : Calls Tryd.prog 58 #[.int .u16 h] w fun e w' => e = .returned (.int .i64 (len h)) ∧ Below w.heap.size w w' := by
  have hp := pop_len h hh
  have hl := len_le h
  have e1 : (h : Int) / 256 = ((h / 256 : Nat) : Int) := by simp
  have e2 : bits .and .u16 (h : Int) 255 = ((h % 256 : Nat) : Int) := by
    have := u16_and_nat h 255 (by omega) (by decide)
    rw [show 255 = 2 ^ 8 - 1 from rfl, Nat.and_two_pow_sub_one_eq_mod] at this
    exact this
  have q1 : h / 256 ≤ 255 := by omega
  have q2 : h % 256 ≤ 255 := by omega
  obtain ⟨q, hq⟩ : ∃ q, h / 256 = q := ⟨_, rfl⟩
  obtain ⟨r, hr⟩ : ∃ q, h % 256 = q := ⟨_, rfl⟩
  obtain ⟨n, hn⟩ : ∃ q, len h = q := ⟨_, rfl⟩
  rw [hq] at e1 q1 hp
  rw [hr] at e2 q2 hp
  rw [hn] at hp hl ⊢
  have z1 : (q : Int) ≤ 255 := by omega
  have z2 : (r : Int) ≤ 255 := by omega
  have i1 := fun W => Lib.run_index_pop8tab (P := Tryd.prog) (w := W) 9 .u16 (q : Int) Tryd.underlying9 (by omega) z1
  have i2 := fun W => Lib.run_index_pop8tab (P := Tryd.prog) (w := W) 9 .u16 (r : Int) Tryd.underlying9 (by omega) z2
  obtain ⟨x, hx⟩ : ∃ x, Lib.pop8 (q : Int) = x := ⟨_, rfl⟩
  obtain ⟨y, hy⟩ : ∃ x, Lib.pop8 (r : Int) = x := ⟨_, rfl⟩
  rw [hx] at i1 hp
  rw [hy] at i2 hp
  have e3 : IntKind.u8.wrap ((n : Nat) : Int) = n := by rw [IntKind.wrap_u8', Int.emod_eq_of_lt (by omega) (by omega)]
  have e4 : IntKind.i64.wrap ((n : Nat) : Int) = n := IntWalk.i64_in _ (by omega)
  clear hq hr hn hx hy q1 q2
  go_enter Tryd.func58, Tryd.ntmps58
  go_wp2
  go_region
  all_goals go_wp2
  go_ret
  refine ⟨rfl, by repeat (first | (with_reducible exact Below.refl _ _) | ((with_reducible refine below_grow ?_ ?_); rotate_left; focus (first | omega | (simp [go_sem]; done) | (simp [go_sem]; omega))) | ((with_reducible refine Below.alloc ?_ ?_ _); rotate_left; focus (first | omega | (simp [go_sem]; done) | (simp [go_sem]; omega))) | ((with_reducible refine Below.setCell ?_ ?_ _); rotate_left; focus (first | omega | (simp [go_sem]; done) | (simp [go_sem]; omega))) | (with_reducible refine Below.drew ?_) | (with_reducible refine below_drewN _ ?_))⟩
end Go.Proofs.YtgndhdcnofblaaaDoor
