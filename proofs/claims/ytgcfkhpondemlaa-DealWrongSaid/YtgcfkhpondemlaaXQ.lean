/- Index. -/
import Derived.Test.YtgcfkhpondemlaaXG
import Derived.Test.YtgcfkhpondemlaaXI
import Derived.Test.YtgcfkhpondemlaaXQm
namespace Go.Proofs.Ytgcfkhpondemlaa.Ca
open Go.RowKit
open Go.Proofs.DB (ct bt Pd Rd lack rk Sb left wo)

set_option maxRecDepth 100000 in
set_option maxHeartbeats 4000000 in
theorem completes_yes (d p : Nat → Nat) (hp : Pd p) (hd : Rd d) (h : DB.In p d) (w : World) : Calls Try.prog 29 #[.agg #[.int .u64 (d 0 : Nat), .int .u64 (d 1 : Nat), .int .u64 (d 2 : Nat), .int .u64 (d 3 : Nat)], .agg #[.int .u64 (p 0 : Nat), .int .u64 (p 1 : Nat), .int .u64 (p 2 : Nat), .int .u64 (p 3 : Nat)]] w fun e w' => e = .returned (.bool true) ∧ Below w.heap.size w w' := by
  have IX := Lib.hid (index_deal p)
  have A := Lib.hid (fun i (hi : i < 4) => show bits .andNot .u64 (p i : Int) (d i : Int) = 0 by
    have lp := Nat.lt_trans (hp.lt i hi) (show 2 ^ 52 < 18446744073709551616 by decide)
    have ld := Nat.lt_trans (hd.lt i hi) (show 2 ^ 52 < 18446744073709551616 by decide)
    rw [u64_andNot_nat _ _ lp ld, DB.and_not_wo lp ld]
    have : wo (p i) (d i) = 0 := DB.bt_ext fun j => by
      rw [DB.bt_wo _ lp]
      have := h i hi j
      rw [show bt 0 j = 0 by simp [bt]]
      omega
    rw [this]; rfl)
  clear hp hd h
  go_enter Try.func29, Try.ntmps29
  go_upto_region 2 with fail
  generalize hV : World.alloc (World.alloc w _) _ = V
  have b0 : blk V w.heap.size (#[.int .u64 (d 0 : Nat), .int .u64 (d 1 : Nat), .int .u64 (d 2 : Nat), .int .u64 (d 3 : Nat)]) 28 := by rw [← hV]; exact blk_alloc (blk_new _ _ _) _
  have bb : Below w.heap.size w V := by rw [← hV]; repeat (first | (with_reducible exact Below.refl _ _) | ((with_reducible refine below_grow ?_ ?_); rotate_left; focus (first | omega | (simp [go_sem]; done) | (simp [go_sem]; omega))) | ((with_reducible refine Below.alloc ?_ ?_ _); rotate_left; focus (first | omega | (simp [go_sem]; done) | (simp [go_sem]; omega))) | ((with_reducible refine Below.setCell ?_ ?_ _); rotate_left; focus (first | omega | (simp [go_sem]; done) | (simp [go_sem]; omega))) | (with_reducible refine Below.drew ?_) | (with_reducible refine below_drewN _ ?_))
  clear hV
  go_loopw [5, 6, 8] (fun s5 s6 s8 wr => ∃ i : Nat, i ≤ 4 ∧ s8 = .int .i64 i ∧ wr = V) (fun _ _ s8 _ => 4 - (intOf s8).toNat)
  case atStart => exact ⟨0, by decide, rfl, rfl⟩
  case round =>
    obtain ⟨i, hi, rfl, rfl⟩ := hrel
    by_cases hlt : i < 4
    · have ix := IX.out i hlt wr
      have hlt2 : (i : Int) < 4 := by omega
      have e1 : IntKind.i64.wrap ((i : Int) + 1) = (i : Int) + 1 := IntWalk.i64_in _ (by omega)
      have a0 := A.out i hlt
      have kd := dcell b0 i hlt
      have HL := Lib.hid hlt
      obtain ⟨x, hx⟩ : ∃ x, p i = x := ⟨_, rfl⟩
      obtain ⟨y, hy⟩ : ∃ x, d i = x := ⟨_, rfl⟩
      rw [hx] at ix a0
      rw [hy] at a0 kd
      clear hx hy hlt hi
      go_wp2
      go_roundw
      case rel => exact ⟨i + 1, HL.out, by go_num, trivial⟩
      case measure => simp [intOf]; have := HL.out; omega
    · obtain rfl : i = 4 := by omega
      clear hlt hi
      go_wp2
      go_ret
      exact ⟨rfl, bb⟩
end Go.Proofs.Ytgcfkhpondemlaa.Ca
