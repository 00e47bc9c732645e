/- Owner. -/
import Derived.Test.YtalklogopepjpaaDoorYJ
import Derived.Test.YtalklogopepjpaaDoorBA
namespace Go.Proofs.YtalklogopepjpaaDoor.Ca
open Go.RowKit
open Go.Proofs.DB (Pd Rd bt lack put wo left)

set_option maxRecDepth 100000 in
set_option maxHeartbeats 4000000 in
theorem owner_calls (q : Nat → Nat) (h64 : ∀ i, i < 4 → q i < 18446744073709551616) (c s : Nat) (hc : c < 52) (hs : s < 4) (hb : bt (q s) c = 1) (hn : ∀ i, i < s → bt (q i) c = 0) (w : World) :
    Calls Tryd.prog 30 #[.agg #[.int .u64 (q 0 : Nat), .int .u64 (q 1 : Nat), .int .u64 (q 2 : Nat), .int .u64 (q 3 : Nat)], .int .u8 c] w fun e w' => e = .returned (.tuple #[.int .u8 s, .bool true]) ∧ Below w.heap.size w w' := by
  have R := Lib.hid (right_yes c hc)
  have IX := Lib.hid (index_deal q)
  have hmn : min c 64 = c := by omega
  have A := Lib.hid (fun i (hi : i < 4) => show bits .and .u64 ((q i / 2 ^ c : Nat) : Int) 1 = (bt (q i) c : Int) by
    have := u64_and_nat (q i / 2 ^ c) 1 (Nat.lt_of_le_of_lt (Nat.div_le_self _ _) (h64 i hi)) (by decide)
    rw [Nat.and_one_is_mod] at this
    exact this)
  have HN := Lib.hid hn
  clear h64 hn
  go_enter Tryd.func30, Tryd.ntmps30
  go_upto_region 4 with (go_at_call 40; refine (R.out _).mono ?_; rintro e w9 ⟨rfl, rfl⟩)
  generalize hV : World.alloc w _ = V
  have bb : Below w.heap.size w V := by rw [← hV]; repeat (first | (with_reducible exact Below.refl _ _) | ((with_reducible refine below_grow ?_ ?_); rotate_left; focus (first | omega | (simp [go_sem]; done) | (simp [go_sem]; omega))) | ((with_reducible refine Below.alloc ?_ ?_ _); rotate_left; focus (first | omega | (simp [go_sem]; done) | (simp [go_sem]; omega))) | ((with_reducible refine Below.setCell ?_ ?_ _); rotate_left; focus (first | omega | (simp [go_sem]; done) | (simp [go_sem]; omega))) | (with_reducible refine Below.drew ?_) | (with_reducible refine below_drewN _ ?_))
  clear hV
  go_loopw [6, 7, 12] (fun s6 s7 s12 wr => ∃ i : Nat, i ≤ s ∧ s12 = .int .i64 i ∧ wr = V) (fun _ _ s12 _ => 4 - (intOf s12).toNat)
  case atStart => exact ⟨0, Nat.zero_le _, rfl, rfl⟩
  case round =>
    obtain ⟨i, hi, rfl, rfl⟩ := hrel
    have hi4 : i < 4 := by omega
    have ix := IX.out i hi4 wr
    have hlt2 : (i : Int) < 4 := by omega
    have e1 : IntKind.i64.wrap ((i : Int) + 1) = (i : Int) + 1 := IntWalk.i64_in _ (by omega)
    have e2 : IntKind.u8.wrap (i : Int) = (i : Int) := u8_wrap (by omega) (by omega)
    have a := A.out i hi4
    have e0 : ((q i : Nat) : Int) / (2 : Int) ^ c = ((q i / 2 ^ c : Nat) : Int) := by simp
    by_cases hlt : i < s
    · rw [HN.out i hlt] at a
      obtain ⟨z, hz⟩ : ∃ z, q i / 2 ^ c = z := ⟨_, rfl⟩
      obtain ⟨y, hy⟩ : ∃ z, q i = z := ⟨_, rfl⟩
      rw [hz] at a e0
      rw [hy] at e0 ix
      have HL := Lib.hid hlt
      clear hz hy hlt hi hi4 hb hs
      go_wp2
      go_roundw
      case rel => exact ⟨i + 1, HL.out, by go_num, trivial⟩
      case measure => simp [intOf]; omega
    · obtain rfl : i = s := by omega
      rw [hb] at a
      obtain ⟨z, hz⟩ : ∃ z, q i / 2 ^ c = z := ⟨_, rfl⟩
      obtain ⟨y, hy⟩ : ∃ z, q i = z := ⟨_, rfl⟩
      rw [hz] at a e0
      rw [hy] at e0 ix
      clear hz hy hlt hi hi4 hb hs
      go_wp2
      refine bodyPost_ret (by simp [results, Tryd.results30, go_sem]) rfl ⟨rfl, bb⟩
end Go.Proofs.YtalklogopepjpaaDoor.Ca
