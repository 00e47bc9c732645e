/- AuctionLeader: the leader of a contract is as the reference tells. -/
import Derived.Test.YtacgikhedhiaaaaDoorLN
namespace Go.Proofs.YtacgikhedhiaaaaDoor
open Go.RowKit

theorem rseat_calls (d i : Nat) (hd : d < 256) (hi : i ≤ 1000000) (w : World) : Calls Tryd.prog 63 #[.int .u8 d, .int .i64 i] w fun e w' => e = .returned (.int .u8 ((d + i) % 4 : Nat)) ∧ w = w' := by
  have e1 : IntKind.i64.wrap (d : Int) = d := IntWalk.i64_in _ (by omega)
  have e2 : IntKind.i64.wrap ((d : Int) + i) = (d : Int) + i := IntWalk.i64_in _ (by omega)
  have e3 : ((d : Int) + i).tmod 4 = ((d + i) % 4 : Nat) := by rw [Int.tmod_eq_emod_of_nonneg (by omega)]; omega
  have e4 : IntKind.i64.wrap (((d + i) % 4 : Nat) : Int) = ((d + i) % 4 : Nat) := IntWalk.i64_in _ (by omega)
  have e5 : IntKind.u8.wrap (((d + i) % 4 : Nat) : Int) = ((d + i) % 4 : Nat) := u8_wrap (by omega) (by omega)
  obtain ⟨r, hr⟩ : ∃ r, (d + i) % 4 = r := ⟨_, rfl⟩
  rw [hr] at e3 e4 e5 ⊢
  clear hr hd hi
  go_enter Tryd.func63, Tryd.ntmps63
  go_wp2
  go_ret
  exact ⟨rfl, rfl⟩
theorem rleader_calls (l d r e : Nat) (w : World) (h4 : e < 256) :
    Calls Tryd.prog 40 #[ctV (l, d, r, e)] w fun x w' => x = .returned (if l = 0 then .tuple #[.int .u8 0, .int .i64 6] else if l ≤ 7 ∧ d ≤ 4 ∧ r ≤ 2 ∧ e ≤ 3 then .tuple #[.int .u8 ((e + 1) % 4 : Nat), .int .i64 0] else .tuple #[.int .u8 0, .int .i64 2]) ∧ Below w.heap.size w w' := by
  unfold ctV
  simp only
  by_cases h0 : l = 0
  · subst h0
    rw [if_pos rfl]
    go_enter Tryd.func40, Tryd.ntmps40
    go_wp2
    refine bodyPost_ret (by simp [results, Tryd.results40, go_sem]) rfl ⟨rfl, ?_⟩
    repeat (first | (with_reducible exact Below.refl _ _) | ((with_reducible refine below_grow ?_ ?_); rotate_left; focus (first | omega | (simp [go_sem]; done) | (simp [go_sem]; omega))) | ((with_reducible refine Below.alloc ?_ ?_ _); rotate_left; focus (first | omega | (simp [go_sem]; done) | (simp [go_sem]; omega))) | ((with_reducible refine Below.setCell ?_ ?_ _); rotate_left; focus (first | omega | (simp [go_sem]; done) | (simp [go_sem]; omega))) | (with_reducible refine Below.drew ?_) | (with_reducible refine below_drewN _ ?_))
  · rw [if_neg h0]
    have h0' : ¬ (l : Int) = 0 := by omega
    by_cases h1 : l ≤ 7
    · have h1' : ¬ (7 : Int) < l := by omega
      by_cases h2 : d ≤ 4
      · have h2' : ¬ (4 : Int) < d := by omega
        by_cases h3 : r ≤ 2
        · have h3' : ¬ (2 : Int) < r := by omega
          by_cases h5 : e ≤ 3
          · have h5' : ¬ (3 : Int) < e := by omega
            rw [if_pos ⟨h1, h2, h3, h5⟩]
            have L := Lib.hid (rseat_calls e 1 (by omega) (by decide))
            go_enter Tryd.func40, Tryd.ntmps40
            go_wp2_with (go_at_call 63; refine (L.out _).mono ?_; rintro e w9 ⟨rfl, rfl⟩)
            refine bodyPost_ret (by simp [results, Tryd.results40, go_sem]) rfl ⟨rfl, ?_⟩
            repeat (first | (with_reducible exact Below.refl _ _) | ((with_reducible refine below_grow ?_ ?_); rotate_left; focus (first | omega | (simp [go_sem]; done) | (simp [go_sem]; omega))) | ((with_reducible refine Below.alloc ?_ ?_ _); rotate_left; focus (first | omega | (simp [go_sem]; done) | (simp [go_sem]; omega))) | ((with_reducible refine Below.setCell ?_ ?_ _); rotate_left; focus (first | omega | (simp [go_sem]; done) | (simp [go_sem]; omega))) | (with_reducible refine Below.drew ?_) | (with_reducible refine below_drewN _ ?_))
          · have h5' : (3 : Int) < e := by omega
            rw [if_neg (by omega)]
            go_enter Tryd.func40, Tryd.ntmps40
            go_wp2
            refine bodyPost_ret (by simp [results, Tryd.results40, go_sem]) rfl ⟨rfl, ?_⟩
            repeat (first | (with_reducible exact Below.refl _ _) | ((with_reducible refine below_grow ?_ ?_); rotate_left; focus (first | omega | (simp [go_sem]; done) | (simp [go_sem]; omega))) | ((with_reducible refine Below.alloc ?_ ?_ _); rotate_left; focus (first | omega | (simp [go_sem]; done) | (simp [go_sem]; omega))) | ((with_reducible refine Below.setCell ?_ ?_ _); rotate_left; focus (first | omega | (simp [go_sem]; done) | (simp [go_sem]; omega))) | (with_reducible refine Below.drew ?_) | (with_reducible refine below_drewN _ ?_))
        · have h3' : (2 : Int) < r := by omega
          rw [if_neg (by omega)]
          go_enter Tryd.func40, Tryd.ntmps40
          go_wp2
          refine bodyPost_ret (by simp [results, Tryd.results40, go_sem]) rfl ⟨rfl, ?_⟩
          repeat (first | (with_reducible exact Below.refl _ _) | ((with_reducible refine below_grow ?_ ?_); rotate_left; focus (first | omega | (simp [go_sem]; done) | (simp [go_sem]; omega))) | ((with_reducible refine Below.alloc ?_ ?_ _); rotate_left; focus (first | omega | (simp [go_sem]; done) | (simp [go_sem]; omega))) | ((with_reducible refine Below.setCell ?_ ?_ _); rotate_left; focus (first | omega | (simp [go_sem]; done) | (simp [go_sem]; omega))) | (with_reducible refine Below.drew ?_) | (with_reducible refine below_drewN _ ?_))
      · have h2' : (4 : Int) < d := by omega
        rw [if_neg (by omega)]
        go_enter Tryd.func40, Tryd.ntmps40
        go_wp2
        refine bodyPost_ret (by simp [results, Tryd.results40, go_sem]) rfl ⟨rfl, ?_⟩
        repeat (first | (with_reducible exact Below.refl _ _) | ((with_reducible refine below_grow ?_ ?_); rotate_left; focus (first | omega | (simp [go_sem]; done) | (simp [go_sem]; omega))) | ((with_reducible refine Below.alloc ?_ ?_ _); rotate_left; focus (first | omega | (simp [go_sem]; done) | (simp [go_sem]; omega))) | ((with_reducible refine Below.setCell ?_ ?_ _); rotate_left; focus (first | omega | (simp [go_sem]; done) | (simp [go_sem]; omega))) | (with_reducible refine Below.drew ?_) | (with_reducible refine below_drewN _ ?_))
    · have h1' : (7 : Int) < l := by omega
      rw [if_neg (by omega)]
      go_enter Tryd.func40, Tryd.ntmps40
      go_wp2
      refine bodyPost_ret (by simp [results, Tryd.results40, go_sem]) rfl ⟨rfl, ?_⟩
      repeat (first | (with_reducible exact Below.refl _ _) | ((with_reducible refine below_grow ?_ ?_); rotate_left; focus (first | omega | (simp [go_sem]; done) | (simp [go_sem]; omega))) | ((with_reducible refine Below.alloc ?_ ?_ _); rotate_left; focus (first | omega | (simp [go_sem]; done) | (simp [go_sem]; omega))) | ((with_reducible refine Below.setCell ?_ ?_ _); rotate_left; focus (first | omega | (simp [go_sem]; done) | (simp [go_sem]; omega))) | (with_reducible refine Below.drew ?_) | (with_reducible refine below_drewN _ ?_))
theorem led_calls (l d r e : Nat) (w : World) (h4 : e < 256) :
    Calls Tryd.prog 12 #[ctV (l, d, r, e)] w fun x w' => x = .returned (.bool true) ∧ Below w.heap.size w w' := by
  have A := Lib.hid (fun w => leader_calls l d r e w h4)
  have B := Lib.hid (fun w => rleader_calls l d r e w h4)
  have hv : ∃ a f : Nat, (if l = 0 then Value.tuple #[.int .u8 0, .int .i64 6] else if l ≤ 7 ∧ d ≤ 4 ∧ r ≤ 2 ∧ e ≤ 3 then .tuple #[.int .u8 ((e + 1) % 4 : Nat), .int .i64 0] else .tuple #[.int .u8 0, .int .i64 2]) = .tuple #[.int .u8 a, .int .i64 f] ∧ f < 100 := by
    split
    · exact ⟨0, 6, rfl, by decide⟩
    · split
      · exact ⟨(e + 1) % 4, 0, rfl, by decide⟩
      · exact ⟨0, 2, rfl, by decide⟩
  obtain ⟨a, f, hv, hf⟩ := hv
  rw [hv] at A B
  have e1 : IntKind.i64.wrap (f : Int) = f := IntWalk.i64_in _ (by omega)
  unfold ctV at A B ⊢
  simp only at A B ⊢
  clear hv h4
  go_enter Tryd.func12, Tryd.ntmps12
  go_wp2_with (first | (go_at_call 22; refine (A.out _).mono ?_; rintro e w9 ⟨rfl, hbel⟩; obtain ⟨o1, j1, rfl⟩ := grow_of_below hbel; clear hbel) | (go_at_call 40; refine (B.out _).mono ?_; rintro e w9 ⟨rfl, hbel⟩; obtain ⟨o2, j2, rfl⟩ := grow_of_below hbel; clear hbel))
  refine bodyPost_ret (by simp [results, Tryd.results12, go_sem]) rfl ⟨rfl, ?_⟩
  repeat (first | (with_reducible exact Below.refl _ _) | ((with_reducible refine below_grow ?_ ?_); rotate_left; focus (first | omega | (simp [go_sem]; done) | (simp [go_sem]; omega))) | ((with_reducible refine Below.alloc ?_ ?_ _); rotate_left; focus (first | omega | (simp [go_sem]; done) | (simp [go_sem]; omega))) | ((with_reducible refine Below.setCell ?_ ?_ _); rotate_left; focus (first | omega | (simp [go_sem]; done) | (simp [go_sem]; omega))) | (with_reducible refine Below.drew ?_) | (with_reducible refine below_drewN _ ?_))
theorem auctionLeader_calls (l d r e : Nat) (w : World) (h4 : e < 256) (he : Env w) :
    Calls Tryd.prog 4 #[ctV (l, d, r, e)] w fun x w' => x = .returned (.bool true) ∧ Below w.heap.size w w' := by
  have A := Lib.hid (fun w => led_calls l d r e w h4)
  have W := Lib.hid (fun W (hb : Below w.heap.size w W) => awake_calls W (he.below hb))
  unfold ctV at A ⊢
  simp only at A ⊢
  clear he h4
  go_enter Tryd.func4, Tryd.ntmps4
  go_wp2_with (first | (go_at_call 12; refine (A.out _).mono ?_; rintro e w9 ⟨rfl, hbel⟩; obtain ⟨o1, j1, rfl⟩ := grow_of_below hbel; clear hbel) | (go_at_call 11; refine (W.out _ (by repeat (first | (with_reducible exact Below.refl _ _) | ((with_reducible refine below_grow ?_ ?_); rotate_left; focus (first | omega | (simp [go_sem]; done) | (simp [go_sem]; omega))) | ((with_reducible refine Below.alloc ?_ ?_ _); rotate_left; focus (first | omega | (simp [go_sem]; done) | (simp [go_sem]; omega))) | ((with_reducible refine Below.setCell ?_ ?_ _); rotate_left; focus (first | omega | (simp [go_sem]; done) | (simp [go_sem]; omega))) | (with_reducible refine Below.drew ?_) | (with_reducible refine below_drewN _ ?_)))).mono ?_; rintro e w9 ⟨rfl, hbel⟩; obtain ⟨o2, j2, rfl⟩ := grow_of_below hbel; clear hbel))
  refine bodyPost_ret (by simp [results, Tryd.results4, go_sem]) rfl ⟨rfl, ?_⟩
  repeat (first | (with_reducible exact Below.refl _ _) | ((with_reducible refine below_grow ?_ ?_); rotate_left; focus (first | omega | (simp [go_sem]; done) | (simp [go_sem]; omega))) | ((with_reducible refine Below.alloc ?_ ?_ _); rotate_left; focus (first | omega | (simp [go_sem]; done) | (simp [go_sem]; omega))) | ((with_reducible refine Below.setCell ?_ ?_ _); rotate_left; focus (first | omega | (simp [go_sem]; done) | (simp [go_sem]; omega))) | (with_reducible refine Below.drew ?_) | (with_reducible refine below_drewN _ ?_))
theorem leader_walk (l d r e : Nat) (h4 : l < 256 ∧ d < 256 ∧ r < 256 ∧ e < 256) (w : World) (he : Env w) :
    Calls Tryd.prog 4 #[ctV (l, d, r, e)] w fun x w' => x = .returned (.bool true) ∧ Below w.heap.size w w' := auctionLeader_calls l d r e w h4.2.2.2 he
end Go.Proofs.YtacgikhedhiaaaaDoor
