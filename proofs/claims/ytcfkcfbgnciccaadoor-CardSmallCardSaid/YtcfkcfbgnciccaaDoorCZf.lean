/- The reference's Write; Mask of nothing. -/
import Derived.Test.YtcfkcfbgnciccaaDoorCZe
namespace Go.Proofs.YtcfkcfbgnciccaaDoor
open Go.RowKit

theorem ref_mask_nil (A : Option Addr) (cap : Nat) (w : World) :
    Calls Tryd.prog 34 #[.slice A 0 cap] w fun e w' => e = .returned (.tuple #[.int .u64 0, .int .i64 0]) ∧ Below w.heap.size w w' := by
  go_enter Tryd.func34, Tryd.ntmps34
  go_wp2
  go_loopw [5, 4] (fun s5 s4 wr => s5 = .int .i64 0 ∧ s4 = .int .u64 0 ∧ Below w.heap.size w wr) (fun _ _ _ => 0)
  case atStart => exact ⟨rfl, rfl, by repeat (first | (with_reducible exact Below.refl _ _) | ((with_reducible refine below_grow ?_ ?_); rotate_left; focus (first | omega | (simp [go_sem]; done) | (simp [go_sem]; omega))) | ((with_reducible refine Below.alloc ?_ ?_ _); rotate_left; focus (first | omega | (simp [go_sem]; done) | (simp [go_sem]; omega))) | ((with_reducible refine Below.setCell ?_ ?_ _); rotate_left; focus (first | omega | (simp [go_sem]; done) | (simp [go_sem]; omega))) | (with_reducible refine Below.drew ?_) | (with_reducible refine below_drewN _ ?_))⟩
  case round =>
    obtain ⟨rfl, rfl, hb⟩ := hrel
    go_wp2
    refine bodyPost_ret (by simp [results, Tryd.results34, go_sem]) rfl ⟨rfl, ?_⟩
    exact hb
/-- What stands behind a part. -/
def tl (m : Nat) : Nat → List UInt8
  | 0 => []
  | s + 1 => 46 :: (prt m s ++ tl m s)
theorem wrt_tl (m : Nat) : wrt m = [] ++ ((cdsF (sut m 3) 13).map chr ++ tl m 3) := by
  simp [wrt, tl, prt]
theorem prt_end (m s k : Nat) (hk : k < 13) : (cdsF (sut m s) (k + 1)).map chr = (if m.testBit (13 * s + k) then [chr k] else []) ++ (cdsF (sut m s) k).map chr := by
  rw [cdsF_end, sut_bit, decide_eq_true hk, Bool.true_and]
  split <;> simp
set_option maxRecDepth 100000 in
set_option maxHeartbeats 4000000 in
theorem ref_write (m : Nat) (hm : m < 4503599627370496) (w : World) :
    Calls Tryd.prog 14 #[.int .u64 m] w fun e w' => e = .returned (.tuple #[strv (wrt m), .int .i64 0]) ∧ Below w.heap.size w w' := by
  have WH := Lib.hid (whole_calls m)
  rw [decide_eq_true hm] at WH
  have HAS := Lib.hid (fun c hc => has_calls m c (by omega) hc)
  obtain ⟨T, hT⟩ : ∃ T, wrt m = T := ⟨_, rfl⟩
  have hTl : T.length ≤ 55 := by rw [← hT, wrt_length]; have := cds_length_le m; omega
  have HL := Lib.hid hTl
  rw [hT]
  have HT : Hid (T = [] ++ ((cdsF (sut m 3) 13).map chr ++ tl m 3)) := Lib.hid (hT.symm.trans (wrt_tl m))
  clear hT hTl
  go_enter Tryd.func14, Tryd.ntmps14
  go_wp2_with (first | (go_at_call 39; refine (WH.out _).mono ?_; rintro e w1 ⟨rfl, rfl⟩))
  go_loopw [4, 5] (fun s4 s5 wr => ∃ (n : Nat) (L : List UInt8), s5 = .int .i64 ((n : Int) - 1) ∧ n ≤ 4 ∧ s4 = strv L ∧ T = L ++ (match n with | 0 => [] | s + 1 => (cdsF (sut m s) 13).map chr ++ tl m s) ∧ Below w.heap.size w wr) (fun _ s5 _ => (intOf s5 + 1).toNat)
  case atStart => exact ⟨4, [], rfl, by decide, rfl, HT.out, by repeat (first | (with_reducible exact Below.refl _ _) | ((with_reducible refine below_grow ?_ ?_); rotate_left; focus (first | omega | (simp [go_sem]; done) | (simp [go_sem]; omega))) | ((with_reducible refine Below.alloc ?_ ?_ _); rotate_left; focus (first | omega | (simp [go_sem]; done) | (simp [go_sem]; omega))) | ((with_reducible refine Below.setCell ?_ ?_ _); rotate_left; focus (first | omega | (simp [go_sem]; done) | (simp [go_sem]; omega))) | (with_reducible refine Below.drew ?_) | (with_reducible refine below_drewN _ ?_))⟩
  case round =>
    obtain ⟨n, L, rfl, hn, rfl, hTL, hb⟩ := hrel
    match n, hn, hTL with
    | 0, hn, hTL =>
      rw [List.append_nil] at hTL
      subst hTL
      go_wp2
      refine bodyPost_ret (by simp [results, Tryd.results14, go_sem]) rfl ⟨rfl, hb⟩
    | s + 1, hn, hTL =>
      replace hTL : T = L ++ ((cdsF (sut m s) 13).map chr ++ tl m s) := hTL
      obtain ⟨z, hz⟩ : ∃ z : Int, ((s + 1 : Nat) : Int) - 1 = z := ⟨_, rfl⟩
      rw [hz]
      obtain rfl : z = s := by omega
      have b1 : (0 : Int) ≤ (s : Int) := by omega
      have e1 : IntKind.i64.wrap ((s : Int) - 1) = (s : Int) - 1 := IntWalk.i64_in _ (by omega)
      have e2 : IntKind.i64.wrap (13 * (s : Int)) = 13 * (s : Int) := IntWalk.i64_in _ (by omega)
      have hsn : s ≤ 3 := by omega
      have HS := Lib.hid hsn
      clear hz hn
      go_wp2
      go_loopw [4, 6] (fun s4 s6 wi => ∃ (n : Nat) (L : List UInt8), s6 = .int .i64 ((n : Int) - 1) ∧ n ≤ 13 ∧ s4 = strv L ∧ T = L ++ ((cdsF (sut m s) n).map chr ++ tl m s) ∧ Below w.heap.size w wi) (fun _ s6 _ => (intOf s6 + 1).toNat)
      case atStart => exact ⟨13, L, rfl, by decide, rfl, hTL, hb⟩
      case round =>
        obtain ⟨n, L, rfl, hn, rfl, hTL, hb⟩ := hrel
        have hLl : L.length ≤ 55 := by
          have h1 := HL.out
          rw [hTL] at h1
          simp only [List.length_append] at h1
          omega
        match n, hn, hTL with
        | 0, hn, hTL =>
          replace hTL : T = L ++ tl m s := hTL
          have b2 : ¬ (0 : Int) ≤ ((0 : Nat) : Int) - 1 := by decide
          rcases Nat.eq_zero_or_pos s with h0 | h0
          · subst h0
            have HTL := Lib.hid hTL
            clear hTL hn hsn b1
            go_wp2
            go_roundw
            case rel => exact ⟨0, L, by go_num, by decide, rfl, HTL.out, hb⟩
            case measure => simp [intOf] <;> omega
          · obtain ⟨p, hp⟩ : ∃ p, s = p + 1 := ⟨s - 1, by omega⟩
            have b3 : (0 : Int) < (s : Int) := by omega
            have HTL := Lib.hid (show T = (L ++ [46]) ++ ((cdsF (sut m p) 13).map chr ++ tl m p) by rw [hTL, hp]; simp [tl, prt])
            have HP := Lib.hid hp
            have ad := fun W => run_string_add_lists (P := Tryd.prog) (w := W) L [46] (by omega) (by simp)
            clear hTL hn hsn hp h0
            go_wp2
            go_roundw
            case rel => exact ⟨p + 1, L ++ [46], by rw [← HP.out], by have := HS.out; have := HP.out; omega, rfl, HTL.out, hb⟩
            case measure => simp [intOf] <;> omega
        | k + 1, hn, hTL =>
          obtain ⟨z, hz⟩ : ∃ z : Int, ((k + 1 : Nat) : Int) - 1 = z := ⟨_, rfl⟩
          rw [hz]
          obtain rfl : z = k := by omega
          have b2 : (0 : Int) ≤ (k : Int) := by omega
          have e3 : IntKind.i64.wrap ((k : Int) - 1) = (k : Int) - 1 := IntWalk.i64_in _ (by omega)
          have e4 : IntKind.i64.wrap (13 * (s : Int) + (k : Int)) = 13 * (s : Int) + (k : Int) := IntWalk.i64_in _ (by omega)
          have H := HAS.out (13 * s + k) (by omega)
          have G := Lib.hid (ref_sign k (by omega))
          have ad := fun W => run_string_add_lists (P := Tryd.prog) (w := W) L [chr k] (by omega) (by simp)
          rw [prt_end m s k (by omega), List.append_assoc, ← List.append_assoc] at hTL
          rw [show ((13 * s + k : Nat) : Int) = 13 * (s : Int) + (k : Int) by omega] at H
          have H := Lib.hid H
          have hkn : k ≤ 12 := by omega
          have HK := Lib.hid hkn
          have hsz := hb.size
          cases htb : m.testBit (13 * s + k) with
          | true =>
            rw [htb] at H hTL
            rw [if_pos rfl] at hTL
            have HTL := Lib.hid hTL
            clear hTL htb hz hn hkn
            go_wp2_with (first | (go_at_call 40; refine (H.out _).mono ?_; rintro e w1 ⟨rfl, hbel⟩; obtain ⟨o1, j1, rfl⟩ := grow_of_below hbel; clear hbel) | (go_at_call 41; refine (G.out _).mono ?_; rintro e w1 ⟨rfl, hbel⟩; obtain ⟨o2, j2, rfl⟩ := grow_of_below hbel; clear hbel))
            go_roundw
            case rel => exact ⟨k, L ++ [chr k], by go_num, by have := HK.out; omega, rfl, HTL.out, by repeat (first | (with_reducible exact hb) | ((with_reducible refine below_grow ?_ ?_); rotate_left; focus (first | omega | (simp [go_sem]; done) | (simp [go_sem]; omega))) | ((with_reducible refine Below.alloc ?_ ?_ _); rotate_left; focus (first | omega | (simp [go_sem]; done) | (simp [go_sem]; omega))) | ((with_reducible refine Below.setCell ?_ ?_ _); rotate_left; focus (first | omega | (simp [go_sem]; done) | (simp [go_sem]; omega))) | (with_reducible refine Below.drew ?_) | (with_reducible refine below_drewN _ ?_))⟩
            case measure => simp [intOf] <;> omega
          | false =>
            rw [htb] at H hTL
            rw [if_neg (by simp), List.append_nil] at hTL
            have HTL := Lib.hid hTL
            clear hTL htb hz hn hkn
            go_wp2_with (first | (go_at_call 40; refine (H.out _).mono ?_; rintro e w1 ⟨rfl, hbel⟩; obtain ⟨o1, j1, rfl⟩ := grow_of_below hbel; clear hbel))
            go_roundw
            case rel => exact ⟨k, L, by go_num, by have := HK.out; omega, rfl, HTL.out, by repeat (first | (with_reducible exact hb) | ((with_reducible refine below_grow ?_ ?_); rotate_left; focus (first | omega | (simp [go_sem]; done) | (simp [go_sem]; omega))) | ((with_reducible refine Below.alloc ?_ ?_ _); rotate_left; focus (first | omega | (simp [go_sem]; done) | (simp [go_sem]; omega))) | ((with_reducible refine Below.setCell ?_ ?_ _); rotate_left; focus (first | omega | (simp [go_sem]; done) | (simp [go_sem]; omega))) | (with_reducible refine Below.drew ?_) | (with_reducible refine below_drewN _ ?_))⟩
            case measure => simp [intOf] <;> omega
theorem ref_write_no (m : Nat) (hm : ¬ m < 4503599627370496) (w : World) :
    Calls Tryd.prog 14 #[.int .u64 m] w fun e w' => e = .returned (.tuple #[.string ⟨#[]⟩, .int .i64 41]) ∧ w = w' := by
  have WH := Lib.hid (whole_calls m)
  rw [decide_eq_false hm] at WH
  clear hm
  go_enter Tryd.func14, Tryd.ntmps14
  go_wp2_with (first | (go_at_call 39; refine (WH.out _).mono ?_; rintro e w1 ⟨rfl, rfl⟩))
  refine bodyPost_ret (by simp [results, Tryd.results14, go_sem]) rfl ⟨rfl, ?_⟩
  rfl
end Go.Proofs.YtcfkcfbgnciccaaDoor
