/- The reference's List. -/
import Derived.Test.YtcfkcfbgnciccaaDoorCZc
namespace Go.Proofs.YtcfkcfbgnciccaaDoor
open Go.RowKit

theorem cdsF_end (m k : Nat) : cdsF m (k + 1) = (if m.testBit k then [k] else []) ++ cdsF m k := by
  rw [cdsF_succ]; split <;> rfl
set_option maxRecDepth 100000 in
set_option maxHeartbeats 4000000 in
theorem ref_list (m : Nat) (hm : m < 4503599627370496) (w : World) :
    Calls Tryd.prog 15 #[.int .u64 m] w fun e w' => ∃ v, e = .returned (.tuple #[v, .int .i64 0]) ∧ w'.ownsRow w.heap.size 5 1 v (cds m).length ((cds m).map u8v) ∧ Below w.heap.size w w' := by
  obtain ⟨i0, hi, hz0, hz1, hz2⟩ := info_parts Tryd.infoU
  have WH := Lib.hid (whole_calls m)
  rw [decide_eq_true hm] at WH
  have HAS := Lib.hid (fun c hc => has_calls m c (by omega) hc)
  obtain ⟨T, hT⟩ : ∃ T, cds m = T := ⟨_, rfl⟩
  have hTl : T.length ≤ 52 := by rw [← hT]; exact cds_length_le m
  have HL := Lib.hid hTl
  rw [hT]
  have HT : Hid (T = [] ++ cdsF m 52) := Lib.hid hT.symm
  have HT0 : Hid (cdsF m 0 = []) := Lib.hid rfl
  have HE := Lib.hid (cdsF_end m)
  clear hT hTl
  go_enter Tryd.func15, Tryd.ntmps15
  go_wp2_with (first | (go_at_call 39; refine (WH.out _).mono ?_; rintro e w1 ⟨rfl, rfl⟩))
  go_loopw [4, 5] (fun s4 s5 wr => ∃ (n : Nat) (L : List Nat), s5 = .int .i64 ((n : Int) - 1) ∧ n ≤ 4 ∧ T = L ++ cdsF m (13 * n) ∧ wr.ownsRow w.heap.size 5 1 s4 L.length (L.map u8v) ∧ Below w.heap.size w wr) (fun _ s5 _ => (intOf s5 + 1).toNat)
  case atStart => exact ⟨4, [], rfl, by decide, HT.out, World.ownsRow_nil _ _ _ _, by repeat (first | (with_reducible exact Below.refl _ _) | ((with_reducible refine below_grow ?_ ?_); rotate_left; focus (first | omega | (simp [go_sem]; done) | (simp [go_sem]; omega))) | ((with_reducible refine Below.alloc ?_ ?_ _); rotate_left; focus (first | omega | (simp [go_sem]; done) | (simp [go_sem]; omega))) | ((with_reducible refine Below.setCell ?_ ?_ _); rotate_left; focus (first | omega | (simp [go_sem]; done) | (simp [go_sem]; omega))) | (with_reducible refine Below.drew ?_) | (with_reducible refine below_drewN _ ?_))⟩
  case round =>
    obtain ⟨n, L, rfl, hn, hTL, hown, hb⟩ := hrel
    match n, hn, hTL with
    | 0, hn, hTL =>
      rw [show 13 * 0 = 0 from rfl, HT0.out, List.append_nil] at hTL
      subst hTL
      obtain ⟨A8, cap8, rfl, hA8⟩ := own_slice hown
      go_wp2
      refine bodyPost_ret (by simp [results, Tryd.results15, go_sem]) rfl ⟨_, rfl, hown, hb⟩
    | s + 1, hn, hTL =>
      obtain ⟨z, hz⟩ : ∃ z : Int, ((s + 1 : Nat) : Int) - 1 = z := ⟨_, rfl⟩
      rw [hz]
      obtain rfl : z = s := by omega
      have b1 : (0 : Int) ≤ (s : Int) := by omega
      have e1 : IntKind.i64.wrap ((s : Int) - 1) = (s : Int) - 1 := IntWalk.i64_in _ (by omega)
      have e2 : IntKind.i64.wrap (13 * (s : Int)) = 13 * (s : Int) := IntWalk.i64_in _ (by omega)
      have hsn : s ≤ 3 := by omega
      have HS := Lib.hid hsn
      clear hz hn
      go_wp2
      go_loopw [4, 6] (fun s4 s6 wi => ∃ (n : Nat) (L : List Nat), s6 = .int .i64 ((n : Int) - 1) ∧ n ≤ 13 ∧ T = L ++ cdsF m (13 * s + n) ∧ wi.ownsRow w.heap.size 5 1 s4 L.length (L.map u8v) ∧ Below w.heap.size w wi) (fun _ s6 _ => (intOf s6 + 1).toNat)
      case atStart => exact ⟨13, L, rfl, by decide, hTL, hown, hb⟩
      case round =>
        obtain ⟨n, L, rfl, hn, hTL, hown, hb⟩ := hrel
        match n, hn, hTL with
        | 0, hn, hTL =>
          have b2 : ¬ (0 : Int) ≤ ((0 : Nat) : Int) - 1 := by decide
          go_wp2
          go_roundw
          case rel => exact ⟨s, L, by go_num, by have := HS.out; omega, hTL, hown, hb⟩
          case measure => simp [intOf] <;> omega
        | k + 1, hn, hTL =>
          obtain ⟨z, hz⟩ : ∃ z : Int, ((k + 1 : Nat) : Int) - 1 = z := ⟨_, rfl⟩
          rw [hz]
          obtain rfl : z = k := by omega
          have b2 : (0 : Int) ≤ (k : Int) := by omega
          have e3 : IntKind.i64.wrap ((k : Int) - 1) = (k : Int) - 1 := IntWalk.i64_in _ (by omega)
          have e4 : IntKind.i64.wrap (13 * (s : Int) + (k : Int)) = 13 * (s : Int) + (k : Int) := IntWalk.i64_in _ (by omega)
          have e5 : IntKind.u8.wrap (13 * (s : Int) + (k : Int)) = 13 * (s : Int) + (k : Int) := u8_wrap (by omega) (by omega)
          have H := HAS.out (13 * s + k) (by omega)
          have hE := HE.out (13 * s + k)
          rw [show 13 * s + (k + 1) = 13 * s + k + 1 by omega, hE, ← List.append_assoc] at hTL
          rw [show ((13 * s + k : Nat) : Int) = 13 * (s : Int) + (k : Int) by omega] at H
          have H := Lib.hid H
          have hkn : k ≤ 12 := by omega
          have hLl : L.length ≤ 52 := by
            have h1 := HL.out
            rw [hTL] at h1
            simp only [List.length_append] at h1
            omega
          have HK := Lib.hid hkn
          have hsz := hb.size
          cases htb : m.testBit (13 * s + k) with
          | true =>
            rw [htb] at H hTL
            rw [if_pos rfl] at hTL
            have HTL := Lib.hid hTL
            have hu : u8v (13 * s + k) = .int .u8 (13 * (s : Int) + (k : Int)) := by unfold u8v; rw [show ((13 * s + k : Nat) : Int) = 13 * (s : Int) + (k : Int) by omega]
            clear hE hTL htb hz hn hkn
            obtain ⟨A8, cap8, rfl, hA8⟩ := own_slice hown
            go_wp2_with (first | (go_at_call 40; refine (H.out _).mono ?_; rintro e w1 ⟨rfl, hbel⟩; obtain ⟨o1, j1, rfl⟩ := grow_of_below hbel; clear hbel) | (at_builtin; refine wpList_append_own _ rfl _ _ 25 rfl w.heap.size 5 i0 (.int .u8 0) 1 1 Tryd.underlying25 hi hz0 hz1 hz2 rfl (by decide) (.slice A8 L.length cap8) L.length _ rfl ((own_grow hown o1 j1).alloc _) ⟨wr.heap.size + sz o1, 0, none⟩ 1 1 [u8v (13 * s + k)] rfl rfl (news1 _ _ _ _ (by simp [go_sem]) (by rw [hu])) (fun u hu => by simp only [List.mem_singleton] at hu; subst hu; rfl) (by unfold maxLen; omega) (by omega) (by simp [go_sem]; omega) ?_; intro v' w4 hown' hgrow _))
            go_roundw
            case rel =>
              refine ⟨k, L ++ [13 * s + k], by go_num, by have := HK.out; omega, HTL.out, ?_, Below.grown (by repeat (first | (with_reducible exact hb) | ((with_reducible refine below_grow ?_ ?_); rotate_left; focus (first | omega | (simp [go_sem]; done) | (simp [go_sem]; omega))) | ((with_reducible refine Below.alloc ?_ ?_ _); rotate_left; focus (first | omega | (simp [go_sem]; done) | (simp [go_sem]; omega))) | ((with_reducible refine Below.setCell ?_ ?_ _); rotate_left; focus (first | omega | (simp [go_sem]; done) | (simp [go_sem]; omega))) | (with_reducible refine Below.drew ?_) | (with_reducible refine below_drewN _ ?_))) hgrow (by simp [go_sem]; omega) (fun k hk => own_block_ge hown hk)⟩
              rw [List.map_append, List.length_append]
              exact hown'
            case measure => simp [intOf] <;> omega
          | false =>
            rw [htb] at H hTL
            rw [if_neg (by simp), List.append_nil] at hTL
            have HTL := Lib.hid hTL
            clear hE hTL htb hz hn hkn
            go_wp2_with (first | (go_at_call 40; refine (H.out _).mono ?_; rintro e w1 ⟨rfl, hbel⟩; obtain ⟨o1, j1, rfl⟩ := grow_of_below hbel; clear hbel))
            go_roundw
            case rel => exact ⟨k, L, by go_num, by have := HK.out; omega, HTL.out, own_grow hown _ _, by repeat (first | (with_reducible exact hb) | ((with_reducible refine below_grow ?_ ?_); rotate_left; focus (first | omega | (simp [go_sem]; done) | (simp [go_sem]; omega))) | ((with_reducible refine Below.alloc ?_ ?_ _); rotate_left; focus (first | omega | (simp [go_sem]; done) | (simp [go_sem]; omega))) | ((with_reducible refine Below.setCell ?_ ?_ _); rotate_left; focus (first | omega | (simp [go_sem]; done) | (simp [go_sem]; omega))) | (with_reducible refine Below.drew ?_) | (with_reducible refine below_drewN _ ?_))⟩
            case measure => simp [intOf] <;> omega
theorem ref_list_no (m : Nat) (hm : ¬ m < 4503599627370496) (w : World) :
    Calls Tryd.prog 15 #[.int .u64 m] w fun e w' => e = .returned (.tuple #[.slice none 0 0, .int .i64 41]) ∧ w = w' := by
  have WH := Lib.hid (whole_calls m)
  rw [decide_eq_false hm] at WH
  clear hm
  go_enter Tryd.func15, Tryd.ntmps15
  go_wp2_with (first | (go_at_call 39; refine (WH.out _).mono ?_; rintro e w1 ⟨rfl, rfl⟩))
  refine bodyPost_ret (by simp [results, Tryd.results15, go_sem]) rfl ⟨rfl, ?_⟩
  rfl
end Go.Proofs.YtcfkcfbgnciccaaDoor
