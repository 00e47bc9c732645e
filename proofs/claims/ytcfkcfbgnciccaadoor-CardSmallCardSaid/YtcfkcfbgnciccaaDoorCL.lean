/- Parse. -/
import Derived.Test.YtcfkcfbgnciccaaDoorCK
namespace Go.Proofs.YtcfkcfbgnciccaaDoor
open Go.RowKit

/-- What Parse returns. -/
def parV : Option Nat → Value
  | some m => .tuple #[.int .u64 m, .int .i64 0]
  | none => .tuple #[.int .u64 0, .int .i64 40]
set_option maxRecDepth 100000 in
set_option maxHeartbeats 8000000 in
theorem parse_four (s : ByteArray) (hs : s.size < 4294967281) (h : s.data.toList.count 46 = 3) (a b c d : List UInt8) (hp : Lib.splitK [46] 0 3 s.data.toList = [a, b, c, d]) (hl : ∀ i, (four a b c d i).length < 4294967296) (w : World) (he : Env w) :
    Calls Tryd.prog 17 #[.string s] w fun e w' => e = .returned (parV (prs4 a b c d)) ∧ Below w.heap.size w w' := by
  have S := Lib.hid (split_yes s hs h a b c d hp w he)
  have E := prsF_four a b c d
  obtain ⟨T, hT⟩ : ∃ T, prs4 a b c d = T := ⟨_, rfl⟩
  rw [hT] at E ⊢
  have HL := Lib.hid hl
  clear hT hp h hs hl
  go_enter Tryd.func17, Tryd.ntmps17
  go_upto_region 5 with (go_at_call 46; refine S.out.mono ?_; rintro e w1 ⟨rfl, hbel⟩; obtain ⟨o1, j1, rfl⟩ := grow_of_below hbel; clear hbel)
  have hX : blk ((grow w o1 j1).alloc (.cells #[strv a, strv b, strv c, strv d] 63)) (w.heap.size + sz o1) #[strv a, strv b, strv c, strv d] 63 := blk_at _ _ _ (by simp [go_sem])
  have hB : Below w.heap.size w ((grow w o1 j1).alloc (.cells #[strv a, strv b, strv c, strv d] 63)) := by repeat (first | (with_reducible exact Below.refl _ _) | ((with_reducible refine below_grow ?_ ?_); rotate_left; focus (first | omega | (simp [go_sem]; done) | (simp [go_sem]; omega))) | ((with_reducible refine Below.alloc ?_ ?_ _); rotate_left; focus (first | omega | (simp [go_sem]; done) | (simp [go_sem]; omega))) | ((with_reducible refine Below.setCell ?_ ?_ _); rotate_left; focus (first | omega | (simp [go_sem]; done) | (simp [go_sem]; omega))) | (with_reducible refine Below.drew ?_) | (with_reducible refine below_drewN _ ?_))
  go_wp2
  go_loopw [17, 6] (fun s17 s6 wr => ∃ i acc : Nat, s17 = .int .i64 i ∧ s6 = .int .u64 acc ∧ i ≤ 4 ∧ acc < 4503599627370496 ∧ prsF (four a b c d) (4 - i) i acc = T ∧ blk wr (w.heap.size + sz o1) #[strv a, strv b, strv c, strv d] 63 ∧ Below w.heap.size w wr) (fun s17 _ _ => 4 - (intOf s17).toNat)
  case atStart => exact ⟨0, 0, rfl, rfl, by decide, by decide, E, hX, hB⟩
  case round =>
    obtain ⟨i, acc, rfl, rfl, hi, ha, hTr, hx, hb⟩ := hrel
    have hbs := hb.size
    have iP : NeZero (inW (w.heap.size + sz o1) wr) := inW_mk (blk_lt hx)
    match i, hi with
    | 0, _ =>
      have hTr2 : (match held 13 0 d with | none => none | some x => prsF (four a b c d) 3 1 (acc ||| x <<< 0)) = T := hTr
      clear hTr
      have k0 := (blk_cell hx 3).trans (show _ = some (strv d) from rfl)
      have H := Lib.hid (held_one d (HL.out 0))
      have PL := Lib.hid (place_calls 0 (by decide))
      cases hh : held 13 0 d with
      | none =>
        rw [hh] at H hTr2
        rw [heldN_none hh] at H
        subst hTr2
        clear ha
        go_wp2_with (first | (go_at_call 44; refine (PL.out _).mono ?_; rintro e w3 ⟨rfl, rfl⟩) | (go_at_call 47; refine (H.out _).mono ?_; rintro e w4 ⟨rfl, hbel⟩; obtain ⟨o4, j4, rfl⟩ := grow_of_below hbel; clear hbel))
        refine bodyPost_ret (by simp [results, Tryd.results17, go_sem, parV]) rfl ⟨rfl, ?_⟩
        repeat (first | (with_reducible exact hb) | ((with_reducible refine below_grow ?_ ?_); rotate_left; focus (first | omega | (simp [go_sem]; done) | (simp [go_sem]; omega))) | ((with_reducible refine Below.alloc ?_ ?_ _); rotate_left; focus (first | omega | (simp [go_sem]; done) | (simp [go_sem]; omega))) | ((with_reducible refine Below.setCell ?_ ?_ _); rotate_left; focus (first | omega | (simp [go_sem]; done) | (simp [go_sem]; omega))) | (with_reducible refine Below.drew ?_) | (with_reducible refine below_drewN _ ?_))
      | some x =>
        rw [hh] at H hTr2
        obtain ⟨e1, e2⟩ := heldN_some hh
        rw [e1] at H
        obtain ⟨n1, n2, n3⟩ := or_shift acc x 0 ha e2 (by decide) 1 (by decide)
        rw [Int.mul_one] at n1 n2
        obtain ⟨acc', ha'⟩ : ∃ q, acc ||| x <<< 0 = q := ⟨_, rfl⟩
        replace hTr2 : prsF (four a b c d) 3 1 (acc ||| x <<< 0) = T := hTr2
        rw [ha'] at n2 n3 hTr2
        have HH := Lib.hid (And.intro n3 hTr2)
        clear ha e2 n3 hTr2 ha' e1
        go_wp2_with (first | (go_at_call 44; refine (PL.out _).mono ?_; rintro e w3 ⟨rfl, rfl⟩) | (go_at_call 47; refine (H.out _).mono ?_; rintro e w4 ⟨rfl, hbel⟩; obtain ⟨o4, j4, rfl⟩ := grow_of_below hbel; clear hbel))
        go_roundw
        case rel => exact ⟨1, acc', by go_num, rfl, by decide, HH.out.1, HH.out.2, blk_grow hx _ _, by repeat (first | (with_reducible exact hb) | ((with_reducible refine below_grow ?_ ?_); rotate_left; focus (first | omega | (simp [go_sem]; done) | (simp [go_sem]; omega))) | ((with_reducible refine Below.alloc ?_ ?_ _); rotate_left; focus (first | omega | (simp [go_sem]; done) | (simp [go_sem]; omega))) | ((with_reducible refine Below.setCell ?_ ?_ _); rotate_left; focus (first | omega | (simp [go_sem]; done) | (simp [go_sem]; omega))) | (with_reducible refine Below.drew ?_) | (with_reducible refine below_drewN _ ?_))⟩
        case measure => simp [intOf]
    | 1, _ =>
      have hTr2 : (match held 13 0 c with | none => none | some x => prsF (four a b c d) 2 2 (acc ||| x <<< 13)) = T := hTr
      clear hTr
      have k0 := (blk_cell hx 2).trans (show _ = some (strv c) from rfl)
      have H := Lib.hid (held_one c (HL.out 1))
      have PL := Lib.hid (place_calls 1 (by decide))
      cases hh : held 13 0 c with
      | none =>
        rw [hh] at H hTr2
        rw [heldN_none hh] at H
        subst hTr2
        clear ha
        go_wp2_with (first | (go_at_call 44; refine (PL.out _).mono ?_; rintro e w3 ⟨rfl, rfl⟩) | (go_at_call 47; refine (H.out _).mono ?_; rintro e w4 ⟨rfl, hbel⟩; obtain ⟨o4, j4, rfl⟩ := grow_of_below hbel; clear hbel))
        refine bodyPost_ret (by simp [results, Tryd.results17, go_sem, parV]) rfl ⟨rfl, ?_⟩
        repeat (first | (with_reducible exact hb) | ((with_reducible refine below_grow ?_ ?_); rotate_left; focus (first | omega | (simp [go_sem]; done) | (simp [go_sem]; omega))) | ((with_reducible refine Below.alloc ?_ ?_ _); rotate_left; focus (first | omega | (simp [go_sem]; done) | (simp [go_sem]; omega))) | ((with_reducible refine Below.setCell ?_ ?_ _); rotate_left; focus (first | omega | (simp [go_sem]; done) | (simp [go_sem]; omega))) | (with_reducible refine Below.drew ?_) | (with_reducible refine below_drewN _ ?_))
      | some x =>
        rw [hh] at H hTr2
        obtain ⟨e1, e2⟩ := heldN_some hh
        rw [e1] at H
        obtain ⟨n1, n2, n3⟩ := or_shift acc x 13 ha e2 (by decide) 8192 (by decide)
        obtain ⟨acc', ha'⟩ : ∃ q, acc ||| x <<< 13 = q := ⟨_, rfl⟩
        replace hTr2 : prsF (four a b c d) 2 2 (acc ||| x <<< 13) = T := hTr2
        rw [ha'] at n2 n3 hTr2
        have HH := Lib.hid (And.intro n3 hTr2)
        clear ha e2 n3 hTr2 ha' e1
        go_wp2_with (first | (go_at_call 44; refine (PL.out _).mono ?_; rintro e w3 ⟨rfl, rfl⟩) | (go_at_call 47; refine (H.out _).mono ?_; rintro e w4 ⟨rfl, hbel⟩; obtain ⟨o4, j4, rfl⟩ := grow_of_below hbel; clear hbel))
        go_roundw
        case rel => exact ⟨2, acc', by go_num, rfl, by decide, HH.out.1, HH.out.2, blk_grow hx _ _, by repeat (first | (with_reducible exact hb) | ((with_reducible refine below_grow ?_ ?_); rotate_left; focus (first | omega | (simp [go_sem]; done) | (simp [go_sem]; omega))) | ((with_reducible refine Below.alloc ?_ ?_ _); rotate_left; focus (first | omega | (simp [go_sem]; done) | (simp [go_sem]; omega))) | ((with_reducible refine Below.setCell ?_ ?_ _); rotate_left; focus (first | omega | (simp [go_sem]; done) | (simp [go_sem]; omega))) | (with_reducible refine Below.drew ?_) | (with_reducible refine below_drewN _ ?_))⟩
        case measure => simp [intOf]
    | 2, _ =>
      have hTr2 : (match held 13 0 b with | none => none | some x => prsF (four a b c d) 1 3 (acc ||| x <<< 26)) = T := hTr
      clear hTr
      have k0 := (blk_cell hx 1).trans (show _ = some (strv b) from rfl)
      have H := Lib.hid (held_one b (HL.out 2))
      have PL := Lib.hid (place_calls 2 (by decide))
      cases hh : held 13 0 b with
      | none =>
        rw [hh] at H hTr2
        rw [heldN_none hh] at H
        subst hTr2
        clear ha
        go_wp2_with (first | (go_at_call 44; refine (PL.out _).mono ?_; rintro e w3 ⟨rfl, rfl⟩) | (go_at_call 47; refine (H.out _).mono ?_; rintro e w4 ⟨rfl, hbel⟩; obtain ⟨o4, j4, rfl⟩ := grow_of_below hbel; clear hbel))
        refine bodyPost_ret (by simp [results, Tryd.results17, go_sem, parV]) rfl ⟨rfl, ?_⟩
        repeat (first | (with_reducible exact hb) | ((with_reducible refine below_grow ?_ ?_); rotate_left; focus (first | omega | (simp [go_sem]; done) | (simp [go_sem]; omega))) | ((with_reducible refine Below.alloc ?_ ?_ _); rotate_left; focus (first | omega | (simp [go_sem]; done) | (simp [go_sem]; omega))) | ((with_reducible refine Below.setCell ?_ ?_ _); rotate_left; focus (first | omega | (simp [go_sem]; done) | (simp [go_sem]; omega))) | (with_reducible refine Below.drew ?_) | (with_reducible refine below_drewN _ ?_))
      | some x =>
        rw [hh] at H hTr2
        obtain ⟨e1, e2⟩ := heldN_some hh
        rw [e1] at H
        obtain ⟨n1, n2, n3⟩ := or_shift acc x 26 ha e2 (by decide) 67108864 (by decide)
        obtain ⟨acc', ha'⟩ : ∃ q, acc ||| x <<< 26 = q := ⟨_, rfl⟩
        replace hTr2 : prsF (four a b c d) 1 3 (acc ||| x <<< 26) = T := hTr2
        rw [ha'] at n2 n3 hTr2
        have HH := Lib.hid (And.intro n3 hTr2)
        clear ha e2 n3 hTr2 ha' e1
        go_wp2_with (first | (go_at_call 44; refine (PL.out _).mono ?_; rintro e w3 ⟨rfl, rfl⟩) | (go_at_call 47; refine (H.out _).mono ?_; rintro e w4 ⟨rfl, hbel⟩; obtain ⟨o4, j4, rfl⟩ := grow_of_below hbel; clear hbel))
        go_roundw
        case rel => exact ⟨3, acc', by go_num, rfl, by decide, HH.out.1, HH.out.2, blk_grow hx _ _, by repeat (first | (with_reducible exact hb) | ((with_reducible refine below_grow ?_ ?_); rotate_left; focus (first | omega | (simp [go_sem]; done) | (simp [go_sem]; omega))) | ((with_reducible refine Below.alloc ?_ ?_ _); rotate_left; focus (first | omega | (simp [go_sem]; done) | (simp [go_sem]; omega))) | ((with_reducible refine Below.setCell ?_ ?_ _); rotate_left; focus (first | omega | (simp [go_sem]; done) | (simp [go_sem]; omega))) | (with_reducible refine Below.drew ?_) | (with_reducible refine below_drewN _ ?_))⟩
        case measure => simp [intOf]
    | 3, _ =>
      have hTr2 : (match held 13 0 a with | none => none | some x => prsF (four a b c d) 0 4 (acc ||| x <<< 39)) = T := hTr
      clear hTr
      have k0 := (blk_cell hx 0).trans (show _ = some (strv a) from rfl)
      have H := Lib.hid (held_one a (HL.out 3))
      have PL := Lib.hid (place_calls 3 (by decide))
      cases hh : held 13 0 a with
      | none =>
        rw [hh] at H hTr2
        rw [heldN_none hh] at H
        subst hTr2
        clear ha
        go_wp2_with (first | (go_at_call 44; refine (PL.out _).mono ?_; rintro e w3 ⟨rfl, rfl⟩) | (go_at_call 47; refine (H.out _).mono ?_; rintro e w4 ⟨rfl, hbel⟩; obtain ⟨o4, j4, rfl⟩ := grow_of_below hbel; clear hbel))
        refine bodyPost_ret (by simp [results, Tryd.results17, go_sem, parV]) rfl ⟨rfl, ?_⟩
        repeat (first | (with_reducible exact hb) | ((with_reducible refine below_grow ?_ ?_); rotate_left; focus (first | omega | (simp [go_sem]; done) | (simp [go_sem]; omega))) | ((with_reducible refine Below.alloc ?_ ?_ _); rotate_left; focus (first | omega | (simp [go_sem]; done) | (simp [go_sem]; omega))) | ((with_reducible refine Below.setCell ?_ ?_ _); rotate_left; focus (first | omega | (simp [go_sem]; done) | (simp [go_sem]; omega))) | (with_reducible refine Below.drew ?_) | (with_reducible refine below_drewN _ ?_))
      | some x =>
        rw [hh] at H hTr2
        obtain ⟨e1, e2⟩ := heldN_some hh
        rw [e1] at H
        obtain ⟨n1, n2, n3⟩ := or_shift acc x 39 ha e2 (by decide) 549755813888 (by decide)
        obtain ⟨acc', ha'⟩ : ∃ q, acc ||| x <<< 39 = q := ⟨_, rfl⟩
        replace hTr2 : prsF (four a b c d) 0 4 (acc ||| x <<< 39) = T := hTr2
        rw [ha'] at n2 n3 hTr2
        have HH := Lib.hid (And.intro n3 hTr2)
        clear ha e2 n3 hTr2 ha' e1
        go_wp2_with (first | (go_at_call 44; refine (PL.out _).mono ?_; rintro e w3 ⟨rfl, rfl⟩) | (go_at_call 47; refine (H.out _).mono ?_; rintro e w4 ⟨rfl, hbel⟩; obtain ⟨o4, j4, rfl⟩ := grow_of_below hbel; clear hbel))
        go_roundw
        case rel => exact ⟨4, acc', by go_num, rfl, by decide, HH.out.1, HH.out.2, blk_grow hx _ _, by repeat (first | (with_reducible exact hb) | ((with_reducible refine below_grow ?_ ?_); rotate_left; focus (first | omega | (simp [go_sem]; done) | (simp [go_sem]; omega))) | ((with_reducible refine Below.alloc ?_ ?_ _); rotate_left; focus (first | omega | (simp [go_sem]; done) | (simp [go_sem]; omega))) | ((with_reducible refine Below.setCell ?_ ?_ _); rotate_left; focus (first | omega | (simp [go_sem]; done) | (simp [go_sem]; omega))) | (with_reducible refine Below.drew ?_) | (with_reducible refine below_drewN _ ?_))⟩
        case measure => simp [intOf]
    | 4, _ =>
      have hTr2 : some acc = T := hTr
      subst hTr2
      clear ha hTr
      go_wp2
      refine bodyPost_ret (by simp [results, Tryd.results17, go_sem, parV]) rfl ⟨rfl, ?_⟩
      exact hb
theorem parse_count (s : ByteArray) (h : s.data.toList.count 46 ≠ 3) (w : World) :
    Calls Tryd.prog 17 #[.string s] w fun e w' => e = .returned (.tuple #[.int .u64 0, .int .i64 40]) ∧ Below w.heap.size w w' := by
  have S := Lib.hid (split_no s h w)
  clear h
  go_enter Tryd.func17, Tryd.ntmps17
  go_wp2_with (go_at_call 46; refine S.out.mono ?_; rintro e w1 ⟨rfl, hbel⟩; obtain ⟨o1, j1, rfl⟩ := grow_of_below hbel; clear hbel)
  refine bodyPost_ret (by simp [results, Tryd.results17, go_sem]) rfl ⟨rfl, ?_⟩
  repeat (first | (with_reducible exact Below.refl _ _) | ((with_reducible refine below_grow ?_ ?_); rotate_left; focus (first | omega | (simp [go_sem]; done) | (simp [go_sem]; omega))) | ((with_reducible refine Below.alloc ?_ ?_ _); rotate_left; focus (first | omega | (simp [go_sem]; done) | (simp [go_sem]; omega))) | ((with_reducible refine Below.setCell ?_ ?_ _); rotate_left; focus (first | omega | (simp [go_sem]; done) | (simp [go_sem]; omega))) | (with_reducible refine Below.drew ?_) | (with_reducible refine below_drewN _ ?_))
theorem parse_calls (s : ByteArray) (hs : s.size < 4294967281) (w : World) (he : Env w) :
    Calls Tryd.prog 17 #[.string s] w fun e w' => e = .returned (parV (prs s.data.toList)) ∧ Below w.heap.size w w' := by
  unfold prs
  by_cases h : s.data.toList.count 46 = 3
  · obtain ⟨a, b, c, d, hp, hj, -⟩ := split_three h
    rw [if_pos h, hp]
    have hl : s.data.toList.length < 4294967281 := hs
    rw [hj] at hl
    simp only [List.length_append, List.length_cons] at hl
    refine parse_four s hs h a b c d hp (fun i => ?_) w he
    unfold four
    split <;> omega
  · rw [if_neg h]
    exact parse_count s h w
end Go.Proofs.YtcfkcfbgnciccaaDoor
