/- split and Parse, however long the string is. -/
import Derived.Test.YtcfkcfbgnciccaaDoorCX
namespace Go.Proofs.YtcfkcfbgnciccaaDoor
open Go.RowKit

theorem Split_dots (a b c d : List UInt8) (na : 46 ∉ a) (nb : 46 ∉ b) (nc : 46 ∉ c) (nd : 46 ∉ d) (hl : (a ++ 46 :: (b ++ 46 :: (c ++ 46 :: d))).length ≤ 140737488355328) (w : World) :
    Calls Tryd.prog 60 #[strv (a ++ 46 :: (b ++ 46 :: (c ++ 46 :: d))), .string ⟨#[46]⟩] w fun e w' =>
      e = .returned (.slice (some ⟨w.heap.size, 0, none⟩) 4 4) ∧ w' = w.alloc (.cells #[strv a, strv b, strv c, strv d] 9) := by
  have G := Lib.hid (genSplit_dots a b c d na nb nc nd hl)
  clear hl
  go_enter Tryd.func60, Tryd.ntmps60
  go_wp2_with (go_at_call 69; refine (G.out _).mono ?_; rintro e w1 ⟨rfl, rfl⟩)
  go_ret
  exact ⟨rfl, rfl⟩
set_option maxRecDepth 100000 in
set_option maxHeartbeats 4000000 in
theorem split_any (a b c d : List UInt8) (na : 46 ∉ a) (nb : 46 ∉ b) (nc : 46 ∉ c) (nd : 46 ∉ d) (hl : (a ++ 46 :: (b ++ 46 :: (c ++ 46 :: d))).length ≤ 140737488355328) (w : World) :
    Calls Tryd.prog 46 #[strv (a ++ 46 :: (b ++ 46 :: (c ++ 46 :: d)))] w fun e w' => e = .returned (.tuple #[.agg #[strv a, strv b, strv c, strv d], .bool true]) ∧ Below w.heap.size w w' := by
  have S := Lib.hid (Split_dots a b c d na nb nc nd hl)
  have C : ∀ w, Calls Tryd.prog 59 #[strv (a ++ 46 :: (b ++ 46 :: (c ++ 46 :: d))), .string ⟨#[46]⟩] w fun e w' => e = .returned (.int .i64 3) ∧ w = w' := fun w => by
    have h := count_calls ⟨(a ++ 46 :: (b ++ 46 :: (c ++ 46 :: d))).toArray⟩ w
    have hcnt : (a ++ 46 :: (b ++ 46 :: (c ++ 46 :: d))).count 46 = 3 := by
      simp [List.count_append, List.count_cons, List.count_eq_zero_of_not_mem na, List.count_eq_zero_of_not_mem nb, List.count_eq_zero_of_not_mem nc, List.count_eq_zero_of_not_mem nd]
    simp only [hcnt] at h
    exact h
  have C := Lib.hid C
  obtain ⟨s, hs⟩ : ∃ s, a ++ 46 :: (b ++ 46 :: (c ++ 46 :: d)) = s := ⟨_, rfl⟩
  rw [hs] at S C ⊢
  clear hs hl na nb nc nd
  have hcp := copy_four w a b c d
  go_enter Tryd.func46, Tryd.ntmps46
  go_upto_region 4 with (go_at_call 59; refine (C.out _).mono ?_; rintro e w1 ⟨rfl, rfl⟩)
  go_region_with (first | (go_at_call 60; refine (S.out _).mono ?_; rintro e w2 ⟨rfl, rfl⟩))
  all_goals go_wp2
  all_goals (refine bodyPost_ret (by simp [results, Tryd.results46, go_sem]) rfl ⟨rfl, ?_⟩; repeat (first | (with_reducible exact Below.refl _ _) | ((with_reducible refine below_grow ?_ ?_); rotate_left; focus (first | omega | (simp [go_sem]; done) | (simp [go_sem]; omega))) | ((with_reducible refine Below.alloc ?_ ?_ _); rotate_left; focus (first | omega | (simp [go_sem]; done) | (simp [go_sem]; omega))) | ((with_reducible refine Below.setCell ?_ ?_ _); rotate_left; focus (first | omega | (simp [go_sem]; done) | (simp [go_sem]; omega))) | (with_reducible refine Below.drew ?_) | (with_reducible refine below_drewN _ ?_)))
set_option maxRecDepth 100000 in
set_option maxHeartbeats 4000000 in
theorem held_long (s : ByteArray) (hs : s.size ≤ 140737488355328) (w : World) :
    Calls Tryd.prog 47 #[.string s] w fun e w' => e = .returned (.tuple #[.int .u64 (heldN s.data.toList), .bool (held 13 0 s.data.toList).isSome]) ∧ Below w.heap.size w w' := by
  obtain ⟨T, hT⟩ : ∃ T, held 13 0 s.data.toList = T := ⟨_, rfl⟩
  unfold heldN
  rw [hT]
  go_enter Tryd.func47, Tryd.ntmps47
  go_wp2
  go_loopw [10, 4, 5] (fun s10 s4 s5 wr => ∃ i h ab : Nat, s10 = .int .i64 i ∧ s4 = .int .u64 h ∧ s5 = .int .i64 ab ∧ i ≤ s.size ∧ h < 8192 ∧ ab ≤ 13 ∧ held ab h (s.data.toList.drop i) = T ∧ Below w.heap.size w wr) (fun s10 _ _ _ => s.size - (intOf s10).toNat)
  case atStart => exact ⟨0, 0, 13, rfl, rfl, rfl, Nat.zero_le _, by decide, by decide, hT, by repeat (first | (with_reducible exact Below.refl _ _) | ((with_reducible refine below_grow ?_ ?_); rotate_left; focus (first | omega | (simp [go_sem]; done) | (simp [go_sem]; omega))) | ((with_reducible refine Below.alloc ?_ ?_ _); rotate_left; focus (first | omega | (simp [go_sem]; done) | (simp [go_sem]; omega))) | ((with_reducible refine Below.setCell ?_ ?_ _); rotate_left; focus (first | omega | (simp [go_sem]; done) | (simp [go_sem]; omega))) | (with_reducible refine Below.drew ?_) | (with_reducible refine below_drewN _ ?_))⟩
  case round =>
    obtain ⟨i, h, ab, rfl, rfl, rfl, hi, hh, hab, hTr, hb⟩ := hrel
    by_cases hlt : i < s.size
    · have hlt2 : (i : Int) < s.size := by omega
      rw [getElem_list s i hlt] at hTr
      have C := idx_calls s[i]
      obtain ⟨r1, r2⟩ := idx_all s[i]
      unfold held at hTr
      have e1 : IntKind.i64.wrap ((i : Int) + 1) = (i : Int) + 1 := IntWalk.i64_in _ (by omega)
      obtain ⟨r, hr⟩ : ∃ r, idx s[i] = r := ⟨_, rfl⟩
      rw [hr] at hTr r1 r2 C
      have C := Lib.hid C
      have HH := Lib.hid (And.intro hh (And.intro hab hs))
      by_cases hn : r < 0
      · rw [if_pos (.inl hn)] at hTr
        subst hTr
        clear hh hab hs
        go_wp2_with (first | (go_at_call 49; refine (C.out _).mono ?_; rintro e w1 ⟨rfl, rfl⟩))
        refine bodyPost_ret (by simp [results, Tryd.results47, go_sem]) rfl ⟨rfl, ?_⟩
        repeat (first | (with_reducible exact hb) | ((with_reducible refine below_grow ?_ ?_); rotate_left; focus (first | omega | (simp [go_sem]; done) | (simp [go_sem]; omega))) | ((with_reducible refine Below.alloc ?_ ?_ _); rotate_left; focus (first | omega | (simp [go_sem]; done) | (simp [go_sem]; omega))) | ((with_reducible refine Below.setCell ?_ ?_ _); rotate_left; focus (first | omega | (simp [go_sem]; done) | (simp [go_sem]; omega))) | (with_reducible refine Below.drew ?_) | (with_reducible refine below_drewN _ ?_))
      · by_cases hn2 : (ab : Int) ≤ r
        · rw [if_pos (.inr hn2)] at hTr
          subst hTr
          clear hh hab hs
          go_wp2_with (first | (go_at_call 49; refine (C.out _).mono ?_; rintro e w1 ⟨rfl, rfl⟩))
          refine bodyPost_ret (by simp [results, Tryd.results47, go_sem]) rfl ⟨rfl, ?_⟩
          repeat (first | (with_reducible exact hb) | ((with_reducible refine below_grow ?_ ?_); rotate_left; focus (first | omega | (simp [go_sem]; done) | (simp [go_sem]; omega))) | ((with_reducible refine Below.alloc ?_ ?_ _); rotate_left; focus (first | omega | (simp [go_sem]; done) | (simp [go_sem]; omega))) | ((with_reducible refine Below.setCell ?_ ?_ _); rotate_left; focus (first | omega | (simp [go_sem]; done) | (simp [go_sem]; omega))) | (with_reducible refine Below.drew ?_) | (with_reducible refine below_drewN _ ?_))
        · rw [if_neg (by omega)] at hTr
          obtain ⟨q, rfl⟩ : ∃ q : Nat, r = q := ⟨r.toNat, by omega⟩
          rw [Int.toNat_natCast] at hTr
          obtain ⟨o1, o2⟩ := or_num h q hh (by omega)
          have hor : h ||| 2 ^ q < 8192 := Nat.or_lt_two_pow (n := 13) hh (Nat.pow_lt_pow_right (by decide) (by omega))
          obtain ⟨h', hh'⟩ : ∃ h', h ||| 2 ^ q = h' := ⟨_, rfl⟩
          rw [hh'] at o2 hTr hor
          have hmn : min q 64 = q := by omega
          have H2 := Lib.hid (And.intro hor hTr)
          clear hh hab hs hTr hor r1 r2 hh'
          go_wp2_with (first | (go_at_call 49; refine (C.out _).mono ?_; rintro e w1 ⟨rfl, rfl⟩))
          go_roundw
          case rel => exact ⟨i + 1, h', q, by go_num, rfl, rfl, by omega, H2.out.1, by have := HH.out; omega, H2.out.2, by repeat (first | (with_reducible exact hb) | ((with_reducible refine below_grow ?_ ?_); rotate_left; focus (first | omega | (simp [go_sem]; done) | (simp [go_sem]; omega))) | ((with_reducible refine Below.alloc ?_ ?_ _); rotate_left; focus (first | omega | (simp [go_sem]; done) | (simp [go_sem]; omega))) | ((with_reducible refine Below.setCell ?_ ?_ _); rotate_left; focus (first | omega | (simp [go_sem]; done) | (simp [go_sem]; omega))) | (with_reducible refine Below.drew ?_) | (with_reducible refine below_drewN _ ?_))⟩
          case measure => simp [intOf]; omega
    · obtain rfl : i = s.size := by omega
      have hd : s.data.toList.drop s.size = [] := List.drop_eq_nil_iff.2 (Nat.le_refl _)
      rw [hd] at hTr
      simp only [held] at hTr
      subst hTr
      clear hh hab hs
      go_wp2
      refine bodyPost_ret (by simp [results, Tryd.results47, go_sem]) rfl ⟨rfl, ?_⟩
      repeat (first | (with_reducible exact hb) | ((with_reducible refine below_grow ?_ ?_); rotate_left; focus (first | omega | (simp [go_sem]; done) | (simp [go_sem]; omega))) | ((with_reducible refine Below.alloc ?_ ?_ _); rotate_left; focus (first | omega | (simp [go_sem]; done) | (simp [go_sem]; omega))) | ((with_reducible refine Below.setCell ?_ ?_ _); rotate_left; focus (first | omega | (simp [go_sem]; done) | (simp [go_sem]; omega))) | (with_reducible refine Below.drew ?_) | (with_reducible refine below_drewN _ ?_))
theorem held_any (l : List UInt8) (hl : l.length ≤ 140737488355328) (w : World) :
    Calls Tryd.prog 47 #[strv l] w fun e w' => e = .returned (.tuple #[.int .u64 (heldN l), .bool (held 13 0 l).isSome]) ∧ Below w.heap.size w w' := by
  have h := held_long ⟨l.toArray⟩ hl w
  simpa using h
set_option maxRecDepth 100000 in
set_option maxHeartbeats 8000000 in
theorem parse_four_any (a b c d : List UInt8) (na : 46 ∉ a) (nb : 46 ∉ b) (nc : 46 ∉ c) (nd : 46 ∉ d) (h4 : (a ++ 46 :: (b ++ 46 :: (c ++ 46 :: d))).length ≤ 140737488355328) (w : World) :
    Calls Tryd.prog 17 #[strv (a ++ 46 :: (b ++ 46 :: (c ++ 46 :: d)))] w fun e w' => e = .returned (parV (prs4 a b c d)) ∧ Below w.heap.size w w' := by
  have S := Lib.hid (split_any a b c d na nb nc nd h4 w)
  have hl : ∀ i, (four a b c d i).length ≤ 140737488355328 := fun i => by
    simp only [List.length_append, List.length_cons] at h4
    unfold four
    split <;> omega
  obtain ⟨s, hs⟩ : ∃ s, a ++ 46 :: (b ++ 46 :: (c ++ 46 :: d)) = s := ⟨_, rfl⟩
  rw [hs] at S ⊢
  clear na nb nc nd h4 hs
  have E := prsF_four a b c d
  obtain ⟨T, hT⟩ : ∃ T, prs4 a b c d = T := ⟨_, rfl⟩
  rw [hT] at E ⊢
  have HL := Lib.hid hl
  clear hT hl
  go_enter Tryd.func17, Tryd.ntmps17
  go_upto_region 5 with (go_at_call 46; refine S.out.mono ?_; rintro e w1 ⟨rfl, hbel⟩; obtain ⟨o1, j1, rfl⟩ := grow_of_below hbel; clear hbel)
  have hX : blk ((grow w o1 j1).alloc (.cells #[strv a, strv b, strv c, strv d] 63)) (w.heap.size + sz o1) #[strv a, strv b, strv c, strv d] 63 := blk_at _ _ _ (by simp [go_sem])
  have hB : Below w.heap.size w ((grow w o1 j1).alloc (.cells #[strv a, strv b, strv c, strv d] 63)) := by repeat (first | (with_reducible exact Below.refl _ _) | ((with_reducible refine below_grow ?_ ?_); rotate_left; focus (first | omega | (simp [go_sem]; done) | (simp [go_sem]; omega))) | ((with_reducible refine Below.alloc ?_ ?_ _); rotate_left; focus (first | omega | (simp [go_sem]; done) | (simp [go_sem]; omega))) | ((with_reducible refine Below.setCell ?_ ?_ _); rotate_left; focus (first | omega | (simp [go_sem]; done) | (simp [go_sem]; omega))) | (with_reducible refine Below.drew ?_) | (with_reducible refine below_drewN _ ?_))
  go_wp2
  go_loopw [17, 6] (fun s17 s6 wr => ∃ i acc : Nat, s17 = .int .i64 i ∧ s6 = .int .u64 acc ∧ i ≤ 4 ∧ acc < 4503599627370496 ∧ prsF (four a b c d) (4 - i) i acc = T ∧ blk wr (w.heap.size + sz o1) #[strv a, strv b, strv c, strv d] 63 ∧ Below w.heap.size w wr) (fun s17 _ _ => 4 - (intOf s17).toNat)
  case atStart => exact ⟨0, 0, rfl, rfl, by decide, by decide, E, hX, hB⟩
  case round =>
    obtain ⟨i, acc, rfl, rfl, hi, ha, hTr, hx, hb⟩ := hrel
    have hbs := hb.size
    have iP : NeZero (inW (w.heap.size + sz o1) wr) := inW_mk (blk_lt hx)
    match i, hi with
    | 0, _ =>
      have hTr2 : (match held 13 0 d with | none => none | some x => prsF (four a b c d) 3 1 (acc ||| x <<< 0)) = T := hTr
      clear hTr
      have k0 := (blk_cell hx 3).trans (show _ = some (strv d) from rfl)
      have H := Lib.hid (held_any d (HL.out 0))
      have PL := Lib.hid (place_calls 0 (by decide))
      cases hh : held 13 0 d with
      | none =>
        rw [hh] at H hTr2
        rw [heldN_none hh] at H
        subst hTr2
        clear ha
        go_wp2_with (first | (go_at_call 44; refine (PL.out _).mono ?_; rintro e w3 ⟨rfl, rfl⟩) | (go_at_call 47; refine (H.out _).mono ?_; rintro e w4 ⟨rfl, hbel⟩; obtain ⟨o4, j4, rfl⟩ := grow_of_below hbel; clear hbel))
        refine bodyPost_ret (by simp [results, Tryd.results17, go_sem, parV]) rfl ⟨rfl, ?_⟩
        repeat (first | (with_reducible exact hb) | ((with_reducible refine below_grow ?_ ?_); rotate_left; focus (first | omega | (simp [go_sem]; done) | (simp [go_sem]; omega))) | ((with_reducible refine Below.alloc ?_ ?_ _); rotate_left; focus (first | omega | (simp [go_sem]; done) | (simp [go_sem]; omega))) | ((with_reducible refine Below.setCell ?_ ?_ _); rotate_left; focus (first | omega | (simp [go_sem]; done) | (simp [go_sem]; omega))) | (with_reducible refine Below.drew ?_) | (with_reducible refine below_drewN _ ?_))
      | some x =>
        rw [hh] at H hTr2
        obtain ⟨e1, e2⟩ := heldN_some hh
        rw [e1] at H
        obtain ⟨n1, n2, n3⟩ := or_shift acc x 0 ha e2 (by decide) 1 (by decide)
        rw [Int.mul_one] at n1 n2
        obtain ⟨acc', ha'⟩ : ∃ q, acc ||| x <<< 0 = q := ⟨_, rfl⟩
        replace hTr2 : prsF (four a b c d) 3 1 (acc ||| x <<< 0) = T := hTr2
        rw [ha'] at n2 n3 hTr2
        have HH := Lib.hid (And.intro n3 hTr2)
        clear ha e2 n3 hTr2 ha' e1
        go_wp2_with (first | (go_at_call 44; refine (PL.out _).mono ?_; rintro e w3 ⟨rfl, rfl⟩) | (go_at_call 47; refine (H.out _).mono ?_; rintro e w4 ⟨rfl, hbel⟩; obtain ⟨o4, j4, rfl⟩ := grow_of_below hbel; clear hbel))
        go_roundw
        case rel => exact ⟨1, acc', by go_num, rfl, by decide, HH.out.1, HH.out.2, blk_grow hx _ _, by repeat (first | (with_reducible exact hb) | ((with_reducible refine below_grow ?_ ?_); rotate_left; focus (first | omega | (simp [go_sem]; done) | (simp [go_sem]; omega))) | ((with_reducible refine Below.alloc ?_ ?_ _); rotate_left; focus (first | omega | (simp [go_sem]; done) | (simp [go_sem]; omega))) | ((with_reducible refine Below.setCell ?_ ?_ _); rotate_left; focus (first | omega | (simp [go_sem]; done) | (simp [go_sem]; omega))) | (with_reducible refine Below.drew ?_) | (with_reducible refine below_drewN _ ?_))⟩
        case measure => simp [intOf]
    | 1, _ =>
      have hTr2 : (match held 13 0 c with | none => none | some x => prsF (four a b c d) 2 2 (acc ||| x <<< 13)) = T := hTr
      clear hTr
      have k0 := (blk_cell hx 2).trans (show _ = some (strv c) from rfl)
      have H := Lib.hid (held_any c (HL.out 1))
      have PL := Lib.hid (place_calls 1 (by decide))
      cases hh : held 13 0 c with
      | none =>
        rw [hh] at H hTr2
        rw [heldN_none hh] at H
        subst hTr2
        clear ha
        go_wp2_with (first | (go_at_call 44; refine (PL.out _).mono ?_; rintro e w3 ⟨rfl, rfl⟩) | (go_at_call 47; refine (H.out _).mono ?_; rintro e w4 ⟨rfl, hbel⟩; obtain ⟨o4, j4, rfl⟩ := grow_of_below hbel; clear hbel))
        refine bodyPost_ret (by simp [results, Tryd.results17, go_sem, parV]) rfl ⟨rfl, ?_⟩
        repeat (first | (with_reducible exact hb) | ((with_reducible refine below_grow ?_ ?_); rotate_left; focus (first | omega | (simp [go_sem]; done) | (simp [go_sem]; omega))) | ((with_reducible refine Below.alloc ?_ ?_ _); rotate_left; focus (first | omega | (simp [go_sem]; done) | (simp [go_sem]; omega))) | ((with_reducible refine Below.setCell ?_ ?_ _); rotate_left; focus (first | omega | (simp [go_sem]; done) | (simp [go_sem]; omega))) | (with_reducible refine Below.drew ?_) | (with_reducible refine below_drewN _ ?_))
      | some x =>
        rw [hh] at H hTr2
        obtain ⟨e1, e2⟩ := heldN_some hh
        rw [e1] at H
        obtain ⟨n1, n2, n3⟩ := or_shift acc x 13 ha e2 (by decide) 8192 (by decide)
        obtain ⟨acc', ha'⟩ : ∃ q, acc ||| x <<< 13 = q := ⟨_, rfl⟩
        replace hTr2 : prsF (four a b c d) 2 2 (acc ||| x <<< 13) = T := hTr2
        rw [ha'] at n2 n3 hTr2
        have HH := Lib.hid (And.intro n3 hTr2)
        clear ha e2 n3 hTr2 ha' e1
        go_wp2_with (first | (go_at_call 44; refine (PL.out _).mono ?_; rintro e w3 ⟨rfl, rfl⟩) | (go_at_call 47; refine (H.out _).mono ?_; rintro e w4 ⟨rfl, hbel⟩; obtain ⟨o4, j4, rfl⟩ := grow_of_below hbel; clear hbel))
        go_roundw
        case rel => exact ⟨2, acc', by go_num, rfl, by decide, HH.out.1, HH.out.2, blk_grow hx _ _, by repeat (first | (with_reducible exact hb) | ((with_reducible refine below_grow ?_ ?_); rotate_left; focus (first | omega | (simp [go_sem]; done) | (simp [go_sem]; omega))) | ((with_reducible refine Below.alloc ?_ ?_ _); rotate_left; focus (first | omega | (simp [go_sem]; done) | (simp [go_sem]; omega))) | ((with_reducible refine Below.setCell ?_ ?_ _); rotate_left; focus (first | omega | (simp [go_sem]; done) | (simp [go_sem]; omega))) | (with_reducible refine Below.drew ?_) | (with_reducible refine below_drewN _ ?_))⟩
        case measure => simp [intOf]
    | 2, _ =>
      have hTr2 : (match held 13 0 b with | none => none | some x => prsF (four a b c d) 1 3 (acc ||| x <<< 26)) = T := hTr
      clear hTr
      have k0 := (blk_cell hx 1).trans (show _ = some (strv b) from rfl)
      have H := Lib.hid (held_any b (HL.out 2))
      have PL := Lib.hid (place_calls 2 (by decide))
      cases hh : held 13 0 b with
      | none =>
        rw [hh] at H hTr2
        rw [heldN_none hh] at H
        subst hTr2
        clear ha
        go_wp2_with (first | (go_at_call 44; refine (PL.out _).mono ?_; rintro e w3 ⟨rfl, rfl⟩) | (go_at_call 47; refine (H.out _).mono ?_; rintro e w4 ⟨rfl, hbel⟩; obtain ⟨o4, j4, rfl⟩ := grow_of_below hbel; clear hbel))
        refine bodyPost_ret (by simp [results, Tryd.results17, go_sem, parV]) rfl ⟨rfl, ?_⟩
        repeat (first | (with_reducible exact hb) | ((with_reducible refine below_grow ?_ ?_); rotate_left; focus (first | omega | (simp [go_sem]; done) | (simp [go_sem]; omega))) | ((with_reducible refine Below.alloc ?_ ?_ _); rotate_left; focus (first | omega | (simp [go_sem]; done) | (simp [go_sem]; omega))) | ((with_reducible refine Below.setCell ?_ ?_ _); rotate_left; focus (first | omega | (simp [go_sem]; done) | (simp [go_sem]; omega))) | (with_reducible refine Below.drew ?_) | (with_reducible refine below_drewN _ ?_))
      | some x =>
        rw [hh] at H hTr2
        obtain ⟨e1, e2⟩ := heldN_some hh
        rw [e1] at H
        obtain ⟨n1, n2, n3⟩ := or_shift acc x 26 ha e2 (by decide) 67108864 (by decide)
        obtain ⟨acc', ha'⟩ : ∃ q, acc ||| x <<< 26 = q := ⟨_, rfl⟩
        replace hTr2 : prsF (four a b c d) 1 3 (acc ||| x <<< 26) = T := hTr2
        rw [ha'] at n2 n3 hTr2
        have HH := Lib.hid (And.intro n3 hTr2)
        clear ha e2 n3 hTr2 ha' e1
        go_wp2_with (first | (go_at_call 44; refine (PL.out _).mono ?_; rintro e w3 ⟨rfl, rfl⟩) | (go_at_call 47; refine (H.out _).mono ?_; rintro e w4 ⟨rfl, hbel⟩; obtain ⟨o4, j4, rfl⟩ := grow_of_below hbel; clear hbel))
        go_roundw
        case rel => exact ⟨3, acc', by go_num, rfl, by decide, HH.out.1, HH.out.2, blk_grow hx _ _, by repeat (first | (with_reducible exact hb) | ((with_reducible refine below_grow ?_ ?_); rotate_left; focus (first | omega | (simp [go_sem]; done) | (simp [go_sem]; omega))) | ((with_reducible refine Below.alloc ?_ ?_ _); rotate_left; focus (first | omega | (simp [go_sem]; done) | (simp [go_sem]; omega))) | ((with_reducible refine Below.setCell ?_ ?_ _); rotate_left; focus (first | omega | (simp [go_sem]; done) | (simp [go_sem]; omega))) | (with_reducible refine Below.drew ?_) | (with_reducible refine below_drewN _ ?_))⟩
        case measure => simp [intOf]
    | 3, _ =>
      have hTr2 : (match held 13 0 a with | none => none | some x => prsF (four a b c d) 0 4 (acc ||| x <<< 39)) = T := hTr
      clear hTr
      have k0 := (blk_cell hx 0).trans (show _ = some (strv a) from rfl)
      have H := Lib.hid (held_any a (HL.out 3))
      have PL := Lib.hid (place_calls 3 (by decide))
      cases hh : held 13 0 a with
      | none =>
        rw [hh] at H hTr2
        rw [heldN_none hh] at H
        subst hTr2
        clear ha
        go_wp2_with (first | (go_at_call 44; refine (PL.out _).mono ?_; rintro e w3 ⟨rfl, rfl⟩) | (go_at_call 47; refine (H.out _).mono ?_; rintro e w4 ⟨rfl, hbel⟩; obtain ⟨o4, j4, rfl⟩ := grow_of_below hbel; clear hbel))
        refine bodyPost_ret (by simp [results, Tryd.results17, go_sem, parV]) rfl ⟨rfl, ?_⟩
        repeat (first | (with_reducible exact hb) | ((with_reducible refine below_grow ?_ ?_); rotate_left; focus (first | omega | (simp [go_sem]; done) | (simp [go_sem]; omega))) | ((with_reducible refine Below.alloc ?_ ?_ _); rotate_left; focus (first | omega | (simp [go_sem]; done) | (simp [go_sem]; omega))) | ((with_reducible refine Below.setCell ?_ ?_ _); rotate_left; focus (first | omega | (simp [go_sem]; done) | (simp [go_sem]; omega))) | (with_reducible refine Below.drew ?_) | (with_reducible refine below_drewN _ ?_))
      | some x =>
        rw [hh] at H hTr2
        obtain ⟨e1, e2⟩ := heldN_some hh
        rw [e1] at H
        obtain ⟨n1, n2, n3⟩ := or_shift acc x 39 ha e2 (by decide) 549755813888 (by decide)
        obtain ⟨acc', ha'⟩ : ∃ q, acc ||| x <<< 39 = q := ⟨_, rfl⟩
        replace hTr2 : prsF (four a b c d) 0 4 (acc ||| x <<< 39) = T := hTr2
        rw [ha'] at n2 n3 hTr2
        have HH := Lib.hid (And.intro n3 hTr2)
        clear ha e2 n3 hTr2 ha' e1
        go_wp2_with (first | (go_at_call 44; refine (PL.out _).mono ?_; rintro e w3 ⟨rfl, rfl⟩) | (go_at_call 47; refine (H.out _).mono ?_; rintro e w4 ⟨rfl, hbel⟩; obtain ⟨o4, j4, rfl⟩ := grow_of_below hbel; clear hbel))
        go_roundw
        case rel => exact ⟨4, acc', by go_num, rfl, by decide, HH.out.1, HH.out.2, blk_grow hx _ _, by repeat (first | (with_reducible exact hb) | ((with_reducible refine below_grow ?_ ?_); rotate_left; focus (first | omega | (simp [go_sem]; done) | (simp [go_sem]; omega))) | ((with_reducible refine Below.alloc ?_ ?_ _); rotate_left; focus (first | omega | (simp [go_sem]; done) | (simp [go_sem]; omega))) | ((with_reducible refine Below.setCell ?_ ?_ _); rotate_left; focus (first | omega | (simp [go_sem]; done) | (simp [go_sem]; omega))) | (with_reducible refine Below.drew ?_) | (with_reducible refine below_drewN _ ?_))⟩
        case measure => simp [intOf]
    | 4, _ =>
      have hTr2 : some acc = T := hTr
      subst hTr2
      clear ha hTr
      go_wp2
      refine bodyPost_ret (by simp [results, Tryd.results17, go_sem, parV]) rfl ⟨rfl, ?_⟩
      exact hb
theorem parse_any (s : ByteArray) (hs : s.size ≤ 140737488355328) (w : World) :
    Calls Tryd.prog 17 #[.string s] w fun e w' => e = .returned (parV (prs s.data.toList)) ∧ Below w.heap.size w w' := by
  unfold prs
  by_cases h : s.data.toList.count 46 = 3
  · obtain ⟨a, b, c, d, hp, hj, na, nb, nc, nd⟩ := split_three h
    rw [if_pos h, hp]
    have hl : s.data.toList.length ≤ 140737488355328 := hs
    have e : s = ⟨(a ++ 46 :: (b ++ 46 :: (c ++ 46 :: d))).toArray⟩ := by rw [← hj]
    rw [hj] at hl
    rw [e]
    exact parse_four_any a b c d na nb nc nd hl w
  · rw [if_neg h]
    exact parse_count s h w
end Go.Proofs.YtcfkcfbgnciccaaDoor
