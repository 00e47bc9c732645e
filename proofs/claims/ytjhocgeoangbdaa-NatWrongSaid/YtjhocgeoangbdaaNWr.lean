/- NatWrong. -/
import Derived.Test.YtjhocgeoangbdaaNZc
namespace Go.Proofs.Ytjhocgeoangbdaa
open Go.RowKit

theorem choose_less (n : Int) (h0 : -9223372036854775808 ≤ n) (h : n < 0) (w : World) :
    Calls Try.prog 24 #[.int .i64 n, .int .i64 1] w fun e w' => e = .returned (.tuple #[.agg #[.int .u32 0, .int .u32 0, .int .u32 0, .int .u32 0], .int .i64 2]) ∧ Below w.heap.size w w' := by
  have := choose_bad n 1 h0 (by omega) (by decide) (by decide) (.inl h) w
  rw [if_pos h] at this
  simp only [pt_zero] at this
  exact this
theorem choose_more (n : Int) (h : 128 < n) (h1 : n ≤ 9223372036854775807) (w : World) :
    Calls Try.prog 24 #[.int .i64 n, .int .i64 1] w fun e w' => e = .returned (.tuple #[.agg #[.int .u32 0, .int .u32 0, .int .u32 0, .int .u32 0], .int .i64 5]) ∧ Below w.heap.size w w' := by
  have := choose_bad n 1 (by omega) h1 (by decide) (by decide) (.inr (.inl h)) w
  rw [if_neg (by omega), if_pos h] at this
  simp only [pt_zero] at this
  exact this
theorem read_bad (s : ByteArray) (hs : (s.size : Int) ≤ 9223372036854775807) (h : decB s.data.toList = false) (w : World) :
    Calls Try.prog 26 #[.string s] w fun e w' => e = .returned (.tuple #[.agg #[.int .u32 0, .int .u32 0, .int .u32 0, .int .u32 0], .int .i64 20]) ∧ Below w.heap.size w w' := by
  have e1 : readR s.data.toList = 0 := if_neg (by rw [h]; simp)
  have e2 : readE s.data.toList = 20 := if_neg (by rw [h]; simp)
  have := read_calls s hs w
  rw [e1, e2] at this
  simp only [pt_zero] at this
  exact this
theorem conv1 (W : World) (c : Int) (g : Nat) (hc : 0 ≤ c ∧ c ≤ 255) (hg : g = W.heap.size) :
    (convert 53 9 (.slice (some ⟨g, 0, none⟩) 1 1)).run Try.prog (W.alloc (.cells #[.int .u8 c] 5)).drew = .ok (.string ⟨#[UInt8.ofNat c.toNat]⟩) (W.alloc (.cells #[.int .u8 c] 5)).drew := by
  subst hg
  refine run_convert_bytes_back (W.alloc (.cells #[.int .u8 c] 5)).drew 53 9 5 ⟨W.heap.size, 0, none⟩ 1 [UInt8.ofNat c.toNat] Try.underlying53 Try.underlying5 Try.underlying9 fun j hj => ?_
  have hp : (⟨W.heap.size, 0, none⟩ : Addr).add j = ⟨W.heap.size, 0 + j, none⟩ := by unfold Addr.add; split <;> simp_all
  have h0 : j = 0 := by simpa using hj
  subst h0
  have hb : (UInt8.ofNat c.toNat).toNat = c.toNat := by rw [UInt8.toNat_ofNat']; omega
  rw [hp]
  have := blk_cell (blk_new W #[.int .u8 c] 5) 0
  show (W.alloc (.cells #[.int .u8 c] 5)).cell? _ = _
  rw [this]
  simp [hb]
  omega
theorem conv2 (W : World) (c : Int) (g : Nat) (O : Obj) (hc : 0 ≤ c ∧ c ≤ 255) (hg : g = W.heap.size) :
    (convert 53 9 (.slice (some ⟨g, 0, none⟩) 1 1)).run Try.prog ((W.alloc (.cells #[.int .u8 c] 5)).alloc O).drew = .ok (.string ⟨#[UInt8.ofNat c.toNat]⟩) ((W.alloc (.cells #[.int .u8 c] 5)).alloc O).drew := by
  subst hg
  refine run_convert_bytes_back ((W.alloc (.cells #[.int .u8 c] 5)).alloc O).drew 53 9 5 ⟨W.heap.size, 0, none⟩ 1 [UInt8.ofNat c.toNat] Try.underlying53 Try.underlying5 Try.underlying9 fun j hj => ?_
  have hp : (⟨W.heap.size, 0, none⟩ : Addr).add j = ⟨W.heap.size, 0 + j, none⟩ := by unfold Addr.add; split <;> simp_all
  have h0 : j = 0 := by simpa using hj
  subst h0
  have hb : (UInt8.ofNat c.toNat).toNat = c.toNat := by rw [UInt8.toNat_ofNat']; omega
  rw [hp]
  have := blk_cell (blk_alloc (blk_new W #[.int .u8 c] 5) O) 0
  show ((W.alloc (.cells #[.int .u8 c] 5)).alloc O).cell? _ = _
  rw [this]
  simp [hb]
  omega
theorem insert_read (s : ByteArray) (i : Nat) (c : Int) (hz : s.size ≤ 39) (hi : i ≤ s.size) (hc : 0 ≤ c ∧ c ≤ 255) :
    ∃ (R : Nat) (E : Int), ((48 ≤ c → ¬ c ≤ 57) → E = 20) ∧ ∀ w, Calls Try.prog 26 #[.string (s.extract 0 i ++ { data := #[UInt8.ofNat c.toNat] } ++ s.extract i s.size)] w fun e w' => e = .returned (.tuple #[.agg #[.int .u32 (pt R 0), .int .u32 (pt R 1), .int .u32 (pt R 2), .int .u32 (pt R 3)], .int .i64 E]) ∧ Below w.heap.size w w' := by
  have hb : (UInt8.ofNat c.toNat).toNat = c.toNat := by rw [UInt8.toNat_ofNat']; omega
  have hl : (s.extract 0 i ++ { data := #[UInt8.ofNat c.toNat] } ++ s.extract i s.size : ByteArray).data.toList = s.data.toList.take i ++ [UInt8.ofNat c.toNat] ++ s.data.toList.drop i := by
    have hs : s.size = s.data.toList.length := rfl
    have h2 : (s.data.toList.drop i).take (s.size - i) = s.data.toList.drop i := List.take_of_length_le (by rw [List.length_drop, hs]; omega)
    simp only [ByteArray.data_append, ByteArray.data_extract, Array.toList_append, Array.toList_extract, List.extract_eq_take_drop, List.drop_zero, Nat.sub_zero, h2]
  have hsz : ((s.extract 0 i ++ { data := #[UInt8.ofNat c.toNat] } ++ s.extract i s.size : ByteArray).size : Int) ≤ 9223372036854775807 := by
    have e : (s.extract 0 i ++ { data := #[UInt8.ofNat c.toNat] } ++ s.extract i s.size : ByteArray).size = (s.data.toList.take i ++ [UInt8.ofNat c.toNat] ++ s.data.toList.drop i).length := by rw [← hl]; rfl
    have hs : s.data.toList.length = s.size := rfl
    rw [e]
    simp only [List.length_append, List.length_take, List.length_drop, List.length_singleton, hs]
    omega
  refine ⟨_, _, ?_, fun w => read_calls _ hsz w⟩
  intro h
  rw [hl]
  refine if_neg ?_
  have hd : digB (UInt8.ofNat c.toNat) = false := by
    unfold digB
    rw [hb]
    by_cases h1 : 48 ≤ c
    · have := h h1
      rw [decide_eq_false (p := c.toNat ≤ 57) (by omega), Bool.and_false]
    · rw [decide_eq_false (p := 48 ≤ c.toNat) (by omega), Bool.false_and]
  unfold decB
  simp [hd]
set_option maxRecDepth 100000 in
set_option maxHeartbeats 8000000 in
theorem wrong_walk (a : Nat) (n c at0 : Int) (ha : isN a) (hn : -9223372036854775808 ≤ n ∧ n ≤ 9223372036854775807) (hc : 0 ≤ c ∧ c ≤ 255) (ht : 0 ≤ at0 ∧ at0 ≤ 255) (w : World) :
    Calls Try.prog 11 #[.agg #[.int .u32 (pt a 0), .int .u32 (pt a 1), .int .u32 (pt a 2), .int .u32 (pt a 3)], .int .i64 n, .int .u8 c, .int .u8 at0] w fun e w' => e = .returned (.bool true) ∧ Below w.heap.size w w' := by
  obtain ⟨s, hs⟩ := string_of (decD a)
  have hz : s.size ≤ 39 := by
    have := decD_short a ha
    rw [← hs] at this
    exact this
  have H1 := Lib.hid (text_hyp a ha s hs)
  go_enter Try.func11, Try.ntmps11
  go_upto_region 3 with (first | (go_at_call 13; refine (awake_calls _).mono ?_; rintro e w1 ⟨rfl, hbel⟩; obtain ⟨o1, j1, rfl⟩ := grow_of_below hbel; clear hbel))
  have H2 := Lib.hid (of_less (min n (-1)) (by omega) (by omega))
  have H3 := Lib.hid (choose_less (min n (-1)) (by omega) (by omega))
  have H4 := Lib.hid (choose_more (max n 129) (by omega) (by omega))
  go_upto_region 4 with (first | (go_at_call 27; refine (H2.out _).mono ?_; rintro e w2 ⟨rfl, hbel⟩; obtain ⟨o2, j2, rfl⟩ := grow_of_below hbel; clear hbel))
  clear H2
  go_upto_region 5 with (first | (go_at_call 24; refine (H3.out _).mono ?_; rintro e w3 ⟨rfl, hbel⟩; obtain ⟨o3, j3, rfl⟩ := grow_of_below hbel; clear hbel))
  clear H3
  go_upto_region 6 with (first | (go_at_call 24; refine (H4.out _).mono ?_; rintro e w4 ⟨rfl, hbel⟩; obtain ⟨o4, j4, rfl⟩ := grow_of_below hbel; clear hbel))
  clear H4
  go_upto_region 7 with (first | (go_at_call 25; refine (H1.out _).mono ?_; rintro e w5 ⟨rfl, hbel⟩; obtain ⟨o5, j5, rfl⟩ := grow_of_below hbel; clear hbel))
  clear H1
  have H5 := Lib.hid (read_bad ({ data := #[48] } ++ s) (by simp only [ByteArray.size_append]; show ((1 + s.size : Nat) : Int) ≤ _; omega) (by
    have : ({ data := #[48] } ++ s : ByteArray).data.toList = 48 :: decD a := by rw [ByteArray.data_append, Array.toList_append, hs]; rfl
    rw [this]
    have h1 := (dec_facts a ha).1
    unfold decB
    cases hd : decD a with
    | nil => exact absurd hd h1
    | cons => simp))
  have H6 := Lib.hid (read_bad { data := #[] } (by decide) (by decide))
  go_upto_region 8 with (first | (go_at_call 26; refine (H5.out _).mono ?_; rintro e w6 ⟨rfl, hbel⟩; obtain ⟨o6, j6, rfl⟩ := grow_of_below hbel; clear hbel))
  clear H5
  go_upto_region 9 with (first | (go_at_call 26; refine (H6.out _).mono ?_; rintro e w7 ⟨rfl, hbel⟩; obtain ⟨o7, j7, rfl⟩ := grow_of_below hbel; clear hbel))
  clear H6
  have e1 : IntKind.i64.wrap ((s.size : Int) + 1) = (s.size : Int) + 1 := IntWalk.i64_in _ (by omega)
  obtain ⟨i, hi⟩ : ∃ i : Nat, at0.tmod ((s.size : Int) + 1) = (i : Int) := ⟨(at0.tmod ((s.size : Int) + 1)).toNat, by rw [Int.tmod_eq_emod_of_nonneg (by omega)]; have := Int.emod_nonneg at0 (show (s.size : Int) + 1 ≠ 0 by omega); omega⟩
  have hi1 : i ≤ s.size := by
    rw [Int.tmod_eq_emod_of_nonneg (by omega)] at hi
    have := Int.emod_lt_of_pos at0 (show (0 : Int) < (s.size : Int) + 1 by omega)
    omega
  have hne : (s.size : Int) + 1 ≠ 0 := by omega
  have hi2 : (i : Int) ≤ s.size := by omega
  go_upto_region 10 with fail
  trace_state
  go_cut [22] (fun s22 wx => ∃ v : Int, s22 = .int .i64 v ∧ ((48 ≤ c → ¬ c ≤ 57) → v = 20) ∧ Below w.heap.size w wx)
  case first =>
    have hK := fun (W : World) (g : Nat) (hg : g = W.heap.size) => conv1 W c g hc hg
    have hK2 := fun (W : World) (g : Nat) (O : Obj) (hg : g = W.heap.size) => conv2 W c g O hc hg
    obtain ⟨R, E, hE, H8⟩ := insert_read s i c hz hi1 hc
    have H8 := Lib.hid H8
    go_region_with (first | (go_at_call 26; refine (H8.out _).mono ?_; rintro e w8 ⟨rfl, hbel⟩; obtain ⟨o8, j8, rfl⟩ := grow_of_below hbel; clear hbel))
    all_goals go_wp2
    all_goals go_meet
    all_goals exact ⟨E, rfl, hE, by repeat (first | (with_reducible exact Below.refl _ _) | ((with_reducible refine below_grow ?_ ?_); rotate_left; focus (first | omega | (simp [go_sem]; done) | (simp [go_sem]; omega))) | ((with_reducible refine Below.alloc ?_ ?_ _); rotate_left; focus (first | omega | (simp [go_sem]; done) | (simp [go_sem]; omega))) | ((with_reducible refine Below.setCell ?_ ?_ _); rotate_left; focus (first | omega | (simp [go_sem]; done) | (simp [go_sem]; omega))) | (with_reducible refine Below.drew ?_) | (with_reducible refine below_drewN _ ?_))⟩
  case rest =>
    obtain ⟨v, rfl, hv, hbel⟩ := hcut
    by_cases c1 : 48 ≤ c
    · by_cases c2 : c ≤ 57
      · go_wp2
        go_ret
        exact ⟨rfl, hbel⟩
      · obtain rfl := hv (fun _ => c2)
        go_wp2
        go_ret
        exact ⟨rfl, hbel⟩
    · obtain rfl := hv (fun h => absurd h c1)
      go_wp2
      go_ret
      exact ⟨rfl, hbel⟩
end Go.Proofs.Ytjhocgeoangbdaa
