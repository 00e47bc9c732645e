/- NatBack. -/
import Derived.Test.YtjhocgeoangbdaaNY
import Derived.Test.YtjhocgeoangbdaaNT
namespace Go.Proofs.Ytjhocgeoangbdaa
open Go.RowKit

theorem text_hyp (a : Nat) (ha : isN a) (s : ByteArray) (hs : s.data.toList = decD a) (w : World) :
    Calls Try.prog 25 #[.agg #[.int .u32 (pt a 0), .int .u32 (pt a 1), .int .u32 (pt a 2), .int .u32 (pt a 3)]] w fun e w' => e = .returned (.string s) ∧ Below w.heap.size w w' := by
  have e : s = ⟨(decD a).toArray⟩ := by
    obtain ⟨d⟩ := s
    simp only at hs
    rw [← hs]
  rw [e]
  exact text_calls a ha w
theorem decD_short (a : Nat) (ha : isN a) : (decD a).length ≤ 39 := by
  obtain ⟨_, _, _, _, _, h6⟩ := dec_facts a ha
  by_cases h : 10 ≤ a
  · have h7 := (h6 h).1
    apply Classical.byContradiction
    intro hn
    have h8 : 10 ^ 39 ≤ 10 ^ ((decD a).length - 1) := Nat.pow_le_pow_right (by decide) (by omega)
    have h9 : (10 : Nat) ^ 39 = 1000000000000000000000000000000000000000 := by decide
    unfold isN at ha
    have := Nat.le_trans h8 h7
    omega
  · rw [decD_low a (by omega)]
    simp
theorem read_hyp (a : Nat) (ha : isN a) (s : ByteArray) (hs : s.data.toList = decD a) (w : World) :
    Calls Try.prog 26 #[.string s] w fun e w' => e = .returned (.tuple #[.agg #[.int .u32 (pt a 0), .int .u32 (pt a 1), .int .u32 (pt a 2), .int .u32 (pt a 3)], .int .i64 0]) ∧ Below w.heap.size w w' := by
  have hz : s.size = (decD a).length := by rw [← hs]; rfl
  have := decD_short a ha
  have h := read_calls s (by omega) w
  rw [hs, (dec_read a ha).1, (dec_read a ha).2] at h
  exact h
theorem dec_eq (a b : Nat) (ha : isN a) (hb : isN b) (hl : (decD a).length = (decD b).length) (h1 : Op.bytesLess (decD a) (decD b) = false) (h2 : Op.bytesLess (decD b) (decD a) = false) : a = b := by
  rw [dec_less a b ha hb hl] at h1
  rw [dec_less b a hb ha hl.symm] at h2
  have h1' := of_decide_eq_false h1
  have h2' := of_decide_eq_false h2
  omega
theorem of_less (n : Int) (h0 : -9223372036854775808 ≤ n) (h : n < 0) (w : World) :
    Calls Try.prog 27 #[.int .i64 n] w fun e w' => e = .returned (.tuple #[.agg #[.int .u32 0, .int .u32 0, .int .u32 0, .int .u32 0], .int .i64 21]) ∧ Below w.heap.size w w' := by
  have := of_calls n h0 (by omega) w
  rw [show ofR n = 0 from if_pos h, show ofE n = 21 from if_pos h] at this
  simp only [pt_zero] at this
  exact this
theorem of_more (n : Int) (h : ¬ n < 0) (h1 : n ≤ 9223372036854775807) (w : World) :
    Calls Try.prog 27 #[.int .i64 n] w fun e w' => e = .returned (.tuple #[.agg #[.int .u32 (pt n.toNat 0), .int .u32 (pt n.toNat 1), .int .u32 (pt n.toNat 2), .int .u32 (pt n.toNat 3)], .int .i64 0]) ∧ Below w.heap.size w w' := by
  have := of_calls n (by omega) h1 w
  rw [show ofR n = n.toNat from if_neg h, show ofE n = 0 from if_neg h] at this
  exact this
theorem int_more (n : Int) (h : ¬ n < 0) (h1 : n ≤ 9223372036854775807) (w : World) :
    Calls Try.prog 28 #[.agg #[.int .u32 (pt n.toNat 0), .int .u32 (pt n.toNat 1), .int .u32 (pt n.toNat 2), .int .u32 (pt n.toNat 3)]] w fun e w' => e = .returned (.tuple #[.int .i64 n, .int .i64 0]) ∧ Below w.heap.size w w' := by
  have := int_calls n.toNat (by unfold isN; omega) w
  have h2 : n.toNat < 9223372036854775808 := by omega
  rw [show intR n.toNat = n.toNat from if_pos h2, show intE n.toNat = 0 from if_pos h2, Int.toNat_of_nonneg (by omega)] at this
  exact this
theorem int_lo (a : Nat) (ha : isN a) (h : a < 9223372036854775808) (w : World) :
    Calls Try.prog 28 #[.agg #[.int .u32 (pt a 0), .int .u32 (pt a 1), .int .u32 (pt a 2), .int .u32 (pt a 3)]] w fun e w' => e = .returned (.tuple #[.int .i64 a, .int .i64 0]) ∧ Below w.heap.size w w' := by
  have := int_calls a ha w
  rw [show intR a = a from if_pos h, show intE a = 0 from if_pos h] at this
  exact this
theorem int_hi (a : Nat) (ha : isN a) (h : ¬ a < 9223372036854775808) (w : World) :
    Calls Try.prog 28 #[.agg #[.int .u32 (pt a 0), .int .u32 (pt a 1), .int .u32 (pt a 2), .int .u32 (pt a 3)]] w fun e w' => e = .returned (.tuple #[.int .i64 0, .int .i64 3]) ∧ Below w.heap.size w w' := by
  have := int_calls a ha w
  rw [show intR a = 0 from if_neg h, show intE a = 3 from if_neg h] at this
  exact this
theorem of_lo (a : Nat) (h : a < 9223372036854775808) (w : World) :
    Calls Try.prog 27 #[.int .i64 a] w fun e w' => e = .returned (.tuple #[.agg #[.int .u32 (pt a 0), .int .u32 (pt a 1), .int .u32 (pt a 2), .int .u32 (pt a 3)], .int .i64 0]) ∧ Below w.heap.size w w' := by
  have := of_more a (by omega) (by omega) w
  rw [show ((a : Int)).toNat = a from rfl] at this
  exact this
theorem of_zero (w : World) :
    Calls Try.prog 27 #[.int .i64 0] w fun e w' => e = .returned (.tuple #[.agg #[.int .u32 0, .int .u32 0, .int .u32 0, .int .u32 0], .int .i64 0]) ∧ Below w.heap.size w w' := by
  have := of_lo 0 (by decide) w
  simp only [pt_zero] at this
  exact this
theorem cmp_top63 (a : Nat) (ha : isN a) (h : ¬ a < 9223372036854775808) (w : World) :
    Calls Try.prog 22 #[.agg #[.int .u32 (pt a 0), .int .u32 (pt a 1), .int .u32 (pt a 2), .int .u32 (pt a 3)], .agg #[.int .u32 4294967295, .int .u32 2147483647, .int .u32 0, .int .u32 0]] w fun e w' => e = .returned (.int .i64 1) ∧ Below w.heap.size w w' := by
  have := cmp_hyp a 9223372036854775807 1 ha (by unfold isN; decide) (by unfold cmpN; rw [if_neg (by omega), if_pos (by omega)]) w
  rw [show pt 9223372036854775807 0 = 4294967295 from by decide, show pt 9223372036854775807 1 = 2147483647 from by decide, show pt 9223372036854775807 2 = 0 from by decide, show pt 9223372036854775807 3 = 0 from by decide] at this
  exact this
theorem string_of (l : List UInt8) : ∃ s : ByteArray, s.data.toList = l := ⟨⟨l.toArray⟩, by simp⟩
set_option maxRecDepth 100000 in
set_option maxHeartbeats 8000000 in
theorem back_walk (a b : Nat) (n : Int) (ha : isN a) (hb : isN b) (hn : -9223372036854775808 ≤ n ∧ n ≤ 9223372036854775807) (w : World) :
    Calls Try.prog 10 #[.agg #[.int .u32 (pt a 0), .int .u32 (pt a 1), .int .u32 (pt a 2), .int .u32 (pt a 3)], .agg #[.int .u32 (pt b 0), .int .u32 (pt b 1), .int .u32 (pt b 2), .int .u32 (pt b 3)], .int .i64 n] w fun e w' => e = .returned (.bool true) ∧ Below w.heap.size w w' := by
  obtain ⟨s, hs⟩ := string_of (decD a)
  obtain ⟨t, ht⟩ := string_of (decD b)
  have H1 := Lib.hid (text_hyp a ha s hs)
  have H2 := Lib.hid (text_hyp b hb t ht)
  have H3 := Lib.hid (read_hyp a ha s hs)
  have hord0 := Lib.hid (dec_order a b ha hb)
  have hne : (s.toList == []) = false := by
    rw [Lib.toList_data, hs]
    have := (dec_facts a ha).1
    cases hc : decD a with
    | nil => exact absurd hc this
    | cons => rfl
  go_enter Try.func10, Try.ntmps10
  go_upto_region 3 with (first | (go_at_call 13; refine (awake_calls _).mono ?_; rintro e w1 ⟨rfl, hbel⟩; obtain ⟨o1, j1, rfl⟩ := grow_of_below hbel; clear hbel))
  go_region_held3 (fun w' => w'.cell? ⟨w.heap.size, 0, none⟩ = some (.int .u32 (pt a 0)) ∧ w'.cell? ⟨w.heap.size, 1, none⟩ = some (.int .u32 (pt a 1)) ∧ w'.cell? ⟨w.heap.size, 2, none⟩ = some (.int .u32 (pt a 2)) ∧ w'.cell? ⟨w.heap.size, 3, none⟩ = some (.int .u32 (pt a 3)) ∧ w'.cell? ⟨w.heap.size + 1, 0, none⟩ = some (.int .u32 (pt b 0)) ∧ w'.cell? ⟨w.heap.size + 1, 1, none⟩ = some (.int .u32 (pt b 1)) ∧ w'.cell? ⟨w.heap.size + 1, 2, none⟩ = some (.int .u32 (pt b 2)) ∧ w'.cell? ⟨w.heap.size + 1, 3, none⟩ = some (.int .u32 (pt b 3))) (simp [*, go_sem])
    (first
      | (go_at_call_of 25 (pt a 0); refine (H1.out _).mono ?_; rintro e w2 ⟨rfl, hb⟩; obtain ⟨o2, j2, rfl⟩ := grow_of_below hb; clear hb)
      | (go_at_call_of 25 (pt b 0); refine (H2.out _).mono ?_; rintro e w3 ⟨rfl, hb⟩; obtain ⟨o3, j3, rfl⟩ := grow_of_below hb; clear hb))
  go_upto_region 8 with (first | (go_at_call 26; refine (H3.out _).mono ?_; rintro e w4 ⟨rfl, hbel⟩; obtain ⟨o4, j4, rfl⟩ := grow_of_below hbel; clear hbel))
  clear H1 H2 H3
  have hsz : s.size = (decD a).length := by rw [← hs]; rfl
  have htz : t.size = (decD b).length := by rw [← ht]; rfl
  have hlst : Op.bytesLess s.toList t.toList = Op.bytesLess (decD a) (decD b) := by rw [Lib.toList_data, Lib.toList_data, hs, ht]
  have hlts : Op.bytesLess t.toList s.toList = Op.bytesLess (decD b) (decD a) := by rw [Lib.toList_data, Lib.toList_data, hs, ht]
  have hord := hord0.out
  clear hord0
  rw [← hsz, ← htz] at hord
  have key : (cmpN a b = -1 ∧ ¬ a = b ∧ ((s.size : Int) != t.size) = true ∧ s.size < t.size) ∨ (cmpN a b = 1 ∧ ¬ a = b ∧ ((s.size : Int) != t.size) = true ∧ ¬ s.size < t.size) ∨
      (cmpN a b = -1 ∧ ¬ a = b ∧ ((s.size : Int) != t.size) = false ∧ Op.bytesLess s.toList t.toList = true) ∨
      (cmpN a b = 1 ∧ ¬ a = b ∧ ((s.size : Int) != t.size) = false ∧ Op.bytesLess s.toList t.toList = false ∧ Op.bytesLess t.toList s.toList = true ∧ (s.toList == t.toList) = false) ∨
      (cmpN a b = 0 ∧ a = b ∧ ((s.size : Int) != t.size) = false ∧ Op.bytesLess s.toList t.toList = false ∧ Op.bytesLess t.toList s.toList = false ∧ (s.toList == t.toList) = true) := by
    have hne' : ∀ v : Int, v ≠ 0 → v = cmpN a b → ¬ a = b := by
      intro v hv h he
      subst he
      unfold cmpN at h
      rw [if_neg (Nat.lt_irrefl a), if_neg (Nat.lt_irrefl a)] at h
      exact hv h
    by_cases c1 : s.size = t.size
    · have c2 : ((s.size : Int) != t.size) = false := by simp [c1]
      rw [if_neg (by simpa using c1)] at hord
      by_cases c3 : Op.bytesLess (decD a) (decD b) = true
      · rw [if_pos c3] at hord
        rw [c3] at hlst
        exact .inr (.inr (.inl ⟨hord.symm, hne' _ (by decide) hord, c2, hlst⟩))
      · rw [if_neg c3] at hord
        rw [Bool.not_eq_true] at c3
        rw [c3] at hlst
        by_cases c4 : Op.bytesLess (decD b) (decD a) = true
        · rw [if_pos c4] at hord
          rw [c4] at hlts
          have c5 : (s.toList == t.toList) = false := by
            rw [Lib.toList_data, Lib.toList_data, hs, ht, beq_eq_false_iff_ne]
            intro he
            rw [he] at c3 c4
            rw [c3] at c4
            exact absurd c4 (by decide)
          exact .inr (.inr (.inr (.inl ⟨hord.symm, hne' _ (by decide) hord, c2, hlst, hlts, c5⟩)))
        · rw [if_neg c4] at hord
          rw [Bool.not_eq_true] at c4
          rw [c4] at hlts
          have c6 := dec_eq a b ha hb (by rw [← hsz, ← htz, c1]) c3 c4
          have c5 : (s.toList == t.toList) = true := by
            rw [Lib.toList_data, Lib.toList_data, hs, ht, beq_iff_eq, c6]
          exact .inr (.inr (.inr (.inr ⟨hord.symm, c6, c2, hlst, hlts, c5⟩)))
    · have c2 : ((s.size : Int) != t.size) = true := by simp; omega
      rw [if_pos (by simpa using c1)] at hord
      by_cases c3 : s.size < t.size
      · rw [if_pos c3] at hord
        exact .inl ⟨hord.symm, hne' _ (by decide) hord, c2, c3⟩
      · rw [if_neg c3] at hord
        exact .inr (.inl ⟨hord.symm, hne' _ (by decide) hord, c2, c3⟩)
  clear hsz htz hlst hlts hord hs ht
  have H7 := Lib.hid (int_calls a ha)
  rcases key with ⟨hv, k1, k2, k3⟩ | ⟨hv, k1, k2, k3⟩ | ⟨hv, k1, k2, k3⟩ | ⟨hv, k1, k2, k3, k4, k5⟩ | ⟨hv, rfl, k2, k3, k4, k5⟩
  · have H4 := Lib.hid (cmp_hyp a b (-1) ha hb hv)
    clear hv
    go_upto_region 18 with (first | (go_at_call 22; refine (H4.out _).mono ?_; rintro e w5 ⟨rfl, hbel⟩; obtain ⟨o5, j5, rfl⟩ := grow_of_below hbel; clear hbel))
    by_cases hn0 : n < 0
    · have H5 := Lib.hid (of_less n hn.1 hn0)
      have hZ := eqZZ
      clear H4 H7
      go_upto_region 20 with (first | (go_at_call 27; refine (H5.out _).mono ?_; rintro e w6 ⟨rfl, hbel⟩; obtain ⟨o6, j6, rfl⟩ := grow_of_below hbel; clear hbel))
      go_wp2
      go_ret
      exact ⟨rfl, by repeat (first | (with_reducible exact Below.refl _ _) | ((with_reducible refine below_grow ?_ ?_); rotate_left; focus (first | omega | (simp [go_sem]; done) | (simp [go_sem]; omega))) | ((with_reducible refine Below.alloc ?_ ?_ _); rotate_left; focus (first | omega | (simp [go_sem]; done) | (simp [go_sem]; omega))) | ((with_reducible refine Below.setCell ?_ ?_ _); rotate_left; focus (first | omega | (simp [go_sem]; done) | (simp [go_sem]; omega))) | (with_reducible refine Below.drew ?_) | (with_reducible refine below_drewN _ ?_))⟩
    · have H5 := Lib.hid (of_more n hn0 hn.2)
      have H6 := Lib.hid (int_more n hn0 hn.2)
      clear H4
      by_cases ha1 : a < 9223372036854775808
      · have H8 := Lib.hid (int_lo a ha ha1)
        have H9 := Lib.hid (of_lo a ha1)
        clear H7
        go_upto_region 22 with (first | (go_at_call 27; refine (H5.out _).mono ?_; rintro e w6 ⟨rfl, hbel⟩; obtain ⟨o6, j6, rfl⟩ := grow_of_below hbel; clear hbel) | (go_at_call 28; refine (H6.out _).mono ?_; rintro e w7 ⟨rfl, hbel⟩; obtain ⟨o7, j7, rfl⟩ := grow_of_below hbel; clear hbel))
        clear H5 H6
        go_upto_region 25 with (first | (go_at_call 28; refine (H8.out _).mono ?_; rintro e w8 ⟨rfl, hbel⟩; obtain ⟨o8, j8, rfl⟩ := grow_of_below hbel; clear hbel))
        go_wp2_with (first | (go_at_call 27; refine (H9.out _).mono ?_; rintro e w9 ⟨rfl, hbel⟩; obtain ⟨o9, j9, rfl⟩ := grow_of_below hbel; clear hbel))
        go_ret
        exact ⟨rfl, by repeat (first | (with_reducible exact Below.refl _ _) | ((with_reducible refine below_grow ?_ ?_); rotate_left; focus (first | omega | (simp [go_sem]; done) | (simp [go_sem]; omega))) | ((with_reducible refine Below.alloc ?_ ?_ _); rotate_left; focus (first | omega | (simp [go_sem]; done) | (simp [go_sem]; omega))) | ((with_reducible refine Below.setCell ?_ ?_ _); rotate_left; focus (first | omega | (simp [go_sem]; done) | (simp [go_sem]; omega))) | (with_reducible refine Below.drew ?_) | (with_reducible refine below_drewN _ ?_))⟩
      · have H8 := Lib.hid (int_hi a ha ha1)
        have H9 := Lib.hid of_zero
        have H10 := Lib.hid (cmp_top63 a ha ha1)
        clear H7
        go_upto_region 22 with (first | (go_at_call 27; refine (H5.out _).mono ?_; rintro e w6 ⟨rfl, hbel⟩; obtain ⟨o6, j6, rfl⟩ := grow_of_below hbel; clear hbel) | (go_at_call 28; refine (H6.out _).mono ?_; rintro e w7 ⟨rfl, hbel⟩; obtain ⟨o7, j7, rfl⟩ := grow_of_below hbel; clear hbel))
        clear H5 H6
        go_upto_region 25 with (first | (go_at_call 28; refine (H8.out _).mono ?_; rintro e w8 ⟨rfl, hbel⟩; obtain ⟨o8, j8, rfl⟩ := grow_of_below hbel; clear hbel))
        go_wp2_with (first | (go_at_call 27; refine (H9.out _).mono ?_; rintro e w9 ⟨rfl, hbel⟩; obtain ⟨o9, j9, rfl⟩ := grow_of_below hbel; clear hbel) | (go_at_call 22; refine (H10.out _).mono ?_; rintro e w10 ⟨rfl, hbel⟩; obtain ⟨o10, j10, rfl⟩ := grow_of_below hbel; clear hbel))
        go_ret
        exact ⟨rfl, by repeat (first | (with_reducible exact Below.refl _ _) | ((with_reducible refine below_grow ?_ ?_); rotate_left; focus (first | omega | (simp [go_sem]; done) | (simp [go_sem]; omega))) | ((with_reducible refine Below.alloc ?_ ?_ _); rotate_left; focus (first | omega | (simp [go_sem]; done) | (simp [go_sem]; omega))) | ((with_reducible refine Below.setCell ?_ ?_ _); rotate_left; focus (first | omega | (simp [go_sem]; done) | (simp [go_sem]; omega))) | (with_reducible refine Below.drew ?_) | (with_reducible refine below_drewN _ ?_))⟩
  · have H4 := Lib.hid (cmp_hyp a b 1 ha hb hv)
    clear hv
    go_upto_region 18 with (first | (go_at_call 22; refine (H4.out _).mono ?_; rintro e w5 ⟨rfl, hbel⟩; obtain ⟨o5, j5, rfl⟩ := grow_of_below hbel; clear hbel))
    by_cases hn0 : n < 0
    · have H5 := Lib.hid (of_less n hn.1 hn0)
      have hZ := eqZZ
      clear H4 H7
      go_upto_region 20 with (first | (go_at_call 27; refine (H5.out _).mono ?_; rintro e w6 ⟨rfl, hbel⟩; obtain ⟨o6, j6, rfl⟩ := grow_of_below hbel; clear hbel))
      go_wp2
      go_ret
      exact ⟨rfl, by repeat (first | (with_reducible exact Below.refl _ _) | ((with_reducible refine below_grow ?_ ?_); rotate_left; focus (first | omega | (simp [go_sem]; done) | (simp [go_sem]; omega))) | ((with_reducible refine Below.alloc ?_ ?_ _); rotate_left; focus (first | omega | (simp [go_sem]; done) | (simp [go_sem]; omega))) | ((with_reducible refine Below.setCell ?_ ?_ _); rotate_left; focus (first | omega | (simp [go_sem]; done) | (simp [go_sem]; omega))) | (with_reducible refine Below.drew ?_) | (with_reducible refine below_drewN _ ?_))⟩
    · have H5 := Lib.hid (of_more n hn0 hn.2)
      have H6 := Lib.hid (int_more n hn0 hn.2)
      clear H4
      by_cases ha1 : a < 9223372036854775808
      · have H8 := Lib.hid (int_lo a ha ha1)
        have H9 := Lib.hid (of_lo a ha1)
        clear H7
        go_upto_region 22 with (first | (go_at_call 27; refine (H5.out _).mono ?_; rintro e w6 ⟨rfl, hbel⟩; obtain ⟨o6, j6, rfl⟩ := grow_of_below hbel; clear hbel) | (go_at_call 28; refine (H6.out _).mono ?_; rintro e w7 ⟨rfl, hbel⟩; obtain ⟨o7, j7, rfl⟩ := grow_of_below hbel; clear hbel))
        clear H5 H6
        go_upto_region 25 with (first | (go_at_call 28; refine (H8.out _).mono ?_; rintro e w8 ⟨rfl, hbel⟩; obtain ⟨o8, j8, rfl⟩ := grow_of_below hbel; clear hbel))
        go_wp2_with (first | (go_at_call 27; refine (H9.out _).mono ?_; rintro e w9 ⟨rfl, hbel⟩; obtain ⟨o9, j9, rfl⟩ := grow_of_below hbel; clear hbel))
        go_ret
        exact ⟨rfl, by repeat (first | (with_reducible exact Below.refl _ _) | ((with_reducible refine below_grow ?_ ?_); rotate_left; focus (first | omega | (simp [go_sem]; done) | (simp [go_sem]; omega))) | ((with_reducible refine Below.alloc ?_ ?_ _); rotate_left; focus (first | omega | (simp [go_sem]; done) | (simp [go_sem]; omega))) | ((with_reducible refine Below.setCell ?_ ?_ _); rotate_left; focus (first | omega | (simp [go_sem]; done) | (simp [go_sem]; omega))) | (with_reducible refine Below.drew ?_) | (with_reducible refine below_drewN _ ?_))⟩
      · have H8 := Lib.hid (int_hi a ha ha1)
        have H9 := Lib.hid of_zero
        have H10 := Lib.hid (cmp_top63 a ha ha1)
        clear H7
        go_upto_region 22 with (first | (go_at_call 27; refine (H5.out _).mono ?_; rintro e w6 ⟨rfl, hbel⟩; obtain ⟨o6, j6, rfl⟩ := grow_of_below hbel; clear hbel) | (go_at_call 28; refine (H6.out _).mono ?_; rintro e w7 ⟨rfl, hbel⟩; obtain ⟨o7, j7, rfl⟩ := grow_of_below hbel; clear hbel))
        clear H5 H6
        go_upto_region 25 with (first | (go_at_call 28; refine (H8.out _).mono ?_; rintro e w8 ⟨rfl, hbel⟩; obtain ⟨o8, j8, rfl⟩ := grow_of_below hbel; clear hbel))
        go_wp2_with (first | (go_at_call 27; refine (H9.out _).mono ?_; rintro e w9 ⟨rfl, hbel⟩; obtain ⟨o9, j9, rfl⟩ := grow_of_below hbel; clear hbel) | (go_at_call 22; refine (H10.out _).mono ?_; rintro e w10 ⟨rfl, hbel⟩; obtain ⟨o10, j10, rfl⟩ := grow_of_below hbel; clear hbel))
        go_ret
        exact ⟨rfl, by repeat (first | (with_reducible exact Below.refl _ _) | ((with_reducible refine below_grow ?_ ?_); rotate_left; focus (first | omega | (simp [go_sem]; done) | (simp [go_sem]; omega))) | ((with_reducible refine Below.alloc ?_ ?_ _); rotate_left; focus (first | omega | (simp [go_sem]; done) | (simp [go_sem]; omega))) | ((with_reducible refine Below.setCell ?_ ?_ _); rotate_left; focus (first | omega | (simp [go_sem]; done) | (simp [go_sem]; omega))) | (with_reducible refine Below.drew ?_) | (with_reducible refine below_drewN _ ?_))⟩
  · have H4 := Lib.hid (cmp_hyp a b (-1) ha hb hv)
    clear hv
    go_upto_region 18 with (first | (go_at_call 22; refine (H4.out _).mono ?_; rintro e w5 ⟨rfl, hbel⟩; obtain ⟨o5, j5, rfl⟩ := grow_of_below hbel; clear hbel))
    by_cases hn0 : n < 0
    · have H5 := Lib.hid (of_less n hn.1 hn0)
      have hZ := eqZZ
      clear H4 H7
      go_upto_region 20 with (first | (go_at_call 27; refine (H5.out _).mono ?_; rintro e w6 ⟨rfl, hbel⟩; obtain ⟨o6, j6, rfl⟩ := grow_of_below hbel; clear hbel))
      go_wp2
      go_ret
      exact ⟨rfl, by repeat (first | (with_reducible exact Below.refl _ _) | ((with_reducible refine below_grow ?_ ?_); rotate_left; focus (first | omega | (simp [go_sem]; done) | (simp [go_sem]; omega))) | ((with_reducible refine Below.alloc ?_ ?_ _); rotate_left; focus (first | omega | (simp [go_sem]; done) | (simp [go_sem]; omega))) | ((with_reducible refine Below.setCell ?_ ?_ _); rotate_left; focus (first | omega | (simp [go_sem]; done) | (simp [go_sem]; omega))) | (with_reducible refine Below.drew ?_) | (with_reducible refine below_drewN _ ?_))⟩
    · have H5 := Lib.hid (of_more n hn0 hn.2)
      have H6 := Lib.hid (int_more n hn0 hn.2)
      clear H4
      by_cases ha1 : a < 9223372036854775808
      · have H8 := Lib.hid (int_lo a ha ha1)
        have H9 := Lib.hid (of_lo a ha1)
        clear H7
        go_upto_region 22 with (first | (go_at_call 27; refine (H5.out _).mono ?_; rintro e w6 ⟨rfl, hbel⟩; obtain ⟨o6, j6, rfl⟩ := grow_of_below hbel; clear hbel) | (go_at_call 28; refine (H6.out _).mono ?_; rintro e w7 ⟨rfl, hbel⟩; obtain ⟨o7, j7, rfl⟩ := grow_of_below hbel; clear hbel))
        clear H5 H6
        go_upto_region 25 with (first | (go_at_call 28; refine (H8.out _).mono ?_; rintro e w8 ⟨rfl, hbel⟩; obtain ⟨o8, j8, rfl⟩ := grow_of_below hbel; clear hbel))
        go_wp2_with (first | (go_at_call 27; refine (H9.out _).mono ?_; rintro e w9 ⟨rfl, hbel⟩; obtain ⟨o9, j9, rfl⟩ := grow_of_below hbel; clear hbel))
        go_ret
        exact ⟨rfl, by repeat (first | (with_reducible exact Below.refl _ _) | ((with_reducible refine below_grow ?_ ?_); rotate_left; focus (first | omega | (simp [go_sem]; done) | (simp [go_sem]; omega))) | ((with_reducible refine Below.alloc ?_ ?_ _); rotate_left; focus (first | omega | (simp [go_sem]; done) | (simp [go_sem]; omega))) | ((with_reducible refine Below.setCell ?_ ?_ _); rotate_left; focus (first | omega | (simp [go_sem]; done) | (simp [go_sem]; omega))) | (with_reducible refine Below.drew ?_) | (with_reducible refine below_drewN _ ?_))⟩
      · have H8 := Lib.hid (int_hi a ha ha1)
        have H9 := Lib.hid of_zero
        have H10 := Lib.hid (cmp_top63 a ha ha1)
        clear H7
        go_upto_region 22 with (first | (go_at_call 27; refine (H5.out _).mono ?_; rintro e w6 ⟨rfl, hbel⟩; obtain ⟨o6, j6, rfl⟩ := grow_of_below hbel; clear hbel) | (go_at_call 28; refine (H6.out _).mono ?_; rintro e w7 ⟨rfl, hbel⟩; obtain ⟨o7, j7, rfl⟩ := grow_of_below hbel; clear hbel))
        clear H5 H6
        go_upto_region 25 with (first | (go_at_call 28; refine (H8.out _).mono ?_; rintro e w8 ⟨rfl, hbel⟩; obtain ⟨o8, j8, rfl⟩ := grow_of_below hbel; clear hbel))
        go_wp2_with (first | (go_at_call 27; refine (H9.out _).mono ?_; rintro e w9 ⟨rfl, hbel⟩; obtain ⟨o9, j9, rfl⟩ := grow_of_below hbel; clear hbel) | (go_at_call 22; refine (H10.out _).mono ?_; rintro e w10 ⟨rfl, hbel⟩; obtain ⟨o10, j10, rfl⟩ := grow_of_below hbel; clear hbel))
        go_ret
        exact ⟨rfl, by repeat (first | (with_reducible exact Below.refl _ _) | ((with_reducible refine below_grow ?_ ?_); rotate_left; focus (first | omega | (simp [go_sem]; done) | (simp [go_sem]; omega))) | ((with_reducible refine Below.alloc ?_ ?_ _); rotate_left; focus (first | omega | (simp [go_sem]; done) | (simp [go_sem]; omega))) | ((with_reducible refine Below.setCell ?_ ?_ _); rotate_left; focus (first | omega | (simp [go_sem]; done) | (simp [go_sem]; omega))) | (with_reducible refine Below.drew ?_) | (with_reducible refine below_drewN _ ?_))⟩
  · have H4 := Lib.hid (cmp_hyp a b 1 ha hb hv)
    clear hv
    go_upto_region 18 with (first | (go_at_call 22; refine (H4.out _).mono ?_; rintro e w5 ⟨rfl, hbel⟩; obtain ⟨o5, j5, rfl⟩ := grow_of_below hbel; clear hbel))
    by_cases hn0 : n < 0
    · have H5 := Lib.hid (of_less n hn.1 hn0)
      have hZ := eqZZ
      clear H4 H7
      go_upto_region 20 with (first | (go_at_call 27; refine (H5.out _).mono ?_; rintro e w6 ⟨rfl, hbel⟩; obtain ⟨o6, j6, rfl⟩ := grow_of_below hbel; clear hbel))
      go_wp2
      go_ret
      exact ⟨rfl, by repeat (first | (with_reducible exact Below.refl _ _) | ((with_reducible refine below_grow ?_ ?_); rotate_left; focus (first | omega | (simp [go_sem]; done) | (simp [go_sem]; omega))) | ((with_reducible refine Below.alloc ?_ ?_ _); rotate_left; focus (first | omega | (simp [go_sem]; done) | (simp [go_sem]; omega))) | ((with_reducible refine Below.setCell ?_ ?_ _); rotate_left; focus (first | omega | (simp [go_sem]; done) | (simp [go_sem]; omega))) | (with_reducible refine Below.drew ?_) | (with_reducible refine below_drewN _ ?_))⟩
    · have H5 := Lib.hid (of_more n hn0 hn.2)
      have H6 := Lib.hid (int_more n hn0 hn.2)
      clear H4
      by_cases ha1 : a < 9223372036854775808
      · have H8 := Lib.hid (int_lo a ha ha1)
        have H9 := Lib.hid (of_lo a ha1)
        clear H7
        go_upto_region 22 with (first | (go_at_call 27; refine (H5.out _).mono ?_; rintro e w6 ⟨rfl, hbel⟩; obtain ⟨o6, j6, rfl⟩ := grow_of_below hbel; clear hbel) | (go_at_call 28; refine (H6.out _).mono ?_; rintro e w7 ⟨rfl, hbel⟩; obtain ⟨o7, j7, rfl⟩ := grow_of_below hbel; clear hbel))
        clear H5 H6
        go_upto_region 25 with (first | (go_at_call 28; refine (H8.out _).mono ?_; rintro e w8 ⟨rfl, hbel⟩; obtain ⟨o8, j8, rfl⟩ := grow_of_below hbel; clear hbel))
        go_wp2_with (first | (go_at_call 27; refine (H9.out _).mono ?_; rintro e w9 ⟨rfl, hbel⟩; obtain ⟨o9, j9, rfl⟩ := grow_of_below hbel; clear hbel))
        go_ret
        exact ⟨rfl, by repeat (first | (with_reducible exact Below.refl _ _) | ((with_reducible refine below_grow ?_ ?_); rotate_left; focus (first | omega | (simp [go_sem]; done) | (simp [go_sem]; omega))) | ((with_reducible refine Below.alloc ?_ ?_ _); rotate_left; focus (first | omega | (simp [go_sem]; done) | (simp [go_sem]; omega))) | ((with_reducible refine Below.setCell ?_ ?_ _); rotate_left; focus (first | omega | (simp [go_sem]; done) | (simp [go_sem]; omega))) | (with_reducible refine Below.drew ?_) | (with_reducible refine below_drewN _ ?_))⟩
      · have H8 := Lib.hid (int_hi a ha ha1)
        have H9 := Lib.hid of_zero
        have H10 := Lib.hid (cmp_top63 a ha ha1)
        clear H7
        go_upto_region 22 with (first | (go_at_call 27; refine (H5.out _).mono ?_; rintro e w6 ⟨rfl, hbel⟩; obtain ⟨o6, j6, rfl⟩ := grow_of_below hbel; clear hbel) | (go_at_call 28; refine (H6.out _).mono ?_; rintro e w7 ⟨rfl, hbel⟩; obtain ⟨o7, j7, rfl⟩ := grow_of_below hbel; clear hbel))
        clear H5 H6
        go_upto_region 25 with (first | (go_at_call 28; refine (H8.out _).mono ?_; rintro e w8 ⟨rfl, hbel⟩; obtain ⟨o8, j8, rfl⟩ := grow_of_below hbel; clear hbel))
        go_wp2_with (first | (go_at_call 27; refine (H9.out _).mono ?_; rintro e w9 ⟨rfl, hbel⟩; obtain ⟨o9, j9, rfl⟩ := grow_of_below hbel; clear hbel) | (go_at_call 22; refine (H10.out _).mono ?_; rintro e w10 ⟨rfl, hbel⟩; obtain ⟨o10, j10, rfl⟩ := grow_of_below hbel; clear hbel))
        go_ret
        exact ⟨rfl, by repeat (first | (with_reducible exact Below.refl _ _) | ((with_reducible refine below_grow ?_ ?_); rotate_left; focus (first | omega | (simp [go_sem]; done) | (simp [go_sem]; omega))) | ((with_reducible refine Below.alloc ?_ ?_ _); rotate_left; focus (first | omega | (simp [go_sem]; done) | (simp [go_sem]; omega))) | ((with_reducible refine Below.setCell ?_ ?_ _); rotate_left; focus (first | omega | (simp [go_sem]; done) | (simp [go_sem]; omega))) | (with_reducible refine Below.drew ?_) | (with_reducible refine below_drewN _ ?_))⟩
  · have H4 := Lib.hid (cmp_hyp a a 0 ha ha hv)
    clear hv
    go_upto_region 18 with (first | (go_at_call 22; refine (H4.out _).mono ?_; rintro e w5 ⟨rfl, hbel⟩; obtain ⟨o5, j5, rfl⟩ := grow_of_below hbel; clear hbel))
    by_cases hn0 : n < 0
    · have H5 := Lib.hid (of_less n hn.1 hn0)
      have hZ := eqZZ
      clear H4 H7
      go_upto_region 20 with (first | (go_at_call 27; refine (H5.out _).mono ?_; rintro e w6 ⟨rfl, hbel⟩; obtain ⟨o6, j6, rfl⟩ := grow_of_below hbel; clear hbel))
      go_wp2
      go_ret
      exact ⟨rfl, by repeat (first | (with_reducible exact Below.refl _ _) | ((with_reducible refine below_grow ?_ ?_); rotate_left; focus (first | omega | (simp [go_sem]; done) | (simp [go_sem]; omega))) | ((with_reducible refine Below.alloc ?_ ?_ _); rotate_left; focus (first | omega | (simp [go_sem]; done) | (simp [go_sem]; omega))) | ((with_reducible refine Below.setCell ?_ ?_ _); rotate_left; focus (first | omega | (simp [go_sem]; done) | (simp [go_sem]; omega))) | (with_reducible refine Below.drew ?_) | (with_reducible refine below_drewN _ ?_))⟩
    · have H5 := Lib.hid (of_more n hn0 hn.2)
      have H6 := Lib.hid (int_more n hn0 hn.2)
      clear H4
      by_cases ha1 : a < 9223372036854775808
      · have H8 := Lib.hid (int_lo a ha ha1)
        have H9 := Lib.hid (of_lo a ha1)
        clear H7
        go_upto_region 22 with (first | (go_at_call 27; refine (H5.out _).mono ?_; rintro e w6 ⟨rfl, hbel⟩; obtain ⟨o6, j6, rfl⟩ := grow_of_below hbel; clear hbel) | (go_at_call 28; refine (H6.out _).mono ?_; rintro e w7 ⟨rfl, hbel⟩; obtain ⟨o7, j7, rfl⟩ := grow_of_below hbel; clear hbel))
        clear H5 H6
        go_upto_region 25 with (first | (go_at_call 28; refine (H8.out _).mono ?_; rintro e w8 ⟨rfl, hbel⟩; obtain ⟨o8, j8, rfl⟩ := grow_of_below hbel; clear hbel))
        go_wp2_with (first | (go_at_call 27; refine (H9.out _).mono ?_; rintro e w9 ⟨rfl, hbel⟩; obtain ⟨o9, j9, rfl⟩ := grow_of_below hbel; clear hbel))
        go_ret
        exact ⟨rfl, by repeat (first | (with_reducible exact Below.refl _ _) | ((with_reducible refine below_grow ?_ ?_); rotate_left; focus (first | omega | (simp [go_sem]; done) | (simp [go_sem]; omega))) | ((with_reducible refine Below.alloc ?_ ?_ _); rotate_left; focus (first | omega | (simp [go_sem]; done) | (simp [go_sem]; omega))) | ((with_reducible refine Below.setCell ?_ ?_ _); rotate_left; focus (first | omega | (simp [go_sem]; done) | (simp [go_sem]; omega))) | (with_reducible refine Below.drew ?_) | (with_reducible refine below_drewN _ ?_))⟩
      · have H8 := Lib.hid (int_hi a ha ha1)
        have H9 := Lib.hid of_zero
        have H10 := Lib.hid (cmp_top63 a ha ha1)
        clear H7
        go_upto_region 22 with (first | (go_at_call 27; refine (H5.out _).mono ?_; rintro e w6 ⟨rfl, hbel⟩; obtain ⟨o6, j6, rfl⟩ := grow_of_below hbel; clear hbel) | (go_at_call 28; refine (H6.out _).mono ?_; rintro e w7 ⟨rfl, hbel⟩; obtain ⟨o7, j7, rfl⟩ := grow_of_below hbel; clear hbel))
        clear H5 H6
        go_upto_region 25 with (first | (go_at_call 28; refine (H8.out _).mono ?_; rintro e w8 ⟨rfl, hbel⟩; obtain ⟨o8, j8, rfl⟩ := grow_of_below hbel; clear hbel))
        go_wp2_with (first | (go_at_call 27; refine (H9.out _).mono ?_; rintro e w9 ⟨rfl, hbel⟩; obtain ⟨o9, j9, rfl⟩ := grow_of_below hbel; clear hbel) | (go_at_call 22; refine (H10.out _).mono ?_; rintro e w10 ⟨rfl, hbel⟩; obtain ⟨o10, j10, rfl⟩ := grow_of_below hbel; clear hbel))
        go_ret
        exact ⟨rfl, by repeat (first | (with_reducible exact Below.refl _ _) | ((with_reducible refine below_grow ?_ ?_); rotate_left; focus (first | omega | (simp [go_sem]; done) | (simp [go_sem]; omega))) | ((with_reducible refine Below.alloc ?_ ?_ _); rotate_left; focus (first | omega | (simp [go_sem]; done) | (simp [go_sem]; omega))) | ((with_reducible refine Below.setCell ?_ ?_ _); rotate_left; focus (first | omega | (simp [go_sem]; done) | (simp [go_sem]; omega))) | (with_reducible refine Below.drew ?_) | (with_reducible refine below_drewN _ ?_))⟩
end Go.Proofs.Ytjhocgeoangbdaa
