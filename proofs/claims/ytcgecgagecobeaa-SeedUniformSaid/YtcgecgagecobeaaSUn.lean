/- SeedUniform: the walk. -/
import Derived.Test.YtcgecgagecobeaaSU4
import Derived.Test.YtcgecgagecobeaaSPk
namespace Go.Proofs.Ytcgecgagecobeaa
open Go.RowKit Go.Shelf

theorem fsm_more (L : Nat) : ∀ (k t : Nat), (∃ i, 1 ≤ i ∧ i ≤ k + 1 ∧ jmp t i - 1 < L) → fsm L k t = fsm L (k + 1) t
  | 0, t, ⟨i, h1, h2, h3⟩ => by
    obtain rfl : i = 1 := by omega
    rw [jmp_one] at h3
    show nxt t = if nxt t - 1 < L then nxt t else fsm L 0 (nxt t)
    rw [if_pos h3]
  | k + 1, t, ⟨i, h1, h2, h3⟩ => by
    show (if nxt t - 1 < L then nxt t else fsm L k (nxt t)) = if nxt t - 1 < L then nxt t else fsm L (k + 1) (nxt t)
    by_cases h : nxt t - 1 < L
    · rw [if_pos h, if_pos h]
    · rw [if_neg h, if_neg h]
      obtain ⟨j, rfl⟩ : ∃ j, i = j + 1 := ⟨i - 1, by omega⟩
      have e : jmp t (j + 1) = jmp (nxt t) j := by rw [← jmp_one, jmp_jmp, Nat.add_comm]
      rw [e] at h3
      have hj : j ≠ 0 := by
        intro hj
        subst hj
        apply h
        have : jmp (nxt t) 0 = nxt t := by
          rw [← jmp_one, jmp_jmp]
        rw [this] at h3
        exact h3
      exact fsm_more L k (nxt t) ⟨j, by omega, by omega, h3⟩
theorem limN_big (n : Nat) (h1 : 1 ≤ n) (h2 : n ≤ 2147483646) : 1073741824 ≤ limN n := by
  have h3 : 2147483646 % n < n := Nat.mod_lt _ (by omega)
  have h4 : n + 2147483646 % n ≤ 2147483646 := by
    have h5 := Nat.div_add_mod 2147483646 n
    have h6 : n * 1 ≤ n * (2147483646 / n) := Nat.mul_le_mul_left n (Nat.div_pos h2 h1)
    omega
  unfold limN
  omega
theorem limN_mul (n : Nat) : 2147483646 / n * n = limN n := by
  have h5 := Nat.div_add_mod 2147483646 n
  rw [Nat.mul_comm] at h5
  unfold limN
  omega
/-- A value that is too great: what is drawn is what is drawn behind it. -/
theorem blw_again (s n : Nat) (hs : St s) (h1 : 1 ≤ n) (h2 : n ≤ 2147483646) (h : ¬ nxt s - 1 < limN n) : blwS s n = blwS (nxt s) n := by
  unfold blwS
  show (if nxt s - 1 < limN n then nxt s else fsm (limN n) 99 (nxt s)) = _
  rw [if_neg h]
  obtain ⟨i, h3, h4, h5⟩ := any_low (nxt s) (nxt_St hs)
  have := limN_big n h1 h2
  exact fsm_more _ 99 _ ⟨i, h3, by omega, by omega⟩
theorem below_hyp (s n A x : Nat) (hs : St s) (h1 : 1 ≤ n) (h2 : n ≤ 2147483646) (hA : blwS s n = A) (hx : (A - 1) % n = x) (w : World) :
    Calls Try.prog 18 #[.int .i64 s, .int .i64 n] w fun e w' => e = .returned (.tuple #[.int .i64 A, .int .i64 x, .int .i64 0]) ∧ Below w.heap.size w w' := by
  have h := below_yes s n hs h1 h2 w
  rw [hA, hx] at h
  exact h
set_option maxRecDepth 100000 in
set_option maxHeartbeats 8000000 in
theorem uniform_walk (value n0 : Int) (_ : -9223372036854775808 ≤ value ∧ value ≤ 9223372036854775807) (_ : -9223372036854775808 ≤ n0 ∧ n0 ≤ 9223372036854775807) (w : World) :
    Calls Try.prog 6 #[.int .i64 value, .int .i64 n0] w fun e w' => e = .returned (.bool true) ∧ Below w.heap.size w w' := by
  obtain ⟨v, hv⟩ : ∃ v, stp value = v := ⟨_, rfl⟩
  obtain ⟨m, hm⟩ : ∃ m, stp n0 = m := ⟨_, rfl⟩
  have hvl : v < 2147483646 := by rw [← hv]; exact stp_lt _
  have hml : m < 2147483646 := by rw [← hm]; exact stp_lt _
  obtain ⟨n, hn⟩ : ∃ n, m + 1 = n := ⟨_, rfl⟩
  obtain ⟨t, ht⟩ : ∃ t, v + 1 = t := ⟨_, rfl⟩
  have hT : St t := by unfold St; omega
  obtain ⟨s, hs⟩ : ∃ s, jmp t (stp (-1)) = s := ⟨_, rfl⟩
  have hS : St s := by rw [← hs]; exact jmp_St hT _
  have hst : nxt s = t := by rw [← hs, ← jmp_one, ← stp_one, jmp_add, show (-1 : Int) + 1 = 0 from by decide, stp_zero, jmp_zero hT]
  have hn1 : 1 ≤ n := by omega
  have hn2 : n ≤ 2147483646 := by omega
  have H1 := Lib.hid (jump_hyp t s hT (-1) hs)
  obtain ⟨A, hA⟩ : ∃ A, blwS s n = A := ⟨_, rfl⟩
  obtain ⟨x, hx⟩ : ∃ x, (A - 1) % n = x := ⟨_, rfl⟩
  have hxl : x < n := by rw [← hx]; exact Nat.mod_lt _ (by omega)
  have H2 := Lib.hid (below_hyp s n A x hS hn1 hn2 hA hx)
  obtain ⟨q, hq⟩ : ∃ q, 2147483646 / n = q := ⟨_, rfl⟩
  obtain ⟨L, hL⟩ : ∃ L, limN n = L := ⟨_, rfl⟩
  have hqn : q * n = L := by rw [← hq, limN_mul, hL]
  have hLV : L ≤ 2147483646 := by rw [← hL]; unfold limN; omega
  have e1 : IntKind.i64.wrap (1 + (m : Int)) = (n : Int) := by rw [IntWalk.i64_in _ (by omega)]; omega
  have e2 : IntKind.i64.wrap ((v : Int) + 1) = (t : Int) := by rw [IntWalk.i64_in _ (by omega)]; omega
  have e3 : (2147483646 : Int).tdiv n = (q : Int) := by rw [Int.tdiv_eq_ediv_of_nonneg (by decide), ← hq]; rfl
  have e4 : IntKind.i64.wrap ((q : Int) * n) = (L : Int) := by
    have e : (q : Int) * n = (L : Int) := by rw [← hqn, Int.natCast_mul]
    rw [e]
    exact IntWalk.i64_in _ (by omega)
  have e7 : IntKind.i64.wrap (q : Int) = q := IntWalk.i64_in _ (by
    have : q ≤ 2147483646 := by rw [← hq]; exact Nat.div_le_self _ _
    omega)
  have b1 : (x : Int) < n := by omega
  have b2 : ¬ (n : Int) = 0 := by omega
  by_cases hlt : v < L
  · have hAt : A = t := by
      rw [← hA]
      unfold blwS
      rw [hL]
      show (if nxt s - 1 < L then nxt s else _) = t
      rw [if_pos (by rw [hst]; omega), hst]
    have e5 : (v : Int).tmod n = (x : Int) := by
      rw [Int.tmod_eq_emod_of_nonneg (by omega), ← hx, hAt, ← ht, Nat.add_sub_cancel]
      rfl
    have e6 : (v : Int) < L := by omega
    subst hAt
    clear hL hqn hq hx hst hA hs ht hn hlt
    go_enter Try.func6, Try.ntmps6
    go_upto_region 3 with (first | (go_at_call 11; refine (awake_calls _).mono ?_; rintro e w1 ⟨rfl, hbel⟩; obtain ⟨o1, j1, rfl⟩ := grow_of_below hbel; clear hbel))
    go_upto_region 4 with (first | (go_at_call 17; refine (pick_calls _ _).mono ?_; rintro e w2 ⟨rfl, hbel⟩; obtain ⟨o2, j2, rfl⟩ := grow_of_below hbel; clear hbel))
    go_upto_region 5 with (first | (go_at_call 14; refine (H1.out _).mono ?_; rintro e w3 ⟨rfl, hbel⟩; obtain ⟨o3, j3, rfl⟩ := grow_of_below hbel; clear hbel))
    go_upto_region 6 with (first | (go_at_call 18; refine (H2.out _).mono ?_; rintro e w4 ⟨rfl, hbel⟩; obtain ⟨o4, j4, rfl⟩ := grow_of_below hbel; clear hbel))
    clear H1 H2
    go_wp2
    go_ret
    exact ⟨rfl, by repeat (first | (with_reducible exact Below.refl _ _) | ((with_reducible refine below_grow ?_ ?_); rotate_left; focus (first | omega | (simp [go_sem]; done) | (simp [go_sem]; omega))) | ((with_reducible refine Below.alloc ?_ ?_ _); rotate_left; focus (first | omega | (simp [go_sem]; done) | (simp [go_sem]; omega))) | ((with_reducible refine Below.setCell ?_ ?_ _); rotate_left; focus (first | omega | (simp [go_sem]; done) | (simp [go_sem]; omega))) | (with_reducible refine Below.drew ?_) | (with_reducible refine below_drewN _ ?_))⟩
  · have hAt : blwS t n = A := by
      rw [← hA, blw_again s n hS hn1 hn2 (by rw [hst, hL]; omega), hst]
    have H3 := Lib.hid (below_hyp t n A x hT hn1 hn2 hAt hx)
    have e6 : ¬ (v : Int) < L := by omega
    clear hL hqn hq hx hst hA hs ht hn hlt hAt
    go_enter Try.func6, Try.ntmps6
    go_upto_region 3 with (first | (go_at_call 11; refine (awake_calls _).mono ?_; rintro e w1 ⟨rfl, hbel⟩; obtain ⟨o1, j1, rfl⟩ := grow_of_below hbel; clear hbel))
    go_upto_region 4 with (first | (go_at_call 17; refine (pick_calls _ _).mono ?_; rintro e w2 ⟨rfl, hbel⟩; obtain ⟨o2, j2, rfl⟩ := grow_of_below hbel; clear hbel))
    go_upto_region 5 with (first | (go_at_call 14; refine (H1.out _).mono ?_; rintro e w3 ⟨rfl, hbel⟩; obtain ⟨o3, j3, rfl⟩ := grow_of_below hbel; clear hbel))
    go_upto_region 6 with (first | (go_at_call 18; refine (H2.out _).mono ?_; rintro e w4 ⟨rfl, hbel⟩; obtain ⟨o4, j4, rfl⟩ := grow_of_below hbel; clear hbel))
    clear H1 H2
    go_upto_region 11 with (first | (go_at_call 18; refine (H3.out _).mono ?_; rintro e w5 ⟨rfl, hbel⟩; obtain ⟨o5, j5, rfl⟩ := grow_of_below hbel; clear hbel))
    clear H3
    go_wp2
    go_ret
    exact ⟨rfl, by repeat (first | (with_reducible exact Below.refl _ _) | ((with_reducible refine below_grow ?_ ?_); rotate_left; focus (first | omega | (simp [go_sem]; done) | (simp [go_sem]; omega))) | ((with_reducible refine Below.alloc ?_ ?_ _); rotate_left; focus (first | omega | (simp [go_sem]; done) | (simp [go_sem]; omega))) | ((with_reducible refine Below.setCell ?_ ?_ _); rotate_left; focus (first | omega | (simp [go_sem]; done) | (simp [go_sem]; omega))) | (with_reducible refine Below.drew ?_) | (with_reducible refine below_drewN _ ?_))⟩
end Go.Proofs.Ytcgecgagecobeaa
