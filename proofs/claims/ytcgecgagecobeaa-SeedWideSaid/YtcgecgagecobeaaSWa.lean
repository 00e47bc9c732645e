/- What SeedWide and SeedUniform ask: Pick; BelowNat below a number up to Values, and below its square. -/
import Derived.Test.YtcgecgagecobeaaSO
namespace Go.Proofs.Ytcgecgagecobeaa
open Go.RowKit Go.Shelf

theorem pick_calls (x : Int) (w : World) : Calls Try.prog 17 #[.int .i64 x, .int .i64 2147483646] w fun e w' => e = .returned (.int .i64 (stp x)) ∧ Below w.heap.size w w' := by
  obtain ⟨t1, t2, t3⟩ := tmod_V x
  obtain ⟨s, hs⟩ : ∃ s, stp x = s := ⟨_, rfl⟩
  obtain ⟨r, hr⟩ : ∃ r, x.tmod 2147483646 = r := ⟨_, rfl⟩
  have hsr : (s : Int) = r % 2147483646 := by rw [← hs, ← hr, t3]; unfold stp; omega
  rw [hr] at t1 t2
  rw [hs]
  clear hs t3
  by_cases h : r < 0
  · have e1 : IntKind.i64.wrap (r + 2147483646) = (s : Int) := by rw [IntWalk.i64_in _ (by omega)]; omega
    clear hsr
    go_enter Try.func17, Try.ntmps17
    go_wp2
    refine bodyPost_ret (by simp [results, Try.results17, go_sem]) rfl ⟨rfl, ?_⟩
    repeat (first | (with_reducible exact Below.refl _ _) | ((with_reducible refine below_grow ?_ ?_); rotate_left; focus (first | omega | (simp [go_sem]; done) | (simp [go_sem]; omega))) | ((with_reducible refine Below.alloc ?_ ?_ _); rotate_left; focus (first | omega | (simp [go_sem]; done) | (simp [go_sem]; omega))) | ((with_reducible refine Below.setCell ?_ ?_ _); rotate_left; focus (first | omega | (simp [go_sem]; done) | (simp [go_sem]; omega))) | (with_reducible refine Below.drew ?_) | (with_reducible refine below_drewN _ ?_))
  · obtain rfl : r = s := by omega
    clear hsr
    go_enter Try.func17, Try.ntmps17
    go_wp2
    refine bodyPost_ret (by simp [results, Try.results17, go_sem]) rfl ⟨rfl, ?_⟩
    repeat (first | (with_reducible exact Below.refl _ _) | ((with_reducible refine below_grow ?_ ?_); rotate_left; focus (first | omega | (simp [go_sem]; done) | (simp [go_sem]; omega))) | ((with_reducible refine Below.alloc ?_ ?_ _); rotate_left; focus (first | omega | (simp [go_sem]; done) | (simp [go_sem]; omega))) | ((with_reducible refine Below.setCell ?_ ?_ _); rotate_left; focus (first | omega | (simp [go_sem]; done) | (simp [go_sem]; omega))) | (with_reducible refine Below.drew ?_) | (with_reducible refine below_drewN _ ?_))
theorem fsN_one (L : Nat) : ∀ (k s : Nat), fsN L 1 k s = (fsm L k s, fsm L k s - 1)
  | 0, s => by
    unfold fsN fsm
    rw [jmp_one]
    simp [numb, jmp_one, vp_zero]
  | k + 1, s => by
    have e : numb s 1 = nxt s - 1 := by simp [numb, jmp_one, vp_zero]
    unfold fsN fsm
    rw [jmp_one, e]
    split
    · rfl
    · exact fsN_one L k _
theorem belowNat_one (s k : Nat) (hs : St s) (h1 : 1 ≤ k) (h2 : k ≤ 2147483646) (w : World) :
    Calls Try.prog 19 #[.int .i64 s, .agg #[.int .u32 (pt k 0), .int .u32 (pt k 1), .int .u32 (pt k 2), .int .u32 (pt k 3)]] w fun e w' => e = .returned (.tuple #[.int .i64 (blwS s k), .agg #[.int .u32 (pt ((blwS s k - 1) % k) 0), .int .u32 (pt ((blwS s k - 1) % k) 1), .int .u32 (pt ((blwS s k - 1) % k) 2), .int .u32 (pt ((blwS s k - 1) % k) 3)], .int .i64 0]) ∧ Below w.heap.size w w' := by
  refine (belowNat_yes s k hs (by unfold isN; omega) (by omega) (by unfold k120; omega) w).mono ?_
  rintro e w' ⟨d, hd, rfl, hb⟩
  refine ⟨?_, hb⟩
  obtain rfl : d = 1 := by
    by_cases h : d = 1
    · exact h
    · have h3 := hd.2.2.2 1 (by decide) (by have := hd.1; omega)
      rw [vp_one] at h3
      omega
  have e : limV k 1 = limN k := by unfold limV limN; rw [vp_one]
  rw [e, fsN_one]
  rfl
def sq : Nat := 4611686009837453316
theorem sq_vp : vp 2 = sq := by decide +kernel
theorem sq_isN : isN sq := by decide
theorem belowNat_sq (s : Nat) (hs : St s) (w : World) :
    Calls Try.prog 19 #[.int .i64 s, .agg #[.int .u32 (pt sq 0), .int .u32 (pt sq 1), .int .u32 (pt sq 2), .int .u32 (pt sq 3)]] w fun e w' => e = .returned (.tuple #[.int .i64 (jmp s 2), .agg #[.int .u32 (pt (numb s 2) 0), .int .u32 (pt (numb s 2) 1), .int .u32 (pt (numb s 2) 2), .int .u32 (pt (numb s 2) 3)], .int .i64 0]) ∧ Below w.heap.size w w' := by
  refine (belowNat_yes s sq hs sq_isN (by decide) (by decide) w).mono ?_
  rintro e w' ⟨d, hd, rfl, hb⟩
  refine ⟨?_, hb⟩
  obtain rfl : d = 2 := by
    have h2 := hd.2.2.1
    have h3 := hd.2.2.2 2 (by decide)
    have h1 := hd.1
    rw [sq_vp] at h3
    by_cases e1 : d = 1
    · subst e1
      rw [vp_one] at h2
      unfold sq at h2
      omega
    · by_cases e2 : d = 2
      · exact e2
      · exact absurd (h3 (by omega)) (Nat.lt_irrefl _)
  have hl := numb_lt hs 2
  rw [sq_vp] at hl
  have e : limV sq 2 = sq := by unfold limV; rw [sq_vp, Nat.mod_self, Nat.sub_zero]
  have e2 : fsN sq 2 100 s = (jmp s 2, numb s 2) := if_pos hl
  rw [e, e2]
  show _ = Ending.returned (.tuple #[.int .i64 (jmp s 2), .agg #[.int .u32 (pt (numb s 2) 0), .int .u32 (pt (numb s 2) 1), .int .u32 (pt (numb s 2) 2), .int .u32 (pt (numb s 2) 3)], .int .i64 0])
  rw [show (jmp s 2, numb s 2).2 % sq = numb s 2 from Nat.mod_eq_of_lt hl]
theorem div_V (a q r : Nat) (ha : isN a) (hq : a / 2147483646 = q) (hr : a % 2147483646 = r) (w : World) : Calls Try.prog 23 #[.agg #[.int .u32 (pt a 0), .int .u32 (pt a 1), .int .u32 (pt a 2), .int .u32 (pt a 3)], .agg #[.int .u32 2147483646, .int .u32 0, .int .u32 0, .int .u32 0]] w fun e w' => e = .returned (.tuple #[.agg #[.int .u32 (pt q 0), .int .u32 (pt q 1), .int .u32 (pt q 2), .int .u32 (pt q 3)], .agg #[.int .u32 (pt r 0), .int .u32 (pt r 1), .int .u32 (pt r 2), .int .u32 (pt r 3)], .int .i64 0]) ∧ Below w.heap.size w w' := by
  obtain ⟨h0, h1, h2, h3⟩ := v_pt
  have h := div_hyp a 2147483646 q r ha v_isN (by decide) hq hr w
  simp only [h0, h1, h2, h3] at h
  exact h
theorem mulVV : ∀ (w : World) (p : Nat) [NeZero (inW p w)] (_ : w.cell? ⟨p, 0, none⟩ = some (.int .u32 2147483646)) (_ : w.cell? ⟨p, 1, none⟩ = some (.int .u32 0)) (_ : w.cell? ⟨p, 2, none⟩ = some (.int .u32 0)) (_ : w.cell? ⟨p, 3, none⟩ = some (.int .u32 0)) (_ : w.cell? ⟨p, 4, none⟩ = some (.int .u32 2147483646)) (_ : w.cell? ⟨p, 5, none⟩ = some (.int .u32 0)) (_ : w.cell? ⟨p, 6, none⟩ = some (.int .u32 0)) (_ : w.cell? ⟨p, 7, none⟩ = some (.int .u32 0)),
    Calls Try.prog 22 #[.slice (some ⟨p, 0, none⟩) 2 2] w fun e w' => e = .returned (.tuple #[.agg #[.int .u32 (pt sq 0), .int .u32 (pt sq 1), .int .u32 (pt sq 2), .int .u32 (pt sq 3)], .int .i64 0]) ∧ Below w.heap.size w w' := by
  intro w p iP h0 h1 h2 h3 h4 h5 h6 h7
  obtain ⟨q0, q1, q2, q3⟩ := v_pt
  exact mulV 2147483646 sq v_isN (by decide) sq_isN w p (by rw [q0]; exact h0) (by rw [q1]; exact h1) (by rw [q2]; exact h2) (by rw [q3]; exact h3) h4 h5 h6 h7
/-- The number with its fourth part modulo 2^24. -/
theorem low_pt (a : Nat) : pt (a % k120) 0 = pt a 0 ∧ pt (a % k120) 1 = pt a 1 ∧ pt (a % k120) 2 = pt a 2 ∧ pt (a % k120) 3 = (pt a 3).tmod 16777216 := by
  have h := pt_bd a 3
  rw [Int.tmod_eq_emod_of_nonneg h.1]
  unfold pt k120
  simp only [Nat.pow_zero, Nat.pow_one, Nat.div_one, show (4294967296 : Nat) ^ 2 = 18446744073709551616 from rfl, show (4294967296 : Nat) ^ 3 = 79228162514264337593543950336 from rfl]
  omega
theorem low_k (a : Nat) : a % k120 < k120 := Nat.mod_lt _ (by decide)
theorem two_values (s : Nat) (hs : St s) : ∃ t2 v u n : Nat, St (nxt s) ∧ jmp s 2 = t2 ∧ nxt (nxt s) = t2 ∧ nxt s - 1 = v ∧ t2 - 1 = u ∧ numb s 2 = n ∧ isN n ∧ n / 2147483646 = u ∧ n % 2147483646 = v ∧ v < 9223372036854775808 ∧ u < 9223372036854775808 := by
  have h1 := nxt_St hs
  have h2 := nxt_St h1
  have e : jmp s 2 = nxt (nxt s) := by rw [jmp_succ, jmp_one]
  have en : numb s 2 = (nxt s - 1) + (nxt (nxt s) - 1) * 2147483646 := by simp [numb, e, jmp_one, vp_zero, vp_one]
  refine ⟨_, _, _, _, h1, e, rfl, rfl, rfl, en, ?_, ?_, ?_, ?_, ?_⟩
  all_goals
    unfold St at h1 h2
    try unfold isN
    omega
end Go.Proofs.Ytcgecgagecobeaa
