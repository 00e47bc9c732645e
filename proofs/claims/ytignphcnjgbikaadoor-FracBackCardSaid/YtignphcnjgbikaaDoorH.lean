/- times and plus, said of numbers. -/
import Derived.Test.YtignphcnjgbikaaDoorE
import Derived.Test.YtignphcnjgbikaaDoorF
import Derived.Test.YtignphcnjgbikaaDoorM
namespace Go.Proofs.YtignphcnjgbikaaDoor
open Go.RowKit Go.Shelf

/-- b is a sign of r. -/
def signOf (r : Rat) (b : Bool) : Prop := r.num = if b then -(r.num.natAbs : Int) else r.num.natAbs
theorem signOf_lt (r : Rat) : signOf r (decide (r.num < 0)) := by
  unfold signOf; by_cases h : r.num < 0 <;> simp [h] <;> omega
theorem pack_out (neg : Bool) (N D : Int) (r : Rat) (hN : 0 ≤ N) (h1 : r.num = if neg then -N else N) (h2 : (r.den : Int) = D) :
    packN neg N D = outN r ∧ packD neg N D = outD r ∧ packE neg N D = outE r := by
  have e : fitsP neg N D ↔ fitsR r := by
    unfold fitsP fitsR
    cases neg <;> simp at h1 ⊢ <;> omega
  unfold packN packD packE outN outD outE
  by_cases h : fitsP neg N D
  · rw [if_pos h, if_pos h, if_pos h, if_pos (e.1 h), if_pos (e.1 h), if_pos (e.1 h)]; exact ⟨h1.symm, h2.symm, rfl⟩
  · have h' : ¬ fitsR r := fun x => h (e.2 x)
    rw [if_neg h, if_neg h, if_neg h, if_neg h', if_neg h', if_neg h']; exact ⟨rfl, rfl, rfl⟩
theorem sign_div (n : Int) (b : Bool) (g : Nat) (h : n = if b then -(n.natAbs : Int) else n.natAbs) (hg : g ∣ n.natAbs) : n / g = if b then -((n.natAbs : Int) / g) else (n.natAbs : Int) / g := by
  cases b
  · simp at h ⊢; rw [← h]
  · simp at h ⊢
    have hz : (g : Int) ∣ (n.natAbs : Int) := Int.natCast_dvd_natCast.2 hg
    generalize (n.natAbs : Int) = m at *
    subst h
    rw [Int.neg_ediv_of_dvd hz]

set_option maxHeartbeats 400000 in
theorem times_rat (r s : Rat) (b c : Bool) (hb : signOf r b) (hc : signOf s c) (r1 : r.num.natAbs < 18446744073709551616) (r2 : r.den < 18446744073709551616) (s1 : s.num.natAbs < 18446744073709551616) (s2 : s.den < 18446744073709551616) (w : World) :
    Calls Tryd.prog 37 #[.agg #[.bool b, .int .u64 (r.num.natAbs : Int), .int .u64 (r.den : Int)], .agg #[.bool c, .int .u64 (s.num.natAbs : Int), .int .u64 (s.den : Int)]] w fun e w' => e = .returned (.tuple #[.agg #[.int .i64 (outN (r * s)), .int .i64 (outD (r * s))], .int .i64 (outE (r * s))]) ∧ Below w.heap.size w w' := by
  obtain ⟨G1, hG1⟩ : ∃ G, Nat.gcd r.num.natAbs s.den = G := ⟨_, rfl⟩
  obtain ⟨G2, hG2⟩ : ∃ G, Nat.gcd s.num.natAbs r.den = G := ⟨_, rfl⟩
  obtain ⟨k1, k2⟩ := rat_mul_parts r s G1 G2 hG1 hG2
  have d1 : G1 ∣ r.num.natAbs := hG1 ▸ Nat.gcd_dvd_left _ _
  have d2 : G2 ∣ s.num.natAbs := hG2 ▸ Nat.gcd_dvd_left _ _
  have n0 : 0 ≤ ((r.num.natAbs : Int) / G1) * ((s.num.natAbs : Int) / G2) := Int.mul_nonneg (Int.ediv_nonneg (by omega) (by omega)) (Int.ediv_nonneg (by omega) (by omega))
  obtain ⟨o1, o2, o3⟩ := pack_out (!(b == c)) (((r.num.natAbs : Int) / G1) * ((s.num.natAbs : Int) / G2)) (((r.den : Int) / G2) * ((s.den : Int) / G1)) (r * s) n0
    (by rw [k1, sign_div _ b G1 hb d1, sign_div _ c G2 hc d2]; cases b <;> cases c <;> simp [Int.neg_mul, Int.mul_neg])
    (by rw [k2]; simp)
  rw [← o1, ← o2, ← o3]
  exact times_calls b c _ _ _ _ r1 r.den_pos r2 s1 s.den_pos s2 G1 G2 (Lib.hid hG1) (Lib.hid hG2) w

theorem gcd_mod (t : Int) (g : Nat) : Int.gcd (t % g) g = t.natAbs.gcd g := by
  rw [Int.emod_def]
  first | rw [Int.gcd_sub_mul_left_left] | rw [Int.gcd_sub_mul_right_left]
  rfl
theorem dvd_prod {g e : Nat} (h : g ∣ e) : ((e : Int) / g) = ((e / g : Nat) : Int) := by simp

set_option maxHeartbeats 1000000 in
theorem plus_rat (r s : Rat) (b c : Bool) (hb : signOf r b) (hc : signOf s c) (r1 : r.num.natAbs ≤ 9223372036854775808) (r2 : r.den < 9223372036854775808) (s1 : s.num.natAbs ≤ 9223372036854775808) (s2 : s.den < 9223372036854775808)
    (hp : r.num.natAbs * (s.den / Nat.gcd r.den s.den) < 9223372036854775808) (hq : s.num.natAbs * (r.den / Nat.gcd r.den s.den) < 9223372036854775808) (w : World) :
    Calls Tryd.prog 36 #[.agg #[.bool b, .int .u64 (r.num.natAbs : Int), .int .u64 (r.den : Int)], .agg #[.bool c, .int .u64 (s.num.natAbs : Int), .int .u64 (s.den : Int)]] w fun e w' => e = .returned (.tuple #[.agg #[.int .i64 (outN (r + s)), .int .i64 (outD (r + s))], .int .i64 (outE (r + s))]) ∧ Below w.heap.size w w' := by
  obtain ⟨g, hg⟩ : ∃ g, Nat.gcd r.den s.den = g := ⟨_, rfl⟩
  have hgI : Int.gcd (r.den : Int) (s.den : Int) = g := by rw [← hg]; rfl
  have g0 : 0 < g := hg ▸ Nat.gcd_pos_of_pos_left _ r.den_pos
  have gr : g ∣ r.den := hg ▸ Nat.gcd_dvd_left _ _
  have gs : g ∣ s.den := hg ▸ Nat.gcd_dvd_right _ _
  have gle : g ≤ r.den := Nat.le_of_dvd r.den_pos gr
  rw [hg] at hp hq
  obtain ⟨p, ep⟩ : ∃ p : Nat, r.num.natAbs * (s.den / g) = p := ⟨_, rfl⟩
  obtain ⟨q, eq⟩ : ∃ q : Nat, s.num.natAbs * (r.den / g) = q := ⟨_, rfl⟩
  rw [ep] at hp
  rw [eq] at hq
  have epI : (r.num.natAbs : Int) * ((s.den : Int) / g) = p := by rw [dvd_prod gs, ← ep]; simp
  have eqI : (s.num.natAbs : Int) * ((r.den : Int) / g) = q := by rw [dvd_prod gr, ← eq]; simp
  have tp : r.num * ((s.den / g : Nat) : Int) = if b then -(p : Int) else p := by
    rw [hb, ← epI, dvd_prod gs]; cases b <;> simp [Int.neg_mul]
  have tq : s.num * ((r.den / g : Nat) : Int) = if c then -(q : Int) else q := by
    rw [hc, ← eqI, dvd_prod gr]; cases c <;> simp [Int.neg_mul]
  have L0 : ∀ t : Int, 0 < t.natAbs.gcd g ∧ t.natAbs.gcd g ≤ g := fun t => ⟨Nat.gcd_pos_of_pos_right _ g0, Nat.le_of_dvd g0 (Nat.gcd_dvd_right _ _)⟩
  have fin : ∀ (neg : Bool) (T : Int) (L : Nat), 0 ≤ T → (T.natAbs.gcd g = L) → ((if b then -(p : Int) else p) + (if c then -(q : Int) else q) = if neg then -T else T) →
      packN neg (T / L) (((r.den : Int) / g) * ((s.den : Int) / L)) = outN (r + s) ∧ packD neg (T / L) (((r.den : Int) / g) * ((s.den : Int) / L)) = outD (r + s) ∧ packE neg (T / L) (((r.den : Int) / g) * ((s.den : Int) / L)) = outE (r + s) := by
    intro neg T L hT hL hTT
    have hLg : L ∣ g := hL ▸ Nat.gcd_dvd_right _ _
    have hLT : (L : Int) ∣ T := by
      have : L ∣ T.natAbs := hL ▸ Nat.gcd_dvd_left _ _
      exact Int.ofNat_dvd_left.2 this
    obtain ⟨k1, k2⟩ := rat_add_parts r s g hg (if neg then -T else T) (by rw [tp, tq, hTT]) L (by rw [← hL]; cases neg <;> simp)
    refine pack_out neg _ _ (r + s) (Int.ediv_nonneg hT (by omega)) ?_ ?_
    · rw [k1]; cases neg
      · rfl
      · simp [Int.neg_ediv_of_dvd hLT]
    · rw [k2, dvd_prod gr, dvd_prod (Nat.dvd_trans hLg gs)]; simp
  by_cases hbc : b = c
  · subst hbc
    obtain ⟨l0, l1⟩ := L0 ((p : Int) + q)
    obtain ⟨o1, o2, o3⟩ := fin b ((p : Int) + q) _ (by omega) rfl (by cases b <;> simp <;> omega)
    rw [← o1, ← o2, ← o3]
    exact plus_same b _ _ _ _ (by omega) (by omega) (by omega) (by omega) (by have := r.den_pos; omega) (by omega) (by have := s.den_pos; omega) (by omega) g _ (Lib.hid hgI) (by omega) p q (Lib.hid epI) (Lib.hid eqI) (by omega) (by omega) (by omega) (by omega) (Lib.hid (gcd_mod _ _)) (by omega) (by omega) (by omega) w
  · have hcb : c = !b := by cases b <;> cases c <;> simp_all
    subst hcb
    by_cases hlt : p < q
    · obtain ⟨l0, l1⟩ := L0 ((q : Int) - p)
      obtain ⟨o1, o2, o3⟩ := fin (!b) ((q : Int) - p) _ (by omega) rfl (by cases b <;> simp <;> omega)
      rw [← o1, ← o2, ← o3]
      exact plus_less b _ _ _ _ (by omega) (by omega) (by omega) (by omega) (by have := r.den_pos; omega) (by omega) (by have := s.den_pos; omega) (by omega) g _ (Lib.hid hgI) (by omega) p q (Lib.hid epI) (Lib.hid eqI) (by omega) (by omega) (by omega) (by omega) (by omega) (Lib.hid (gcd_mod _ _)) (by omega) (by omega) (by omega) w
    · obtain ⟨l0, l1⟩ := L0 ((p : Int) - q)
      obtain ⟨o1, o2, o3⟩ := fin b ((p : Int) - q) _ (by omega) rfl (by cases b <;> simp <;> omega)
      rw [← o1, ← o2, ← o3]
      exact plus_ge b _ _ _ _ (by omega) (by omega) (by omega) (by omega) (by have := r.den_pos; omega) (by omega) (by have := s.den_pos; omega) (by omega) g _ (Lib.hid hgI) (by omega) p q (Lib.hid epI) (Lib.hid eqI) (by omega) (by omega) (by omega) (by omega) (by omega) (Lib.hid (gcd_mod _ _)) (by omega) (by omega) (by omega) w
end Go.Proofs.YtignphcnjgbikaaDoor
