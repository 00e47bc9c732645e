/- frac.Round. -/
import Derived.Test.YtignphcnjgbikaaDoorO
namespace Go.Proofs.YtignphcnjgbikaaDoor
open Go.RowKit Go.Shelf

/-- what Round writes: N is the number of parts of 1 / u, u = 10 ^ k -/
def roundT (neg : Bool) (N u k : Nat) : List UInt8 :=
  (if neg && !(N == 0) then [45] else []) ++ (Lib.decDigits (N / u) ++ if k = 0 then [] else 46 :: (Lib.decDigits (u + N % u)).tail)

theorem decDigits_len (u : Nat) (h : u < 18446744073709551616) : 1 ≤ (Lib.decDigits u).length ∧ (Lib.decDigits u).length ≤ 20 := by
  rw [Lib.decDigits_length]
  refine ⟨?_, Lib.nDigits_le20 u h⟩
  rw [Lib.nDigits]; split <;> omega

theorem power_callsN (k : Nat) (hk : k ≤ 9) (u : Nat) (hu : Hid (10 ^ k = u)) (w : World) :
    Calls Tryd.prog 47 #[.int .i64 k] w fun e w' => e = .returned (.int .u64 u) ∧ Below w.heap.size w w' := by
  have := hu.out
  subst this
  exact power_calls k hk w
theorem decimal_smallN (b : Bool) (n d u q p : Nat) (hq : Hid (roundN n u d / u = q)) (hp : Hid (roundN n u d % u = p)) (hn : n < 18446744073709551616) (hd : 0 < d) (hd2 : d < 18446744073709551616) (hu : 0 < u) (hu2 : u ≤ 1000000000) (hp2 : n % d * u < 18446744073709551616) (w : World) :
    Calls Tryd.prog 48 #[.agg #[.bool b, .int .u64 n, .int .u64 d], .int .u64 u] w fun e w' => e = .returned (.tuple #[.int .u64 q, .int .u64 p]) ∧ Below w.heap.size w w' := by
  have h1 := hq.out; have h2 := hp.out
  subst h1 h2
  exact decimal_small b n d u hn hd hd2 hu hu2 hp2 w

theorem formatUint_callsI (u : Nat) (n : Int) (hn : n = u) (hu64 : u < 18446744073709551616) (w : World) (he : Env w) :
    Calls Tryd.prog 49 #[.int .u64 n, .int .i64 10] w fun e w' => e = .returned (.string ⟨(Lib.decDigits u).toArray⟩) ∧ Below w.heap.size w w' := by
  subst hn
  exact formatUint_calls u hu64 w he
theorem bs1 (c : UInt8) (l : List UInt8) : ByteArray.mk #[c] ++ ByteArray.mk l.toArray = ByteArray.mk (c :: l).toArray := by
  rw [show (ByteArray.mk #[c]) = ByteArray.mk [c].toArray from rfl, ByteArray.mk_append_mk]; rfl
theorem bs_tail (B : List UInt8) : (ByteArray.mk B.toArray).extract 1 B.length = ByteArray.mk B.tail.toArray := by
  apply ByteArray.ext
  rw [ByteArray.data_extract]
  cases B with
  | nil => simp
  | cons b B => simp
theorem ret_str {a b : ByteArray} {n : Int} (h : a = b) : Ending.returned (.tuple #[.string a, .int .i64 n]) = .returned (.tuple #[.string b, .int .i64 n]) := by rw [h]

set_option maxHeartbeats 4000000 in
theorem round_calls (r : Rat) (hr : fitsR r) (k : Nat) (hk : k ≤ 9) (hs : r.num.natAbs % r.den * 10 ^ k < 18446744073709551616) (w : World) (he : Env w) :
    Calls Tryd.prog 24 #[.agg #[.int .i64 r.num, .int .i64 r.den], .int .i64 k] w fun e w' => e = .returned (.tuple #[.string ⟨(roundT (decide (r.num < 0)) (roundN r.num.natAbs (10 ^ k) r.den) (10 ^ k) k).toArray⟩, .int .i64 0]) ∧ Below w.heap.size w w' := by
  obtain ⟨a1, a2, a3, a4⟩ := fits64 hr
  have hR := Lib.hid (right_rat r)
  have hd := r.den_pos
  obtain ⟨u, eu⟩ : ∃ u, 10 ^ k = u := ⟨_, rfl⟩
  have hu0 : 0 < u := by rw [← eu]; exact Nat.pow_pos (by decide)
  have hu9 : u ≤ 1000000000 := by
    rw [← eu]
    exact Nat.le_trans (Nat.pow_le_pow_right (by decide) hk) (by decide : 10 ^ 9 ≤ 1000000000)
  rw [eu] at hs ⊢
  have HU := Lib.hid eu
  clear eu
  obtain ⟨N, eN⟩ : ∃ N, roundN r.num.natAbs u r.den = N := ⟨_, rfl⟩
  rw [eN]
  obtain ⟨q, eq⟩ : ∃ q, N / u = q := ⟨_, rfl⟩
  obtain ⟨p, ep⟩ : ∃ p, N % u = p := ⟨_, rfl⟩
  have hpu : p < u := by rw [← ep]; exact Nat.mod_lt _ hu0
  have hN0 : (N == 0) = ((q == 0) && (p == 0)) := by
    have := Nat.div_add_mod N u
    rw [eq, ep] at this
    rw [Bool.eq_iff_iff]; simp only [beq_iff_eq, Bool.and_eq_true]
    constructor
    · intro h; subst h
      rw [Nat.zero_div] at eq; rw [Nat.zero_mod] at ep; exact ⟨eq.symm, ep.symm⟩
    · rintro ⟨rfl, rfl⟩; simpa using this.symm
  have hq64 : q < 18446744073709551616 := by
    have e := round_parts r.num.natAbs u r.den hd
    rw [eN] at e
    have h1 : r.num.natAbs % r.den * u / r.den < u := by
      rw [Nat.div_lt_iff_lt_mul hd, Nat.mul_comm u]
      exact Nat.mul_lt_mul_of_pos_right (Nat.mod_lt _ hd) hu0
    have h2 : N < (r.num.natAbs + 2) * u := by
      have h3 : r.num.natAbs / r.den * u ≤ r.num.natAbs * u := Nat.mul_le_mul_right u (Nat.div_le_self _ _)
      have h4 : (r.num.natAbs + 2) * u = r.num.natAbs * u + 2 * u := Nat.add_mul _ _ _
      rw [h4, e]
      split <;> omega
    have h5 : N / u < r.num.natAbs + 2 := (Nat.div_lt_iff_lt_mul hu0).2 h2
    omega
  unfold roundT
  rw [eq, ep, hN0]
  have Hq : Hid (roundN r.num.natAbs u r.den / u = q) := Lib.hid (by rw [eN]; exact eq)
  have Hp : Hid (roundN r.num.natAbs u r.den % u = p) := Lib.hid (by rw [eN]; exact ep)
  clear eq ep hN0 eN
  have en : ((r.den : Int).natAbs : Int) = r.den := by omega
  obtain ⟨b1, b2⟩ := a1
  have a1 : I64 r.num := ⟨b1, b2⟩
  have n64 : r.num.natAbs < 18446744073709551616 := by omega
  have d64 : r.den < 18446744073709551616 := by omega
  have hD := fun (b : Bool) w => decimal_smallN b _ _ u q p Hq Hp n64 hd d64 hu0 hu9 hs w
  have HD := Lib.hid hD
  clear hD hs
  obtain ⟨l1, l2⟩ := decDigits_len q hq64
  obtain ⟨l3, l4⟩ := decDigits_len (u + p) (by omega)
  generalize hA : Lib.decDigits q = A at *
  generalize hB : Lib.decDigits (u + p) = B at *
  have HA := Lib.hid hA; have HB := Lib.hid hB
  clear hA hB
  have c1 : (A.length : Int) ≤ 8388608 := by omega
  have c2 : (B.length : Int) ≤ 8388608 := by omega
  have hk0 : (0 : Int) ≤ k := by omega
  have hk9 : (k : Int) ≤ 9 := by omega
  by_cases hkz : k = 0
  · subst hkz
    by_cases hneg : r.num < 0
    · have hnb : decide (r.num < 0) = true := by simpa using hneg
      by_cases hz : q = 0
      · have hqb : ((q : Int) != 0) = false := by simp [hz]
        have hq0 : (q == 0) = true := by simp [hz]
        clear hz
        by_cases hy : p = 0
        · have hpb : ((p : Int) != 0) = false := by simp [hy]
          have hp0 : (p == 0) = true := by simp [hy]
          clear hy
          go_enter Tryd.func24, Tryd.ntmps24
          go_wp2_with (first
            | (go_at_call 20; refine (right_callsB _ _ true hR a1 a2 _).mono ?_; rintro e w1 ⟨rfl, hb⟩; obtain ⟨o1, j1, rfl⟩ := grow_of_below hb; clear hb)
            | (go_at_call 47; refine (power_callsN 0 hk u HU _).mono ?_; rintro e w1 ⟨rfl, hb⟩; obtain ⟨o2, j2, rfl⟩ := grow_of_below hb; clear hb)
            | (go_at_call 35; refine (split_calls r.num r.den _ a1.1 a1.2 a2.1 a2.2).mono ?_; rintro e w2 ⟨rfl, hb⟩; obtain ⟨o3, j3, rfl⟩ := grow_of_below hb; clear hb)
            | (go_at_call 48; refine (HD.out _ _).mono ?_; rintro e w1 ⟨rfl, hb⟩; obtain ⟨o4, j4, rfl⟩ := grow_of_below hb; clear hb)
            | (go_at_call_of 49 (q : Int); refine (formatUint_calls q hq64 _ (he.below (by repeat (first | (with_reducible exact Below.refl _ _) | ((with_reducible refine below_grow ?_ ?_); rotate_left; focus (first | omega | (simp [go_sem]; done) | (simp [go_sem]; omega))) | ((with_reducible refine Below.alloc ?_ ?_ _); rotate_left; focus (first | omega | (simp [go_sem]; done) | (simp [go_sem]; omega))) | ((with_reducible refine Below.setCell ?_ ?_ _); rotate_left; focus (first | omega | (simp [go_sem]; done) | (simp [go_sem]; omega))) | (with_reducible refine Below.drew ?_) | (with_reducible refine below_drewN _ ?_))))).mono ?_; rintro e w1 ⟨rfl, hb⟩; obtain ⟨o5, j5, rfl⟩ := grow_of_below hb; clear hb; rw [HA.out])
            | (go_at_call_of 49 ((u : Int) + (p : Int)); refine (formatUint_callsI (u + p) _ (by omega) (by omega) _ (he.below (by repeat (first | (with_reducible exact Below.refl _ _) | ((with_reducible refine below_grow ?_ ?_); rotate_left; focus (first | omega | (simp [go_sem]; done) | (simp [go_sem]; omega))) | ((with_reducible refine Below.alloc ?_ ?_ _); rotate_left; focus (first | omega | (simp [go_sem]; done) | (simp [go_sem]; omega))) | ((with_reducible refine Below.setCell ?_ ?_ _); rotate_left; focus (first | omega | (simp [go_sem]; done) | (simp [go_sem]; omega))) | (with_reducible refine Below.drew ?_) | (with_reducible refine below_drewN _ ?_))))).mono ?_; rintro e w1 ⟨rfl, hb⟩; obtain ⟨o6, j6, rfl⟩ := grow_of_below hb; clear hb; rw [HB.out]))
          all_goals
            go_ret2
            refine ⟨?_, by repeat (first | (with_reducible exact Below.refl _ _) | ((with_reducible refine below_grow ?_ ?_); rotate_left; focus (first | omega | (simp [go_sem]; done) | (simp [go_sem]; omega))) | ((with_reducible refine Below.alloc ?_ ?_ _); rotate_left; focus (first | omega | (simp [go_sem]; done) | (simp [go_sem]; omega))) | ((with_reducible refine Below.setCell ?_ ?_ _); rotate_left; focus (first | omega | (simp [go_sem]; done) | (simp [go_sem]; omega))) | (with_reducible refine Below.drew ?_) | (with_reducible refine below_drewN _ ?_))⟩
            simp [bs1, bs_tail, ByteArray.mk_append_mk]
        · have hpb : ((p : Int) != 0) = true := by rw [bne_iff_ne]; omega
          have hp0 : (p == 0) = false := by simp [hy]
          clear hy
          go_enter Tryd.func24, Tryd.ntmps24
          go_wp2_with (first
            | (go_at_call 20; refine (right_callsB _ _ true hR a1 a2 _).mono ?_; rintro e w1 ⟨rfl, hb⟩; obtain ⟨o1, j1, rfl⟩ := grow_of_below hb; clear hb)
            | (go_at_call 47; refine (power_callsN 0 hk u HU _).mono ?_; rintro e w1 ⟨rfl, hb⟩; obtain ⟨o2, j2, rfl⟩ := grow_of_below hb; clear hb)
            | (go_at_call 35; refine (split_calls r.num r.den _ a1.1 a1.2 a2.1 a2.2).mono ?_; rintro e w2 ⟨rfl, hb⟩; obtain ⟨o3, j3, rfl⟩ := grow_of_below hb; clear hb)
            | (go_at_call 48; refine (HD.out _ _).mono ?_; rintro e w1 ⟨rfl, hb⟩; obtain ⟨o4, j4, rfl⟩ := grow_of_below hb; clear hb)
            | (go_at_call_of 49 (q : Int); refine (formatUint_calls q hq64 _ (he.below (by repeat (first | (with_reducible exact Below.refl _ _) | ((with_reducible refine below_grow ?_ ?_); rotate_left; focus (first | omega | (simp [go_sem]; done) | (simp [go_sem]; omega))) | ((with_reducible refine Below.alloc ?_ ?_ _); rotate_left; focus (first | omega | (simp [go_sem]; done) | (simp [go_sem]; omega))) | ((with_reducible refine Below.setCell ?_ ?_ _); rotate_left; focus (first | omega | (simp [go_sem]; done) | (simp [go_sem]; omega))) | (with_reducible refine Below.drew ?_) | (with_reducible refine below_drewN _ ?_))))).mono ?_; rintro e w1 ⟨rfl, hb⟩; obtain ⟨o5, j5, rfl⟩ := grow_of_below hb; clear hb; rw [HA.out])
            | (go_at_call_of 49 ((u : Int) + (p : Int)); refine (formatUint_callsI (u + p) _ (by omega) (by omega) _ (he.below (by repeat (first | (with_reducible exact Below.refl _ _) | ((with_reducible refine below_grow ?_ ?_); rotate_left; focus (first | omega | (simp [go_sem]; done) | (simp [go_sem]; omega))) | ((with_reducible refine Below.alloc ?_ ?_ _); rotate_left; focus (first | omega | (simp [go_sem]; done) | (simp [go_sem]; omega))) | ((with_reducible refine Below.setCell ?_ ?_ _); rotate_left; focus (first | omega | (simp [go_sem]; done) | (simp [go_sem]; omega))) | (with_reducible refine Below.drew ?_) | (with_reducible refine below_drewN _ ?_))))).mono ?_; rintro e w1 ⟨rfl, hb⟩; obtain ⟨o6, j6, rfl⟩ := grow_of_below hb; clear hb; rw [HB.out]))
          all_goals
            go_ret2
            refine ⟨?_, by repeat (first | (with_reducible exact Below.refl _ _) | ((with_reducible refine below_grow ?_ ?_); rotate_left; focus (first | omega | (simp [go_sem]; done) | (simp [go_sem]; omega))) | ((with_reducible refine Below.alloc ?_ ?_ _); rotate_left; focus (first | omega | (simp [go_sem]; done) | (simp [go_sem]; omega))) | ((with_reducible refine Below.setCell ?_ ?_ _); rotate_left; focus (first | omega | (simp [go_sem]; done) | (simp [go_sem]; omega))) | (with_reducible refine Below.drew ?_) | (with_reducible refine below_drewN _ ?_))⟩
            simp [bs1, bs_tail, ByteArray.mk_append_mk]
      · have hqb : ((q : Int) != 0) = true := by rw [bne_iff_ne]; omega
        have hq0 : (q == 0) = false := by simp [hz]
        clear hz
        go_enter Tryd.func24, Tryd.ntmps24
        go_wp2_with (first
          | (go_at_call 20; refine (right_callsB _ _ true hR a1 a2 _).mono ?_; rintro e w1 ⟨rfl, hb⟩; obtain ⟨o1, j1, rfl⟩ := grow_of_below hb; clear hb)
          | (go_at_call 47; refine (power_callsN 0 hk u HU _).mono ?_; rintro e w1 ⟨rfl, hb⟩; obtain ⟨o2, j2, rfl⟩ := grow_of_below hb; clear hb)
          | (go_at_call 35; refine (split_calls r.num r.den _ a1.1 a1.2 a2.1 a2.2).mono ?_; rintro e w2 ⟨rfl, hb⟩; obtain ⟨o3, j3, rfl⟩ := grow_of_below hb; clear hb)
          | (go_at_call 48; refine (HD.out _ _).mono ?_; rintro e w1 ⟨rfl, hb⟩; obtain ⟨o4, j4, rfl⟩ := grow_of_below hb; clear hb)
          | (go_at_call_of 49 (q : Int); refine (formatUint_calls q hq64 _ (he.below (by repeat (first | (with_reducible exact Below.refl _ _) | ((with_reducible refine below_grow ?_ ?_); rotate_left; focus (first | omega | (simp [go_sem]; done) | (simp [go_sem]; omega))) | ((with_reducible refine Below.alloc ?_ ?_ _); rotate_left; focus (first | omega | (simp [go_sem]; done) | (simp [go_sem]; omega))) | ((with_reducible refine Below.setCell ?_ ?_ _); rotate_left; focus (first | omega | (simp [go_sem]; done) | (simp [go_sem]; omega))) | (with_reducible refine Below.drew ?_) | (with_reducible refine below_drewN _ ?_))))).mono ?_; rintro e w1 ⟨rfl, hb⟩; obtain ⟨o5, j5, rfl⟩ := grow_of_below hb; clear hb; rw [HA.out])
          | (go_at_call_of 49 ((u : Int) + (p : Int)); refine (formatUint_callsI (u + p) _ (by omega) (by omega) _ (he.below (by repeat (first | (with_reducible exact Below.refl _ _) | ((with_reducible refine below_grow ?_ ?_); rotate_left; focus (first | omega | (simp [go_sem]; done) | (simp [go_sem]; omega))) | ((with_reducible refine Below.alloc ?_ ?_ _); rotate_left; focus (first | omega | (simp [go_sem]; done) | (simp [go_sem]; omega))) | ((with_reducible refine Below.setCell ?_ ?_ _); rotate_left; focus (first | omega | (simp [go_sem]; done) | (simp [go_sem]; omega))) | (with_reducible refine Below.drew ?_) | (with_reducible refine below_drewN _ ?_))))).mono ?_; rintro e w1 ⟨rfl, hb⟩; obtain ⟨o6, j6, rfl⟩ := grow_of_below hb; clear hb; rw [HB.out]))
        all_goals
          go_ret2
          refine ⟨?_, by repeat (first | (with_reducible exact Below.refl _ _) | ((with_reducible refine below_grow ?_ ?_); rotate_left; focus (first | omega | (simp [go_sem]; done) | (simp [go_sem]; omega))) | ((with_reducible refine Below.alloc ?_ ?_ _); rotate_left; focus (first | omega | (simp [go_sem]; done) | (simp [go_sem]; omega))) | ((with_reducible refine Below.setCell ?_ ?_ _); rotate_left; focus (first | omega | (simp [go_sem]; done) | (simp [go_sem]; omega))) | (with_reducible refine Below.drew ?_) | (with_reducible refine below_drewN _ ?_))⟩
          simp [bs1, bs_tail, ByteArray.mk_append_mk]
    · have hnb : decide (r.num < 0) = false := by simpa using hneg
      go_enter Tryd.func24, Tryd.ntmps24
      go_wp2_with (first
        | (go_at_call 20; refine (right_callsB _ _ true hR a1 a2 _).mono ?_; rintro e w1 ⟨rfl, hb⟩; obtain ⟨o1, j1, rfl⟩ := grow_of_below hb; clear hb)
        | (go_at_call 47; refine (power_callsN 0 hk u HU _).mono ?_; rintro e w1 ⟨rfl, hb⟩; obtain ⟨o2, j2, rfl⟩ := grow_of_below hb; clear hb)
        | (go_at_call 35; refine (split_calls r.num r.den _ a1.1 a1.2 a2.1 a2.2).mono ?_; rintro e w2 ⟨rfl, hb⟩; obtain ⟨o3, j3, rfl⟩ := grow_of_below hb; clear hb)
        | (go_at_call 48; refine (HD.out _ _).mono ?_; rintro e w1 ⟨rfl, hb⟩; obtain ⟨o4, j4, rfl⟩ := grow_of_below hb; clear hb)
        | (go_at_call_of 49 (q : Int); refine (formatUint_calls q hq64 _ (he.below (by repeat (first | (with_reducible exact Below.refl _ _) | ((with_reducible refine below_grow ?_ ?_); rotate_left; focus (first | omega | (simp [go_sem]; done) | (simp [go_sem]; omega))) | ((with_reducible refine Below.alloc ?_ ?_ _); rotate_left; focus (first | omega | (simp [go_sem]; done) | (simp [go_sem]; omega))) | ((with_reducible refine Below.setCell ?_ ?_ _); rotate_left; focus (first | omega | (simp [go_sem]; done) | (simp [go_sem]; omega))) | (with_reducible refine Below.drew ?_) | (with_reducible refine below_drewN _ ?_))))).mono ?_; rintro e w1 ⟨rfl, hb⟩; obtain ⟨o5, j5, rfl⟩ := grow_of_below hb; clear hb; rw [HA.out])
        | (go_at_call_of 49 ((u : Int) + (p : Int)); refine (formatUint_callsI (u + p) _ (by omega) (by omega) _ (he.below (by repeat (first | (with_reducible exact Below.refl _ _) | ((with_reducible refine below_grow ?_ ?_); rotate_left; focus (first | omega | (simp [go_sem]; done) | (simp [go_sem]; omega))) | ((with_reducible refine Below.alloc ?_ ?_ _); rotate_left; focus (first | omega | (simp [go_sem]; done) | (simp [go_sem]; omega))) | ((with_reducible refine Below.setCell ?_ ?_ _); rotate_left; focus (first | omega | (simp [go_sem]; done) | (simp [go_sem]; omega))) | (with_reducible refine Below.drew ?_) | (with_reducible refine below_drewN _ ?_))))).mono ?_; rintro e w1 ⟨rfl, hb⟩; obtain ⟨o6, j6, rfl⟩ := grow_of_below hb; clear hb; rw [HB.out]))
      all_goals
        go_ret2
        refine ⟨?_, by repeat (first | (with_reducible exact Below.refl _ _) | ((with_reducible refine below_grow ?_ ?_); rotate_left; focus (first | omega | (simp [go_sem]; done) | (simp [go_sem]; omega))) | ((with_reducible refine Below.alloc ?_ ?_ _); rotate_left; focus (first | omega | (simp [go_sem]; done) | (simp [go_sem]; omega))) | ((with_reducible refine Below.setCell ?_ ?_ _); rotate_left; focus (first | omega | (simp [go_sem]; done) | (simp [go_sem]; omega))) | (with_reducible refine Below.drew ?_) | (with_reducible refine below_drewN _ ?_))⟩
        simp [bs1, bs_tail, ByteArray.mk_append_mk]
  · have hkp : (0 : Int) < k := by omega
    by_cases hneg : r.num < 0
    · have hnb : decide (r.num < 0) = true := by simpa using hneg
      by_cases hz : q = 0
      · have hqb : ((q : Int) != 0) = false := by simp [hz]
        have hq0 : (q == 0) = true := by simp [hz]
        clear hz
        by_cases hy : p = 0
        · have hpb : ((p : Int) != 0) = false := by simp [hy]
          have hp0 : (p == 0) = true := by simp [hy]
          clear hy
          go_enter Tryd.func24, Tryd.ntmps24
          go_wp2_with (first
            | (go_at_call 20; refine (right_callsB _ _ true hR a1 a2 _).mono ?_; rintro e w1 ⟨rfl, hb⟩; obtain ⟨o1, j1, rfl⟩ := grow_of_below hb; clear hb)
            | (go_at_call 47; refine (power_callsN k hk u HU _).mono ?_; rintro e w1 ⟨rfl, hb⟩; obtain ⟨o2, j2, rfl⟩ := grow_of_below hb; clear hb)
            | (go_at_call 35; refine (split_calls r.num r.den _ a1.1 a1.2 a2.1 a2.2).mono ?_; rintro e w2 ⟨rfl, hb⟩; obtain ⟨o3, j3, rfl⟩ := grow_of_below hb; clear hb)
            | (go_at_call 48; refine (HD.out _ _).mono ?_; rintro e w1 ⟨rfl, hb⟩; obtain ⟨o4, j4, rfl⟩ := grow_of_below hb; clear hb)
            | (go_at_call_of 49 (q : Int); refine (formatUint_calls q hq64 _ (he.below (by repeat (first | (with_reducible exact Below.refl _ _) | ((with_reducible refine below_grow ?_ ?_); rotate_left; focus (first | omega | (simp [go_sem]; done) | (simp [go_sem]; omega))) | ((with_reducible refine Below.alloc ?_ ?_ _); rotate_left; focus (first | omega | (simp [go_sem]; done) | (simp [go_sem]; omega))) | ((with_reducible refine Below.setCell ?_ ?_ _); rotate_left; focus (first | omega | (simp [go_sem]; done) | (simp [go_sem]; omega))) | (with_reducible refine Below.drew ?_) | (with_reducible refine below_drewN _ ?_))))).mono ?_; rintro e w1 ⟨rfl, hb⟩; obtain ⟨o5, j5, rfl⟩ := grow_of_below hb; clear hb; rw [HA.out])
            | (go_at_call_of 49 ((u : Int) + (p : Int)); refine (formatUint_callsI (u + p) _ (by omega) (by omega) _ (he.below (by repeat (first | (with_reducible exact Below.refl _ _) | ((with_reducible refine below_grow ?_ ?_); rotate_left; focus (first | omega | (simp [go_sem]; done) | (simp [go_sem]; omega))) | ((with_reducible refine Below.alloc ?_ ?_ _); rotate_left; focus (first | omega | (simp [go_sem]; done) | (simp [go_sem]; omega))) | ((with_reducible refine Below.setCell ?_ ?_ _); rotate_left; focus (first | omega | (simp [go_sem]; done) | (simp [go_sem]; omega))) | (with_reducible refine Below.drew ?_) | (with_reducible refine below_drewN _ ?_))))).mono ?_; rintro e w1 ⟨rfl, hb⟩; obtain ⟨o6, j6, rfl⟩ := grow_of_below hb; clear hb; rw [HB.out]))
          all_goals
            go_ret2
            refine ⟨?_, by repeat (first | (with_reducible exact Below.refl _ _) | ((with_reducible refine below_grow ?_ ?_); rotate_left; focus (first | omega | (simp [go_sem]; done) | (simp [go_sem]; omega))) | ((with_reducible refine Below.alloc ?_ ?_ _); rotate_left; focus (first | omega | (simp [go_sem]; done) | (simp [go_sem]; omega))) | ((with_reducible refine Below.setCell ?_ ?_ _); rotate_left; focus (first | omega | (simp [go_sem]; done) | (simp [go_sem]; omega))) | (with_reducible refine Below.drew ?_) | (with_reducible refine below_drewN _ ?_))⟩
            simp [bs1, bs_tail, ByteArray.mk_append_mk]
        · have hpb : ((p : Int) != 0) = true := by rw [bne_iff_ne]; omega
          have hp0 : (p == 0) = false := by simp [hy]
          clear hy
          go_enter Tryd.func24, Tryd.ntmps24
          go_wp2_with (first
            | (go_at_call 20; refine (right_callsB _ _ true hR a1 a2 _).mono ?_; rintro e w1 ⟨rfl, hb⟩; obtain ⟨o1, j1, rfl⟩ := grow_of_below hb; clear hb)
            | (go_at_call 47; refine (power_callsN k hk u HU _).mono ?_; rintro e w1 ⟨rfl, hb⟩; obtain ⟨o2, j2, rfl⟩ := grow_of_below hb; clear hb)
            | (go_at_call 35; refine (split_calls r.num r.den _ a1.1 a1.2 a2.1 a2.2).mono ?_; rintro e w2 ⟨rfl, hb⟩; obtain ⟨o3, j3, rfl⟩ := grow_of_below hb; clear hb)
            | (go_at_call 48; refine (HD.out _ _).mono ?_; rintro e w1 ⟨rfl, hb⟩; obtain ⟨o4, j4, rfl⟩ := grow_of_below hb; clear hb)
            | (go_at_call_of 49 (q : Int); refine (formatUint_calls q hq64 _ (he.below (by repeat (first | (with_reducible exact Below.refl _ _) | ((with_reducible refine below_grow ?_ ?_); rotate_left; focus (first | omega | (simp [go_sem]; done) | (simp [go_sem]; omega))) | ((with_reducible refine Below.alloc ?_ ?_ _); rotate_left; focus (first | omega | (simp [go_sem]; done) | (simp [go_sem]; omega))) | ((with_reducible refine Below.setCell ?_ ?_ _); rotate_left; focus (first | omega | (simp [go_sem]; done) | (simp [go_sem]; omega))) | (with_reducible refine Below.drew ?_) | (with_reducible refine below_drewN _ ?_))))).mono ?_; rintro e w1 ⟨rfl, hb⟩; obtain ⟨o5, j5, rfl⟩ := grow_of_below hb; clear hb; rw [HA.out])
            | (go_at_call_of 49 ((u : Int) + (p : Int)); refine (formatUint_callsI (u + p) _ (by omega) (by omega) _ (he.below (by repeat (first | (with_reducible exact Below.refl _ _) | ((with_reducible refine below_grow ?_ ?_); rotate_left; focus (first | omega | (simp [go_sem]; done) | (simp [go_sem]; omega))) | ((with_reducible refine Below.alloc ?_ ?_ _); rotate_left; focus (first | omega | (simp [go_sem]; done) | (simp [go_sem]; omega))) | ((with_reducible refine Below.setCell ?_ ?_ _); rotate_left; focus (first | omega | (simp [go_sem]; done) | (simp [go_sem]; omega))) | (with_reducible refine Below.drew ?_) | (with_reducible refine below_drewN _ ?_))))).mono ?_; rintro e w1 ⟨rfl, hb⟩; obtain ⟨o6, j6, rfl⟩ := grow_of_below hb; clear hb; rw [HB.out]))
          all_goals
            go_ret2
            refine ⟨?_, by repeat (first | (with_reducible exact Below.refl _ _) | ((with_reducible refine below_grow ?_ ?_); rotate_left; focus (first | omega | (simp [go_sem]; done) | (simp [go_sem]; omega))) | ((with_reducible refine Below.alloc ?_ ?_ _); rotate_left; focus (first | omega | (simp [go_sem]; done) | (simp [go_sem]; omega))) | ((with_reducible refine Below.setCell ?_ ?_ _); rotate_left; focus (first | omega | (simp [go_sem]; done) | (simp [go_sem]; omega))) | (with_reducible refine Below.drew ?_) | (with_reducible refine below_drewN _ ?_))⟩
            simp [bs1, bs_tail, ByteArray.mk_append_mk]
      · have hqb : ((q : Int) != 0) = true := by rw [bne_iff_ne]; omega
        have hq0 : (q == 0) = false := by simp [hz]
        clear hz
        go_enter Tryd.func24, Tryd.ntmps24
        go_wp2_with (first
          | (go_at_call 20; refine (right_callsB _ _ true hR a1 a2 _).mono ?_; rintro e w1 ⟨rfl, hb⟩; obtain ⟨o1, j1, rfl⟩ := grow_of_below hb; clear hb)
          | (go_at_call 47; refine (power_callsN k hk u HU _).mono ?_; rintro e w1 ⟨rfl, hb⟩; obtain ⟨o2, j2, rfl⟩ := grow_of_below hb; clear hb)
          | (go_at_call 35; refine (split_calls r.num r.den _ a1.1 a1.2 a2.1 a2.2).mono ?_; rintro e w2 ⟨rfl, hb⟩; obtain ⟨o3, j3, rfl⟩ := grow_of_below hb; clear hb)
          | (go_at_call 48; refine (HD.out _ _).mono ?_; rintro e w1 ⟨rfl, hb⟩; obtain ⟨o4, j4, rfl⟩ := grow_of_below hb; clear hb)
          | (go_at_call_of 49 (q : Int); refine (formatUint_calls q hq64 _ (he.below (by repeat (first | (with_reducible exact Below.refl _ _) | ((with_reducible refine below_grow ?_ ?_); rotate_left; focus (first | omega | (simp [go_sem]; done) | (simp [go_sem]; omega))) | ((with_reducible refine Below.alloc ?_ ?_ _); rotate_left; focus (first | omega | (simp [go_sem]; done) | (simp [go_sem]; omega))) | ((with_reducible refine Below.setCell ?_ ?_ _); rotate_left; focus (first | omega | (simp [go_sem]; done) | (simp [go_sem]; omega))) | (with_reducible refine Below.drew ?_) | (with_reducible refine below_drewN _ ?_))))).mono ?_; rintro e w1 ⟨rfl, hb⟩; obtain ⟨o5, j5, rfl⟩ := grow_of_below hb; clear hb; rw [HA.out])
          | (go_at_call_of 49 ((u : Int) + (p : Int)); refine (formatUint_callsI (u + p) _ (by omega) (by omega) _ (he.below (by repeat (first | (with_reducible exact Below.refl _ _) | ((with_reducible refine below_grow ?_ ?_); rotate_left; focus (first | omega | (simp [go_sem]; done) | (simp [go_sem]; omega))) | ((with_reducible refine Below.alloc ?_ ?_ _); rotate_left; focus (first | omega | (simp [go_sem]; done) | (simp [go_sem]; omega))) | ((with_reducible refine Below.setCell ?_ ?_ _); rotate_left; focus (first | omega | (simp [go_sem]; done) | (simp [go_sem]; omega))) | (with_reducible refine Below.drew ?_) | (with_reducible refine below_drewN _ ?_))))).mono ?_; rintro e w1 ⟨rfl, hb⟩; obtain ⟨o6, j6, rfl⟩ := grow_of_below hb; clear hb; rw [HB.out]))
        all_goals
          go_ret2
          refine ⟨?_, by repeat (first | (with_reducible exact Below.refl _ _) | ((with_reducible refine below_grow ?_ ?_); rotate_left; focus (first | omega | (simp [go_sem]; done) | (simp [go_sem]; omega))) | ((with_reducible refine Below.alloc ?_ ?_ _); rotate_left; focus (first | omega | (simp [go_sem]; done) | (simp [go_sem]; omega))) | ((with_reducible refine Below.setCell ?_ ?_ _); rotate_left; focus (first | omega | (simp [go_sem]; done) | (simp [go_sem]; omega))) | (with_reducible refine Below.drew ?_) | (with_reducible refine below_drewN _ ?_))⟩
          simp [bs1, bs_tail, ByteArray.mk_append_mk]
    · have hnb : decide (r.num < 0) = false := by simpa using hneg
      go_enter Tryd.func24, Tryd.ntmps24
      go_wp2_with (first
        | (go_at_call 20; refine (right_callsB _ _ true hR a1 a2 _).mono ?_; rintro e w1 ⟨rfl, hb⟩; obtain ⟨o1, j1, rfl⟩ := grow_of_below hb; clear hb)
        | (go_at_call 47; refine (power_callsN k hk u HU _).mono ?_; rintro e w1 ⟨rfl, hb⟩; obtain ⟨o2, j2, rfl⟩ := grow_of_below hb; clear hb)
        | (go_at_call 35; refine (split_calls r.num r.den _ a1.1 a1.2 a2.1 a2.2).mono ?_; rintro e w2 ⟨rfl, hb⟩; obtain ⟨o3, j3, rfl⟩ := grow_of_below hb; clear hb)
        | (go_at_call 48; refine (HD.out _ _).mono ?_; rintro e w1 ⟨rfl, hb⟩; obtain ⟨o4, j4, rfl⟩ := grow_of_below hb; clear hb)
        | (go_at_call_of 49 (q : Int); refine (formatUint_calls q hq64 _ (he.below (by repeat (first | (with_reducible exact Below.refl _ _) | ((with_reducible refine below_grow ?_ ?_); rotate_left; focus (first | omega | (simp [go_sem]; done) | (simp [go_sem]; omega))) | ((with_reducible refine Below.alloc ?_ ?_ _); rotate_left; focus (first | omega | (simp [go_sem]; done) | (simp [go_sem]; omega))) | ((with_reducible refine Below.setCell ?_ ?_ _); rotate_left; focus (first | omega | (simp [go_sem]; done) | (simp [go_sem]; omega))) | (with_reducible refine Below.drew ?_) | (with_reducible refine below_drewN _ ?_))))).mono ?_; rintro e w1 ⟨rfl, hb⟩; obtain ⟨o5, j5, rfl⟩ := grow_of_below hb; clear hb; rw [HA.out])
        | (go_at_call_of 49 ((u : Int) + (p : Int)); refine (formatUint_callsI (u + p) _ (by omega) (by omega) _ (he.below (by repeat (first | (with_reducible exact Below.refl _ _) | ((with_reducible refine below_grow ?_ ?_); rotate_left; focus (first | omega | (simp [go_sem]; done) | (simp [go_sem]; omega))) | ((with_reducible refine Below.alloc ?_ ?_ _); rotate_left; focus (first | omega | (simp [go_sem]; done) | (simp [go_sem]; omega))) | ((with_reducible refine Below.setCell ?_ ?_ _); rotate_left; focus (first | omega | (simp [go_sem]; done) | (simp [go_sem]; omega))) | (with_reducible refine Below.drew ?_) | (with_reducible refine below_drewN _ ?_))))).mono ?_; rintro e w1 ⟨rfl, hb⟩; obtain ⟨o6, j6, rfl⟩ := grow_of_below hb; clear hb; rw [HB.out]))
      all_goals
        go_ret2
        refine ⟨?_, by repeat (first | (with_reducible exact Below.refl _ _) | ((with_reducible refine below_grow ?_ ?_); rotate_left; focus (first | omega | (simp [go_sem]; done) | (simp [go_sem]; omega))) | ((with_reducible refine Below.alloc ?_ ?_ _); rotate_left; focus (first | omega | (simp [go_sem]; done) | (simp [go_sem]; omega))) | ((with_reducible refine Below.setCell ?_ ?_ _); rotate_left; focus (first | omega | (simp [go_sem]; done) | (simp [go_sem]; omega))) | (with_reducible refine Below.drew ?_) | (with_reducible refine below_drewN _ ?_))⟩
        simp [bs1, bs_tail, ByteArray.mk_append_mk]
end Go.Proofs.YtignphcnjgbikaaDoor
