/- Walks of nat's parts: divided. -/
import Derived.Test.YtcgecgagecobeaaNF
namespace Go.Proofs.Ytcgecgagecobeaa
open Go.RowKit

/-- Behind the bits from k on: what is left is A, the quotient so far is Q. -/
def dinv (a b k A Q : Nat) : Prop := a = Q * b + A ∧ A < b * 2 ^ k ∧ (∃ t, Q = 2 ^ k * t) ∧ isN a ∧ 1 ≤ b ∧ (1 ≤ k → isN (b * 2 ^ (k - 1)))
theorem dinv_AQ {a b k A Q : Nat} (h : dinv a b k A Q) : isN A ∧ isN Q := by
  obtain ⟨h1, h2, h3, h4, h5, h6⟩ := h
  have : Q * 1 ≤ Q * b := Nat.mul_le_mul_left _ h5
  unfold isN at *
  omega
theorem dinv_start (a b la lb : Nat) (ha : isN a) (hb : b ≠ 0) (h1 : isLen a la) (h2 : isLen b lb) (h3 : la ≤ 128) : dinv a b ((la : Int) - lb + 1).toNat a 0 := by
  obtain ⟨p1, p2, p3⟩ := h1
  obtain ⟨q1, q2, q3⟩ := h2
  obtain ⟨q4, q5⟩ := q3 hb
  refine ⟨by omega, ?_, ⟨0, rfl⟩, ha, by omega, fun hk => ?_⟩
  · by_cases hl : lb ≤ la
    · have e : ((la : Int) - lb + 1).toNat = la - lb + 1 := by omega
      rw [e]
      have h : 2 ^ (lb - 1) * 2 ^ (la - lb + 1) ≤ b * 2 ^ (la - lb + 1) := Nat.mul_le_mul_right _ q5
      rw [← Nat.pow_add, show lb - 1 + (la - lb + 1) = la from by omega] at h
      omega
    · have e : ((la : Int) - lb + 1).toNat = 0 := by omega
      rw [e, Nat.pow_zero, Nat.mul_one]
      have h : 2 ^ la ≤ 2 ^ (lb - 1) := Nat.pow_le_pow_right (by decide) (by omega)
      omega
  · have e : ((la : Int) - lb + 1).toNat - 1 = la - lb := by omega
    rw [e]
    have h : b * 2 ^ (la - lb) < 2 ^ lb * 2 ^ (la - lb) := Nat.mul_lt_mul_of_pos_right q1 (Nat.pow_pos (by decide))
    rw [← Nat.pow_add, show lb + (la - lb) = la from by omega] at h
    have h' : 2 ^ la ≤ 2 ^ 128 := Nat.pow_le_pow_right (by decide) h3
    have e2 : (2 : Nat) ^ 128 = 340282366920938463463374607431768211456 := by decide
    unfold isN
    omega
theorem dinv_no (a b A Q : Nat) (m : Int) (hm : 0 ≤ m) (h : dinv a b (m + 1).toNat A Q) (hlt : A < b * 2 ^ m.toNat) : dinv a b (m - 1 + 1).toNat A Q := by
  have e : (m + 1).toNat = m.toNat + 1 := by omega
  have e2 : (m - 1 + 1).toNat = m.toNat := by omega
  rw [e] at h
  rw [e2]
  obtain ⟨h1, h2, ⟨t, h3⟩, h4, h5, h6⟩ := h
  refine ⟨h1, hlt, ⟨2 * t, by rw [h3, Nat.pow_succ, Nat.mul_assoc]⟩, h4, h5, fun hk => ?_⟩
  have h7 := h6 (by omega)
  have : b * 2 ^ (m.toNat - 1) ≤ b * 2 ^ (m.toNat + 1 - 1) := Nat.mul_le_mul_left _ (Nat.pow_le_pow_right (by decide) (by omega))
  unfold isN at *
  omega
theorem dinv_yes (a b A Q : Nat) (m : Int) (hm : 0 ≤ m) (h : dinv a b (m + 1).toNat A Q) (hlt : ¬ A < b * 2 ^ m.toNat) : dinv a b (m - 1 + 1).toNat (A - b * 2 ^ m.toNat) (Q + 2 ^ m.toNat) := by
  have e : (m + 1).toNat = m.toNat + 1 := by omega
  have e2 : (m - 1 + 1).toNat = m.toNat := by omega
  rw [e] at h
  rw [e2]
  obtain ⟨h1, h2, ⟨t, h3⟩, h4, h5, h6⟩ := h
  refine ⟨?_, ?_, ⟨2 * t + 1, by rw [h3, Nat.pow_succ, Nat.mul_assoc, Nat.mul_add, Nat.mul_one]⟩, h4, h5, fun hk => ?_⟩
  · rw [Nat.add_mul, Nat.mul_comm (2 ^ m.toNat)]; omega
  · rw [Nat.pow_succ, ← Nat.mul_assoc] at h2; omega
  · have h7 := h6 (by omega)
    have : b * 2 ^ (m.toNat - 1) ≤ b * 2 ^ (m.toNat + 1 - 1) := Nat.mul_le_mul_left _ (Nat.pow_le_pow_right (by decide) (by omega))
    unfold isN at *
    omega
theorem dinv_isN {a b A Q : Nat} {m : Int} (hm : 0 ≤ m) (h : dinv a b (m + 1).toNat A Q) : isN (b * 2 ^ m.toNat) := by
  have := h.2.2.2.2.2 (by omega)
  have e : (m + 1).toNat - 1 = m.toNat := by omega
  rw [e] at this
  exact this
theorem dinv_end {a b A Q : Nat} {m : Int} (hm : m < 0) (h : dinv a b (m + 1).toNat A Q) : Q = a / b ∧ A = a % b := by
  have e : (m + 1).toNat = 0 := by omega
  rw [e] at h
  obtain ⟨h1, h2, -, -, h5, -⟩ := h
  rw [Nat.pow_zero, Nat.mul_one] at h2
  have hq : a / b = Q := Nat.div_eq_of_lt_le (by omega) (by rw [Nat.add_mul, Nat.one_mul]; omega)
  have hr := Nat.div_add_mod a b
  rw [hq, Nat.mul_comm] at hr
  exact ⟨hq.symm, by omega⟩
theorem bit_parts (Q k q : Nat) (n r : Int) (hr0 : 0 ≤ r) (hr1 : r < 32) (hn : n = 32 * q + r) (hk : k = n.toNat + 1) (hQ : ∃ t, Q = 2 ^ k * t) :
    bits .or .u32 (pt Q q) (2 ^ r.toNat) = pt (Q + 2 ^ n.toNat) q ∧ ∀ i, i ≠ q → pt Q i = pt (Q + 2 ^ n.toNat) i := by
  obtain ⟨t, rfl⟩ := hQ
  obtain ⟨r, rfl⟩ := Int.eq_ofNat_of_zero_le hr0
  have en : n.toNat = 32 * q + r := by omega
  subst hk
  rw [en]
  constructor
  · obtain ⟨h1, h2⟩ := bit_at t q r (by omega)
    unfold pt
    have e : (2 : Int) ^ (r : Int).toNat = ((2 ^ r : Nat) : Int) := by rw [Int.natCast_pow]; rfl
    rw [e, ← h1, orN _ _ (Nat.mod_lt _ (by decide)) (by omega)]
  · intro i hi
    unfold pt
    rcases Nat.lt_or_ge i q with h | h
    · obtain ⟨h1, h2⟩ := bit_lo t (32 * q + r) i (by omega)
      rw [h1, h2]
    · rw [bit_hi t (32 * q + r) i (by omega)]
theorem subN_of (A S : Nat) (hA : isN A) (h : ¬ A < S) : subN A S = A - S := by unfold subN isN at *; omega
theorem bor_yes (A S : Nat) (h : A < S) : borN A S = 1 := by unfold borN; rw [if_pos h]
theorem bor_no (A S : Nat) (h : ¬ A < S) : borN A S = 0 := by unfold borN; rw [if_neg h]
theorem pow_wrap (r : Int) (h0 : 0 ≤ r) (h1 : r < 32) : IntKind.u32.wrap (2 ^ r.toNat) = 2 ^ r.toNat := by
  rw [IntKind.wrap_u32]
  have h : (2 : Nat) ^ r.toNat ≤ 2 ^ 31 := Nat.pow_le_pow_right (by decide) (by omega)
  have e : (2 : Int) ^ r.toNat = ((2 ^ r.toNat : Nat) : Int) := by rw [Int.natCast_pow]; rfl
  rw [e]
  have : (2 : Nat) ^ 31 = 2147483648 := by decide
  generalize 2 ^ r.toNat = p at *
  omega



theorem pt_zero (i : Nat) : pt 0 i = 0 := by simp [pt]

set_option maxHeartbeats 8000000 in
theorem divided_calls (a b : Nat) (ha : isN a) (hb : isN b) (hb0 : b ≠ 0) (w : World) :
    Calls Try.prog 52 #[.agg #[.int .u32 (pt a 0), .int .u32 (pt a 1), .int .u32 (pt a 2), .int .u32 (pt a 3)], .agg #[.int .u32 (pt b 0), .int .u32 (pt b 1), .int .u32 (pt b 2), .int .u32 (pt b 3)]] w fun e w' => e = .returned (.tuple #[.agg #[.int .u32 (pt (a / b) 0), .int .u32 (pt (a / b) 1), .int .u32 (pt (a / b) 2), .int .u32 (pt (a / b) 3)], .agg #[.int .u32 (pt (a % b) 0), .int .u32 (pt (a % b) 1), .int .u32 (pt (a % b) 2), .int .u32 (pt (a % b) 3)]]) ∧ Below w.heap.size w w' := by
  have bb0 := pt_bd b 0
  have bb1 := pt_bd b 1
  have bb2 := pt_bd b 2
  have bb3 := pt_bd b 3
  go_enter Try.func52, Try.ntmps52
  go_wp2
  go_region_held3 (fun w' => w'.cell? ⟨w.heap.size, 0, none⟩ = some (.int .u32 (pt a 0)) ∧ w'.cell? ⟨w.heap.size, 1, none⟩ = some (.int .u32 (pt a 1)) ∧ w'.cell? ⟨w.heap.size, 2, none⟩ = some (.int .u32 (pt a 2)) ∧ w'.cell? ⟨w.heap.size, 3, none⟩ = some (.int .u32 (pt a 3)) ∧ w'.cell? ⟨w.heap.size + 1, 0, none⟩ = some (.int .u32 (pt b 0)) ∧ w'.cell? ⟨w.heap.size + 1, 1, none⟩ = some (.int .u32 (pt b 1)) ∧ w'.cell? ⟨w.heap.size + 1, 2, none⟩ = some (.int .u32 (pt b 2)) ∧ w'.cell? ⟨w.heap.size + 1, 3, none⟩ = some (.int .u32 (pt b 3))) (simp [*, go_sem]) (first | (go_at_call_of 69 (pt a 0); refine (length_calls a ha _).mono ?_; rintro e w0 ⟨la, rfl, hla, hla2, hbel⟩; obtain ⟨o1, j1, rfl⟩ := grow_of_below hbel; clear hbel) | (go_at_call_of 69 (pt b 0); refine (length_calls b hb _).mono ?_; rintro e w0 ⟨lb, rfl, hlb, hlb2, hbel⟩; obtain ⟨o2, j2, rfl⟩ := grow_of_below hbel; clear hbel))
  rw [show IntKind.i64.wrap ((la : Int) - lb) = (la : Int) - lb from IntWalk.i64_in _ (by omega)]
  have D0 := Lib.hid (dinv_start a b la lb ha hb0 hla hlb hla2)
  obtain ⟨n0, hn0⟩ : ∃ n : Int, (la : Int) - lb = n := ⟨_, rfl⟩
  rw [hn0] at D0 ⊢
  have hn1 : -129 ≤ n0 ∧ n0 ≤ 127 := by have := (hlb.2.2 hb0).1; omega
  clear hn0 hla hlb hla2 hlb2
  go_wp2
  go_loopw [7] (fun s7 wr => ∃ (m : Int) (A Q : Nat), s7 = .int .i64 m ∧ (-129 ≤ m ∧ m ≤ 127) ∧ Hid (dinv a b (m + 1).toNat A Q) ∧ Below (((((w.alloc (.cells #[.int .u32 (pt A 0), .int .u32 (pt A 1), .int .u32 (pt A 2), .int .u32 (pt A 3)] 25)).alloc (.cells #[.int .u32 (pt b 0), .int .u32 (pt b 1), .int .u32 (pt b 2), .int .u32 (pt b 3)] 25)).alloc (.cells #[.int .u32 0, .int .u32 0, .int .u32 0, .int .u32 0] 25)).alloc (.cells #[.int .u32 0, .int .u32 0, .int .u32 0, .int .u32 0] 25)).alloc (.cells #[.int .u32 (pt Q 0), .int .u32 (pt Q 1), .int .u32 (pt Q 2), .int .u32 (pt Q 3)] 25)).heap.size (((((w.alloc (.cells #[.int .u32 (pt A 0), .int .u32 (pt A 1), .int .u32 (pt A 2), .int .u32 (pt A 3)] 25)).alloc (.cells #[.int .u32 (pt b 0), .int .u32 (pt b 1), .int .u32 (pt b 2), .int .u32 (pt b 3)] 25)).alloc (.cells #[.int .u32 0, .int .u32 0, .int .u32 0, .int .u32 0] 25)).alloc (.cells #[.int .u32 0, .int .u32 0, .int .u32 0, .int .u32 0] 25)).alloc (.cells #[.int .u32 (pt Q 0), .int .u32 (pt Q 1), .int .u32 (pt Q 2), .int .u32 (pt Q 3)] 25)) wr) (fun s7 _ => (intOf s7 + 1).toNat)
  case atStart => exact ⟨n0, a, 0, rfl, hn1, D0, by simp only [pt_zero]; repeat (first | (with_reducible exact Below.refl _ _) | ((with_reducible refine below_grow ?_ ?_); rotate_left; focus (first | omega | (simp [go_sem]; done) | (simp [go_sem]; omega))) | ((with_reducible refine Below.alloc ?_ ?_ _); rotate_left; focus (first | omega | (simp [go_sem]; done) | (simp [go_sem]; omega))) | ((with_reducible refine Below.setCell ?_ ?_ _); rotate_left; focus (first | omega | (simp [go_sem]; done) | (simp [go_sem]; omega))) | (with_reducible refine Below.drew ?_) | (with_reducible refine below_drewN _ ?_))⟩
  case round =>
    obtain ⟨m, A, Q, rfl, hm, D, hbel⟩ := hrel
    obtain ⟨o, j, rfl⟩ := grow_of_below hbel
    clear hbel
    by_cases hneg : m < 0
    · obtain ⟨rfl, rfl⟩ := dinv_end hneg D.out
      clear D D0
      go_wp2
      go_region_held3 (fun w' => w'.cell? ⟨w.heap.size, 0, none⟩ = some (.int .u32 (pt (a % b) 0)) ∧ w'.cell? ⟨w.heap.size, 1, none⟩ = some (.int .u32 (pt (a % b) 1)) ∧ w'.cell? ⟨w.heap.size, 2, none⟩ = some (.int .u32 (pt (a % b) 2)) ∧ w'.cell? ⟨w.heap.size, 3, none⟩ = some (.int .u32 (pt (a % b) 3)) ∧ w'.cell? ⟨w.heap.size + 1 + 1 + 1 + 1, 0, none⟩ = some (.int .u32 (pt (a / b) 0)) ∧ w'.cell? ⟨w.heap.size + 1 + 1 + 1 + 1, 1, none⟩ = some (.int .u32 (pt (a / b) 1)) ∧ w'.cell? ⟨w.heap.size + 1 + 1 + 1 + 1, 2, none⟩ = some (.int .u32 (pt (a / b) 2)) ∧ w'.cell? ⟨w.heap.size + 1 + 1 + 1 + 1, 3, none⟩ = some (.int .u32 (pt (a / b) 3))) (simp [*, go_sem]) (fail)
      go_wp2
      refine bodyPost_ret (by simp [results, Try.results52, go_sem]) rfl ⟨rfl, ?_⟩
      repeat (first | (with_reducible exact Below.refl _ _) | ((with_reducible refine below_grow ?_ ?_); rotate_left; focus (first | omega | (simp [go_sem]; done) | (simp [go_sem]; omega))) | ((with_reducible refine Below.alloc ?_ ?_ _); rotate_left; focus (first | omega | (simp [go_sem]; done) | (simp [go_sem]; omega))) | ((with_reducible refine Below.setCell ?_ ?_ _); rotate_left; focus (first | omega | (simp [go_sem]; done) | (simp [go_sem]; omega))) | (with_reducible refine Below.drew ?_) | (with_reducible refine below_drewN _ ?_))
    · have hm0 : 0 ≤ m := by omega
      clear hneg
      obtain ⟨hA, hQ⟩ := dinv_AQ D.out
      have hS := dinv_isN hm0 D.out
      by_cases hlt : A < b * 2 ^ m.toNat
      · have D1 := Lib.hid (dinv_no a b A Q m hm0 D.out hlt)
        have hbr := bor_yes A (b * 2 ^ m.toNat) hlt
        clear hlt D
        go_wp2
        go_region_held3 (fun w' => w'.cell? ⟨w.heap.size, 0, none⟩ = some (.int .u32 (pt (A) 0)) ∧ w'.cell? ⟨w.heap.size, 1, none⟩ = some (.int .u32 (pt (A) 1)) ∧ w'.cell? ⟨w.heap.size, 2, none⟩ = some (.int .u32 (pt (A) 2)) ∧ w'.cell? ⟨w.heap.size, 3, none⟩ = some (.int .u32 (pt (A) 3)) ∧ w'.cell? ⟨w.heap.size + 1, 0, none⟩ = some (.int .u32 (pt (b) 0)) ∧ w'.cell? ⟨w.heap.size + 1, 1, none⟩ = some (.int .u32 (pt (b) 1)) ∧ w'.cell? ⟨w.heap.size + 1, 2, none⟩ = some (.int .u32 (pt (b) 2)) ∧ w'.cell? ⟨w.heap.size + 1, 3, none⟩ = some (.int .u32 (pt (b) 3))) (simp [*, go_sem]) (first | (go_at_call 70; refine (shifted_calls b m (by omega) _).mono ?_; rintro e w0 ⟨rfl, hbel⟩; obtain ⟨o3, j3, rfl⟩ := grow_of_below hbel; clear hbel) | (go_at_call 65; refine (minus_calls A (b * 2 ^ m.toNat) hA hS _).mono ?_; rintro e w0 ⟨rfl, hbel⟩; obtain ⟨o4, j4, rfl⟩ := grow_of_below hbel; clear hbel))
        go_wp2
        all_goals
          go_roundw
          case rel => exact ⟨m - 1, A, Q, rfl, by omega, D1, by repeat (first | (with_reducible exact Below.refl _ _) | ((with_reducible refine below_grow ?_ ?_); rotate_left; focus (first | omega | (simp [go_sem]; done) | (simp [go_sem]; omega))) | ((with_reducible refine Below.alloc ?_ ?_ _); rotate_left; focus (first | omega | (simp [go_sem]; done) | (simp [go_sem]; omega))) | ((with_reducible refine Below.setCell ?_ ?_ _); rotate_left; focus (first | omega | (simp [go_sem]; done) | (simp [go_sem]; omega))) | (with_reducible refine Below.drew ?_) | (with_reducible refine below_drewN _ ?_))⟩
          case measure => simp [intOf]; omega
      · have D1' := dinv_yes a b A Q m hm0 D.out hlt
        have hbr := bor_no A (b * 2 ^ m.toNat) hlt
        have hsub := subN_of A (b * 2 ^ m.toNat) hA hlt
        have DQ := D.out.2.2.1
        have hbp' := fun q r h0 h1 h2 => bit_parts Q _ q m r h0 h1 h2 (show (m + 1).toNat = m.toNat + 1 by omega) DQ
        obtain ⟨A', hA'⟩ : ∃ A', A - b * 2 ^ m.toNat = A' := ⟨_, rfl⟩
        obtain ⟨Q', hQ'⟩ : ∃ Q', Q + 2 ^ m.toNat = Q' := ⟨_, rfl⟩
        rw [hA'] at hsub
        rw [hA', hQ'] at D1'
        rw [hQ'] at hbp'
        have D1 := Lib.hid D1'
        have hbp := Lib.hid hbp'
        clear D1' hbp' hlt D DQ hA' hQ'
        have hq : m / 32 = 0 ∨ m / 32 = 1 ∨ m / 32 = 2 ∨ m / 32 = 3 := by omega
        obtain ⟨r, hr⟩ : ∃ r, m % 32 = r := ⟨_, rfl⟩
        have hr0 : 0 ≤ r := by omega
        have hr1 : r < 32 := by omega
        have k1 : m.tmod 32 = r := by rw [Int.tmod_eq_emod_of_nonneg hm0]; exact hr
        have k2 : r ≤ 32 := by omega
        have k3 := pow_wrap r hr0 hr1
        rcases hq with hq | hq | hq | hq
        · have hp := Lib.hid (hbp.out 0 r hr0 hr1 (by omega))
          clear hbp
          have k5 : IntKind.i64.wrap 0 = 0 := IntWalk.i64_in _ (by decide)
          have k4 : m.tdiv 32 = 0 := by rw [Int.tdiv_eq_ediv_of_nonneg hm0]; exact hq
          go_wp2
          go_region_held3 (fun w' => w'.cell? ⟨w.heap.size, 0, none⟩ = some (.int .u32 (pt (A) 0)) ∧ w'.cell? ⟨w.heap.size, 1, none⟩ = some (.int .u32 (pt (A) 1)) ∧ w'.cell? ⟨w.heap.size, 2, none⟩ = some (.int .u32 (pt (A) 2)) ∧ w'.cell? ⟨w.heap.size, 3, none⟩ = some (.int .u32 (pt (A) 3)) ∧ w'.cell? ⟨w.heap.size + 1, 0, none⟩ = some (.int .u32 (pt (b) 0)) ∧ w'.cell? ⟨w.heap.size + 1, 1, none⟩ = some (.int .u32 (pt (b) 1)) ∧ w'.cell? ⟨w.heap.size + 1, 2, none⟩ = some (.int .u32 (pt (b) 2)) ∧ w'.cell? ⟨w.heap.size + 1, 3, none⟩ = some (.int .u32 (pt (b) 3))) (simp [*, go_sem]) (first | (go_at_call 70; refine (shifted_calls b m (by omega) _).mono ?_; rintro e w0 ⟨rfl, hbel⟩; obtain ⟨o3, j3, rfl⟩ := grow_of_below hbel; clear hbel) | (go_at_call 65; refine (minus_calls A (b * 2 ^ m.toNat) hA hS _).mono ?_; rintro e w0 ⟨rfl, hbel⟩; obtain ⟨o4, j4, rfl⟩ := grow_of_below hbel; clear hbel))
          all_goals
            go_wp2
            go_region
            go_wp2
            obtain ⟨hp0, hp1⟩ := hp.out
            have g1 := hp1 1 (by decide)
            have g2 := hp1 2 (by decide)
            have g3 := hp1 3 (by decide)
            go_roundw
            case rel =>
              refine ⟨m - 1, A', Q', rfl, by omega, D1, ?_⟩
              simp only [g1, g2, g3, hp0]
              repeat (first | (with_reducible exact Below.refl _ _) | ((with_reducible refine below_grow ?_ ?_); rotate_left; focus (first | omega | (simp [go_sem]; done) | (simp [go_sem]; omega))) | ((with_reducible refine Below.alloc ?_ ?_ _); rotate_left; focus (first | omega | (simp [go_sem]; done) | (simp [go_sem]; omega))) | ((with_reducible refine Below.setCell ?_ ?_ _); rotate_left; focus (first | omega | (simp [go_sem]; done) | (simp [go_sem]; omega))) | (with_reducible refine Below.drew ?_) | (with_reducible refine below_drewN _ ?_))
            case measure => simp [intOf]; omega
        · have hp := Lib.hid (hbp.out 1 r hr0 hr1 (by omega))
          clear hbp
          have k5 : IntKind.i64.wrap 1 = 1 := IntWalk.i64_in _ (by decide)
          have k4 : m.tdiv 32 = 1 := by rw [Int.tdiv_eq_ediv_of_nonneg hm0]; exact hq
          go_wp2
          go_region_held3 (fun w' => w'.cell? ⟨w.heap.size, 0, none⟩ = some (.int .u32 (pt (A) 0)) ∧ w'.cell? ⟨w.heap.size, 1, none⟩ = some (.int .u32 (pt (A) 1)) ∧ w'.cell? ⟨w.heap.size, 2, none⟩ = some (.int .u32 (pt (A) 2)) ∧ w'.cell? ⟨w.heap.size, 3, none⟩ = some (.int .u32 (pt (A) 3)) ∧ w'.cell? ⟨w.heap.size + 1, 0, none⟩ = some (.int .u32 (pt (b) 0)) ∧ w'.cell? ⟨w.heap.size + 1, 1, none⟩ = some (.int .u32 (pt (b) 1)) ∧ w'.cell? ⟨w.heap.size + 1, 2, none⟩ = some (.int .u32 (pt (b) 2)) ∧ w'.cell? ⟨w.heap.size + 1, 3, none⟩ = some (.int .u32 (pt (b) 3))) (simp [*, go_sem]) (first | (go_at_call 70; refine (shifted_calls b m (by omega) _).mono ?_; rintro e w0 ⟨rfl, hbel⟩; obtain ⟨o3, j3, rfl⟩ := grow_of_below hbel; clear hbel) | (go_at_call 65; refine (minus_calls A (b * 2 ^ m.toNat) hA hS _).mono ?_; rintro e w0 ⟨rfl, hbel⟩; obtain ⟨o4, j4, rfl⟩ := grow_of_below hbel; clear hbel))
          all_goals
            go_wp2
            go_region
            go_wp2
            obtain ⟨hp0, hp1⟩ := hp.out
            have g0 := hp1 0 (by decide)
            have g2 := hp1 2 (by decide)
            have g3 := hp1 3 (by decide)
            go_roundw
            case rel =>
              refine ⟨m - 1, A', Q', rfl, by omega, D1, ?_⟩
              simp only [g0, g2, g3, hp0]
              repeat (first | (with_reducible exact Below.refl _ _) | ((with_reducible refine below_grow ?_ ?_); rotate_left; focus (first | omega | (simp [go_sem]; done) | (simp [go_sem]; omega))) | ((with_reducible refine Below.alloc ?_ ?_ _); rotate_left; focus (first | omega | (simp [go_sem]; done) | (simp [go_sem]; omega))) | ((with_reducible refine Below.setCell ?_ ?_ _); rotate_left; focus (first | omega | (simp [go_sem]; done) | (simp [go_sem]; omega))) | (with_reducible refine Below.drew ?_) | (with_reducible refine below_drewN _ ?_))
            case measure => simp [intOf]; omega
        · have hp := Lib.hid (hbp.out 2 r hr0 hr1 (by omega))
          clear hbp
          have k5 : IntKind.i64.wrap 2 = 2 := IntWalk.i64_in _ (by decide)
          have k4 : m.tdiv 32 = 2 := by rw [Int.tdiv_eq_ediv_of_nonneg hm0]; exact hq
          go_wp2
          go_region_held3 (fun w' => w'.cell? ⟨w.heap.size, 0, none⟩ = some (.int .u32 (pt (A) 0)) ∧ w'.cell? ⟨w.heap.size, 1, none⟩ = some (.int .u32 (pt (A) 1)) ∧ w'.cell? ⟨w.heap.size, 2, none⟩ = some (.int .u32 (pt (A) 2)) ∧ w'.cell? ⟨w.heap.size, 3, none⟩ = some (.int .u32 (pt (A) 3)) ∧ w'.cell? ⟨w.heap.size + 1, 0, none⟩ = some (.int .u32 (pt (b) 0)) ∧ w'.cell? ⟨w.heap.size + 1, 1, none⟩ = some (.int .u32 (pt (b) 1)) ∧ w'.cell? ⟨w.heap.size + 1, 2, none⟩ = some (.int .u32 (pt (b) 2)) ∧ w'.cell? ⟨w.heap.size + 1, 3, none⟩ = some (.int .u32 (pt (b) 3))) (simp [*, go_sem]) (first | (go_at_call 70; refine (shifted_calls b m (by omega) _).mono ?_; rintro e w0 ⟨rfl, hbel⟩; obtain ⟨o3, j3, rfl⟩ := grow_of_below hbel; clear hbel) | (go_at_call 65; refine (minus_calls A (b * 2 ^ m.toNat) hA hS _).mono ?_; rintro e w0 ⟨rfl, hbel⟩; obtain ⟨o4, j4, rfl⟩ := grow_of_below hbel; clear hbel))
          all_goals
            go_wp2
            go_region
            go_wp2
            obtain ⟨hp0, hp1⟩ := hp.out
            have g0 := hp1 0 (by decide)
            have g1 := hp1 1 (by decide)
            have g3 := hp1 3 (by decide)
            go_roundw
            case rel =>
              refine ⟨m - 1, A', Q', rfl, by omega, D1, ?_⟩
              simp only [g0, g1, g3, hp0]
              repeat (first | (with_reducible exact Below.refl _ _) | ((with_reducible refine below_grow ?_ ?_); rotate_left; focus (first | omega | (simp [go_sem]; done) | (simp [go_sem]; omega))) | ((with_reducible refine Below.alloc ?_ ?_ _); rotate_left; focus (first | omega | (simp [go_sem]; done) | (simp [go_sem]; omega))) | ((with_reducible refine Below.setCell ?_ ?_ _); rotate_left; focus (first | omega | (simp [go_sem]; done) | (simp [go_sem]; omega))) | (with_reducible refine Below.drew ?_) | (with_reducible refine below_drewN _ ?_))
            case measure => simp [intOf]; omega
        · have hp := Lib.hid (hbp.out 3 r hr0 hr1 (by omega))
          clear hbp
          have k5 : IntKind.i64.wrap 3 = 3 := IntWalk.i64_in _ (by decide)
          have k4 : m.tdiv 32 = 3 := by rw [Int.tdiv_eq_ediv_of_nonneg hm0]; exact hq
          go_wp2
          go_region_held3 (fun w' => w'.cell? ⟨w.heap.size, 0, none⟩ = some (.int .u32 (pt (A) 0)) ∧ w'.cell? ⟨w.heap.size, 1, none⟩ = some (.int .u32 (pt (A) 1)) ∧ w'.cell? ⟨w.heap.size, 2, none⟩ = some (.int .u32 (pt (A) 2)) ∧ w'.cell? ⟨w.heap.size, 3, none⟩ = some (.int .u32 (pt (A) 3)) ∧ w'.cell? ⟨w.heap.size + 1, 0, none⟩ = some (.int .u32 (pt (b) 0)) ∧ w'.cell? ⟨w.heap.size + 1, 1, none⟩ = some (.int .u32 (pt (b) 1)) ∧ w'.cell? ⟨w.heap.size + 1, 2, none⟩ = some (.int .u32 (pt (b) 2)) ∧ w'.cell? ⟨w.heap.size + 1, 3, none⟩ = some (.int .u32 (pt (b) 3))) (simp [*, go_sem]) (first | (go_at_call 70; refine (shifted_calls b m (by omega) _).mono ?_; rintro e w0 ⟨rfl, hbel⟩; obtain ⟨o3, j3, rfl⟩ := grow_of_below hbel; clear hbel) | (go_at_call 65; refine (minus_calls A (b * 2 ^ m.toNat) hA hS _).mono ?_; rintro e w0 ⟨rfl, hbel⟩; obtain ⟨o4, j4, rfl⟩ := grow_of_below hbel; clear hbel))
          all_goals
            go_wp2
            go_region
            go_wp2
            obtain ⟨hp0, hp1⟩ := hp.out
            have g0 := hp1 0 (by decide)
            have g1 := hp1 1 (by decide)
            have g2 := hp1 2 (by decide)
            go_roundw
            case rel =>
              refine ⟨m - 1, A', Q', rfl, by omega, D1, ?_⟩
              simp only [g0, g1, g2, hp0]
              repeat (first | (with_reducible exact Below.refl _ _) | ((with_reducible refine below_grow ?_ ?_); rotate_left; focus (first | omega | (simp [go_sem]; done) | (simp [go_sem]; omega))) | ((with_reducible refine Below.alloc ?_ ?_ _); rotate_left; focus (first | omega | (simp [go_sem]; done) | (simp [go_sem]; omega))) | ((with_reducible refine Below.setCell ?_ ?_ _); rotate_left; focus (first | omega | (simp [go_sem]; done) | (simp [go_sem]; omega))) | (with_reducible refine Below.drew ?_) | (with_reducible refine below_drewN _ ?_))
            case measure => simp [intOf]; omega

end Go.Proofs.Ytcgecgagecobeaa
