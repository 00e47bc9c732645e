/- DB0, DB1, DB2, DB3, DB4, DB5, DB6, DB7, DB8, DB9, DB10. -/

/-! DB0 -/
namespace Go.Proofs.DB

structure Pas (B : Nat → Nat → Nat) : Prop where
  zero : ∀ n, B n 0 = 1
  none : ∀ k, B 0 (k + 1) = 0
  step : ∀ n k, B (n + 1) (k + 1) = B n k + B n (k + 1)

/-- How many of the bits below c are set. -/
def ct (x : Nat) : Nat → Nat
  | 0 => 0
  | c + 1 => ct x c + x / 2 ^ c % 2
/-- The number of x among the subsets of L with as many bits, of the bits below c. -/
def rk (B : Nat → Nat → Nat) (L x : Nat) : Nat → Nat
  | 0 => 0
  | c + 1 => rk B L x c + if x / 2 ^ c % 2 = 1 then B (ct L c) (ct x (c + 1)) else 0
/-- Below c, x has only bits of L. -/
def Sb (L x c : Nat) : Prop := ∀ j, j < c → x / 2 ^ j % 2 ≤ L / 2 ^ j % 2
theorem Sb.down {L x c : Nat} (h : Sb L x (c + 1)) : Sb L x c := fun j hj => h j (by omega)
theorem Pas.grow {B : Nat → Nat → Nat} (P : Pas B) : ∀ n k, B n k ≤ B (n + 1) k
  | n, 0 => by rw [P.zero, P.zero]; exact Nat.le_refl _
  | n, k + 1 => by rw [P.step]; exact Nat.le_add_left _ _
theorem bit01 (x c : Nat) : x / 2 ^ c % 2 = 0 ∨ x / 2 ^ c % 2 = 1 := by omega
theorem rk_lt {B : Nat → Nat → Nat} (P : Pas B) (L x : Nat) : ∀ c, Sb L x c → rk B L x c < B (ct L c) (ct x c)
  | 0, _ => by simp only [rk, ct]; rw [P.zero]; exact Nat.one_pos
  | c + 1, h => by
    have ih := rk_lt P L x c h.down
    have hc := h c (by omega)
    unfold rk
    rcases bit01 x c with hx | hx
    · rw [if_neg (by omega)]
      have e : ct x (c + 1) = ct x c := by simp only [ct]; omega
      rw [e]
      rcases bit01 L c with hl | hl
      · have e2 : ct L (c + 1) = ct L c := by simp only [ct]; omega
        rw [e2]; exact ih
      · have e2 : ct L (c + 1) = ct L c + 1 := by simp only [ct]; omega
        rw [e2]
        have := P.grow (ct L c) (ct x c)
        omega
    · rw [if_pos hx]
      have e : ct x (c + 1) = ct x c + 1 := by simp only [ct]; omega
      have hl : L / 2 ^ c % 2 = 1 := by omega
      have e2 : ct L (c + 1) = ct L c + 1 := by simp only [ct]; omega
      rw [e, e2, P.step]
      omega
theorem low_split (x c : Nat) : x % 2 ^ (c + 1) = x % 2 ^ c + 2 ^ c * (x / 2 ^ c % 2) := by
  rw [Nat.pow_succ, Nat.mod_mul]
/-- A greater subset has a greater number. -/
theorem rk_mono {B : Nat → Nat → Nat} (P : Pas B) (L x y : Nat) : ∀ c, Sb L x c → Sb L y c → ct x c = ct y c → x % 2 ^ c < y % 2 ^ c → rk B L x c < rk B L y c
  | 0, _, _, _, h => by simp [Nat.mod_one] at h
  | c + 1, hx, hy, hk, h => by
    have ih := rk_mono P L x y c hx.down hy.down
    rw [low_split, low_split] at h
    have lx : x % 2 ^ c < 2 ^ c := Nat.mod_lt _ (Nat.pow_pos (by decide))
    have ly : y % 2 ^ c < 2 ^ c := Nat.mod_lt _ (Nat.pow_pos (by decide))
    have ky : ct y (c + 1) = ct y c + y / 2 ^ c % 2 := rfl
    have kx : ct x (c + 1) = ct x c + x / 2 ^ c % 2 := rfl
    unfold rk
    rcases bit01 x c with bx | bx <;> rcases bit01 y c with b | b
    · rw [if_neg (by omega), if_neg (by omega)]
      rw [bx, b] at h
      exact ih (by omega) (by omega)
    · rw [if_neg (by omega), if_pos b]
      have := rk_lt P L x c hx.down
      have e : ct x c = ct y (c + 1) := by omega
      rw [← e]
      omega
    · rw [bx, b] at h
      omega
    · rw [if_pos bx, if_pos b]
      rw [bx, b] at h
      have := ih (by omega) (by omega)
      rw [hk]
      omega
theorem rk_inj {B : Nat → Nat → Nat} (P : Pas B) {L x y c : Nat} (hx : Sb L x c) (hy : Sb L y c) (hk : ct x c = ct y c) (h : rk B L x c = rk B L y c) : x % 2 ^ c = y % 2 ^ c := by
  rcases Nat.lt_trichotomy (x % 2 ^ c) (y % 2 ^ c) with l | e | l
  · have := rk_mono P L x y c hx hy hk l; omega
  · exact e
  · have := rk_mono P L y x c hy hx hk.symm l; omega
/-- The subset with a number. -/
def un (B : Nat → Nat → Nat) (L : Nat) : Nat → Nat → Nat → Nat
  | 0, _, _ => 0
  | c + 1, k, i => if L / 2 ^ c % 2 = 1 then (if i < B (ct L c) k then un B L c k i else 2 ^ c + un B L c (k - 1) (i - B (ct L c) k)) else un B L c k i
theorem un_lt (B : Nat → Nat → Nat) (L : Nat) : ∀ c k i, un B L c k i < 2 ^ c
  | 0, _, _ => by simp [un]
  | c + 1, k, i => by
    have a := un_lt B L c k i
    have b := un_lt B L c (k - 1) (i - B (ct L c) k)
    rw [Nat.pow_succ]
    unfold un
    split
    · split <;> omega
    · omega
theorem bit_add (c x j : Nat) (hj : j < c) : (2 ^ c + x) / 2 ^ j % 2 = x / 2 ^ j % 2 := by
  obtain ⟨d, rfl⟩ : ∃ d, c = j + (d + 1) := ⟨c - j - 1, by omega⟩
  rw [Nat.pow_add, Nat.mul_add_div (Nat.pow_pos (by decide)), Nat.pow_succ]
  omega
theorem bit_top (c x : Nat) (h : x < 2 ^ c) : (2 ^ c + x) / 2 ^ c % 2 = 1 := by
  rw [Nat.add_div_left _ (Nat.pow_pos (by decide)), Nat.div_eq_of_lt h]
theorem ct_congr {x y : Nat} : ∀ c, (∀ j, j < c → x / 2 ^ j % 2 = y / 2 ^ j % 2) → ct x c = ct y c
  | 0, _ => rfl
  | c + 1, h => by
    show ct x c + _ = ct y c + _
    rw [ct_congr c (fun j hj => h j (by omega)), h c (by omega)]
theorem rk_congr {B : Nat → Nat → Nat} {L x y : Nat} : ∀ c, (∀ j, j < c → x / 2 ^ j % 2 = y / 2 ^ j % 2) → rk B L x c = rk B L y c
  | 0, _ => rfl
  | c + 1, h => by
    unfold rk
    rw [rk_congr c (fun j hj => h j (by omega)), h c (by omega), ct_congr (c + 1) h]
/-- What has a number below the binomial coefficient is a subset with so many bits, and it has this number. -/
theorem un_spec {B : Nat → Nat → Nat} (P : Pas B) (L : Nat) : ∀ c k i, i < B (ct L c) k → Sb L (un B L c k i) c ∧ ct (un B L c k i) c = k ∧ rk B L (un B L c k i) c = i
  | 0, k, i, h => by
    match k with
    | 0 =>
      simp only [ct] at h
      rw [P.zero] at h
      exact ⟨fun j hj => by omega, rfl, by show 0 = i; omega⟩
    | k + 1 => simp only [ct] at h; rw [P.none] at h; omega
  | c + 1, k, i, h => by
    unfold un
    rcases bit01 L c with hl | hl
    · have e2 : ct L (c + 1) = ct L c := by simp only [ct]; omega
      rw [e2] at h
      rw [if_neg (by omega)]
      obtain ⟨s, n, r⟩ := un_spec P L c k i h
      have lt := un_lt B L c k i
      have z : un B L c k i / 2 ^ c % 2 = 0 := by rw [Nat.div_eq_of_lt lt]
      refine ⟨fun j hj => ?_, ?_, ?_⟩
      · by_cases e : j = c
        · subst e; omega
        · exact s j (by omega)
      · show ct _ c + _ = k; omega
      · show rk B L _ c + _ = i
        rw [if_neg (by omega)]; omega
    · have e2 : ct L (c + 1) = ct L c + 1 := by simp only [ct]; omega
      rw [e2] at h
      rw [if_pos hl]
      by_cases hi : i < B (ct L c) k
      · rw [if_pos hi]
        obtain ⟨s, n, r⟩ := un_spec P L c k i hi
        have lt := un_lt B L c k i
        have z : un B L c k i / 2 ^ c % 2 = 0 := by rw [Nat.div_eq_of_lt lt]
        refine ⟨fun j hj => ?_, ?_, ?_⟩
        · by_cases e : j = c
          · subst e; omega
          · exact s j (by omega)
        · show ct _ c + _ = k; omega
        · show rk B L _ c + _ = i
          rw [if_neg (by omega)]; omega
      · rw [if_neg hi]
        match k, h, hi with
        | 0, h, hi => rw [P.zero] at h hi; omega
        | k + 1, h, hi =>
          rw [P.step] at h
          rw [Nat.add_sub_cancel]
          obtain ⟨s, n, r⟩ := un_spec P L c k (i - B (ct L c) (k + 1)) (by omega)
          have lt := un_lt B L c k (i - B (ct L c) (k + 1))
          generalize un B L c k (i - B (ct L c) (k + 1)) = u at *
          have t := bit_top c u lt
          have l := fun j hj => bit_add c u j hj
          have n2 : ct (2 ^ c + u) c = k := (ct_congr c l).trans n
          have n3 : ct (2 ^ c + u) (c + 1) = k + 1 := by show ct _ c + _ = _; omega
          refine ⟨fun j hj => ?_, n3, ?_⟩
          · by_cases e : j = c
            · subst e; omega
            · rw [l j (by omega)]; exact s j (by omega)
          · show rk B L _ c + _ = i
            rw [if_pos t, n3, rk_congr c l, r]; omega
/-- A subset is what has its number. -/
theorem un_rk {B : Nat → Nat → Nat} (P : Pas B) (L x c : Nat) (hx : Sb L x c) (hl : x < 2 ^ c) : un B L c (ct x c) (rk B L x c) = x := by
  have b := rk_lt P L x c hx
  obtain ⟨s, n, r⟩ := un_spec P L c (ct x c) (rk B L x c) b
  have e := rk_inj P s hx n r
  rw [Nat.mod_eq_of_lt (un_lt B L c _ _), Nat.mod_eq_of_lt hl] at e
  exact e

/-- The completions, by how many cards each hand lacks: the last takes what the others leave. -/
def W2 (B : Nat → Nat → Nat) (k2 k3 : Nat) : Nat := B (k2 + k3) k2
def W3 (B : Nat → Nat → Nat) (k1 k2 k3 : Nat) : Nat := B (k1 + (k2 + k3)) k1 * W2 B k2 k3
def W4 (B : Nat → Nat → Nat) (k0 k1 k2 k3 : Nat) : Nat := B (k0 + (k1 + (k2 + k3))) k0 * W3 B k1 k2 k3
theorem Pas.self {B : Nat → Nat → Nat} (P : Pas B) : ∀ n, B n n = 1 ∧ ∀ k, n < k → B n k = 0
  | 0 => ⟨P.zero 0, fun k h => by match k, h with | k + 1, _ => exact P.none k⟩
  | n + 1 => by
    have ih := Pas.self P n
    refine ⟨by rw [P.step, ih.1, ih.2 _ (by omega)], fun k h => ?_⟩
    match k, h with
    | k + 1, h => rw [P.step, ih.2 _ (by omega), ih.2 _ (by omega)]
/-- With one card given to a hand that has room. -/
def less (f : Nat → Nat) : Nat → Nat
  | 0 => 0
  | k + 1 => f k
theorem pas_less {B : Nat → Nat → Nat} (P : Pas B) (n k : Nat) : B (n + 1) k = less (B n) k + B n k := by
  match k with
  | 0 => rw [P.zero, P.zero]; rfl
  | k + 1 => exact P.step n k
theorem W2_sum {B : Nat → Nat → Nat} (P : Pas B) (k2 k3 : Nat) (h : 0 < k2 + k3) : W2 B k2 k3 = less (fun k => W2 B k k3) k2 + less (fun k => W2 B k2 k) k3 := by
  match k2, k3, h with
  | 0, k3 + 1, _ => simp only [W2, less]; rw [P.zero, P.zero]
  | k2 + 1, 0, _ =>
    simp only [W2, less, Nat.add_zero]
    rw [(P.self _).1, (P.self _).1]
  | k2 + 1, k3 + 1, _ =>
    simp only [W2, less]
    have e := P.step (k2 + (k3 + 1)) k2
    rw [show k2 + 1 + (k3 + 1) = k2 + (k3 + 1) + 1 by omega, e, show k2 + 1 + k3 = k2 + (k3 + 1) by omega]
theorem less_mul (f : Nat → Nat) (c : Nat) : ∀ k, less (fun j => c * f j) k = c * less f k
  | 0 => rfl
  | _ + 1 => rfl
theorem less_congr {f g : Nat → Nat} : ∀ k, (∀ j, j + 1 = k → f j = g j) → less f k = less g k
  | 0, _ => rfl
  | k + 1, h => h k rfl
theorem less_mulr (f : Nat → Nat) (c : Nat) : ∀ k, less (fun j => f j * c) k = less f k * c
  | 0 => (Nat.zero_mul c).symm
  | _ + 1 => rfl
theorem W3_sum {B : Nat → Nat → Nat} (P : Pas B) (k1 k2 k3 : Nat) (h : 0 < k1 + (k2 + k3)) :
    W3 B k1 k2 k3 = less (fun k => W3 B k k2 k3) k1 + less (fun k => W3 B k1 k k3) k2 + less (fun k => W3 B k1 k2 k) k3 := by
  by_cases h2 : 0 < k2 + k3
  · have s := W2_sum P k2 k3 h2
    obtain ⟨n, hn⟩ : ∃ n, k1 + (k2 + k3) = n + 1 := ⟨k1 + (k2 + k3) - 1, by omega⟩
    have a : less (fun k => W3 B k k2 k3) k1 = less (B n) k1 * W2 B k2 k3 := by
      rw [← less_mulr]
      refine less_congr k1 fun j hj => ?_
      unfold W3
      rw [show j + (k2 + k3) = n by omega]
    have b : less (fun k => W3 B k1 k k3) k2 = B n k1 * less (fun k => W2 B k k3) k2 := by
      rw [← less_mul]
      refine less_congr k2 fun j hj => ?_
      unfold W3
      rw [show k1 + (j + k3) = n by omega]
    have c : less (fun k => W3 B k1 k2 k) k3 = B n k1 * less (fun k => W2 B k2 k) k3 := by
      rw [← less_mul]
      refine less_congr k3 fun j hj => ?_
      unfold W3
      rw [show k1 + (k2 + j) = n by omega]
    rw [a, b, c, Nat.add_assoc, ← Nat.mul_add, ← s, ← Nat.add_mul, ← pas_less P, ← hn]
    rfl
  · obtain ⟨rfl, rfl⟩ : k2 = 0 ∧ k3 = 0 := by omega
    match k1, h with
    | k1 + 1, _ =>
      simp only [W3, less, W2, Nat.add_zero]
      rw [(P.self (k1 + 1)).1, (P.self 0).1, (P.self k1).1]
theorem W4_sum {B : Nat → Nat → Nat} (P : Pas B) (k0 k1 k2 k3 : Nat) (h : 0 < k0 + (k1 + (k2 + k3))) :
    W4 B k0 k1 k2 k3 = less (fun k => W4 B k k1 k2 k3) k0 + less (fun k => W4 B k0 k k2 k3) k1 + less (fun k => W4 B k0 k1 k k3) k2 + less (fun k => W4 B k0 k1 k2 k) k3 := by
  by_cases h2 : 0 < k1 + (k2 + k3)
  · have s := W3_sum P k1 k2 k3 h2
    obtain ⟨n, hn⟩ : ∃ n, k0 + (k1 + (k2 + k3)) = n + 1 := ⟨k0 + (k1 + (k2 + k3)) - 1, by omega⟩
    have a : less (fun k => W4 B k k1 k2 k3) k0 = less (B n) k0 * W3 B k1 k2 k3 := by
      rw [← less_mulr]
      refine less_congr k0 fun j hj => ?_
      unfold W4
      rw [show j + (k1 + (k2 + k3)) = n by omega]
    have b : less (fun k => W4 B k0 k k2 k3) k1 = B n k0 * less (fun k => W3 B k k2 k3) k1 := by
      rw [← less_mul]
      refine less_congr k1 fun j hj => ?_
      unfold W4
      rw [show k0 + (j + (k2 + k3)) = n by omega]
    have c : less (fun k => W4 B k0 k1 k k3) k2 = B n k0 * less (fun k => W3 B k1 k k3) k2 := by
      rw [← less_mul]
      refine less_congr k2 fun j hj => ?_
      unfold W4
      rw [show k0 + (k1 + (j + k3)) = n by omega]
    have d : less (fun k => W4 B k0 k1 k2 k) k3 = B n k0 * less (fun k => W3 B k1 k2 k) k3 := by
      rw [← less_mul]
      refine less_congr k3 fun j hj => ?_
      unfold W4
      rw [show k0 + (k1 + (k2 + j)) = n by omega]
    rw [a, b, c, d, Nat.add_assoc, Nat.add_assoc, ← Nat.mul_add, ← Nat.mul_add, ← Nat.add_assoc (less (fun k => W3 B k k2 k3) k1), ← s, ← Nat.add_mul, ← pas_less P, ← hn]
    rfl
  · obtain ⟨rfl, rfl, rfl⟩ : k1 = 0 ∧ k2 = 0 ∧ k3 = 0 := by omega
    match k0, h with
    | k0 + 1, _ =>
      simp only [W4, W3, less, W2, Nat.add_zero]
      rw [(P.self (k0 + 1)).1, (P.self 0).1, (P.self k0).1]
end Go.Proofs.DB

/-! DB1 -/
namespace Go.Proofs.DB

theorem le_of_sb : ∀ c L x, x < 2 ^ c → Sb L x c → x ≤ L
  | 0, L, x, h, _ => by simp at h; omega
  | c + 1, L, x, h, s => by
    have ih := le_of_sb c (L / 2) (x / 2) (by rw [Nat.pow_succ] at h; omega) fun j hj => by
      have := s (j + 1) (by omega)
      rw [Nat.pow_succ, Nat.mul_comm (2 ^ j) 2, ← Nat.div_div_eq_div_mul, ← Nat.div_div_eq_div_mul] at this
      exact this
    have := s 0 (by omega)
    simp only [Nat.pow_zero, Nat.div_one] at this
    omega
/-- The bits of a mask without those of a part of it. -/
theorem sub_bit : ∀ c L x, x < 2 ^ c → Sb L x c → ∀ j, (L - x) / 2 ^ j % 2 = L / 2 ^ j % 2 - x / 2 ^ j % 2
  | 0, L, x, h, _, j => by
    obtain rfl : x = 0 := by simp at h; omega
    simp
  | c + 1, L, x, h, s, j => by
    have sd : Sb (L / 2) (x / 2) c := fun j hj => by
      have := s (j + 1) (by omega)
      rw [Nat.pow_succ, Nat.mul_comm (2 ^ j) 2, ← Nat.div_div_eq_div_mul, ← Nat.div_div_eq_div_mul] at this
      exact this
    have hx : x / 2 < 2 ^ c := by rw [Nat.pow_succ] at h; omega
    have le := le_of_sb c (L / 2) (x / 2) hx sd
    have s0 := s 0 (by omega)
    simp only [Nat.pow_zero, Nat.div_one] at s0
    match j with
    | 0 => simp only [Nat.pow_zero, Nat.div_one]; omega
    | j + 1 =>
      have ih := sub_bit c (L / 2) (x / 2) hx sd j
      rw [Nat.pow_succ, Nat.mul_comm (2 ^ j) 2, ← Nat.div_div_eq_div_mul, ← Nat.div_div_eq_div_mul, ← Nat.div_div_eq_div_mul]
      rw [← ih]
      congr 2
      omega
theorem ct_sub {c L x : Nat} (h : x < 2 ^ c) (s : Sb L x c) : ∀ n, ct (L - x) n + ct x n = ct L n
  | 0 => rfl
  | n + 1 => by
    have ih := ct_sub h s n
    have b := sub_bit c L x h s n
    have le : x / 2 ^ n % 2 ≤ L / 2 ^ n % 2 := by
      by_cases hn : n < c
      · exact s n hn
      · have : x < 2 ^ n := Nat.lt_of_lt_of_le h (Nat.pow_le_pow_right (by decide) (by omega))
        rw [Nat.div_eq_of_lt this]; exact Nat.zero_le _
    show ct (L - x) n + (L - x) / 2 ^ n % 2 + (ct x n + x / 2 ^ n % 2) = ct L n + L / 2 ^ n % 2
    omega
/-- x is a hand's part of what is left: so many cards of L. -/
structure Part (L k x : Nat) : Prop where
  sb : Sb L x 52
  ct : ct x 52 = k
  lt : x < 2 ^ 52
theorem Part.rest {L k x n : Nat} (p : Part L k x) (h : Go.Proofs.DB.ct L 52 = k + n) : Go.Proofs.DB.ct (L - x) 52 = n := by
  have := ct_sub p.lt p.sb 52
  have := p.ct
  omega
theorem two_lt {a A b D : Nat} (ha : a < A) (hb : b < D) : a * D + b < A * D := by
  have : (a + 1) * D ≤ A * D := Nat.mul_le_mul_right _ ha
  rw [Nat.succ_mul] at this
  omega
theorem two_mono {a a' b b' D : Nat} (ha : a < a') (hb : b < D) : a * D + b < a' * D + b' :=
  Nat.lt_of_lt_of_le (two_lt ha hb) (Nat.le_add_right _ _)
def ix3 (B : Nat → Nat → Nat) (k2 k3 M x1 x2 : Nat) : Nat := rk B M x1 52 * W2 B k2 k3 + rk B (M - x1) x2 52
/-- The number of a completion. -/
def ix4 (B : Nat → Nat → Nat) (k1 k2 k3 L x0 x1 x2 : Nat) : Nat := rk B L x0 52 * W3 B k1 k2 k3 + ix3 B k2 k3 (L - x0) x1 x2
theorem ix2_lt {B : Nat → Nat → Nat} (P : Pas B) {k2 k3 M x2 : Nat} (h : ct M 52 = k2 + k3) (p2 : Part M k2 x2) : rk B M x2 52 < W2 B k2 k3 := by
  have := rk_lt P M x2 52 p2.sb
  rw [p2.ct, h] at this
  exact this
theorem ix3_lt {B : Nat → Nat → Nat} (P : Pas B) {k1 k2 k3 M x1 x2 : Nat} (h : ct M 52 = k1 + (k2 + k3)) (p1 : Part M k1 x1) (p2 : Part (M - x1) k2 x2) : ix3 B k2 k3 M x1 x2 < W3 B k1 k2 k3 := by
  have a := rk_lt P M x1 52 p1.sb
  rw [p1.ct, h] at a
  exact two_lt a (ix2_lt P (p1.rest h) p2)
theorem ix4_lt {B : Nat → Nat → Nat} (P : Pas B) {k0 k1 k2 k3 L x0 x1 x2 : Nat} (h : ct L 52 = k0 + (k1 + (k2 + k3))) (p0 : Part L k0 x0) (p1 : Part (L - x0) k1 x1) (p2 : Part (L - x0 - x1) k2 x2) : ix4 B k1 k2 k3 L x0 x1 x2 < W4 B k0 k1 k2 k3 := by
  have a := rk_lt P L x0 52 p0.sb
  rw [p0.ct, h] at a
  exact two_lt a (ix3_lt P (p0.rest h) p1 p2)
theorem rk_less {B : Nat → Nat → Nat} (P : Pas B) {L k x y : Nat} (p : Part L k x) (q : Part L k y) (h : x < y) : rk B L x 52 < rk B L y 52 :=
  rk_mono P L x y 52 p.sb q.sb (p.ct.trans q.ct.symm) (by rw [Nat.mod_eq_of_lt p.lt, Nat.mod_eq_of_lt q.lt]; exact h)
theorem ix3_mono {B : Nat → Nat → Nat} (P : Pas B) {k1 k2 k3 M x1 x2 y1 y2 : Nat} (h : ct M 52 = k1 + (k2 + k3)) (p1 : Part M k1 x1) (p2 : Part (M - x1) k2 x2) (q1 : Part M k1 y1) (q2 : Part (M - y1) k2 y2)
    (o : x1 < y1 ∨ (x1 = y1 ∧ x2 < y2)) : ix3 B k2 k3 M x1 x2 < ix3 B k2 k3 M y1 y2 := by
  rcases o with o | ⟨rfl, o⟩
  · exact two_mono (rk_less P p1 q1 o) (ix2_lt P (p1.rest h) p2)
  · exact Nat.add_lt_add_left (rk_less P p2 q2 o) _
/-- A later completion has a greater number. -/
theorem ix4_mono {B : Nat → Nat → Nat} (P : Pas B) {k0 k1 k2 k3 L x0 x1 x2 y0 y1 y2 : Nat} (h : ct L 52 = k0 + (k1 + (k2 + k3))) (p0 : Part L k0 x0) (p1 : Part (L - x0) k1 x1) (p2 : Part (L - x0 - x1) k2 x2)
    (q0 : Part L k0 y0) (q1 : Part (L - y0) k1 y1) (q2 : Part (L - y0 - y1) k2 y2) (o : x0 < y0 ∨ (x0 = y0 ∧ (x1 < y1 ∨ (x1 = y1 ∧ x2 < y2)))) : ix4 B k1 k2 k3 L x0 x1 x2 < ix4 B k1 k2 k3 L y0 y1 y2 := by
  rcases o with o | ⟨rfl, o⟩
  · exact two_mono (rk_less P p0 q0 o) (ix3_lt P (p0.rest h) p1 p2)
  · exact Nat.add_lt_add_left (ix3_mono P (p0.rest h) p1 p2 q1 q2 o) _
/-- The part with a number. -/
theorem un_part {B : Nat → Nat → Nat} (P : Pas B) {L k n i : Nat} (h : ct L 52 = k + n) (hi : i < B (k + n) k) : Part L k (un B L 52 k i) ∧ rk B L (un B L 52 k i) 52 = i := by
  obtain ⟨s, c, r⟩ := un_spec P L 52 k i (by rw [h]; exact hi)
  exact ⟨⟨s, c, un_lt B L 52 k i⟩, r⟩
/-- The completion with a number: the hands' parts, one after the other. -/
def cp0 (B : Nat → Nat → Nat) (k0 k1 k2 k3 L i : Nat) : Nat := un B L 52 k0 (i / W3 B k1 k2 k3)
def cp1 (B : Nat → Nat → Nat) (k0 k1 k2 k3 L i : Nat) : Nat := un B (L - cp0 B k0 k1 k2 k3 L i) 52 k1 (i % W3 B k1 k2 k3 / W2 B k2 k3)
def cp2 (B : Nat → Nat → Nat) (k0 k1 k2 k3 L i : Nat) : Nat := un B (L - cp0 B k0 k1 k2 k3 L i - cp1 B k0 k1 k2 k3 L i) 52 k2 (i % W3 B k1 k2 k3 % W2 B k2 k3)
theorem Pas.pos {B : Nat → Nat → Nat} (P : Pas B) : ∀ n k, 0 < B (k + n) k
  | 0, k => by rw [Nat.add_zero, (P.self k).1]; exact Nat.one_pos
  | n + 1, k => Nat.lt_of_lt_of_le (Pas.pos P n k) (P.grow (k + n) k)
theorem W2_pos {B : Nat → Nat → Nat} (P : Pas B) (k2 k3 : Nat) : 0 < W2 B k2 k3 := P.pos k3 k2
theorem W3_pos {B : Nat → Nat → Nat} (P : Pas B) (k1 k2 k3 : Nat) : 0 < W3 B k1 k2 k3 := Nat.mul_pos (P.pos _ k1) (W2_pos P k2 k3)
theorem cp_spec {B : Nat → Nat → Nat} (P : Pas B) {k0 k1 k2 k3 L i : Nat} (h : ct L 52 = k0 + (k1 + (k2 + k3))) (hi : i < W4 B k0 k1 k2 k3) :
    Part L k0 (cp0 B k0 k1 k2 k3 L i) ∧ Part (L - cp0 B k0 k1 k2 k3 L i) k1 (cp1 B k0 k1 k2 k3 L i) ∧ Part (L - cp0 B k0 k1 k2 k3 L i - cp1 B k0 k1 k2 k3 L i) k2 (cp2 B k0 k1 k2 k3 L i)
      ∧ ix4 B k1 k2 k3 L (cp0 B k0 k1 k2 k3 L i) (cp1 B k0 k1 k2 k3 L i) (cp2 B k0 k1 k2 k3 L i) = i := by
  have z3 := W3_pos P k1 k2 k3
  have z2 := W2_pos P k2 k3
  have d0 : i / W3 B k1 k2 k3 < B (k0 + (k1 + (k2 + k3))) k0 := Nat.div_lt_of_lt_mul (by rw [Nat.mul_comm]; exact hi)
  obtain ⟨p0, r0⟩ := un_part P h d0
  have h1 := p0.rest h
  have d1 : i % W3 B k1 k2 k3 / W2 B k2 k3 < B (k1 + (k2 + k3)) k1 := Nat.div_lt_of_lt_mul (by rw [Nat.mul_comm]; exact Nat.mod_lt _ z3)
  obtain ⟨p1, r1⟩ := un_part P h1 d1
  have h2 := p1.rest h1
  have d2 : i % W3 B k1 k2 k3 % W2 B k2 k3 < B (k2 + k3) k2 := Nat.mod_lt _ z2
  obtain ⟨p2, r2⟩ := un_part P h2 d2
  refine ⟨p0, p1, p2, ?_⟩
  unfold ix4 ix3
  have e0 : rk B L (cp0 B k0 k1 k2 k3 L i) 52 = i / W3 B k1 k2 k3 := r0
  have e1 : rk B (L - cp0 B k0 k1 k2 k3 L i) (cp1 B k0 k1 k2 k3 L i) 52 = i % W3 B k1 k2 k3 / W2 B k2 k3 := r1
  have e2 : rk B (L - cp0 B k0 k1 k2 k3 L i - cp1 B k0 k1 k2 k3 L i) (cp2 B k0 k1 k2 k3 L i) 52 = i % W3 B k1 k2 k3 % W2 B k2 k3 := r2
  rw [e0, e1, e2, Nat.div_add_mod', Nat.div_add_mod']
/-- Two completions with one number are one. -/
theorem ix4_inj {B : Nat → Nat → Nat} (P : Pas B) {k0 k1 k2 k3 L x0 x1 x2 y0 y1 y2 : Nat} (h : ct L 52 = k0 + (k1 + (k2 + k3))) (p0 : Part L k0 x0) (p1 : Part (L - x0) k1 x1) (p2 : Part (L - x0 - x1) k2 x2)
    (q0 : Part L k0 y0) (q1 : Part (L - y0) k1 y1) (q2 : Part (L - y0 - y1) k2 y2) (e : ix4 B k1 k2 k3 L x0 x1 x2 = ix4 B k1 k2 k3 L y0 y1 y2) : x0 = y0 ∧ x1 = y1 ∧ x2 = y2 := by
  have a := fun o => ix4_mono P h p0 p1 p2 q0 q1 q2 o
  have b := fun o => ix4_mono P h q0 q1 q2 p0 p1 p2 o
  rcases Nat.lt_trichotomy x0 y0 with l | e0 | l
  · have := a (.inl l); omega
  · rcases Nat.lt_trichotomy x1 y1 with l | e1 | l
    · have := a (.inr ⟨e0, .inl l⟩); omega
    · rcases Nat.lt_trichotomy x2 y2 with l | e2 | l
      · have := a (.inr ⟨e0, .inr ⟨e1, l⟩⟩); omega
      · exact ⟨e0, e1, e2⟩
      · have := b (.inr ⟨e0.symm, .inr ⟨e1.symm, l⟩⟩); omega
    · have := b (.inr ⟨e0.symm, .inl l⟩); omega
  · have := b (.inl l); omega
/-- A greater number has a later completion. -/
theorem cp_mono {B : Nat → Nat → Nat} (P : Pas B) {k0 k1 k2 k3 L i j : Nat} (h : ct L 52 = k0 + (k1 + (k2 + k3))) (hi : i < W4 B k0 k1 k2 k3) (hj : j < W4 B k0 k1 k2 k3) (l : i < j) :
    cp0 B k0 k1 k2 k3 L i < cp0 B k0 k1 k2 k3 L j ∨ (cp0 B k0 k1 k2 k3 L i = cp0 B k0 k1 k2 k3 L j ∧ (cp1 B k0 k1 k2 k3 L i < cp1 B k0 k1 k2 k3 L j ∨ (cp1 B k0 k1 k2 k3 L i = cp1 B k0 k1 k2 k3 L j ∧ cp2 B k0 k1 k2 k3 L i < cp2 B k0 k1 k2 k3 L j))) := by
  obtain ⟨p0, p1, p2, e⟩ := cp_spec P h hi
  obtain ⟨q0, q1, q2, f⟩ := cp_spec P h hj
  have b := fun o => ix4_mono P h q0 q1 q2 p0 p1 p2 o
  rw [e, f] at b
  rcases Nat.lt_trichotomy (cp0 B k0 k1 k2 k3 L i) (cp0 B k0 k1 k2 k3 L j) with l0 | e0 | l0
  · exact .inl l0
  · rcases Nat.lt_trichotomy (cp1 B k0 k1 k2 k3 L i) (cp1 B k0 k1 k2 k3 L j) with l1 | e1 | l1
    · exact .inr ⟨e0, .inl l1⟩
    · rcases Nat.lt_trichotomy (cp2 B k0 k1 k2 k3 L i) (cp2 B k0 k1 k2 k3 L j) with l2 | e2 | l2
      · exact .inr ⟨e0, .inr ⟨e1, l2⟩⟩
      · rw [e0, e1, e2] at e; omega
      · have := b (.inr ⟨e0.symm, .inr ⟨e1.symm, l2⟩⟩); omega
    · have := b (.inr ⟨e0.symm, .inl l1⟩); omega
  · have := b (.inl l0); omega
end Go.Proofs.DB

/-! DB2 -/
namespace Go.Proofs.DB

def fa : Nat → Nat
  | 0 => 1
  | n + 1 => (n + 1) * fa n
theorem fa_pos : ∀ n, 0 < fa n
  | 0 => Nat.one_pos
  | n + 1 => Nat.mul_pos (Nat.succ_pos n) (fa_pos n)
theorem pas_fa {B : Nat → Nat → Nat} (P : Pas B) : ∀ k n, B (k + n) k * (fa k * fa n) = fa (k + n)
  | 0, n => by rw [P.zero, Nat.zero_add]; show 1 * (1 * fa n) = fa n; omega
  | k + 1, 0 => by
    rw [Nat.add_zero, (P.self _).1]
    show 1 * (fa (k + 1) * 1) = fa (k + 1)
    omega
  | k + 1, n + 1 => by
    have a := pas_fa P k (n + 1)
    have b := pas_fa P (k + 1) n
    have e : k + 1 + (n + 1) = k + (n + 1) + 1 := by omega
    have e2 : k + 1 + n = k + (n + 1) := by omega
    rw [e2] at b
    rw [e, P.step, Nat.add_mul]
    have x : B (k + (n + 1)) k * (fa (k + 1) * fa (n + 1)) = (k + 1) * fa (k + (n + 1)) := by
      rw [← a]
      show B (k + (n + 1)) k * ((k + 1) * fa k * fa (n + 1)) = _
      rw [Nat.mul_assoc (k + 1), Nat.mul_left_comm]
    have y : B (k + (n + 1)) (k + 1) * (fa (k + 1) * fa (n + 1)) = (n + 1) * fa (k + (n + 1)) := by
      rw [← b]
      show B (k + (n + 1)) (k + 1) * (fa (k + 1) * ((n + 1) * fa n)) = _
      rw [Nat.mul_left_comm (fa (k + 1)), Nat.mul_left_comm]
    rw [x, y, ← Nat.add_mul]
    show _ = (k + (n + 1) + 1) * fa (k + (n + 1))
    congr 1
theorem W2_fa {B : Nat → Nat → Nat} (P : Pas B) (k2 k3 : Nat) : W2 B k2 k3 * (fa k2 * fa k3) = fa (k2 + k3) := pas_fa P k2 k3
theorem W3_fa {B : Nat → Nat → Nat} (P : Pas B) (k1 k2 k3 : Nat) : W3 B k1 k2 k3 * (fa k1 * (fa k2 * fa k3)) = fa (k1 + (k2 + k3)) := by
  have a := pas_fa P k1 (k2 + k3)
  rw [← W2_fa P k2 k3] at a
  rw [← a]
  unfold W3
  rw [Nat.mul_assoc]
  congr 1
  rw [Nat.mul_left_comm]
theorem W4_fa {B : Nat → Nat → Nat} (P : Pas B) (k0 k1 k2 k3 : Nat) : W4 B k0 k1 k2 k3 * (fa k0 * (fa k1 * (fa k2 * fa k3))) = fa (k0 + (k1 + (k2 + k3))) := by
  have a := pas_fa P k0 (k1 + (k2 + k3))
  rw [← W3_fa P k1 k2 k3] at a
  rw [← a]
  unfold W4
  rw [Nat.mul_assoc]
  congr 1
  rw [Nat.mul_left_comm]
/-- Turned by one, a deal has as many completions. -/
theorem W4_turn {B : Nat → Nat → Nat} (P : Pas B) (k0 k1 k2 k3 : Nat) : W4 B k3 k0 k1 k2 = W4 B k0 k1 k2 k3 := by
  have a := W4_fa P k0 k1 k2 k3
  have b := W4_fa P k3 k0 k1 k2
  have e : fa k3 * (fa k0 * (fa k1 * fa k2)) = fa k0 * (fa k1 * (fa k2 * fa k3)) := by
    rw [Nat.mul_left_comm (fa k3), Nat.mul_left_comm (fa k3), Nat.mul_comm (fa k3)]
  have s : k3 + (k0 + (k1 + k2)) = k0 + (k1 + (k2 + k3)) := by omega
  rw [e, s, ← a] at b
  exact Nat.eq_of_mul_eq_mul_right (Nat.mul_pos (fa_pos _) (Nat.mul_pos (fa_pos _) (Nat.mul_pos (fa_pos _) (fa_pos _)))) b
theorem fa_list : fa 52 / (fa 13 * (fa 13 * (fa 13 * fa 13))) = 53644737765488792839237440000 := by decide +kernel
/-- All deals. -/
theorem W4_all {B : Nat → Nat → Nat} (P : Pas B) : W4 B 13 13 13 13 = 53644737765488792839237440000 := by
  have a : W4 B 13 13 13 13 * (fa 13 * (fa 13 * (fa 13 * fa 13))) = fa 52 := W4_fa P 13 13 13 13
  rw [← fa_list, ← a]
  exact (Nat.mul_div_cancel _ (Nat.mul_pos (fa_pos _) (Nat.mul_pos (fa_pos _) (Nat.mul_pos (fa_pos _) (fa_pos _))))).symm
/-- A right deal has one completion. -/
theorem W4_one {B : Nat → Nat → Nat} (P : Pas B) : W4 B 0 0 0 0 = 1 := by
  unfold W4 W3 W2
  simp only [Nat.add_zero, P.zero]
end Go.Proofs.DB

/-! DB3 -/
namespace Go.Proofs.DB

/-- The bit j. -/
abbrev bt (x j : Nat) : Nat := x / 2 ^ j % 2
theorem bt_testBit (x j : Nat) : x.testBit j = decide (bt x j = 1) := Nat.testBit_eq_decide_div_mod_eq
theorem bt_ext {x y : Nat} (h : ∀ j, bt x j = bt y j) : x = y := Nat.eq_of_testBit_eq fun j => by rw [bt_testBit, bt_testBit, h]
theorem bt_high {x c j : Nat} (h : x < 2 ^ c) (hj : c ≤ j) : bt x j = 0 := by
  unfold bt
  rw [Nat.div_eq_of_lt (Nat.lt_of_lt_of_le h (Nat.pow_le_pow_right (by decide) hj))]
theorem bt_ext_lt {x y c : Nat} (hx : x < 2 ^ c) (hy : y < 2 ^ c) (h : ∀ j, j < c → bt x j = bt y j) : x = y := bt_ext fun j => by
  by_cases hj : j < c
  · exact h j hj
  · rw [bt_high hx (by omega), bt_high hy (by omega)]
theorem bt_lt2 (x j : Nat) : bt x j ≤ 1 := by unfold bt; omega
theorem bt_or (a b j : Nat) : bt (a ||| b) j = max (bt a j) (bt b j) := by
  have h := Nat.testBit_or a b j
  rw [bt_testBit, bt_testBit, bt_testBit] at h
  have h1 := bt_lt2 a j
  have h2 := bt_lt2 b j
  have h3 := bt_lt2 (a ||| b) j
  generalize bt a j = u at *
  generalize bt b j = v at *
  generalize bt (a ||| b) j = c at *
  match u, v, c, h1, h2, h3 with
  | 0, 0, 0, _, _, _ => simp_all
  | 0, 0, 1, _, _, _ => simp_all
  | 0, 1, 0, _, _, _ => simp_all
  | 0, 1, 1, _, _, _ => simp_all
  | 1, 0, 0, _, _, _ => simp_all
  | 1, 0, 1, _, _, _ => simp_all
  | 1, 1, 0, _, _, _ => simp_all
  | 1, 1, 1, _, _, _ => simp_all
theorem bt_and (a b j : Nat) : bt (a &&& b) j = min (bt a j) (bt b j) := by
  have h := Nat.testBit_and a b j
  rw [bt_testBit, bt_testBit, bt_testBit] at h
  have h1 := bt_lt2 a j
  have h2 := bt_lt2 b j
  have h3 := bt_lt2 (a &&& b) j
  generalize bt a j = u at *
  generalize bt b j = v at *
  generalize bt (a &&& b) j = c at *
  match u, v, c, h1, h2, h3 with
  | 0, 0, 0, _, _, _ => simp_all
  | 0, 0, 1, _, _, _ => simp_all
  | 0, 1, 0, _, _, _ => simp_all
  | 0, 1, 1, _, _, _ => simp_all
  | 1, 0, 0, _, _, _ => simp_all
  | 1, 0, 1, _, _, _ => simp_all
  | 1, 1, 0, _, _, _ => simp_all
  | 1, 1, 1, _, _, _ => simp_all
theorem bt_xor (a b j : Nat) : bt (a ^^^ b) j = (bt a j + bt b j) % 2 := by
  have h := Nat.testBit_xor a b j
  rw [bt_testBit, bt_testBit, bt_testBit] at h
  have h1 := bt_lt2 a j
  have h2 := bt_lt2 b j
  have h3 := bt_lt2 (a ^^^ b) j
  generalize bt a j = u at *
  generalize bt b j = v at *
  generalize bt (a ^^^ b) j = c at *
  match u, v, c, h1, h2, h3 with
  | 0, 0, 0, _, _, _ => simp_all
  | 0, 0, 1, _, _, _ => simp_all
  | 0, 1, 0, _, _, _ => simp_all
  | 0, 1, 1, _, _, _ => simp_all
  | 1, 0, 0, _, _, _ => simp_all
  | 1, 0, 1, _, _, _ => simp_all
  | 1, 1, 0, _, _, _ => simp_all
  | 1, 1, 1, _, _, _ => simp_all
/-- No card in common. -/
def Dj (a b : Nat) : Prop := ∀ j, bt a j + bt b j ≤ 1
theorem Dj.symm {a b : Nat} (h : Dj a b) : Dj b a := fun j => by have := h j; omega
theorem Dj.half {a b : Nat} (h : Dj a b) : Dj (a / 2) (b / 2) := fun j => by
  have := h (j + 1)
  unfold bt at *
  rw [Nat.pow_succ, Nat.mul_comm (2 ^ j) 2, ← Nat.div_div_eq_div_mul, ← Nat.div_div_eq_div_mul] at this
  exact this
theorem bt_add : ∀ j {a b : Nat}, Dj a b → bt (a + b) j = bt a j + bt b j
  | 0, a, b, h => by
    have := h 0
    unfold bt at *
    simp only [Nat.pow_zero, Nat.div_one] at *
    omega
  | j + 1, a, b, h => by
    have h0 := h 0
    have ih := bt_add j h.half
    unfold bt at *
    simp only [Nat.pow_zero, Nat.div_one] at h0
    rw [Nat.pow_succ, Nat.mul_comm (2 ^ j) 2, ← Nat.div_div_eq_div_mul, ← Nat.div_div_eq_div_mul, ← Nat.div_div_eq_div_mul, ← ih]
    congr 2
    omega
theorem or_eq_add {a b : Nat} (h : Dj a b) : a ||| b = a + b := bt_ext fun j => by
  rw [bt_add j h, bt_or]
  have := h j
  omega
theorem and_zero_iff (a b : Nat) : a &&& b = 0 ↔ Dj a b := by
  constructor
  · intro h j
    have e := bt_and a b j
    rw [h, show bt 0 j = 0 by simp [bt]] at e
    have := bt_lt2 a j
    have := bt_lt2 b j
    omega
  · intro h
    refine bt_ext fun j => ?_
    rw [bt_and, show bt 0 j = 0 by simp [bt]]
    have := h j
    omega
theorem ct_add {a b : Nat} (h : Dj a b) : ∀ n, ct (a + b) n = ct a n + ct b n
  | 0 => rfl
  | n + 1 => by
    have ih := ct_add h n
    have b := bt_add n h
    unfold bt at b
    simp only [ct]
    omega
theorem add_lt52 {a b : Nat} (h : Dj a b) (ha : a < 2 ^ 52) (hb : b < 2 ^ 52) : a + b < 2 ^ 52 := by
  rw [← or_eq_add h]
  exact Nat.or_lt_two_pow ha hb
theorem Dj.add {a b c : Nat} (hab : Dj a b) (hac : Dj a c) (hbc : Dj b c) : Dj a (b + c) := fun j => by
  rw [bt_add j hbc]
  have := hab j
  have := hac j
  have := hbc j
  have := bt_lt2 a j
  have := bt_lt2 b j
  have := bt_lt2 c j
  omega
/-- A partial deal. -/
structure Pd (p : Nat → Nat) : Prop where
  lt : ∀ i, i < 4 → p i < 2 ^ 52
  few : ∀ i, i < 4 → ct (p i) 52 ≤ 13
  dj : ∀ i j, i < j → j < 4 → Dj (p i) (p j)
def sum4 (p : Nat → Nat) : Nat := p 0 + (p 1 + (p 2 + p 3))
theorem Pd.d23 {p : Nat → Nat} (h : Pd p) : Dj (p 2) (p 3) := h.dj 2 3 (by decide) (by decide)
theorem Pd.d1 {p : Nat → Nat} (h : Pd p) : Dj (p 1) (p 2 + p 3) := Dj.add (h.dj 1 2 (by decide) (by decide)) (h.dj 1 3 (by decide) (by decide)) h.d23
theorem Pd.d0 {p : Nat → Nat} (h : Pd p) : Dj (p 0) (p 1 + (p 2 + p 3)) :=
  Dj.add (h.dj 0 1 (by decide) (by decide)) (Dj.add (h.dj 0 2 (by decide) (by decide)) (h.dj 0 3 (by decide) (by decide)) h.d23) h.d1
theorem Pd.bit {p : Nat → Nat} (h : Pd p) (j : Nat) : bt (sum4 p) j = bt (p 0) j + (bt (p 1) j + (bt (p 2) j + bt (p 3) j)) := by
  unfold sum4
  rw [bt_add j h.d0, bt_add j h.d1, bt_add j h.d23]
theorem Pd.sum_lt {p : Nat → Nat} (h : Pd p) : sum4 p < 2 ^ 52 :=
  add_lt52 h.d0 (h.lt 0 (by decide)) (add_lt52 h.d1 (h.lt 1 (by decide)) (add_lt52 h.d23 (h.lt 2 (by decide)) (h.lt 3 (by decide))))
theorem Pd.count {p : Nat → Nat} (h : Pd p) (n : Nat) : ct (sum4 p) n = ct (p 0) n + (ct (p 1) n + (ct (p 2) n + ct (p 3) n)) := by
  unfold sum4
  rw [ct_add h.d0, ct_add h.d1, ct_add h.d23]
def full : Nat := 4503599627370495
theorem full_bit : ∀ j : Fin 52, bt full j.val = 1 := by decide +kernel
theorem full_ct : ct full 52 = 52 := by decide +kernel
theorem sb_full (x : Nat) : Sb full x 52 := fun j hj => by
  have := full_bit ⟨j, hj⟩
  have := bt_lt2 x j
  unfold bt at *
  simp only at *
  omega
/-- The cards that are left. -/
def left (p : Nat → Nat) : Nat := full - sum4 p
theorem left_bit {p : Nat → Nat} (h : Pd p) (j : Nat) (hj : j < 52) : bt (left p) j = 1 - bt (sum4 p) j := by
  have e := sub_bit 52 full (sum4 p) h.sum_lt (sb_full _) j
  have f := full_bit ⟨j, hj⟩
  unfold bt at *
  unfold left
  rw [e]
  simp only at f
  rw [f]
theorem left_lt (p : Nat → Nat) : left p < 2 ^ 52 := Nat.lt_of_le_of_lt (Nat.sub_le _ _) (by decide)
/-- How many cards the seat i lacks. -/
def lack (p : Nat → Nat) (i : Nat) : Nat := 13 - ct (p i) 52
theorem left_ct {p : Nat → Nat} (h : Pd p) : ct (left p) 52 = lack p 0 + (lack p 1 + (lack p 2 + lack p 3)) := by
  have e := ct_sub h.sum_lt (sb_full (sum4 p)) 52
  rw [full_ct, h.count] at e
  have h0 := h.few 0 (by decide)
  have h1 := h.few 1 (by decide)
  have h2 := h.few 2 (by decide)
  have h3 := h.few 3 (by decide)
  unfold lack left
  omega
theorem left_dj {p : Nat → Nat} (h : Pd p) {i : Nat} (hi : i < 4) {x : Nat} (s : Sb (left p) x 52) (hx : x < 2 ^ 52) : Dj (p i) x := fun j => by
  by_cases hj : j < 52
  · have a : bt x j ≤ bt (left p) j := s j hj
    rw [left_bit h j hj, h.bit] at a
    have b := bt_lt2 x j
    have c := bt_lt2 (p i) j
    match i, hi with
    | 0, _ => omega
    | 1, _ => omega
    | 2, _ => omega
    | 3, _ => omega
  · rw [bt_high hx (by omega)]
    have := bt_lt2 (p i) j
    omega
end Go.Proofs.DB

/-! DB4 -/
namespace Go.Proofs.DB

theorem ct_le (x : Nat) : ∀ n, ct x n ≤ n
  | 0 => Nat.le_refl _
  | n + 1 => by
    have := ct_le x n
    have := bt_lt2 x n
    unfold bt at this
    simp only [ct]
    omega
theorem ct_full (x : Nat) : ∀ n, ct x n = n → ∀ j, j < n → bt x j = 1
  | 0, _, j, h => by omega
  | n + 1, e, j, h => by
    have l := ct_le x n
    have b := bt_lt2 x n
    have e : ct x n + bt x n = n + 1 := e
    by_cases hj : j = n
    · subst hj; omega
    · exact ct_full x n (by omega) j (by omega)
/-- A right deal. -/
structure Rd (d : Nat → Nat) : Prop extends Pd d where
  all : ∀ i, i < 4 → ct (d i) 52 = 13
theorem Rd.one {d : Nat → Nat} (h : Rd d) (j : Nat) (hj : j < 52) : bt (d 0) j + (bt (d 1) j + (bt (d 2) j + bt (d 3) j)) = 1 := by
  have e := h.toPd.count 52
  rw [h.all 0 (by decide), h.all 1 (by decide), h.all 2 (by decide), h.all 3 (by decide)] at e
  have := ct_full (sum4 d) 52 e j hj
  rw [← h.toPd.bit j]
  exact this
def comp (p : Nat → Nat) (x0 x1 x2 : Nat) : Nat → Nat
  | 0 => p 0 + x0
  | 1 => p 1 + x1
  | 2 => p 2 + x2
  | 3 => p 3 + (left p - x0 - x1 - x2)
  | _ => 0
/-- Each hand has what it had. -/
def In (p d : Nat → Nat) : Prop := ∀ i, i < 4 → ∀ j, bt (p i) j ≤ bt (d i) j
structure Parts (p : Nat → Nat) (x0 x1 x2 : Nat) : Prop where
  p0 : Part (left p) (lack p 0) x0
  p1 : Part (left p - x0) (lack p 1) x1
  p2 : Part (left p - x0 - x1) (lack p 2) x2
theorem Part.bit {L k x : Nat} (h : Part L k x) (j : Nat) : bt (L - x) j = bt L j - bt x j := sub_bit 52 L x h.lt h.sb j
theorem Part.le {L k x : Nat} (h : Part L k x) (j : Nat) : bt x j ≤ bt L j := by
  by_cases hj : j < 52
  · exact h.sb j hj
  · rw [bt_high h.lt (by omega)]; exact Nat.zero_le _
theorem sub_lt52 {L x : Nat} (h : L < 2 ^ 52) : L - x < 2 ^ 52 := Nat.lt_of_le_of_lt (Nat.sub_le _ _) h
theorem Parts.last {p : Nat → Nat} (hp : Pd p) {x0 x1 x2 : Nat} (h : Parts p x0 x1 x2) : ct (left p - x0 - x1 - x2) 52 = lack p 3 :=
  h.p2.rest (h.p1.rest (h.p0.rest (left_ct hp)))
theorem Parts.bits {p : Nat → Nat} {x0 x1 x2 : Nat} (h : Parts p x0 x1 x2) (j : Nat) : bt x0 j + (bt x1 j + (bt x2 j + bt (left p - x0 - x1 - x2) j)) = bt (left p) j := by
  have a := h.p0.bit j
  have b := h.p1.bit j
  have c := h.p2.bit j
  have a' := h.p0.le j
  have b' := h.p1.le j
  have c' := h.p2.le j
  omega
theorem Parts.dj {p : Nat → Nat} (hp : Pd p) {x0 x1 x2 : Nat} (h : Parts p x0 x1 x2) (i : Nat) (hi : i < 4) :
    Dj (p i) x0 ∧ Dj (p i) x1 ∧ Dj (p i) x2 ∧ Dj (p i) (left p - x0 - x1 - x2) := by
  have s := fun j => h.bits j
  refine ⟨left_dj hp hi (fun j _ => ?_) h.p0.lt, left_dj hp hi (fun j _ => ?_) h.p1.lt, left_dj hp hi (fun j _ => ?_) h.p2.lt, left_dj hp hi (fun j _ => ?_) (sub_lt52 (sub_lt52 (sub_lt52 (left_lt p))))⟩
  all_goals
    have := s j
    unfold bt at this
    omega
/-- What the parts make is a right deal, and each hand has what it had. -/
theorem comp_right {p : Nat → Nat} (hp : Pd p) {x0 x1 x2 : Nat} (h : Parts p x0 x1 x2) : Rd (comp p x0 x1 x2) ∧ In p (comp p x0 x1 x2) := by
  have d0 := (h.dj hp 0 (by decide)).1
  have d1 := (h.dj hp 1 (by decide)).2.1
  have d2 := (h.dj hp 2 (by decide)).2.2.1
  have d3 := (h.dj hp 3 (by decide)).2.2.2
  have l3 : left p - x0 - x1 - x2 < 2 ^ 52 := sub_lt52 (sub_lt52 (sub_lt52 (left_lt p)))
  have c3 := h.last hp
  have c0 := h.p0.ct
  have c1 := h.p1.ct
  have c2 := h.p2.ct
  have lt : ∀ i, i < 4 → comp p x0 x1 x2 i < 2 ^ 52 := fun i hi => by
    match i, hi with
    | 0, _ => exact add_lt52 d0 (hp.lt 0 (by decide)) h.p0.lt
    | 1, _ => exact add_lt52 d1 (hp.lt 1 (by decide)) h.p1.lt
    | 2, _ => exact add_lt52 d2 (hp.lt 2 (by decide)) h.p2.lt
    | 3, _ => exact add_lt52 d3 (hp.lt 3 (by decide)) l3
  have f0 := hp.few 0 (by decide)
  have f1 := hp.few 1 (by decide)
  have f2 := hp.few 2 (by decide)
  have f3 := hp.few 3 (by decide)
  unfold lack at c0 c1 c2 c3
  have all : ∀ i, i < 4 → ct (comp p x0 x1 x2 i) 52 = 13 := fun i hi => by
    match i, hi with
    | 0, _ => show ct (p 0 + x0) 52 = 13; rw [ct_add d0]; omega
    | 1, _ => show ct (p 1 + x1) 52 = 13; rw [ct_add d1]; omega
    | 2, _ => show ct (p 2 + x2) 52 = 13; rw [ct_add d2]; omega
    | 3, _ => show ct (p 3 + _) 52 = 13; rw [ct_add d3]; omega
  have one : ∀ j, bt (p 0 + x0) j + (bt (p 1 + x1) j + (bt (p 2 + x2) j + bt (p 3 + (left p - x0 - x1 - x2)) j)) ≤ 1 := fun j => by
    rw [bt_add j d0, bt_add j d1, bt_add j d2, bt_add j d3]
    have s := h.bits j
    by_cases hj : j < 52
    · have e := left_bit hp j hj
      rw [hp.bit] at e
      have := bt_lt2 (sum4 p) j
      rw [hp.bit] at this
      omega
    · have e := bt_high (left_lt p) (j := j) (by omega)
      have e0 := bt_high (hp.lt 0 (by decide)) (j := j) (by omega)
      have e1 := bt_high (hp.lt 1 (by decide)) (j := j) (by omega)
      have e2 := bt_high (hp.lt 2 (by decide)) (j := j) (by omega)
      have e3 := bt_high (hp.lt 3 (by decide)) (j := j) (by omega)
      omega
  refine ⟨{ lt := lt, few := fun i hi => Nat.le_of_eq (all i hi), dj := fun i j hij hj b => ?_, all := all }, fun i hi j => ?_⟩
  · have o := one b
    match i, j, hij, hj with
    | 0, 1, _, _ => show bt (p 0 + x0) b + bt (p 1 + x1) b ≤ 1; omega
    | 0, 2, _, _ => show bt (p 0 + x0) b + bt (p 2 + x2) b ≤ 1; omega
    | 0, 3, _, _ => show bt (p 0 + x0) b + bt (p 3 + _) b ≤ 1; omega
    | 1, 2, _, _ => show bt (p 1 + x1) b + bt (p 2 + x2) b ≤ 1; omega
    | 1, 3, _, _ => show bt (p 1 + x1) b + bt (p 3 + _) b ≤ 1; omega
    | 2, 3, _, _ => show bt (p 2 + x2) b + bt (p 3 + _) b ≤ 1; omega
    | i + 3, j, hij, hj => omega
  · match i, hi with
    | 0, _ => show bt (p 0) j ≤ bt (p 0 + x0) j; rw [bt_add j d0]; exact Nat.le_add_right _ _
    | 1, _ => show bt (p 1) j ≤ bt (p 1 + x1) j; rw [bt_add j d1]; exact Nat.le_add_right _ _
    | 2, _ => show bt (p 2) j ≤ bt (p 2 + x2) j; rw [bt_add j d2]; exact Nat.le_add_right _ _
    | 3, _ => show bt (p 3) j ≤ bt (p 3 + _) j; rw [bt_add j d3]; exact Nat.le_add_right _ _
theorem In.le {p d : Nat → Nat} (hp : Pd p) (h : In p d) (i : Nat) (hi : i < 4) : p i ≤ d i :=
  le_of_sb 52 (d i) (p i) (hp.lt i hi) fun j _ => h i hi j
theorem In.bit {p d : Nat → Nat} (hp : Pd p) (h : In p d) (i : Nat) (hi : i < 4) (j : Nat) : bt (d i - p i) j = bt (d i) j - bt (p i) j :=
  sub_bit 52 (d i) (p i) (hp.lt i hi) (fun j _ => h i hi j) j
theorem In.ct {p d : Nat → Nat} (hp : Pd p) (hd : Rd d) (h : In p d) (i : Nat) (hi : i < 4) : Go.Proofs.DB.ct (d i - p i) 52 = lack p i := by
  have e := ct_sub (hp.lt i hi) (fun j _ => h i hi j : Sb (d i) (p i) 52) 52
  rw [hd.all i hi] at e
  unfold lack
  omega
/-- Each completion has its parts. -/
theorem parts_of {p d : Nat → Nat} (hp : Pd p) (hd : Rd d) (h : In p d) : Parts p (d 0 - p 0) (d 1 - p 1) (d 2 - p 2) ∧ ∀ i, i < 4 → comp p (d 0 - p 0) (d 1 - p 1) (d 2 - p 2) i = d i := by
  have lt : ∀ i, i < 4 → d i - p i < 2 ^ 52 := fun i hi => sub_lt52 (hd.lt i hi)
  have bits : ∀ j, j < 52 → bt (d 0 - p 0) j + (bt (d 1 - p 1) j + (bt (d 2 - p 2) j + bt (d 3 - p 3) j)) = bt (left p) j := fun j hj => by
    have e := left_bit hp j hj
    rw [hp.bit] at e
    have o := hd.one j hj
    have b0 := h.bit hp 0 (by decide) j
    have b1 := h.bit hp 1 (by decide) j
    have b2 := h.bit hp 2 (by decide) j
    have b3 := h.bit hp 3 (by decide) j
    have i0 := h 0 (by decide) j
    have i1 := h 1 (by decide) j
    have i2 := h 2 (by decide) j
    have i3 := h 3 (by decide) j
    omega
  have q0 : Part (left p) (lack p 0) (d 0 - p 0) := ⟨fun j hj => by have := bits j hj; unfold bt at this; omega, h.ct hp hd 0 (by decide), lt 0 (by decide)⟩
  have q1 : Part (left p - (d 0 - p 0)) (lack p 1) (d 1 - p 1) := ⟨fun j hj => by have := bits j hj; have := q0.bit j; unfold bt at *; omega, h.ct hp hd 1 (by decide), lt 1 (by decide)⟩
  have q2 : Part (left p - (d 0 - p 0) - (d 1 - p 1)) (lack p 2) (d 2 - p 2) := ⟨fun j hj => by have := bits j hj; have := q0.bit j; have := q1.bit j; unfold bt at *; omega, h.ct hp hd 2 (by decide), lt 2 (by decide)⟩
  have last : left p - (d 0 - p 0) - (d 1 - p 1) - (d 2 - p 2) = d 3 - p 3 := bt_ext_lt (sub_lt52 (sub_lt52 (sub_lt52 (left_lt p)))) (lt 3 (by decide)) fun j hj => by
    have := bits j hj
    have := q0.bit j
    have := q1.bit j
    have := q2.bit j
    omega
  refine ⟨⟨q0, q1, q2⟩, fun i hi => ?_⟩
  match i, hi with
  | 0, _ => have := h.le hp 0 (by decide); show p 0 + (d 0 - p 0) = d 0; omega
  | 1, _ => have := h.le hp 1 (by decide); show p 1 + (d 1 - p 1) = d 1; omega
  | 2, _ => have := h.le hp 2 (by decide); show p 2 + (d 2 - p 2) = d 2; omega
  | 3, _ => have := h.le hp 3 (by decide); show p 3 + _ = d 3; rw [last]; omega
/-- The completions of a partial deal, and the number of one. -/
def ways (B : Nat → Nat → Nat) (p : Nat → Nat) : Nat := W4 B (lack p 0) (lack p 1) (lack p 2) (lack p 3)
def index (B : Nat → Nat → Nat) (p d : Nat → Nat) : Nat := ix4 B (lack p 1) (lack p 2) (lack p 3) (left p) (d 0 - p 0) (d 1 - p 1) (d 2 - p 2)
def complete (B : Nat → Nat → Nat) (p : Nat → Nat) (i : Nat) : Nat → Nat :=
  comp p (cp0 B (lack p 0) (lack p 1) (lack p 2) (lack p 3) (left p) i) (cp1 B (lack p 0) (lack p 1) (lack p 2) (lack p 3) (left p) i) (cp2 B (lack p 0) (lack p 1) (lack p 2) (lack p 3) (left p) i)
theorem complete_parts {B : Nat → Nat → Nat} (P : Pas B) {p : Nat → Nat} (hp : Pd p) {i : Nat} (hi : i < ways B p) :
    Parts p (cp0 B (lack p 0) (lack p 1) (lack p 2) (lack p 3) (left p) i) (cp1 B (lack p 0) (lack p 1) (lack p 2) (lack p 3) (left p) i) (cp2 B (lack p 0) (lack p 1) (lack p 2) (lack p 3) (left p) i) := by
  obtain ⟨a, b, c, _⟩ := cp_spec P (left_ct hp) hi
  exact ⟨a, b, c⟩
theorem complete_right {B : Nat → Nat → Nat} (P : Pas B) {p : Nat → Nat} (hp : Pd p) {i : Nat} (hi : i < ways B p) : Rd (complete B p i) ∧ In p (complete B p i) :=
  comp_right hp (complete_parts P hp hi)
theorem index_lt {B : Nat → Nat → Nat} (P : Pas B) {p d : Nat → Nat} (hp : Pd p) (hd : Rd d) (h : In p d) : index B p d < ways B p := by
  obtain ⟨q, _⟩ := parts_of hp hd h
  exact ix4_lt P (left_ct hp) q.p0 q.p1 q.p2
theorem index_complete {B : Nat → Nat → Nat} (P : Pas B) {p : Nat → Nat} (hp : Pd p) {i : Nat} (hi : i < ways B p) : index B p (complete B p i) = i := by
  obtain ⟨_, _, _, e⟩ := cp_spec P (left_ct hp) hi
  unfold index complete
  simp only [comp, Nat.add_sub_cancel_left]
  exact e
theorem complete_index {B : Nat → Nat → Nat} (P : Pas B) {p d : Nat → Nat} (hp : Pd p) (hd : Rd d) (h : In p d) (i : Nat) (hi : i < 4) : complete B p (index B p d) i = d i := by
  obtain ⟨q, e⟩ := parts_of hp hd h
  have l := index_lt P hp hd h
  obtain ⟨a, b, c, f⟩ := cp_spec P (left_ct hp) l
  obtain ⟨x, y, z⟩ := ix4_inj P (left_ct hp) a b c q.p0 q.p1 q.p2 f
  unfold complete
  rw [x, y, z]
  exact e i hi
/-- A greater number has a later completion: by the masks of North, East and South. -/
theorem complete_mono {B : Nat → Nat → Nat} (P : Pas B) {p : Nat → Nat} (hp : Pd p) {i j : Nat} (hi : i < ways B p) (hj : j < ways B p) (l : i < j) :
    complete B p i 0 < complete B p j 0 ∨ (complete B p i 0 = complete B p j 0 ∧ (complete B p i 1 < complete B p j 1 ∨ (complete B p i 1 = complete B p j 1 ∧ complete B p i 2 < complete B p j 2))) := by
  have := cp_mono P (left_ct hp) hi hj l
  unfold complete
  simp only [comp]
  omega
end Go.Proofs.DB

/-! DB5 -/
namespace Go.Proofs.DB

theorem sep_inj {s : UInt8} : ∀ (a b x y : List UInt8), s ∉ a → s ∉ b → a ++ s :: x = b ++ s :: y → a = b ∧ x = y
  | [], [], x, y, _, _, h => ⟨rfl, by simpa using h⟩
  | [], b :: bs, x, y, _, hb, h => by
    simp only [List.nil_append, List.cons_append, List.cons.injEq] at h
    exact absurd (by rw [h.1]; exact List.mem_cons_self) hb
  | a :: as, [], x, y, ha, _, h => by
    simp only [List.nil_append, List.cons_append, List.cons.injEq] at h
    exact absurd (by rw [h.1]; exact List.mem_cons_self) ha
  | a :: as, b :: bs, x, y, ha, hb, h => by
    simp only [List.cons_append, List.cons.injEq] at h
    obtain ⟨e, f⟩ := sep_inj as bs x y (fun m => ha (List.mem_cons_of_mem _ m)) (fun m => hb (List.mem_cons_of_mem _ m)) h.2
    exact ⟨by rw [h.1, e], f⟩
/-- Four texts with a sign between two that none of them has. -/
def four (s : UInt8) (t : Nat → List UInt8) : List UInt8 := t 0 ++ s :: (t 1 ++ s :: (t 2 ++ s :: t 3))
theorem four_inj {s : UInt8} {t u : Nat → List UInt8} (ht : ∀ i, i < 4 → s ∉ t i) (hu : ∀ i, i < 4 → s ∉ u i) (h : four s t = four s u) : ∀ i, i < 4 → t i = u i := by
  obtain ⟨e0, h⟩ := sep_inj _ _ _ _ (ht 0 (by decide)) (hu 0 (by decide)) h
  obtain ⟨e1, h⟩ := sep_inj _ _ _ _ (ht 1 (by decide)) (hu 1 (by decide)) h
  obtain ⟨e2, e3⟩ := sep_inj _ _ _ _ (ht 2 (by decide)) (hu 2 (by decide)) h
  intro i hi
  match i, hi with
  | 0, _ => exact e0
  | 1, _ => exact e1
  | 2, _ => exact e2
  | 3, _ => exact e3
/-- One bit more. -/
theorem ct_one (c : Nat) : ∀ n, ct (2 ^ c) n = if c < n then 1 else 0
  | 0 => rfl
  | n + 1 => by
    have ih := ct_one c n
    show ct (2 ^ c) n + 2 ^ c / 2 ^ n % 2 = _
    rw [ih]
    rcases Nat.lt_trichotomy c n with l | e | l
    · rw [if_pos l, if_pos (by omega), Nat.div_eq_of_lt (Nat.pow_lt_pow_right (by decide) l)]
    · subst e
      rw [if_neg (by omega), if_pos (by omega), Nat.div_self (Nat.pow_pos (by decide))]
    · rw [if_neg (by omega), if_neg (by omega), Nat.pow_div (by omega) (by decide)]
      obtain ⟨d, hd⟩ : ∃ d, c - n = d + 1 := ⟨c - n - 1, by omega⟩
      rw [hd, Nat.pow_succ]
      omega
end Go.Proofs.DB

/-! DB6 -/
namespace Go.Proofs.DB

theorem bt_pow (c j : Nat) : bt (2 ^ c) j = if j = c then 1 else 0 := by
  unfold bt
  rcases Nat.lt_trichotomy c j with l | e | l
  · rw [if_neg (by omega), Nat.div_eq_of_lt (Nat.pow_lt_pow_right (by decide) l)]
  · subst e
    rw [if_pos rfl, Nat.div_self (Nat.pow_pos (by decide))]
  · rw [if_neg (by omega), Nat.pow_div (by omega) (by decide)]
    obtain ⟨d, hd⟩ : ∃ d, c - j = d + 1 := ⟨c - j - 1, by omega⟩
    rw [hd, Nat.pow_succ]
    omega
theorem dj_pow {a c : Nat} (h : bt a c = 0) : Dj a (2 ^ c) := fun j => by
  rw [bt_pow]
  have := bt_lt2 a j
  by_cases e : j = c
  · subst e; rw [if_pos rfl]; omega
  · rw [if_neg e]; omega
/-- The seat s gets x. -/
def put (p : Nat → Nat) (s x : Nat) : Nat → Nat := fun i => if i = s then p i + x else p i
theorem put_at (p : Nat → Nat) (s x : Nat) : put p s x s = p s + x := if_pos rfl
theorem put_other (p : Nat → Nat) {s x i : Nat} (h : i ≠ s) : put p s x i = p i := if_neg h
theorem left_none {p : Nat → Nat} (hp : Pd p) {c : Nat} (hc : c < 52) (hl : bt (left p) c = 1) (i : Nat) (hi : i < 4) : bt (p i) c = 0 := by
  have e := left_bit hp c hc
  rw [hp.bit] at e
  match i, hi with
  | 0, _ => omega
  | 1, _ => omega
  | 2, _ => omega
  | 3, _ => omega
theorem put_ct {p : Nat → Nat} (hp : Pd p) {c : Nat} (hc : c < 52) (hl : bt (left p) c = 1) (s : Nat) (hs : s < 4) : ct (p s + 2 ^ c) 52 = ct (p s) 52 + 1 := by
  rw [ct_add (dj_pow (left_none hp hc hl s hs)), ct_one, if_pos hc]
theorem put_pd {p : Nat → Nat} (hp : Pd p) {c : Nat} (hc : c < 52) (hl : bt (left p) c = 1) (s : Nat) (hs : s < 4) (hr : 0 < lack p s) : Pd (put p s (2 ^ c)) := by
  have c2 : 2 ^ c < 2 ^ 52 := Nat.pow_lt_pow_right (by decide) hc
  have z := left_none hp hc hl
  refine ⟨fun i hi => ?_, fun i hi => ?_, fun i j hij hj b => ?_⟩
  · by_cases e : i = s
    · subst e; rw [put_at]; exact add_lt52 (dj_pow (z i hi)) (hp.lt i hi) c2
    · rw [put_other p e]; exact hp.lt i hi
  · by_cases e : i = s
    · subst e
      rw [put_at, put_ct hp hc hl i hi]
      unfold lack at hr
      omega
    · rw [put_other p e]; exact hp.few i hi
  · have d := hp.dj i j hij hj b
    have zi := z i (by omega)
    have zj := z j hj
    by_cases e : i = s
    · subst e
      rw [put_at, put_other p (by omega), bt_add b (dj_pow zi), bt_pow]
      by_cases f : b = c
      · subst f; rw [if_pos rfl]; omega
      · rw [if_neg f]; omega
    · by_cases e2 : j = s
      · subst e2
        rw [put_at, put_other p e, bt_add b (dj_pow zj), bt_pow]
        by_cases f : b = c
        · subst f; rw [if_pos rfl]; omega
        · rw [if_neg f]; omega
      · rw [put_other p e, put_other p e2]; exact d
/-- A hand of 13 cards has no room. -/
theorem put_no {p : Nat → Nat} (hp : Pd p) {c : Nat} (hc : c < 52) (hl : bt (left p) c = 1) (s : Nat) (hs : s < 4) (hr : lack p s = 0) : ¬ Pd (put p s (2 ^ c)) := fun h => by
  have f := h.few s hs
  rw [put_at, put_ct hp hc hl s hs] at f
  have := hp.few s hs
  unfold lack at hr
  omega
theorem put_lack {p : Nat → Nat} (hp : Pd p) {c : Nat} (hc : c < 52) (hl : bt (left p) c = 1) (s : Nat) (hs : s < 4) (i : Nat) : lack (put p s (2 ^ c)) i = if i = s then lack p i - 1 else lack p i := by
  unfold lack
  by_cases e : i = s
  · subst e
    rw [put_at, put_ct hp hc hl i hs, if_pos rfl]
    omega
  · rw [put_other p e, if_neg e]
theorem ct_pos_of_bit {x c : Nat} : ∀ n, c < n → bt x c = 1 → 0 < ct x n
  | n + 1, h, b => by
    show 0 < ct x n + x / 2 ^ n % 2
    by_cases e : c = n
    · subst e; unfold bt at b; omega
    · have := ct_pos_of_bit n (by omega) b; omega
/-- Of a card that is left: the completions with it in the hands of the four seats add up to all. -/
theorem ways_sum {B : Nat → Nat → Nat} (P : Pas B) {p : Nat → Nat} (hp : Pd p) {c : Nat} (hc : c < 52) (hl : bt (left p) c = 1) :
    (if lack p 0 = 0 then 0 else ways B (put p 0 (2 ^ c))) + (if lack p 1 = 0 then 0 else ways B (put p 1 (2 ^ c))) + (if lack p 2 = 0 then 0 else ways B (put p 2 (2 ^ c))) + (if lack p 3 = 0 then 0 else ways B (put p 3 (2 ^ c))) = ways B p := by
  have pos : 0 < lack p 0 + (lack p 1 + (lack p 2 + lack p 3)) := by
    rw [← left_ct hp]
    exact ct_pos_of_bit 52 hc hl
  have L := fun s hs i => put_lack hp hc hl s hs i
  unfold ways
  rw [W4_sum P _ _ _ _ pos]
  simp only [L 0 (by decide), L 1 (by decide), L 2 (by decide), L 3 (by decide)]
  have key : ∀ (f : Nat → Nat) (k : Nat), (if k = 0 then 0 else f (k - 1)) = less f k := fun f k => by
    match k with
    | 0 => rfl
    | k + 1 => rfl
  rw [← key (fun k => W4 B k (lack p 1) (lack p 2) (lack p 3)), ← key (fun k => W4 B (lack p 0) k (lack p 2) (lack p 3)), ← key (fun k => W4 B (lack p 0) (lack p 1) k (lack p 3)), ← key (fun k => W4 B (lack p 0) (lack p 1) (lack p 2) k)]
  rfl
theorem lack_right {d : Nat → Nat} (h : Rd d) (i : Nat) (hi : i < 4) : lack d i = 0 := by
  unfold lack
  rw [h.all i hi]
/-- A right deal has one completion, itself. -/
theorem ways_right {B : Nat → Nat → Nat} (P : Pas B) {d : Nat → Nat} (h : Rd d) : ways B d = 1 := by
  unfold ways
  rw [lack_right h 0 (by decide), lack_right h 1 (by decide), lack_right h 2 (by decide), lack_right h 3 (by decide)]
  exact W4_one P
theorem complete_self {B : Nat → Nat → Nat} (P : Pas B) {d : Nat → Nat} (h : Rd d) (i : Nat) (hi : i < 4) : complete B d 0 i = d i := by
  have l := index_lt P h.toPd h (fun _ _ _ => Nat.le_refl _)
  rw [ways_right P h] at l
  have e := complete_index P h.toPd h (fun _ _ _ => Nat.le_refl _) i hi
  rw [show index B d d = 0 by omega] at e
  exact e
end Go.Proofs.DB

/-! DB7 -/
namespace Go.Proofs.DB

/-- The cards of L below c, from the lowest up. -/
def lst (L : Nat) : Nat → List Nat
  | 0 => []
  | c + 1 => if bt L c = 1 then lst L c ++ [c] else lst L c
theorem lst_length (L : Nat) : ∀ c, (lst L c).length = ct L c
  | 0 => rfl
  | c + 1 => by
    have ih := lst_length L c
    have b := bt_lt2 L c
    show (if bt L c = 1 then lst L c ++ [c] else lst L c).length = ct L c + bt L c
    by_cases h : bt L c = 1
    · rw [if_pos h, List.length_append, ih, h]; rfl
    · rw [if_neg h, ih]; omega
theorem lst_lt (L : Nat) : ∀ c x, x ∈ lst L c → x < c ∧ bt L x = 1
  | c + 1, x, h => by
    have h : x ∈ (if bt L c = 1 then lst L c ++ [c] else lst L c) := h
    by_cases b : bt L c = 1
    · rw [if_pos b, List.mem_append, List.mem_singleton] at h
      rcases h with h | rfl
      · have := lst_lt L c x h
        exact ⟨by omega, this.2⟩
      · exact ⟨by omega, b⟩
    · rw [if_neg b] at h
      have := lst_lt L c x h
      exact ⟨by omega, this.2⟩
theorem lst_pre (L : Nat) (c : Nat) : ∀ d, ∃ r, lst L (c + d) = lst L c ++ r
  | 0 => ⟨[], by simp⟩
  | d + 1 => by
    obtain ⟨r, e⟩ := lst_pre L c d
    show ∃ r, (if bt L (c + d) = 1 then lst L (c + d) ++ [c + d] else lst L (c + d)) = _
    by_cases b : bt L (c + d) = 1
    · rw [if_pos b, e]; exact ⟨r ++ [c + d], by simp⟩
    · rw [if_neg b, e]; exact ⟨r, rfl⟩
/-- The card c is the one with as many below it as L has. -/
theorem lst_at (L : Nat) {c n : Nat} (h : c < n) (b : bt L c = 1) : (lst L n)[ct L c]? = some c := by
  obtain ⟨r, e⟩ := lst_pre L (c + 1) (n - c - 1)
  rw [show c + 1 + (n - c - 1) = n by omega] at e
  have f : lst L (c + 1) = lst L c ++ [c] := if_pos b
  rw [e, f, List.append_assoc, ← lst_length L c, List.getElem?_append_right (Nat.le_refl _)]
  simp
def ctL (x : Nat) (e : Nat → Nat) : Nat → Nat
  | 0 => 0
  | i + 1 => ctL x e i + bt x (e i)
def rkL (B : Nat → Nat → Nat) (x : Nat) (e : Nat → Nat) : Nat → Nat
  | 0 => 0
  | i + 1 => rkL B x e i + if bt x (e i) = 1 then B i (ctL x e (i + 1)) else 0
def unL (B : Nat → Nat → Nat) (e : Nat → Nat) : Nat → Nat → Nat → Nat
  | 0, _, _ => 0
  | i + 1, k, o => if o < B i k then unL B e i k o else 2 ^ e i + unL B e i (k - 1) (o - B i k)
/-- e counts the cards of L. -/
def Cnt (L : Nat) (e : Nat → Nat) : Prop := ∀ c, c < 52 → bt L c = 1 → e (ct L c) = c
theorem cnt_lst (L : Nat) : Cnt L fun i => ((lst L 52)[i]?).getD 0 := fun c hc b => by
  show ((lst L 52)[ct L c]?).getD 0 = c
  rw [lst_at L hc b]
  rfl
theorem ctL_eq {L x : Nat} {e : Nat → Nat} (h : Cnt L e) (s : Sb L x 52) : ∀ c, c ≤ 52 → ctL x e (ct L c) = ct x c
  | 0, _ => rfl
  | c + 1, hc => by
    have ih := ctL_eq h s c (by omega)
    have b := bt_lt2 L c
    have sc := s c (by omega)
    show ctL x e (ct L c + bt L c) = ct x c + bt x c
    by_cases l : bt L c = 1
    · rw [l]
      show ctL x e (ct L c) + bt x (e (ct L c)) = _
      rw [h c (by omega) l, ih]
    · have z : bt L c = 0 := by omega
      have zx : bt x c = 0 := by unfold bt at *; omega
      rw [z, zx]
      exact ih
theorem rkL_eq {B : Nat → Nat → Nat} {L x : Nat} {e : Nat → Nat} (h : Cnt L e) (s : Sb L x 52) : ∀ c, c ≤ 52 → rkL B x e (ct L c) = rk B L x c
  | 0, _ => rfl
  | c + 1, hc => by
    have ih := rkL_eq (B := B) h s c (by omega)
    have b := bt_lt2 L c
    have sc := s c (by omega)
    have ce := ctL_eq h s (c + 1) hc
    have ce : ctL x e (ct L c + bt L c) = ct x (c + 1) := ce
    show rkL B x e (ct L c + bt L c) = rk B L x c + if bt x c = 1 then B (ct L c) (ct x (c + 1)) else 0
    by_cases l : bt L c = 1
    · rw [l] at ce ⊢
      show rkL B x e (ct L c) + (if bt x (e (ct L c)) = 1 then B (ct L c) (ctL x e (ct L c + 1)) else 0) = _
      rw [h c (by omega) l, ih, ce]
    · have z : bt L c = 0 := by omega
      have zx : bt x c = 0 := by unfold bt at *; omega
      rw [z, if_neg (by omega)]
      exact ih
theorem unL_eq {B : Nat → Nat → Nat} {L : Nat} {e : Nat → Nat} (h : Cnt L e) : ∀ c k o, c ≤ 52 → unL B e (ct L c) k o = un B L c k o
  | 0, _, _, _ => rfl
  | c + 1, k, o, hc => by
    have b := bt_lt2 L c
    show unL B e (ct L c + bt L c) k o = if bt L c = 1 then (if o < B (ct L c) k then un B L c k o else 2 ^ c + un B L c (k - 1) (o - B (ct L c) k)) else un B L c k o
    by_cases l : bt L c = 1
    · rw [l, if_pos rfl]
      show (if o < B (ct L c) k then unL B e (ct L c) k o else 2 ^ e (ct L c) + unL B e (ct L c) (k - 1) (o - B (ct L c) k)) = _
      rw [h c (by omega) l, unL_eq h c k o (by omega), unL_eq h c (k - 1) (o - B (ct L c) k) (by omega)]
    · have z : bt L c = 0 := by omega
      rw [z, if_neg (by omega)]
      exact unL_eq h c k o (by omega)
/-- Of no cards there is one choice. -/
theorem un_none {B : Nat → Nat → Nat} (P : Pas B) (L : Nat) : ∀ c, un B L c 0 0 = 0
  | 0 => rfl
  | c + 1 => by
    have ih := un_none P L c
    have z : (0 : Nat) < B (ct L c) 0 := by rw [P.zero]; exact Nat.one_pos
    unfold un
    rw [if_pos z, ih]
    exact ite_self _
theorem unL_none {B : Nat → Nat → Nat} (P : Pas B) (e : Nat → Nat) : ∀ i, unL B e i 0 0 = 0
  | 0 => rfl
  | i + 1 => by
    unfold unL
    rw [P.zero, if_pos (by decide)]
    exact unL_none P e i
/-- Turned by one. -/
def turn1 (p : Nat → Nat) : Nat → Nat := fun i => p ((i + 3) % 4)
theorem turn1_pd {p : Nat → Nat} (h : Pd p) : Pd (turn1 p) := by
  refine ⟨fun i _ => h.lt _ (Nat.mod_lt _ (by decide)), fun i _ => h.few _ (Nat.mod_lt _ (by decide)), fun i j hij hj => ?_⟩
  match i, j, hij, hj with
  | 0, 1, _, _ => exact (h.dj 0 3 (by decide) (by decide)).symm
  | 0, 2, _, _ => exact (h.dj 1 3 (by decide) (by decide)).symm
  | 0, 3, _, _ => exact (h.dj 2 3 (by decide) (by decide)).symm
  | 1, 2, _, _ => exact h.dj 0 1 (by decide) (by decide)
  | 1, 3, _, _ => exact h.dj 0 2 (by decide) (by decide)
  | 2, 3, _, _ => exact h.dj 1 2 (by decide) (by decide)
  | i + 3, j, a, b => omega
theorem ways_turn1 {B : Nat → Nat → Nat} (P : Pas B) (p : Nat → Nat) : ways B (turn1 p) = ways B p := W4_turn P (lack p 0) (lack p 1) (lack p 2) (lack p 3)
/-- Turned by k. -/
def turnN (p : Nat → Nat) : Nat → Nat → Nat
  | 0 => p
  | k + 1 => turn1 (turnN p k)
theorem ways_turnN {B : Nat → Nat → Nat} (P : Pas B) (p : Nat → Nat) : ∀ k, ways B (turnN p k) = ways B p
  | 0 => rfl
  | k + 1 => (ways_turn1 P _).trans (ways_turnN P p k)
theorem turnN_pd {p : Nat → Nat} (h : Pd p) : ∀ k, Pd (turnN p k)
  | 0 => h
  | k + 1 => turn1_pd (turnN_pd h k)
theorem turnN_at (p : Nat → Nat) : ∀ k i, i < 4 → turnN p k i = p ((i + 3 * k) % 4)
  | 0, i, h => by show p i = _; rw [Nat.mul_zero, Nat.add_zero, Nat.mod_eq_of_lt h]
  | k + 1, i, h => by
    show turnN p k ((i + 3) % 4) = _
    rw [turnN_at p k _ (Nat.mod_lt _ (by decide))]
    congr 1
    omega
end Go.Proofs.DB

/-! DB8 -/
namespace Go.Proofs.DB

/-- An order of the cards: no card twice. -/
structure Ord (f : Nat → Nat) : Prop where
  lt : ∀ j, j < 52 → f j < 52
  inj : ∀ i j, i < 52 → j < 52 → f i = f j → i = j
def xch (f : Nat → Nat) (i k : Nat) : Nat → Nat := fun j => if j = k then f i else if j = i then f k else f j
theorem Ord.id : Ord fun j => j := ⟨fun _ h => h, fun _ _ _ _ h => h⟩
theorem Ord.xch {f : Nat → Nat} (h : Ord f) {i k : Nat} (hi : i < 52) (hk : k < 52) : Ord (xch f i k) := by
  refine ⟨fun j hj => ?_, fun a b ha hb e => ?_⟩
  · unfold Go.Proofs.DB.xch
    split
    · exact h.lt i hi
    · split
      · exact h.lt k hk
      · exact h.lt j hj
  · have q := fun x y (hx : x < 52) (hy : y < 52) => h.inj x y hx hy
    unfold Go.Proofs.DB.xch at e
    by_cases a1 : a = k <;> by_cases b1 : b = k
    · omega
    · rw [if_pos a1, if_neg b1] at e
      by_cases b2 : b = i
      · rw [if_pos b2] at e; have := q _ _ hi hk e; omega
      · rw [if_neg b2] at e; have := q _ _ hi hb e; omega
    · rw [if_neg a1, if_pos b1] at e
      by_cases a2 : a = i
      · rw [if_pos a2] at e; have := q _ _ hk hi e; omega
      · rw [if_neg a2] at e; have := q _ _ ha hi e; omega
    · rw [if_neg a1, if_neg b1] at e
      by_cases a2 : a = i <;> by_cases b2 : b = i
      · omega
      · rw [if_pos a2, if_neg b2] at e; have := q _ _ hk hb e; omega
      · rw [if_neg a2, if_pos b2] at e; have := q _ _ ha hk e; omega
      · rw [if_neg a2, if_neg b2] at e; exact q _ _ ha hb e
/-- The hand q, behind i cards. -/
def dl (f : Nat → Nat) (q : Nat) : Nat → Nat
  | 0 => 0
  | i + 1 => if i / 13 = q then dl f q i ||| 2 ^ f i else dl f q i
theorem dl_succ (f : Nat → Nat) (q i : Nat) : dl f q (i + 1) = if i / 13 = q then dl f q i ||| 2 ^ f i else dl f q i := rfl
theorem dl_bit (f : Nat → Nat) (q c : Nat) : ∀ i, bt (dl f q i) c = 1 ↔ ∃ j, j < i ∧ j / 13 = q ∧ f j = c
  | 0 => by simp [dl, bt]
  | i + 1 => by
    have ih := dl_bit f q c i
    unfold dl
    by_cases h : i / 13 = q
    · rw [if_pos h, bt_or, bt_pow]
      have l := bt_lt2 (dl f q i) c
      constructor
      · intro e
        by_cases a : c = f i
        · exact ⟨i, by omega, h, a.symm⟩
        · rw [if_neg a] at e
          obtain ⟨j, h1, h2, h3⟩ := ih.1 (by omega)
          exact ⟨j, by omega, h2, h3⟩
      · rintro ⟨j, h1, h2, h3⟩
        by_cases e : j = i
        · subst e; rw [if_pos h3.symm]; omega
        · have := ih.2 ⟨j, by omega, h2, h3⟩
          split <;> omega
    · rw [if_neg h, ih]
      constructor
      · rintro ⟨j, h1, h2, h3⟩; exact ⟨j, by omega, h2, h3⟩
      · rintro ⟨j, h1, h2, h3⟩
        by_cases e : j = i
        · subst e; exact absurd h2 h
        · exact ⟨j, by omega, h2, h3⟩
theorem dl_lt {f : Nat → Nat} (h : Ord f) (q : Nat) : ∀ i, i ≤ 52 → dl f q i < 4503599627370496
  | 0, _ => by simp [dl]
  | i + 1, hi => by
    have ih := dl_lt h q i (by omega)
    unfold dl
    split
    · exact Nat.or_lt_two_pow (n := 52) ih (Nat.pow_lt_pow_right (by decide) (h.lt i (by omega)))
    · exact ih
theorem dl_ct {f : Nat → Nat} (h : Ord f) (q : Nat) : ∀ i, i ≤ 52 → ct (dl f q i) 52 = min (i - 13 * q) 13
  | 0, _ => by rw [show dl f q 0 = 0 from rfl, show ct 0 52 = 0 by decide +kernel]; omega
  | i + 1, hi => by
    have ih := dl_ct h q i (by omega)
    unfold dl
    by_cases e : i / 13 = q
    · have b0 : bt (dl f q i) (f i) = 0 := by
        have l := bt_lt2 (dl f q i) (f i)
        by_cases hb : bt (dl f q i) (f i) = 1
        · obtain ⟨j, h1, _, h3⟩ := (dl_bit f q _ i).1 hb
          have := h.inj j i (by omega) (by omega) h3
          omega
        · omega
      rw [if_pos e, or_eq_add (dj_pow b0), ct_add (dj_pow b0), ih, ct_one, if_pos (h.lt i (by omega))]
      omega
    · rw [if_neg e, ih]
      omega
/-- It is a right deal. -/
theorem dl_rd {f : Nat → Nat} (h : Ord f) : Rd fun q => dl f q 52 := by
  refine ⟨⟨fun i _ => dl_lt h i 52 (Nat.le_refl _), fun i _ => ?_, fun p q hpq _ c => ?_⟩, fun i hi => ?_⟩
  · show ct (dl f i 52) 52 ≤ 13
    rw [dl_ct h i 52 (Nat.le_refl _)]; omega
  · show bt (dl f p 52) c + bt (dl f q 52) c ≤ 1
    have l1 := bt_lt2 (dl f p 52) c
    have l2 := bt_lt2 (dl f q 52) c
    by_cases a : bt (dl f p 52) c = 1
    · by_cases b : bt (dl f q 52) c = 1
      · obtain ⟨i, a1, a2, a3⟩ := (dl_bit f p c 52).1 a
        obtain ⟨j, b1, b2, b3⟩ := (dl_bit f q c 52).1 b
        have := h.inj i j a1 b1 (a3.trans b3.symm)
        subst this
        omega
      · omega
    · omega
  · show ct (dl f i 52) 52 = 13
    rw [dl_ct h i 52 (Nat.le_refl _)]
    match i, hi with
    | 0, _ => rfl
    | 1, _ => rfl
    | 2, _ => rfl
    | 3, _ => rfl
/-- Without some cards: a partial deal. -/
theorem bt_mod (m j : Nat) (hj : j < 52) : bt (m % 2 ^ 52) j = bt m j := by
  unfold bt
  have e : (2 : Nat) ^ 52 = 2 ^ j * 2 ^ (52 - j) := by rw [← Nat.pow_add]; congr 1; omega
  obtain ⟨d, hd⟩ : ∃ d, 52 - j = d + 1 := ⟨51 - j, by omega⟩
  rw [e, Nat.mod_mul_right_div_self, hd, Nat.pow_succ]
  exact Nat.mod_mul_left_mod _ _ _
/-- a without what b has. -/
def wo (a b : Nat) : Nat := a - (a &&& b)
theorem bt_and_le (a b j : Nat) : bt (a &&& b) j ≤ bt a j := by rw [bt_and]; omega
theorem bt_subset {a b : Nat} (_ha : a < 2 ^ 64) (h : ∀ j, bt b j ≤ bt a j) : ∀ j, bt (a - b) j = bt a j - bt b j := by
  have hb : Dj b (a ^^^ b) := fun j => by
    rw [bt_xor]
    have := h j; have := bt_lt2 a j; have := bt_lt2 b j
    omega
  have e : b + (a ^^^ b) = a := bt_ext fun j => by
    rw [bt_add j hb, bt_xor]
    have := h j; have := bt_lt2 a j; have := bt_lt2 b j
    omega
  intro j
  rw [show a - b = a ^^^ b by omega, bt_xor]
  have := h j; have := bt_lt2 a j; have := bt_lt2 b j
  omega
theorem bt_wo {a : Nat} (b : Nat) (ha : a < 2 ^ 64) (j : Nat) : bt (wo a b) j = bt a j - bt b j := by
  unfold wo
  rw [bt_subset ha (bt_and_le a b), bt_and]
  have := bt_lt2 a j; have := bt_lt2 b j
  omega
theorem ct_mono {a b : Nat} (h : ∀ j, bt a j ≤ bt b j) : ∀ n, ct a n ≤ ct b n
  | 0 => Nat.le_refl _
  | n + 1 => by
    have ih := ct_mono h n
    have := h n
    show ct a n + bt a n ≤ ct b n + bt b n
    omega
theorem torn_pd {d : Nat → Nat} (h : Pd d) (out : Nat) : Pd fun q => wo (d q) out := by
  have hl : ∀ i, i < 4 → d i < 2 ^ 64 := fun i hi => Nat.lt_of_lt_of_le (h.lt i hi) (by decide)
  refine ⟨fun i hi => Nat.lt_of_le_of_lt (Nat.sub_le _ _) (h.lt i hi), fun i hi => ?_, fun i j hij hj c => ?_⟩
  · refine Nat.le_trans (ct_mono (fun j => ?_) 52) (h.few i hi)
    rw [bt_wo _ (hl i hi)]; omega
  · show bt (wo (d i) out) c + bt (wo (d j) out) c ≤ 1
    rw [bt_wo _ (hl i (by omega)), bt_wo _ (hl j hj)]
    have := h.dj i j hij hj c
    omega
theorem torn_in {d : Nat → Nat} (h : Pd d) (out : Nat) : In (fun q => wo (d q) out) d := fun i hi j => by
  show bt (wo (d i) out) j ≤ bt (d i) j
  rw [bt_wo _ (Nat.lt_of_lt_of_le (h.lt i hi) (by decide))]; omega
end Go.Proofs.DB

/-! DB9 -/
namespace Go.Proofs.DB

theorem bt_top (n j : Nat) (h : j < n) : bt (2 ^ n - 1) j = 1 := by
  have : (2 ^ n - 1).testBit j = true := by rw [Nat.testBit_two_pow_sub_one]; exact decide_eq_true h
  rw [bt_testBit] at this
  exact of_decide_eq_true this
theorem and_not_wo {a b : Nat} (ha : a < 18446744073709551616) (hb : b < 18446744073709551616) : a &&& (18446744073709551615 - b) = wo a b := bt_ext fun j => by
  rw [bt_wo b ha, bt_and]
  by_cases hj : j < 64
  · have e : bt (18446744073709551615 - b) j = 1 - bt b j := by
      have := bt_subset (a := 18446744073709551615) (b := b) (by decide) (fun i => by
        by_cases hi : i < 64
        · rw [show (18446744073709551615 : Nat) = 2 ^ 64 - 1 from rfl, bt_top 64 i hi]; exact bt_lt2 b i
        · rw [bt_high (x := b) (c := 64) hb (by omega)]; omega) j
      rw [this, show (18446744073709551615 : Nat) = 2 ^ 64 - 1 from rfl, bt_top 64 j hj]
    rw [e]
    have := bt_lt2 a j; have := bt_lt2 b j
    omega
  · rw [bt_high (x := a) (c := 64) ha (by omega)]; omega
theorem wo_sub {a b : Nat} (h : ∀ j, bt b j ≤ bt a j) : wo a b = a - b := by
  unfold wo
  rw [show a &&& b = b from bt_ext fun j => by rw [bt_and]; have := h j; omega]
theorem wo_le (a b : Nat) : wo a b ≤ a := Nat.sub_le _ _
/-- What the hands before seat i hold. -/
def hl (p : Nat → Nat) : Nat → Nat
  | 0 => 0
  | i + 1 => hl p i ||| p i
def Good (p : Nat → Nat) (i : Nat) : Prop := ∀ j, j < i → p j < 2 ^ 52 ∧ ct (p j) 52 ≤ 13 ∧ Dj (p j) (hl p j)
theorem hl_bit (p : Nat → Nat) (c : Nat) : ∀ j i, i < j → bt (p i) c ≤ bt (hl p j) c
  | 0, i, h => by omega
  | j + 1, i, h => by
    unfold hl
    rw [bt_or]
    by_cases e : i = j
    · subst e; omega
    · have := hl_bit p c j i (by omega); omega
theorem hl_none (p : Nat → Nat) (c : Nat) : ∀ j, (∀ i, i < j → bt (p i) c = 0) → bt (hl p j) c = 0
  | 0, _ => by simp [hl, bt]
  | j + 1, h => by
    unfold hl
    rw [bt_or, hl_none p c j (fun i hi => h i (by omega)), h j (by omega)]
    rfl
theorem hl_lt (p : Nat → Nat) (n : Nat) : ∀ j, (∀ i, i < j → p i < 2 ^ n) → hl p j < 2 ^ n
  | 0, _ => Nat.pow_pos (by decide)
  | j + 1, h => Nat.or_lt_two_pow (hl_lt p n j fun i hi => h i (by omega)) (h j (by omega))
theorem good_pd {p : Nat → Nat} (h : Good p 4) : Pd p := by
  refine ⟨fun i hi => (h i hi).1, fun i hi => (h i hi).2.1, fun i j hij hj c => ?_⟩
  have := (h j hj).2.2 c
  have := hl_bit p c j i hij
  omega
theorem pd_good {p : Nat → Nat} (h : Pd p) : Good p 4 := fun j hj => by
  refine ⟨h.lt j hj, h.few j hj, fun c => ?_⟩
  have l := bt_lt2 (p j) c
  have l2 := bt_lt2 (hl p j) c
  by_cases a : bt (p j) c = 1
  · have := hl_none p c j fun i hi => by
      have := h.dj i j hi hj c
      omega
    omega
  · omega
instance (a b : Nat) : Decidable (Dj a b) := decidable_of_iff _ (and_zero_iff a b)
instance (p : Nat → Nat) (i : Nat) : Decidable (Good p i) := by unfold Good; infer_instance
instance (p : Nat → Nat) : Decidable (Pd p) := decidable_of_iff (Good p 4) ⟨good_pd, pd_good⟩
theorem good_next {p : Nat → Nat} {i : Nat} (h : Good p i) (a : p i < 2 ^ 52) (b : ct (p i) 52 ≤ 13) (c : p i &&& hl p i = 0) : Good p (i + 1) := fun j hj => by
  by_cases e : j = i
  · subst e; exact ⟨a, b, (and_zero_iff _ _).1 c⟩
  · exact h j (by omega)
theorem not_pd {p : Nat → Nat} {i : Nat} (hi : i < 4) (h : ¬ (p i < 2 ^ 52 ∧ ct (p i) 52 ≤ 13 ∧ p i &&& hl p i = 0)) : ¬ Pd p := fun q => by
  obtain ⟨a, b, c⟩ := pd_good q i hi
  exact h ⟨a, b, (and_zero_iff _ _).2 c⟩
/-- What is left when the hands before seat i are taken. -/
def lf (p : Nat → Nat) : Nat → Nat
  | 0 => full
  | i + 1 => wo (lf p i) (p i)
theorem lf_lt (p : Nat → Nat) : ∀ i, lf p i < 2 ^ 52
  | 0 => show full < 2 ^ 52 by decide
  | i + 1 => Nat.lt_of_le_of_lt (wo_le _ _) (lf_lt p i)
theorem lf_bit (p : Nat → Nat) (c : Nat) (hc : c < 52) : ∀ i, bt (lf p i) c = 1 - bt (hl p i) c
  | 0 => by
    rw [show hl p 0 = 0 from rfl, show bt 0 c = 0 by simp [bt], show lf p 0 = full from rfl]
    exact full_bit ⟨c, hc⟩
  | i + 1 => by
    show bt (wo (lf p i) (p i)) c = 1 - bt (hl p i ||| p i) c
    rw [bt_wo _ (Nat.lt_of_lt_of_le (lf_lt p i) (by decide)), lf_bit p c hc i, bt_or]
    have := bt_lt2 (hl p i) c; have := bt_lt2 (p i) c
    omega
theorem lf_left {p : Nat → Nat} (h : Pd p) : lf p 4 = left p := bt_ext_lt (lf_lt p 4) (left_lt p) fun c hc => by
  rw [lf_bit p c hc, left_bit h c hc, h.bit]
  have d01 := h.dj 0 1 (by decide) (by decide) c
  have d02 := h.dj 0 2 (by decide) (by decide) c
  have d03 := h.dj 0 3 (by decide) (by decide) c
  have d12 := h.dj 1 2 (by decide) (by decide) c
  have d13 := h.dj 1 3 (by decide) (by decide) c
  have d23 := h.dj 2 3 (by decide) (by decide) c
  show 1 - bt ((((0 ||| p 0) ||| p 1) ||| p 2) ||| p 3) c = _
  simp only [bt_or, show bt 0 c = 0 by simp [bt]]
  omega
theorem right_iff {p : Nat → Nat} (h : Pd p) : left p = 0 ↔ Rd p := by
  have c := left_ct h
  constructor
  · intro e
    rw [e, show ct 0 52 = 0 by decide +kernel] at c
    refine ⟨h, fun i hi => ?_⟩
    have := h.few i hi
    have l : lack p i = 0 := by
      match i, hi with
      | 0, _ => omega
      | 1, _ => omega
      | 2, _ => omega
      | 3, _ => omega
    unfold lack at l
    omega
  · intro r
    refine bt_ext_lt (left_lt p) (by decide) fun j hj => ?_
    rw [left_bit h j hj, h.bit, r.one j hj]
    simp [bt]
instance (p : Nat → Nat) : Decidable (Rd p) := decidable_of_iff (Pd p ∧ ∀ i, i < 4 → ct (p i) 52 = 13) ⟨fun h => ⟨h.1, h.2⟩, fun h => ⟨h.toPd, h.all⟩⟩
end Go.Proofs.DB

/-! DB10 -/
namespace Go.Proofs.DB

/-- The greatest bit below c. -/
theorem top_of (L : Nat) : ∀ c, L % 2 ^ c ≠ 0 → ∃ g, g < c ∧ bt L g = 1 ∧ (∀ j, g < j → j < c → bt L j = 0) ∧ L % 2 ^ c = L % 2 ^ g + 2 ^ g
  | 0, h => by simp [Nat.mod_one] at h
  | c + 1, h => by
    have s := low_split L c
    rcases bit01 L c with b | b
    · rw [b, Nat.mul_zero, Nat.add_zero] at s
      obtain ⟨g, h1, h2, h3, h4⟩ := top_of L c (by omega)
      refine ⟨g, by omega, h2, fun j a d => ?_, by omega⟩
      by_cases e : j = c
      · subst e; exact b
      · exact h3 j a (by omega)
    · rw [b, Nat.mul_one] at s
      exact ⟨c, by omega, b, fun j a d => by omega, s⟩
theorem ct_skip (x g : Nat) : ∀ n, (∀ j, g ≤ j → j < g + n → bt x j = 0) → ct x (g + n) = ct x g
  | 0, _ => rfl
  | n + 1, h => by
    have ih := ct_skip x g n fun j a b => h j a (by omega)
    show ct x (g + n) + bt x (g + n) = _
    rw [h (g + n) (by omega) (by omega), ih]; rfl
theorem rk_skip (B : Nat → Nat → Nat) (L x g : Nat) : ∀ n, (∀ j, g ≤ j → j < g + n → bt x j = 0) → rk B L x (g + n) = rk B L x g
  | 0, _ => rfl
  | n + 1, h => by
    have ih := rk_skip B L x g n fun j a b => h j a (by omega)
    have z : x / 2 ^ (g + n) % 2 = 0 := h (g + n) (by omega) (by omega)
    show rk B L x (g + n) + (if x / 2 ^ (g + n) % 2 = 1 then B (ct L (g + n)) (ct x (g + n + 1)) else 0) = _
    rw [if_neg (by omega), ih]; rfl
theorem un_skip (B : Nat → Nat → Nat) (L g k i : Nat) : ∀ n, (∀ j, g ≤ j → j < g + n → bt L j = 0) → un B L (g + n) k i = un B L g k i
  | 0, _ => rfl
  | n + 1, h => by
    have ih := un_skip B L g k i n fun j a b => h j a (by omega)
    have z : L / 2 ^ (g + n) % 2 = 0 := h (g + n) (by omega) (by omega)
    show (if L / 2 ^ (g + n) % 2 = 1 then (if i < B (ct L (g + n)) k then un B L (g + n) k i else 2 ^ (g + n) + un B L (g + n) (k - 1) (i - B (ct L (g + n)) k)) else un B L (g + n) k i) = _
    rw [if_neg (by omega), ih]
theorem none_left {L : Nat} : ∀ c : Nat, L % 2 ^ c = 0 → ∀ j, j < c → bt L j = 0
  | 0, _ => fun j hj => by omega
  | c + 1, h => fun j hj => by
    have s := low_split L c
    have l : L % 2 ^ c < 2 ^ c := Nat.mod_lt _ (Nat.pow_pos (by decide))
    rcases bit01 L c with b | b
    · rw [b, Nat.mul_zero, Nat.add_zero] at s
      by_cases e : j = c
      · subst e; exact b
      · exact none_left c (by omega) j (by omega)
    · rw [b, Nat.mul_one] at s
      have := Nat.pow_pos (n := c) (show 0 < 2 by decide)
      omega
/-- One step down: of the cards. -/
theorem ct_top {L c g : Nat} (hg : g < c) (hb : bt L g = 1) (hn : ∀ j, g < j → j < c → bt L j = 0) : ct L c = ct L g + 1 := by
  have := ct_skip L (g + 1) (c - (g + 1)) fun j a b => hn j (by omega) (by omega)
  rw [show g + 1 + (c - (g + 1)) = c by omega] at this
  rw [this]
  show ct L g + bt L g = _
  rw [hb]
theorem sub_none {L x c g : Nat} (s : Sb L x c) (hn : ∀ j, g < j → j < c → bt L j = 0) : ∀ j, g < j → j < c → bt x j = 0 := fun j a b => by
  have h1 : bt x j ≤ bt L j := s j b
  have h2 := hn j a b
  omega
theorem ctx_top {L x c g : Nat} (s : Sb L x c) (hg : g < c) (hn : ∀ j, g < j → j < c → bt L j = 0) : ct x c = ct x g + bt x g := by
  have := ct_skip x (g + 1) (c - (g + 1)) fun j a b => sub_none s hn j (by omega) (by omega)
  rw [show g + 1 + (c - (g + 1)) = c by omega] at this
  rw [this]
  rfl
theorem rk_top {B : Nat → Nat → Nat} {L x c g : Nat} (s : Sb L x c) (hg : g < c) (hn : ∀ j, g < j → j < c → bt L j = 0) : rk B L x c = rk B L x g + if bt x g = 1 then B (ct L g) (ct x c) else 0 := by
  have := rk_skip B L x (g + 1) (c - (g + 1)) fun j a b => sub_none s hn j (by omega) (by omega)
  rw [show g + 1 + (c - (g + 1)) = c by omega] at this
  rw [this, show ct x c = ct x (g + 1) from ctx_top s hg hn]
  rfl
theorem un_top {B : Nat → Nat → Nat} {L c g : Nat} (k i : Nat) (hg : g < c) (hb : bt L g = 1) (hn : ∀ j, g < j → j < c → bt L j = 0) : un B L c k i = if i < B (ct L g) k then un B L g k i else 2 ^ g + un B L g (k - 1) (i - B (ct L g) k) := by
  have := un_skip B L (g + 1) k i (c - (g + 1)) fun j a b => hn j (by omega) (by omega)
  rw [show g + 1 + (c - (g + 1)) = c by omega] at this
  rw [this]
  have hb : L / 2 ^ g % 2 = 1 := hb
  show (if _ then _ else _) = _
  rw [if_pos hb]
theorem ct_end {L c : Nat} (h : ∀ j, j < c → bt L j = 0) : ct L c = 0 := by
  have := ct_skip L 0 c fun j _ b => h j (by omega)
  rw [Nat.zero_add] at this; exact this
theorem rk_end {B : Nat → Nat → Nat} {L x c : Nat} (s : Sb L x c) (h : ∀ j, j < c → bt L j = 0) : rk B L x c = 0 := by
  have := rk_skip B L x 0 c fun j _ b => by
    have h1 : bt x j ≤ bt L j := s j (by omega)
    have h2 := h j (by omega)
    omega
  rw [Nat.zero_add] at this; exact this
theorem un_end {B : Nat → Nat → Nat} {L c : Nat} (k i : Nat) (h : ∀ j, j < c → bt L j = 0) : un B L c k i = 0 := by
  have := un_skip B L 0 k i c fun j _ b => h j (by omega)
  rw [Nat.zero_add] at this; exact this
/-- The next number stays below the number of the sets. -/
theorem un_room {B : Nat → Nat → Nat} (P : Pas B) {n k i : Nat} (h : i < B (n + 1) k) (hi : ¬ i < B n k) : 1 ≤ k ∧ i - B n k < B n (k - 1) := by
  match k with
  | 0 => rw [P.zero] at h hi; omega
  | k + 1 => rw [P.step] at h; exact ⟨by omega, by rw [Nat.add_sub_cancel]; omega⟩
theorem un_stay {B : Nat → Nat → Nat} {n k i : Nat} (hi : i < B n k) : i < B n k := hi
/-- All that are left: number 0. -/
theorem un_full {B : Nat → Nat → Nat} (P : Pas B) (L : Nat) : ∀ c, un B L c (ct L c) 0 = L % 2 ^ c
  | 0 => by simp [un, Nat.mod_one]
  | c + 1 => by
    have ih := un_full P L c
    rw [low_split]
    unfold un
    rcases bit01 L c with b | b
    · rw [if_neg (by omega), show ct L (c + 1) = ct L c by show ct L c + L / 2 ^ c % 2 = _; omega, ih, b]; omega
    · have e : ct L (c + 1) = ct L c + 1 := by show ct L c + L / 2 ^ c % 2 = _; omega
      rw [if_pos b, e, (P.self _).2 _ (by omega), if_neg (by omega), Nat.add_sub_cancel, ih, b]; omega
theorem rk_full {B : Nat → Nat → Nat} (P : Pas B) (L : Nat) : ∀ c, rk B L L c = 0
  | 0 => rfl
  | c + 1 => by
    have ih := rk_full P L c
    unfold rk
    rw [ih]
    split
    · rename_i h
      rw [show ct L (c + 1) = ct L c + 1 by show ct L c + L / 2 ^ c % 2 = _; omega, (P.self _).2 _ (by omega)]
    · rfl
theorem Pas.up {B : Nat → Nat → Nat} (P : Pas B) (n k : Nat) : B n k ≤ B (n + 1) (k + 1) := by rw [P.step]; omega
theorem Pas.up_n {B : Nat → Nat → Nat} (P : Pas B) (n k : Nat) : ∀ m, B n k ≤ B (n + m) k
  | 0 => Nat.le_refl _
  | m + 1 => Nat.le_trans (P.up_n n k m) (P.grow (n + m) k)
theorem Pas.up_k {B : Nat → Nat → Nat} (P : Pas B) (n k : Nat) : ∀ m, B n k ≤ B (n + m) (k + m)
  | 0 => Nat.le_refl _
  | m + 1 => Nat.le_trans (P.up_k n k m) (P.up (n + m) (k + m))
theorem Pas.mono {B : Nat → Nat → Nat} (P : Pas B) {k n k' n' : Nat} (hk : k ≤ k') (hn : n ≤ n') : B (k + n) k ≤ B (k' + n') k' := by
  obtain ⟨a, rfl⟩ := Nat.exists_eq_add_of_le hk
  obtain ⟨b, rfl⟩ := Nat.exists_eq_add_of_le hn
  refine Nat.le_trans (P.up_n (k + n) k b) ?_
  have := P.up_k (k + n + b) k a
  rw [show k + n + b + a = k + a + (n + b) by omega] at this
  exact this
theorem W2_le {B : Nat → Nat → Nat} (P : Pas B) {k2 k3 : Nat} (h2 : k2 ≤ 13) (h3 : k3 ≤ 13) : W2 B k2 k3 ≤ W2 B 13 13 := P.mono h2 h3
theorem W3_le {B : Nat → Nat → Nat} (P : Pas B) {k1 k2 k3 : Nat} (h1 : k1 ≤ 13) (h2 : k2 ≤ 13) (h3 : k3 ≤ 13) : W3 B k1 k2 k3 ≤ W3 B 13 13 13 :=
  Nat.mul_le_mul (P.mono h1 (by omega)) (W2_le P h2 h3)
theorem W4_le {B : Nat → Nat → Nat} (P : Pas B) {k0 k1 k2 k3 : Nat} (h0 : k0 ≤ 13) (h1 : k1 ≤ 13) (h2 : k2 ≤ 13) (h3 : k3 ≤ 13) : W4 B k0 k1 k2 k3 ≤ 53644737765488792839237440000 := by
  rw [← W4_all P]
  exact Nat.mul_le_mul (P.mono h0 (by omega)) (W3_le P h1 h2 h3)
theorem W3_le4 {B : Nat → Nat → Nat} (P : Pas B) (k0 k1 k2 k3 : Nat) : W3 B k1 k2 k3 ≤ W4 B k0 k1 k2 k3 := Nat.le_mul_of_pos_left _ (P.pos _ _)
theorem W2_le3 {B : Nat → Nat → Nat} (P : Pas B) (k1 k2 k3 : Nat) : W2 B k2 k3 ≤ W3 B k1 k2 k3 := Nat.le_mul_of_pos_left _ (P.pos _ _)
/-- Choices of at most 52 are less than 2^52 and more. -/
theorem Pas.pow {B : Nat → Nat → Nat} (P : Pas B) : ∀ n k, B n k ≤ 2 ^ n
  | 0, 0 => by rw [P.zero]; decide
  | 0, k + 1 => by rw [P.none]; decide
  | n + 1, 0 => by rw [P.zero]; exact Nat.pow_pos (by decide)
  | n + 1, k + 1 => by
    rw [P.step, Nat.pow_succ]
    have := P.pow n k; have := P.pow n (k + 1)
    omega
end Go.Proofs.DB
