/- Numbers of four parts of 32 bits: plain arithmetic. -/
import Derived.Lib.Hide
namespace Go.Proofs.Ytcgecgagecobeaa
def pt (n i : Nat) : Int := ((n / 4294967296 ^ i) % 4294967296 : Nat)
theorem pt_bd (n i : Nat) : 0 ≤ pt n i ∧ pt n i ≤ 4294967295 := by
  unfold pt
  have := Nat.mod_lt (n / 4294967296 ^ i) (show 0 < 4294967296 by decide)
  omega
theorem pt_sum (n : Nat) (h : n < 340282366920938463463374607431768211456) : (n : Int) = pt n 0 + 4294967296 * pt n 1 + 18446744073709551616 * pt n 2 + 79228162514264337593543950336 * pt n 3 := by
  unfold pt
  have e0 : n / 4294967296 ^ 0 = n := by simp
  have e1 : n / 4294967296 ^ 1 = n / 4294967296 := by simp
  have e2 : n / 4294967296 ^ 2 = n / 4294967296 / 4294967296 := by rw [Nat.div_div_eq_div_mul]
  have e3 : n / 4294967296 ^ 3 = n / 4294967296 / 4294967296 / 4294967296 := by rw [Nat.div_div_eq_div_mul, Nat.div_div_eq_div_mul]
  rw [e0, e1, e2, e3]
  omega
theorem pt_mk (s0 s1 s2 s3 : Int) (h0 : 0 ≤ s0 ∧ s0 ≤ 4294967295) (h1 : 0 ≤ s1 ∧ s1 ≤ 4294967295) (h2 : 0 ≤ s2 ∧ s2 ≤ 4294967295) (h3 : 0 ≤ s3 ∧ s3 ≤ 4294967295) (n : Nat)
    (h : (n : Int) = s0 + 4294967296 * s1 + 18446744073709551616 * s2 + 79228162514264337593543950336 * s3) :
    n < 340282366920938463463374607431768211456 ∧ s0 = pt n 0 ∧ s1 = pt n 1 ∧ s2 = pt n 2 ∧ s3 = pt n 3 := by
  have hn : n < 340282366920938463463374607431768211456 := by omega
  have hs := pt_sum n hn
  have b0 := pt_bd n 0
  have b1 := pt_bd n 1
  have b2 := pt_bd n 2
  have b3 := pt_bd n 3
  generalize pt n 0 = p0 at *
  generalize pt n 1 = p1 at *
  generalize pt n 2 = p2 at *
  generalize pt n 3 = p3 at *
  refine ⟨hn, ?_⟩
  omega
/-- sum over the parts below k of a function -/
def sp (p : Nat → Int) : Nat → Int
  | 0 => 0
  | k + 1 => sp p k + p k * 4294967296 ^ k
def upd (p : Nat → Int) (k : Nat) (v : Int) : Nat → Int := fun i => if i = k then v else p i
theorem sp_upd_ge (p : Nat → Int) (k : Nat) (v : Int) : ∀ n, n ≤ k → sp (upd p k v) n = sp p n
  | 0, _ => rfl
  | n + 1, h => by
    unfold sp
    rw [sp_upd_ge p k v n (by omega)]
    have : upd p k v n = p n := by unfold upd; rw [if_neg (by omega)]
    rw [this]
theorem sp_upd (p : Nat → Int) (k : Nat) (v : Int) : ∀ n, k < n → sp (upd p k v) n = sp p n + (v - p k) * 4294967296 ^ k
  | 0, h => by omega
  | n + 1, h => by
    unfold sp
    by_cases e : n = k
    · subst e
      rw [sp_upd_ge p n v n (Nat.le_refl _)]
      have : upd p n v n = v := by simp [upd]
      rw [this, Int.sub_mul]
      omega
    · rw [sp_upd p k v n (by omega)]
      have : upd p k v n = p n := by unfold upd; rw [if_neg (by omega)]
      rw [this]
      omega
theorem pt_mod (n i : Nat) : ((n % 4294967296 ^ (i + 1) : Nat) : Int) = (n % 4294967296 ^ i : Nat) + pt n i * 4294967296 ^ i := by
  unfold pt
  have h := Nat.mod_pow_succ (x := n) (b := 4294967296) (k := i)
  rw [h, Int.natCast_add, Int.natCast_mul, Int.natCast_pow, Int.mul_comm]
  rfl
/-- one step of the inner loop -/
theorem mul_step (a b i j : Nat) (p : Nat → Int) (c s c' : Int) (hij : i + j < 8)
    (h : sp p 8 + c * 4294967296 ^ (i + j) = ((a % 4294967296 ^ i : Nat) : Int) * b + pt a i * ((b % 4294967296 ^ j : Nat) : Int) * 4294967296 ^ i)
    (hs : s + 4294967296 * c' = pt a i * pt b j + p (i + j) + c) :
    sp (upd p (i + j) s) 8 + c' * 4294967296 ^ (i + j + 1) = ((a % 4294967296 ^ i : Nat) : Int) * b + pt a i * ((b % 4294967296 ^ (j + 1) : Nat) : Int) * 4294967296 ^ i := by
  rw [sp_upd _ _ _ _ hij, pt_mod b j]
  have e : s = pt a i * pt b j + p (i + j) + c - 4294967296 * c' := by omega
  subst e
  have e1 : (4294967296 : Int) ^ (i + j + 1) = 4294967296 * 4294967296 ^ (i + j) := by rw [Int.pow_succ, Int.mul_comm]
  have e2 : (4294967296 : Int) ^ (i + j) = 4294967296 ^ i * 4294967296 ^ j := by rw [Int.pow_add]
  rw [e1]
  rw [Int.mul_add, Int.add_mul, ← Int.add_assoc, ← h]
  have e3 : pt a i * (pt b j * 4294967296 ^ j) * 4294967296 ^ i = pt a i * pt b j * 4294967296 ^ (i + j) := by
    rw [e2]; ac_rfl
  rw [e3]
  generalize (4294967296 : Int) ^ (i + j) = E
  rw [show pt a i * pt b j + p (i + j) + c - 4294967296 * c' - p (i + j) = pt a i * pt b j + (c - 4294967296 * c') from by omega]
  rw [Int.add_mul, Int.sub_mul]
  have : c' * (4294967296 * E) = 4294967296 * c' * E := by rw [← Int.mul_assoc, Int.mul_comm c']
  omega
/-- part i of a * 2^(32 q + r) -/
theorem shift_lo (a q r i : Nat) (h : i < q) : (a * 2 ^ (32 * q + r) / 4294967296 ^ i) % 4294967296 = 0 := by
  have e : a * 2 ^ (32 * q + r) = 4294967296 ^ i * (4294967296 * (4294967296 ^ (q - i - 1) * 2 ^ r * a)) := by
    have : 2 ^ (32 * q + r) = 4294967296 ^ q * 2 ^ r := by rw [Nat.pow_add, Nat.pow_mul]
    rw [this]
    have : (4294967296 : Nat) ^ q = 4294967296 ^ i * (4294967296 * 4294967296 ^ (q - i - 1)) := by
      rw [← Nat.pow_succ', ← Nat.pow_add]; congr 1; omega
    rw [this]; ac_rfl
  rw [e, Nat.mul_div_cancel_left _ (Nat.pow_pos (by decide)), Nat.mul_mod_right]
theorem pow32 (q r : Nat) : 2 ^ (32 * q + r) = 4294967296 ^ q * 2 ^ r := by rw [Nat.pow_add, Nat.pow_mul]
theorem shift_at (a q r : Nat) : (a * 2 ^ (32 * q + r) / 4294967296 ^ q) % 4294967296 = (a % 4294967296 * 2 ^ r) % 4294967296 := by
  rw [pow32, show a * (4294967296 ^ q * 2 ^ r) = 4294967296 ^ q * (a * 2 ^ r) from by ac_rfl, Nat.mul_div_cancel_left _ (Nat.pow_pos (by decide))]
  conv => lhs; rw [Nat.mul_mod]
  conv => rhs; rw [Nat.mul_mod, Nat.mod_mod]
theorem shift_hi (a q r m : Nat) (hr : r < 32) : (a * 2 ^ (32 * q + r) / 4294967296 ^ (q + (m + 1))) % 4294967296 =
    (a / 4294967296 ^ (m + 1) % 4294967296 * 2 ^ r) % 4294967296 + a / 4294967296 ^ m % 4294967296 / 2 ^ (32 - r) := by
  rw [pow32, show a * (4294967296 ^ q * 2 ^ r) = 4294967296 ^ q * (a * 2 ^ r) from by ac_rfl, Nat.pow_add, ← Nat.div_div_eq_div_mul, Nat.mul_div_cancel_left _ (Nat.pow_pos (by decide))]
  have e32 : (4294967296 : Nat) = 2 ^ r * 2 ^ (32 - r) := by rw [← Nat.pow_add, show r + (32 - r) = 32 from by omega]
  have e0 : a * 2 ^ r / 4294967296 ^ (m + 1) = a / 4294967296 ^ m / 2 ^ (32 - r) := by
    rw [Nat.pow_succ]
    have : 4294967296 ^ m * 4294967296 = (4294967296 ^ m * 2 ^ (32 - r)) * 2 ^ r := by
      conv => lhs; rhs; rw [e32]
      ac_rfl
    rw [this, Nat.mul_div_mul_right _ _ (Nat.pow_pos (by decide)), Nat.div_div_eq_div_mul]
  rw [e0, Nat.pow_succ, ← Nat.div_div_eq_div_mul]
  generalize a / 4294967296 ^ m = A
  have hA := Nat.div_add_mod A 4294967296
  generalize hA0 : A % 4294967296 = A0 at *
  generalize A / 4294967296 = A1 at *
  have hlt : A0 < 4294967296 := by rw [← hA0]; exact Nat.mod_lt _ (by decide)
  subst hA
  have e1 : (4294967296 * A1 + A0) / 2 ^ (32 - r) = 2 ^ r * A1 + A0 / 2 ^ (32 - r) := by
    conv => lhs; lhs; lhs; rw [e32, Nat.mul_comm (2 ^ r), Nat.mul_assoc]
    rw [Nat.mul_add_div (Nat.pow_pos (by decide))]
  rw [e1]
  have hq : A0 / 2 ^ (32 - r) < 2 ^ r := by
    rw [Nat.div_lt_iff_lt_mul (Nat.pow_pos (by decide)), ← e32]; exact hlt
  have e2 : (2 ^ r * A1) % 4294967296 = 2 ^ r * (A1 % 2 ^ (32 - r)) := by
    rw [e32, Nat.mul_mod_mul_left]
  have e3 : (A1 % 4294967296 * 2 ^ r) % 4294967296 = 2 ^ r * (A1 % 2 ^ (32 - r)) := by
    rw [← e2, Nat.mul_comm (2 ^ r), Nat.mul_mod, Nat.mod_mod, ← Nat.mul_mod]
  rw [e3, Nat.add_mod, e2]
  have hx : A1 % 2 ^ (32 - r) + 1 ≤ 2 ^ (32 - r) := Nat.mod_lt _ (Nat.pow_pos (by decide))
  have hy : 2 ^ r * (A1 % 2 ^ (32 - r)) + 2 ^ r ≤ 4294967296 := by
    conv => rhs; rw [e32]
    rw [← Nat.mul_succ]
    exact Nat.mul_le_mul_left _ hx
  generalize 2 ^ r * (A1 % 2 ^ (32 - r)) = X at *
  generalize A0 / 2 ^ (32 - r) = Y at *
  generalize 2 ^ r = R at *
  rw [Nat.mod_eq_of_lt (a := Y) (by omega), Nat.mod_eq_of_lt (by omega)]
theorem or_add (r t : Nat) : (2 ^ (r + 1) * t) ||| 2 ^ r = 2 ^ (r + 1) * t + 2 ^ r :=
  (Nat.two_pow_add_eq_or_of_lt (Nat.pow_lt_pow_right (by decide) (by omega)) t).symm
theorem bit_at (t q r : Nat) (hr : r < 32) : ((2 ^ (32 * q + r + 1) * t) / 4294967296 ^ q % 4294967296) ||| 2 ^ r = (2 ^ (32 * q + r + 1) * t + 2 ^ (32 * q + r)) / 4294967296 ^ q % 4294967296 ∧
    (2 ^ (32 * q + r + 1) * t) / 4294967296 ^ q % 4294967296 + 2 ^ r < 4294967296 := by
  have e32 : (4294967296 : Nat) = 2 ^ (r + 1) * 2 ^ (31 - r) := by rw [← Nat.pow_add, show r + 1 + (31 - r) = 32 from by omega]
  have h1 : (2 ^ (32 * q + r + 1) * t) / 4294967296 ^ q = 2 ^ (r + 1) * t := by
    rw [Nat.add_assoc, pow32, Nat.mul_assoc, Nat.mul_div_cancel_left _ (Nat.pow_pos (by decide))]
  have h2 : (2 ^ (32 * q + r + 1) * t + 2 ^ (32 * q + r)) / 4294967296 ^ q = 2 ^ (r + 1) * t + 2 ^ r := by
    rw [Nat.add_assoc (32 * q), pow32, pow32, Nat.mul_assoc, ← Nat.mul_add, Nat.mul_div_cancel_left _ (Nat.pow_pos (by decide))]
  have h3 : (2 ^ (r + 1) * t) % 4294967296 = 2 ^ (r + 1) * (t % 2 ^ (31 - r)) := by rw [e32, Nat.mul_mod_mul_left]
  have hx : t % 2 ^ (31 - r) + 1 ≤ 2 ^ (31 - r) := Nat.mod_lt _ (Nat.pow_pos (by decide))
  have hp : 2 ^ r < 2 ^ (r + 1) := Nat.pow_lt_pow_right (by decide) (by omega)
  have hy : 2 ^ (r + 1) * (t % 2 ^ (31 - r)) + 2 ^ (r + 1) ≤ 4294967296 := by
    conv => rhs; rw [e32]
    rw [← Nat.mul_succ]
    exact Nat.mul_le_mul_left _ hx
  rw [h1, h2, Nat.add_mod, h3, or_add]
  generalize 2 ^ (r + 1) * (t % 2 ^ (31 - r)) = X at *
  generalize 2 ^ r = R at *
  generalize 2 ^ (r + 1) = S at *
  constructor
  · rw [Nat.mod_eq_of_lt (a := R) (by omega), Nat.mod_eq_of_lt (by omega)]
  · omega
theorem bit_hi (t n i : Nat) (h : n + 1 ≤ 32 * i) : (2 ^ (n + 1) * t + 2 ^ n) / 4294967296 ^ i = (2 ^ (n + 1) * t) / 4294967296 ^ i := by
  have e : (4294967296 : Nat) ^ i = 2 ^ (n + 1) * 2 ^ (32 * i - (n + 1)) := by
    rw [← Nat.pow_add, show n + 1 + (32 * i - (n + 1)) = 32 * i from by omega, Nat.pow_mul]
  rw [e, ← Nat.div_div_eq_div_mul, ← Nat.div_div_eq_div_mul, Nat.mul_add_div (Nat.pow_pos (by decide)), Nat.mul_div_cancel_left _ (Nat.pow_pos (by decide)),
    Nat.div_eq_of_lt (Nat.pow_lt_pow_right (by decide) (by omega)), Nat.add_zero]
theorem bit_lo (t n i : Nat) (h : 32 * i + 32 ≤ n) : (2 ^ (n + 1) * t + 2 ^ n) / 4294967296 ^ i % 4294967296 = 0 ∧ (2 ^ (n + 1) * t) / 4294967296 ^ i % 4294967296 = 0 := by
  have e0 : 2 ^ n = 4294967296 ^ i * (4294967296 * 2 ^ (n - 32 * i - 32)) := by
    rw [← Nat.mul_assoc, ← Nat.pow_succ, show (4294967296 : Nat) ^ (i + 1) = 2 ^ (32 * (i + 1)) from by rw [Nat.pow_mul], ← Nat.pow_add]
    congr 1; omega
  have e1 : 2 ^ (n + 1) = 4294967296 ^ i * (4294967296 * (2 ^ (n - 32 * i - 32) * 2)) := by
    rw [Nat.pow_succ, e0]; ac_rfl
  constructor
  · rw [e1, e0, Nat.mul_assoc, ← Nat.mul_add, Nat.mul_div_cancel_left _ (Nat.pow_pos (by decide)), Nat.mul_assoc, ← Nat.mul_add, Nat.mul_mod_right]
  · rw [e1, Nat.mul_assoc, Nat.mul_div_cancel_left _ (Nat.pow_pos (by decide)), Nat.mul_assoc, Nat.mul_mod_right]
theorem plus_fin (a b : Nat) (ha : a < 340282366920938463463374607431768211456) (hb : b < 340282366920938463463374607431768211456) (s0 s1 s2 s3 c1 c2 c3 c4 : Int)
    (h0 : 0 ≤ s0 ∧ s0 ≤ 4294967295) (h1 : 0 ≤ s1 ∧ s1 ≤ 4294967295) (h2 : 0 ≤ s2 ∧ s2 ≤ 4294967295) (h3 : 0 ≤ s3 ∧ s3 ≤ 4294967295)
    (e0 : s0 + 4294967296 * c1 = pt a 0 + pt b 0) (e1 : s1 + 4294967296 * c2 = pt a 1 + pt b 1 + c1) (e2 : s2 + 4294967296 * c3 = pt a 2 + pt b 2 + c2) (e3 : s3 + 4294967296 * c4 = pt a 3 + pt b 3 + c3) :
    s0 = pt ((a + b) % 340282366920938463463374607431768211456) 0 ∧ s1 = pt ((a + b) % 340282366920938463463374607431768211456) 1 ∧ s2 = pt ((a + b) % 340282366920938463463374607431768211456) 2 ∧ s3 = pt ((a + b) % 340282366920938463463374607431768211456) 3 ∧ c4 = ((a + b) / 340282366920938463463374607431768211456 : Nat) := by
  have ka := pt_sum a ha
  have kb := pt_sum b hb
  have k := pt_mk s0 s1 s2 s3 h0 h1 h2 h3 ((a + b) % 340282366920938463463374607431768211456) (by omega)
  refine ⟨k.2.1, k.2.2.1, k.2.2.2.1, k.2.2.2.2, ?_⟩
  clear k
  omega
theorem minus_fin (a b : Nat) (ha : a < 340282366920938463463374607431768211456) (hb : b < 340282366920938463463374607431768211456) (s0 s1 s2 s3 c1 c2 c3 c4 : Int)
    (h0 : 0 ≤ s0 ∧ s0 ≤ 4294967295) (h1 : 0 ≤ s1 ∧ s1 ≤ 4294967295) (h2 : 0 ≤ s2 ∧ s2 ≤ 4294967295) (h3 : 0 ≤ s3 ∧ s3 ≤ 4294967295)
    (e0 : s0 - 4294967296 * c1 = pt a 0 - pt b 0) (e1 : s1 - 4294967296 * c2 = pt a 1 - pt b 1 - c1) (e2 : s2 - 4294967296 * c3 = pt a 2 - pt b 2 - c2) (e3 : s3 - 4294967296 * c4 = pt a 3 - pt b 3 - c3) :
    s0 = pt ((340282366920938463463374607431768211456 + a - b) % 340282366920938463463374607431768211456) 0 ∧ s1 = pt ((340282366920938463463374607431768211456 + a - b) % 340282366920938463463374607431768211456) 1 ∧ s2 = pt ((340282366920938463463374607431768211456 + a - b) % 340282366920938463463374607431768211456) 2 ∧ s3 = pt ((340282366920938463463374607431768211456 + a - b) % 340282366920938463463374607431768211456) 3 ∧ c4 = if a < b then 1 else 0 := by
  have ka := pt_sum a ha
  have kb := pt_sum b hb
  have k := pt_mk s0 s1 s2 s3 h0 h1 h2 h3 ((340282366920938463463374607431768211456 + a - b) % 340282366920938463463374607431768211456) (by omega)
  refine ⟨k.2.1, k.2.2.1, k.2.2.2.1, k.2.2.2.2, ?_⟩
  clear k
  split <;> omega
theorem tenfold_fin (a d : Nat) (ha : a < 340282366920938463463374607431768211456) (s0 s1 s2 s3 c1 c2 c3 c4 : Int)
    (h0 : 0 ≤ s0 ∧ s0 ≤ 4294967295) (h1 : 0 ≤ s1 ∧ s1 ≤ 4294967295) (h2 : 0 ≤ s2 ∧ s2 ≤ 4294967295) (h3 : 0 ≤ s3 ∧ s3 ≤ 4294967295)
    (e0 : s0 + 4294967296 * c1 = pt a 0 * 10 + d) (e1 : s1 + 4294967296 * c2 = pt a 1 * 10 + c1) (e2 : s2 + 4294967296 * c3 = pt a 2 * 10 + c2) (e3 : s3 + 4294967296 * c4 = pt a 3 * 10 + c3) :
    s0 = pt ((a * 10 + d) % 340282366920938463463374607431768211456) 0 ∧ s1 = pt ((a * 10 + d) % 340282366920938463463374607431768211456) 1 ∧ s2 = pt ((a * 10 + d) % 340282366920938463463374607431768211456) 2 ∧ s3 = pt ((a * 10 + d) % 340282366920938463463374607431768211456) 3 ∧ c4 = ((a * 10 + d) / 340282366920938463463374607431768211456 : Nat) := by
  have ka := pt_sum a ha
  have k := pt_mk s0 s1 s2 s3 h0 h1 h2 h3 ((a * 10 + d) % 340282366920938463463374607431768211456) (by omega)
  refine ⟨k.2.1, k.2.2.1, k.2.2.2.1, k.2.2.2.2, ?_⟩
  clear k
  omega
theorem tenth_fin (a : Nat) (ha : a < 340282366920938463463374607431768211456) (s0 s1 s2 s3 c1 c2 c3 c4 : Int)
    (h0 : 0 ≤ s0 ∧ s0 ≤ 4294967295) (h1 : 0 ≤ s1 ∧ s1 ≤ 4294967295) (h2 : 0 ≤ s2 ∧ s2 ≤ 4294967295) (h3 : 0 ≤ s3 ∧ s3 ≤ 4294967295) (hc : 0 ≤ c1 ∧ c1 ≤ 9)
    (e3 : s3 * 10 + c4 = pt a 3) (e2 : s2 * 10 + c3 = pt a 2 + 4294967296 * c4) (e1 : s1 * 10 + c2 = pt a 1 + 4294967296 * c3) (e0 : s0 * 10 + c1 = pt a 0 + 4294967296 * c2) :
    s0 = pt (a / 10) 0 ∧ s1 = pt (a / 10) 1 ∧ s2 = pt (a / 10) 2 ∧ s3 = pt (a / 10) 3 ∧ c1 = (a % 10 : Nat) := by
  have ka := pt_sum a ha
  have k := pt_mk s0 s1 s2 s3 h0 h1 h2 h3 (a / 10) (by omega)
  refine ⟨k.2.1, k.2.2.1, k.2.2.2.1, k.2.2.2.2, ?_⟩
  clear k
  omega
end Go.Proofs.Ytcgecgagecobeaa
