/- BoardClasses: two cards exchanged (plain mathematics). -/
import Derived.Test.YtalklogopepjpaaDoorBW0
import Derived.Test.YtalklogopepjpaaDoorYJ
import Derived.Lib.TrailingZeros
namespace Go.Proofs.YtalklogopepjpaaDoor.Ca
open Go.RowKit
open Go.Proofs.DB (ct bt Pd Rd Dj wo)

theorem tn_rd {d : Nat → Nat} (k : Int) (h : Rd d) : Rd (tn d k) := by
  have hlt : ∀ i : Nat, (((i : Int) - k) % 4).toNat < 4 := fun i => by omega
  refine ⟨⟨fun i _ => h.lt _ (hlt i), fun i _ => h.few _ (hlt i), fun i j hij hj => ?_⟩, fun i _ => h.all _ (hlt i)⟩
  have hne : (((i : Int) - k) % 4).toNat ≠ (((j : Int) - k) % 4).toNat := by omega
  unfold tn
  rcases Nat.lt_or_gt_of_ne hne with l | l
  · exact h.dj _ _ l (hlt j)
  · exact (h.dj _ _ l (hlt i)).symm
/-- The lowest card of a hand. -/
def lw (x : Nat) : Nat := x &&& (18446744073709551616 - x)
theorem lw_pow {x : Nat} (h0 : 0 < x) (h : x < 2 ^ 52) : ∃ g, g < 52 ∧ lw x = 2 ^ g ∧ bt x g = 1 := by
  obtain ⟨e, _⟩ := Lib.lowest_bit 64 x (by omega) (Nat.lt_trans h (by decide))
  have e' : lw x = 2 ^ Lib.ctz 64 x := e
  obtain ⟨g, hg⟩ : ∃ g, Lib.ctz 64 x = g := ⟨_, rfl⟩
  rw [hg] at e'
  have hb := DB.bt_and x (18446744073709551616 - x) g
  rw [show x &&& (18446744073709551616 - x) = 2 ^ g from e', DB.bt_pow, if_pos rfl] at hb
  have h1 : bt x g = 1 := by have := DB.bt_lt2 x g; omega
  refine ⟨g, ?_, e', h1⟩
  rcases Nat.lt_or_ge g 52 with l | l
  · exact l
  · have := DB.bt_high h l
    omega
/-- The same deal with the lowest cards of the first two hands exchanged. -/
def swp (e : Nat → Nat) : Nat → Nat := fun i => if i = 0 then e 0 ^^^ lw (e 0) ^^^ lw (e 1) else if i = 1 then e 1 ^^^ lw (e 0) ^^^ lw (e 1) else e i
theorem xch_bits {x g h : Nat} (hg : bt x g = 1) (hh : bt x h = 0) (j : Nat) : bt (x ^^^ 2 ^ g ^^^ 2 ^ h) j = if j = g then 0 else if j = h then 1 else bt x j := by
  have hne : g ≠ h := fun e => by rw [e] at hg; omega
  rw [DB.bt_xor, DB.bt_xor, DB.bt_pow, DB.bt_pow]
  have := DB.bt_lt2 x j
  by_cases h1 : j = g
  · subst h1
    rw [if_pos rfl, if_pos rfl, if_neg hne]
    omega
  · rw [if_neg h1, if_neg h1]
    by_cases h2 : j = h
    · subst h2
      rw [if_pos rfl, if_pos rfl]
      omega
    · rw [if_neg h2, if_neg h2]
      omega
theorem xch_ct {x g h : Nat} (hx : x < 2 ^ 52) (hg : bt x g = 1) (hh : bt x h = 0) (hg2 : g < 52) (hh2 : h < 52) : ct (x ^^^ 2 ^ g ^^^ 2 ^ h) 52 = ct x 52 := by
  have hne : g ≠ h := fun e => by rw [e] at hg; omega
  have hw := fun j => DB.bt_wo (a := x) (2 ^ g) (Nat.lt_trans hx (by decide)) j
  obtain ⟨y, hy⟩ : ∃ y, wo x (2 ^ g) = y := ⟨_, rfl⟩
  rw [hy] at hw
  have b : ∀ j, bt y j = if j = g then 0 else bt x j := fun j => by
    rw [hw j, DB.bt_pow]
    by_cases h1 : j = g
    · subst h1; rw [if_pos rfl, if_pos rfl]; omega
    · rw [if_neg h1, if_neg h1]; omega
  have d1 : Dj y (2 ^ g) := DB.dj_pow (by rw [b, if_pos rfl])
  have d2 : Dj y (2 ^ h) := DB.dj_pow (by rw [b, if_neg (fun e => hne e.symm)]; exact hh)
  have e1 : x = y + 2 ^ g := DB.bt_ext fun j => by
    rw [DB.bt_add j d1, b, DB.bt_pow]
    by_cases h1 : j = g
    · subst h1; rw [if_pos rfl, if_pos rfl]; omega
    · rw [if_neg h1, if_neg h1]; omega
  have e2 : x ^^^ 2 ^ g ^^^ 2 ^ h = y + 2 ^ h := DB.bt_ext fun j => by
    rw [xch_bits hg hh, DB.bt_add j d2, b, DB.bt_pow]
    by_cases h1 : j = g
    · subst h1; rw [if_pos rfl, if_pos rfl, if_neg hne]
    · rw [if_neg h1, if_neg h1]
      by_cases h2 : j = h
      · subst h2; rw [if_pos rfl, if_pos rfl]; omega
      · rw [if_neg h2, if_neg h2]; omega
  have c1 : ct x 52 = ct y 52 + ct (2 ^ g) 52 := by rw [← DB.ct_add d1]; exact congrArg (fun t => ct t 52) e1
  rw [e2, DB.ct_add d2, c1, DB.ct_one, DB.ct_one, if_pos hg2, if_pos hh2]
theorem hand_pos {e : Nat → Nat} (h : Rd e) (i : Nat) (hi : i < 4) : 0 < e i := by
  have := h.all i hi
  rcases Nat.eq_zero_or_pos (e i) with z | z
  · rw [z, DB.ct_end (L := 0) (c := 52) fun t _ => by simp [bt]] at this; omega
  · exact z
theorem swp_rd {e : Nat → Nat} (H : Rd e) : Rd (swp e) := by
  obtain ⟨g, g1, g2, g3⟩ := lw_pow (hand_pos H 0 (by decide)) (H.lt 0 (by decide))
  obtain ⟨h, h1, h2, h3⟩ := lw_pow (hand_pos H 1 (by decide)) (H.lt 1 (by decide))
  have og := H.one g g1
  have oh := H.one h h1
  have k0 : bt (e 0) h = 0 := by omega
  have k1 : bt (e 1) g = 0 := by omega
  have e0 : swp e 0 = e 0 ^^^ 2 ^ g ^^^ 2 ^ h := by unfold swp; rw [if_pos rfl, g2, h2]
  have e1 : swp e 1 = e 1 ^^^ 2 ^ h ^^^ 2 ^ g := by
    unfold swp
    rw [if_neg (by decide), if_pos rfl, g2, h2, Nat.xor_assoc, Nat.xor_comm (2 ^ g), ← Nat.xor_assoc]
  have e2 : ∀ i, 2 ≤ i → swp e i = e i := fun i hi => by unfold swp; rw [if_neg (by omega), if_neg (by omega)]
  have b0 := fun j => xch_bits g3 k0 j
  have b1 := fun j => xch_bits h3 k1 j
  rw [← e0] at b0
  rw [← e1] at b1
  have p52 : ∀ t, t < 52 → 2 ^ t < 2 ^ 52 := fun t ht => Nat.pow_lt_pow_right (by decide) ht
  have L0 : swp e 0 < 2 ^ 52 := by rw [e0]; exact Nat.xor_lt_two_pow (Nat.xor_lt_two_pow (H.lt 0 (by decide)) (p52 g g1)) (p52 h h1)
  have L1 : swp e 1 < 2 ^ 52 := by rw [e1]; exact Nat.xor_lt_two_pow (Nat.xor_lt_two_pow (H.lt 1 (by decide)) (p52 h h1)) (p52 g g1)
  have C0 : ct (swp e 0) 52 = 13 := by rw [e0, xch_ct (H.lt 0 (by decide)) g3 k0 g1 h1]; exact H.all 0 (by decide)
  have C1 : ct (swp e 1) 52 = 13 := by rw [e1, xch_ct (H.lt 1 (by decide)) h3 k1 h1 g1]; exact H.all 1 (by decide)
  have all : ∀ i, i < 4 → ct (swp e i) 52 = 13 := fun i hi => by
    obtain rfl | rfl | h' : i = 0 ∨ i = 1 ∨ 2 ≤ i := by omega
    · exact C0
    · exact C1
    · rw [e2 i h']; exact H.all i hi
  have lt : ∀ i, i < 4 → swp e i < 2 ^ 52 := fun i hi => by
    obtain rfl | rfl | h' : i = 0 ∨ i = 1 ∨ 2 ≤ i := by omega
    · exact L0
    · exact L1
    · rw [e2 i h']; exact H.lt i hi
  refine ⟨⟨lt, fun i hi => by rw [all i hi]; exact Nat.le_refl _, fun i j hij hj t => ?_⟩, all⟩
  have d01 := H.dj 0 1 (by decide) (by decide) t
  have a0 := b0 t
  have a1 := b1 t
  by_cases ht : t < 52
  · have ot := H.one t ht
    by_cases tg : t = g
    · rw [if_pos tg] at a0
      rw [if_neg (fun e => by rw [tg] at e; rw [e] at k1; rw [e] at g3; omega), if_pos tg] at a1
      subst tg
      obtain rfl | rfl | hi2 : i = 0 ∨ i = 1 ∨ 2 ≤ i := by omega
      · have := DB.bt_lt2 (swp e j) t; omega
      · rw [e2 j (by omega)]
        obtain rfl | rfl : j = 2 ∨ j = 3 := by omega
        all_goals omega
      · rw [e2 i hi2, e2 j (by omega)]; exact H.dj i j hij hj t
    · rw [if_neg tg] at a0
      by_cases th : t = h
      · rw [if_pos th] at a0 a1
        subst th
        obtain rfl | rfl | hi2 : i = 0 ∨ i = 1 ∨ 2 ≤ i := by omega
        · obtain rfl | hj2 : j = 1 ∨ 2 ≤ j := by omega
          · omega
          · rw [e2 j hj2]
            obtain rfl | rfl : j = 2 ∨ j = 3 := by omega
            all_goals omega
        · have := DB.bt_lt2 (swp e j) t; omega
        · rw [e2 i hi2, e2 j (by omega)]; exact H.dj i j hij hj t
      · rw [if_neg th] at a0 a1
        rw [if_neg tg] at a1
        have q : ∀ i, i < 4 → bt (swp e i) t = bt (e i) t := fun i hi => by
          obtain rfl | rfl | h' : i = 0 ∨ i = 1 ∨ 2 ≤ i := by omega
          · exact a0
          · exact a1
          · rw [e2 i h']
        rw [q i (by omega), q j hj]
        exact H.dj i j hij hj t
  · rw [DB.bt_high (lt i (by omega)) (by omega)]
    have := DB.bt_lt2 (swp e j) t
    omega
/-- The deal of a byte: turned, and with two cards exchanged. -/
def eD (d : Nat → Nat) (x : Nat) : Nat → Nat := if 3 < x % 8 then swp (tn d ((x % 4 : Nat) : Int)) else tn d ((x % 4 : Nat) : Int)
theorem eD_rd {d : Nat → Nat} (h : Rd d) (x : Nat) : Rd (eD d x) := by
  unfold eD
  split
  · exact swp_rd (tn_rd _ h)
  · exact tn_rd _ h
end Go.Proofs.YtalklogopepjpaaDoor.Ca
