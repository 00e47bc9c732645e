/- Boards: the first one of a list that is equal; dealers and vulnerabilities (plain mathematics). -/
import Derived.Test.YtalklogopepjpaaDoorBA
namespace Go.Proofs.DB

def Same (p q : Nat → Nat) : Prop := p 0 = q 0 ∧ p 1 = q 1 ∧ p 2 = q 2 ∧ p 3 = q 3
instance (p q : Nat → Nat) : Decidable (Same p q) := by unfold Same; infer_instance
theorem Same.refl (p : Nat → Nat) : Same p p := ⟨rfl, rfl, rfl, rfl⟩
theorem Same.symm {p q : Nat → Nat} (h : Same p q) : Same q p := ⟨h.1.symm, h.2.1.symm, h.2.2.1.symm, h.2.2.2.symm⟩
theorem Same.trans {p q r : Nat → Nat} (h : Same p q) (g : Same q r) : Same p r := ⟨h.1.trans g.1, h.2.1.trans g.2.1, h.2.2.1.trans g.2.2.1, h.2.2.2.trans g.2.2.2⟩
theorem Same.at {p q : Nat → Nat} (h : Same p q) (i : Nat) (hi : i < 4) : p i = q i := by
  obtain ⟨a, b, c, d⟩ := h
  obtain rfl | rfl | rfl | rfl : i = 0 ∨ i = 1 ∨ i = 2 ∨ i = 3 := by omega
  all_goals assumption
theorem same_of {p q : Nat → Nat} (h : ∀ i, i < 4 → p i = q i) : Same p q := ⟨h 0 (by decide), h 1 (by decide), h 2 (by decide), h 3 (by decide)⟩
/-- The first one among the first i that is equal to d; i if there is none. -/
def fc (L : Nat → Nat → Nat) (d : Nat → Nat) : Nat → Nat
  | 0 => 0
  | i + 1 => if fc L d i < i then fc L d i else if Same (L i) d then i else i + 1
theorem fc_le (L : Nat → Nat → Nat) (d : Nat → Nat) : ∀ i, fc L d i ≤ i
  | 0 => Nat.le_refl _
  | i + 1 => by
    have := fc_le L d i
    unfold fc
    split
    · omega
    · split <;> omega
theorem fc_hit {L : Nat → Nat → Nat} {d : Nat → Nat} {i : Nat} (h : fc L d i < i) : fc L d (i + 1) = fc L d i := by rw [fc, if_pos h]
theorem fc_new {L : Nat → Nat → Nat} {d : Nat → Nat} {i : Nat} (h : ¬ fc L d i < i) (s : Same (L i) d) : fc L d (i + 1) = i := by rw [fc, if_neg h, if_pos s]
theorem fc_none {L : Nat → Nat → Nat} {d : Nat → Nat} {i : Nat} (h : ¬ fc L d i < i) (s : ¬ Same (L i) d) : ¬ fc L d (i + 1) < i + 1 := by rw [fc, if_neg h, if_neg s]; omega
theorem fc_same {L : Nat → Nat → Nat} {d : Nat → Nat} : ∀ i, fc L d i < i → Same (L (fc L d i)) d
  | 0, h => absurd h (Nat.not_lt_zero _)
  | i + 1, h => by
    by_cases h1 : fc L d i < i
    · rw [fc_hit h1]; exact fc_same i h1
    · by_cases h2 : Same (L i) d
      · rw [fc_new h1 h2]; exact h2
      · exact absurd h (fc_none h1 h2)
theorem fc_first {L : Nat → Nat → Nat} {d : Nat → Nat} : ∀ i k, k < fc L d i → ¬ Same (L k) d
  | 0, k, h => absurd h (Nat.not_lt_zero _)
  | i + 1, k, h => by
    have hle := fc_le L d i
    by_cases h1 : fc L d i < i
    · rw [fc_hit h1] at h; exact fc_first i k h
    · by_cases h2 : Same (L i) d
      · rw [fc_new h1 h2] at h; exact fc_first i k (by omega)
      · by_cases h3 : k = i
        · subst h3; exact h2
        · refine fc_first i k ?_
          have : fc L d (i + 1) ≤ i + 1 := fc_le L d (i + 1)
          omega
theorem fc_congr {L : Nat → Nat → Nat} {d e : Nat → Nat} (h : Same d e) : ∀ i, fc L d i = fc L e i
  | 0 => rfl
  | i + 1 => by
    unfold fc
    rw [fc_congr h i]
    have : Same (L i) d ↔ Same (L i) e := ⟨fun x => x.trans h, fun x => x.trans h.symm⟩
    simp only [this]
/-- The class of the i-th one. -/
def cl (L : Nat → Nat → Nat) (i : Nat) : Nat := fc L (L i) (i + 1)
theorem cl_hit {L : Nat → Nat → Nat} {i : Nat} (h : fc L (L i) i < i) : cl L i = fc L (L i) i := fc_hit h
theorem cl_new {L : Nat → Nat → Nat} {i : Nat} (h : ¬ fc L (L i) i < i) : cl L i = i := fc_new h (Same.refl _)
theorem cl_le (L : Nat → Nat → Nat) (i : Nat) : cl L i ≤ i := by
  by_cases h : fc L (L i) i < i
  · rw [cl_hit h]; omega
  · rw [cl_new h]; omega
theorem cl_same (L : Nat → Nat → Nat) (i : Nat) : Same (L (cl L i)) (L i) := by
  have := cl_le L i
  exact fc_same (i + 1) (show fc L (L i) (i + 1) < i + 1 from Nat.lt_succ_of_le this)
theorem cl_first {L : Nat → Nat → Nat} {i k : Nat} (h : k < cl L i) : ¬ Same (L k) (L i) := fc_first (i + 1) k h
theorem cl_of_same {L : Nat → Nat → Nat} {i k : Nat} (s : Same (L i) (L k)) : cl L i = cl L k := by
  have a := cl_same L i
  have b := cl_same L k
  rcases Nat.lt_trichotomy (cl L i) (cl L k) with h | h | h
  · exact absurd (a.trans s) (cl_first h)
  · exact h
  · exact absurd (b.trans s.symm) (cl_first h)
theorem cl_iff (L : Nat → Nat → Nat) (i k : Nat) : cl L i = cl L k ↔ Same (L i) (L k) :=
  ⟨fun e => (cl_same L i).symm.trans (e ▸ cl_same L k), cl_of_same⟩
theorem cl_cl (L : Nat → Nat → Nat) (i : Nat) : cl L (cl L i) = cl L i := cl_of_same (cl_same L i)

/-- Dealer, vulnerability, and the least board of both. -/
def dlr (n : Nat) : Nat := (n - 1) % 4
def vul (n : Nat) : Nat := ((n - 1) + (n - 1) / 4) % 4
def fnd (d v : Nat) : Nat := (v + 4 - d) % 4 * 4 + d + 1
theorem dlr_lt (n : Nat) : dlr n < 4 := Nat.mod_lt _ (by decide)
theorem vul_lt (n : Nat) : vul n < 4 := Nat.mod_lt _ (by decide)
theorem fnd_board : ∀ n : Fin 129, 1 ≤ n.val → fnd (dlr n.val) (vul n.val) ≤ n.val ∧ (n.val - fnd (dlr n.val) (vul n.val)) % 16 = 0 ∧ fnd (dlr n.val) (vul n.val) ≤ 16 := by decide +kernel
theorem back16 {n : Nat} (h : 17 ≤ n) : dlr (n - 16) = dlr n ∧ vul (n - 16) = vul n := by unfold dlr vul; omega
/-- How often each dealer and vulnerability has been met in k boards from f on. -/
def met (f : Nat) : Nat → List Int
  | 0 => List.replicate 16 0
  | k + 1 => (met f k).set (4 * dlr (f + k) + vul (f + k)) (((met f k)[4 * dlr (f + k) + vul (f + k)]?).getD 0 + 1)
theorem met_len (f : Nat) : ∀ k, (met f k).length = 16
  | 0 => rfl
  | k + 1 => by rw [met, List.length_set, met_len f k]
theorem met_shift {f : Nat} (hf : 1 ≤ f) : ∀ k, met (f + 16) k = met f k
  | 0 => rfl
  | k + 1 => by
    have e := back16 (n := f + 16 + k) (by omega)
    rw [show f + 16 + k - 16 = f + k by omega] at e
    rw [met, met, met_shift hf k, e.1, e.2]
theorem met_all : ∀ f : Fin 17, 1 ≤ f.val → met f.val 16 = List.replicate 16 1 := by decide +kernel
theorem met_end : ∀ f, 1 ≤ f → met f 16 = List.replicate 16 1 := fun f => by
  induction f using Nat.strongRecOn with
  | _ f ih =>
    intro h
    by_cases hf : f < 17
    · exact met_all ⟨f, hf⟩ h
    · have := ih (f - 16) (by omega) (by omega)
      rwa [← met_shift (by omega), show f - 16 + 16 = f by omega] at this
theorem met_bound (f : Nat) : ∀ (k i : Nat) (x : Int), (met f k)[i]? = some x → 0 ≤ x ∧ x ≤ (k : Int)
  | 0, i, x, h => by
    rw [met, List.getElem?_replicate] at h
    split at h
    · cases h; exact ⟨Int.le_refl _, Int.le_refl _⟩
    · cases h
  | k + 1, i, x, h => by
    rw [met, List.getElem?_set] at h
    split at h
    · split at h
      · injection h with h
        subst h
        obtain ⟨y, hy⟩ : ∃ y, (met f k)[4 * dlr (f + k) + vul (f + k)]? = some y := ⟨_, List.getElem?_eq_getElem (by rw [met_len]; have := dlr_lt (f + k); have := vul_lt (f + k); omega)⟩
        have := met_bound f k _ y hy
        rw [hy]
        simp only [Option.getD_some]
        omega
      · cases h
    · have := met_bound f k i x h
      omega
end Go.Proofs.DB
