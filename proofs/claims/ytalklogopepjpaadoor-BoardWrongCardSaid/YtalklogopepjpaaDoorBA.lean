/- Boards: the owners of two deals, the changes between them (plain mathematics). -/
import Derived.Test.YtalklogopepjpaaDoorMJ
namespace Go.Proofs.DB

/-- The first seat that has a card; 3 if none of the first three has it. -/
def own (p : Nat → Nat) (c : Nat) : Nat := if bt (p 0) c = 1 then 0 else if bt (p 1) c = 1 then 1 else if bt (p 2) c = 1 then 2 else 3
theorem own_lt (p : Nat → Nat) (c : Nat) : own p c < 4 := by
  unfold own
  repeat' split
  all_goals decide
theorem own_cases (p : Nat → Nat) (c : Nat) : own p c = 0 ∨ own p c = 1 ∨ own p c = 2 ∨ own p c = 3 := by
  have := own_lt p c
  omega
theorem own_none (p : Nat → Nat) (c : Nat) : ∀ i, i < own p c → bt (p i) c = 0 := fun i hi => by
  have := bt_lt2 (p i) c
  unfold own at hi
  by_cases h0 : bt (p 0) c = 1
  · rw [if_pos h0] at hi; omega
  · rw [if_neg h0] at hi
    by_cases h1 : bt (p 1) c = 1
    · rw [if_pos h1] at hi
      obtain rfl : i = 0 := by omega
      omega
    · rw [if_neg h1] at hi
      by_cases h2 : bt (p 2) c = 1
      · rw [if_pos h2] at hi
        obtain rfl | rfl : i = 0 ∨ i = 1 := by omega
        · omega
        · omega
      · rw [if_neg h2] at hi
        obtain rfl | rfl | rfl : i = 0 ∨ i = 1 ∨ i = 2 := by omega
        · omega
        · omega
        · omega
theorem own_bit {p : Nat → Nat} (h : Rd p) {c : Nat} (hc : c < 52) : bt (p (own p c)) c = 1 := by
  have o := h.one c hc
  have := bt_lt2 (p 0) c; have := bt_lt2 (p 1) c; have := bt_lt2 (p 2) c; have := bt_lt2 (p 3) c
  unfold own
  by_cases h0 : bt (p 0) c = 1
  · rw [if_pos h0]; exact h0
  · rw [if_neg h0]
    by_cases h1 : bt (p 1) c = 1
    · rw [if_pos h1]; exact h1
    · rw [if_neg h1]
      by_cases h2 : bt (p 2) c = 1
      · rw [if_pos h2]; exact h2
      · rw [if_neg h2]; omega
theorem own_eq {p : Nat → Nat} (h : Rd p) {c : Nat} (hc : c < 52) {i : Nat} (hi : i < 4) : bt (p i) c = if own p c = i then 1 else 0 := by
  have o := h.one c hc
  have b := own_bit h hc
  have := bt_lt2 (p 0) c; have := bt_lt2 (p 1) c; have := bt_lt2 (p 2) c; have := bt_lt2 (p 3) c
  obtain e | e | e | e := own_cases p c
  all_goals rw [e] at b ⊢
  all_goals
    obtain rfl | rfl | rfl | rfl : i = 0 ∨ i = 1 ∨ i = 2 ∨ i = 3 := by omega
    all_goals simp
    all_goals omega
theorem own_ext {p q : Nat → Nat} (h : Rd p) (h' : Rd q) (e : ∀ c, c < 52 → own p c = own q c) : ∀ i, i < 4 → p i = q i := fun i hi =>
  bt_ext_lt (h.lt i hi) (h'.lt i hi) fun j hj => by rw [own_eq h hj hi, own_eq h' hj hi, e j hj]

/-- The cards below n that the two deals give to different seats, in increasing order. -/
def chg (p q : Nat → Nat) : Nat → List Nat
  | 0 => []
  | c + 1 => if own p c = own q c then chg p q c else chg p q c ++ [c]
theorem chg_lt (p q : Nat → Nat) : ∀ n c, c ∈ chg p q n → c < n ∧ own p c ≠ own q c
  | 0, c, h => by simp [chg] at h
  | n + 1, c, h => by
    unfold chg at h
    split at h
    · have := chg_lt p q n c h
      omega
    · rename_i hn
      rcases List.mem_append.1 h with h | h
      · have := chg_lt p q n c h
        omega
      · obtain rfl := List.mem_singleton.1 h
        exact ⟨Nat.lt_succ_self _, hn⟩
theorem chg_swap (p q : Nat → Nat) : ∀ n, chg q p n = chg p q n
  | 0 => rfl
  | n + 1 => by
    unfold chg
    rw [chg_swap p q n]
    by_cases h : own p n = own q n
    · rw [if_pos h, if_pos h.symm]
    · rw [if_neg h, if_neg (fun e => h e.symm)]
theorem chg_self (p : Nat → Nat) : ∀ n, chg p p n = []
  | 0 => rfl
  | n + 1 => by rw [chg, if_pos rfl, chg_self p n]
theorem chg_congr {p q p' q' : Nat → Nat} : ∀ n, (∀ c, c < n → own p c = own p' c ∧ own q c = own q' c) → chg p q n = chg p' q' n
  | 0, _ => rfl
  | n + 1, h => by
    rw [chg, chg, (h n (by omega)).1, (h n (by omega)).2, chg_congr n fun c hc => h c (by omega)]
theorem chg_nil {p q : Nat → Nat} : ∀ n, chg p q n = [] → ∀ c, c < n → own p c = own q c
  | 0, _, c, hc => absurd hc (Nat.not_lt_zero _)
  | n + 1, h, c, hc => by
    unfold chg at h
    split at h
    · rename_i e
      by_cases hn : c = n
      · subst hn; exact e
      · exact chg_nil n h c (by omega)
    · simp at h
theorem chg_len (p q : Nat → Nat) : ∀ n, (chg p q n).length ≤ n
  | 0 => Nat.le_refl _
  | n + 1 => by
    have := chg_len p q n
    unfold chg
    split
    · omega
    · simp; omega
theorem chg_sorted (p q : Nat → Nat) : ∀ n, (chg p q n).Pairwise (· < ·)
  | 0 => List.Pairwise.nil
  | n + 1 => by
    unfold chg
    split
    · exact chg_sorted p q n
    · refine List.pairwise_append.2 ⟨chg_sorted p q n, by simp, fun a ha b hb => ?_⟩
      rw [List.mem_singleton.1 hb]
      exact (chg_lt p q _ a ha).1
theorem chg_rises {p q : Nat → Nat} {n i a b : Nat} (ha : (chg p q n)[i]? = some a) (hb : (chg p q n)[i + 1]? = some b) : a < b := by
  obtain ⟨h1, e1⟩ := List.getElem?_eq_some_iff.1 ha
  obtain ⟨h2, e2⟩ := List.getElem?_eq_some_iff.1 hb
  have := List.pairwise_iff_getElem.1 (chg_sorted p q n) i (i + 1) h1 h2 (by omega)
  rw [e1, e2] at this
  exact this

/-- One change made: the card c leaves the seat that has it in p and comes to the one that has it in q. -/
def stepc (p q z : Nat → Nat) (c : Nat) : Nat → Nat := fun i =>
  let a := if i = own p c then wo (z i) (2 ^ c) else z i
  if i = own q c then a ||| 2 ^ c else a
/-- The bits below n are those of q, the others those of p. -/
def Mix (p q z : Nat → Nat) (n : Nat) : Prop := ∀ i, i < 4 → z i < 2 ^ 52 ∧ ∀ j, j < 52 → bt (z i) j = if j < n then bt (q i) j else bt (p i) j
theorem mix_start {p q : Nat → Nat} (h : Rd p) : Mix p q p 0 := fun i hi => ⟨h.lt i hi, fun j _ => by rw [if_neg (Nat.not_lt_zero _)]⟩
theorem mix_same {p q z : Nat → Nat} (h : Rd p) (h' : Rd q) {n : Nat} (hn : n < 52) (m : Mix p q z n) (e : own p n = own q n) : Mix p q z (n + 1) := fun i hi => by
  obtain ⟨a, b⟩ := m i hi
  refine ⟨a, fun j hj => ?_⟩
  rw [b j hj]
  by_cases hj2 : j = n
  · subst hj2
    rw [if_neg (Nat.lt_irrefl _), if_pos (Nat.lt_succ_self _), own_eq h hn hi, own_eq h' hn hi, e]
  · by_cases hl : j < n
    · rw [if_pos hl, if_pos (by omega)]
    · rw [if_neg hl, if_neg (by omega)]
theorem stepc_lt {p q z : Nat → Nat} {c i : Nat} (hc : c < 52) (hz : z i < 2 ^ 52) : stepc p q z c i < 2 ^ 52 := by
  have h1 : (if i = own p c then wo (z i) (2 ^ c) else z i) < 2 ^ 52 := by
    split
    · exact Nat.lt_of_le_of_lt (wo_le _ _) hz
    · exact hz
  unfold stepc
  dsimp only
  split
  · exact Nat.or_lt_two_pow h1 (Nat.pow_lt_pow_right (by decide) hc)
  · exact h1
theorem mix_step {p q z : Nat → Nat} (h : Rd p) (h' : Rd q) {n : Nat} (hn : n < 52) (m : Mix p q z n) (e : own p n ≠ own q n) : Mix p q (stepc p q z n) (n + 1) := fun i hi => by
  obtain ⟨a, b⟩ := m i hi
  refine ⟨stepc_lt hn a, fun j hj => ?_⟩
  have hw : bt (wo (z i) (2 ^ n)) j = bt (z i) j - bt (2 ^ n) j := bt_wo _ (Nat.lt_trans a (by decide)) j
  have hp := own_eq h hn hi
  have hq := own_eq h' hn hi
  have h2 := bt_pow n j
  have b' := b j hj
  have l2 := bt_lt2 (z i) j
  have key : bt (stepc p q z n i) j = if i = own q n then max (bt (if i = own p n then wo (z i) (2 ^ n) else z i) j) (bt (2 ^ n) j) else bt (if i = own p n then wo (z i) (2 ^ n) else z i) j := by
    unfold stepc
    dsimp only
    by_cases hs : i = own q n
    · rw [if_pos hs, if_pos hs, bt_or]
    · rw [if_neg hs, if_neg hs]
  rw [key]
  by_cases hj2 : j = n
  · subst hj2
    rw [if_pos rfl] at h2
    rw [if_neg (Nat.lt_irrefl _)] at b'
    rw [if_pos (Nat.lt_succ_self _), hq]
    by_cases hs : i = own q j
    · rw [if_pos hs, if_pos (show own q j = i from hs.symm), h2]
      have := bt_lt2 (if i = own p j then wo (z i) (2 ^ j) else z i) j
      omega
    · rw [if_neg hs, if_neg (show ¬ own q j = i from fun x => hs x.symm)]
      by_cases ht : i = own p j
      · rw [if_pos ht, hw, h2]; omega
      · rw [if_neg ht, b', hp, if_neg (show ¬ own p j = i from fun x => ht x.symm)]
  · rw [if_neg hj2] at h2
    have e1 : bt (if i = own p n then wo (z i) (2 ^ n) else z i) j = bt (z i) j := by
      split
      · rw [hw, h2]; omega
      · rfl
    rw [e1, h2]
    have e2 : (if i = own q n then max (bt (z i) j) 0 else bt (z i) j) = bt (z i) j := by
      split <;> omega
    rw [e2, b']
    by_cases hl : j < n
    · rw [if_pos hl, if_pos (by omega)]
    · rw [if_neg hl, if_neg (by omega)]
/-- All changes of a list made. -/
def doall (p q : Nat → Nat) (l : List Nat) (z : Nat → Nat) : Nat → Nat := l.foldl (stepc p q) z
theorem doall_mix {p q : Nat → Nat} (h : Rd p) (h' : Rd q) : ∀ n, n ≤ 52 → Mix p q (doall p q (chg p q n) p) n
  | 0, _ => mix_start h
  | n + 1, hn => by
    have m := doall_mix h h' n (by omega)
    unfold chg
    split
    · rename_i e
      exact mix_same h h' (by omega) m e
    · rename_i e
      rw [doall, List.foldl_append]
      exact mix_step h h' (by omega) m e
theorem doall_end {p q : Nat → Nat} (h : Rd p) (h' : Rd q) : ∀ i, i < 4 → doall p q (chg p q 52) p i = q i := fun i hi => by
  obtain ⟨a, b⟩ := doall_mix h h' 52 (by omega) i hi
  exact bt_ext_lt a (h'.lt i hi) fun j hj => by rw [b j hj, if_pos hj]
theorem doall_lt {p q : Nat → Nat} : ∀ (l : List Nat) (z : Nat → Nat), (∀ c ∈ l, c < 52) → (∀ i, i < 4 → z i < 2 ^ 52) → ∀ i, i < 4 → doall p q l z i < 2 ^ 52
  | [], _, _, hz => hz
  | c :: l, z, hl, hz => doall_lt l (stepc p q z c) (fun x hx => hl x (by simp [hx])) fun i hi => stepc_lt (hl c (by simp)) (hz i hi)
theorem doall_snoc (p q : Nat → Nat) (l : List Nat) (c : Nat) (z : Nat → Nat) : doall p q (l ++ [c]) z = stepc p q (doall p q l z) c := by
  rw [doall, List.foldl_append]; rfl

/-- How many cards of a list are with the seat s in p. -/
def cnt (p : Nat → Nat) (s : Nat) (l : List Nat) : Nat := l.countP fun c => own p c == s
theorem cnt_snoc (p : Nat → Nat) (s : Nat) (l : List Nat) (c : Nat) : cnt p s (l ++ [c]) = cnt p s l + if own p c = s then 1 else 0 := by
  unfold cnt
  rw [List.countP_append, List.countP_singleton]
  simp [beq_iff_eq]
theorem cnt_le (p : Nat → Nat) (s : Nat) (l : List Nat) : cnt p s l ≤ l.length := List.countP_le_length
/-- How many cards below n are with the seat s in both. -/
def both (p q : Nat → Nat) (s : Nat) : Nat → Nat
  | 0 => 0
  | c + 1 => both p q s c + if own p c = s ∧ own q c = s then 1 else 0
theorem cnt_both {p q : Nat → Nat} (h : Rd p) {s : Nat} (hs : s < 4) : ∀ n, n ≤ 52 → cnt p s (chg p q n) + both p q s n = ct (p s) n
  | 0, _ => rfl
  | n + 1, hn => by
    have i := cnt_both (q := q) h hs n (by omega)
    have b := own_eq h (c := n) (by omega) hs
    rw [ct, both]
    unfold chg
    have b2 : p s / 2 ^ n % 2 = bt (p s) n := rfl
    split
    · rename_i e
      by_cases hp : own p n = s
      · rw [if_pos ⟨hp, e ▸ hp⟩]; rw [if_pos hp] at b; omega
      · rw [if_neg (fun x => hp x.1)]; rw [if_neg hp] at b; omega
    · rename_i e
      rw [cnt_snoc]
      by_cases hp : own p n = s
      · rw [if_pos hp, if_neg (fun x => e (hp.trans x.2.symm))]; rw [if_pos hp] at b; omega
      · rw [if_neg hp, if_neg (fun x => hp x.1)]; rw [if_neg hp] at b; omega
theorem both_swap (p q : Nat → Nat) (s : Nat) : ∀ n, both q p s n = both p q s n
  | 0 => rfl
  | n + 1 => by
    rw [both, both, both_swap p q s n]
    by_cases h : own p n = s ∧ own q n = s
    · rw [if_pos h, if_pos h.symm]
    · rw [if_neg h, if_neg (fun x => h x.symm)]
theorem cnt_same {p q : Nat → Nat} (h : Rd p) (h' : Rd q) {s : Nat} (hs : s < 4) : cnt p s (chg p q 52) = cnt q s (chg p q 52) := by
  have a := cnt_both (q := q) h hs 52 (Nat.le_refl _)
  have b := cnt_both (q := p) h' hs 52 (Nat.le_refl _)
  rw [both_swap, chg_swap] at b
  have := h.all s hs
  have := h'.all s hs
  omega
end Go.Proofs.DB
