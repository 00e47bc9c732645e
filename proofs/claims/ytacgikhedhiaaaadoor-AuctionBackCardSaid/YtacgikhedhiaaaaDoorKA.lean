/- The strings of the calls; words between blanks; lists of calls and their strings: plain facts. -/
import Derived.Lib.Split
import Derived.Lib.SplitLaws
import Derived.Lib.Join
import Derived.Lib.IndexLaws
namespace Go.Proofs.YtacgikhedhiaaaaDoor

/-- The strings of all calls, in order. -/
def nms : List (List UInt8) := [[80], [88], [88, 88],
  [49, 67], [49, 68], [49, 72], [49, 83], [49, 78, 84],
  [50, 67], [50, 68], [50, 72], [50, 83], [50, 78, 84],
  [51, 67], [51, 68], [51, 72], [51, 83], [51, 78, 84],
  [52, 67], [52, 68], [52, 72], [52, 83], [52, 78, 84],
  [53, 67], [53, 68], [53, 72], [53, 83], [53, 78, 84],
  [54, 67], [54, 68], [54, 72], [54, 83], [54, 78, 84],
  [55, 67], [55, 68], [55, 72], [55, 83], [55, 78, 84]]
def nm (i : Nat) : List UInt8 := nms.getD i []
/-- The call with a string, from call i on. -/
def rdF (s : List UInt8) : Nat → Nat → Option Nat
  | 0, _ => none
  | k + 1, i => if nm i = s then some i else rdF s k (i + 1)
def rd (s : List UInt8) : Option Nat := rdF s 38 0
theorem rdF_some {s : List UInt8} : ∀ {k i c : Nat}, rdF s k i = some c → i ≤ c ∧ c < i + k ∧ nm c = s
  | 0, _, _, h => by cases h
  | k + 1, i, c, h => by
    unfold rdF at h
    split at h
    · cases h; exact ⟨Nat.le_refl _, by omega, by assumption⟩
    · have := rdF_some h
      exact ⟨by omega, by omega, this.2.2⟩
theorem rd_some {s : List UInt8} {c : Nat} (h : rd s = some c) : c < 38 ∧ nm c = s := by
  have := rdF_some h
  exact ⟨by omega, this.2.2⟩
set_option maxRecDepth 100000 in
theorem rd_nm : ∀ i, i < 38 → rd (nm i) = some i := by decide +kernel
theorem nm_inj {i j : Nat} (hi : i < 38) (hj : j < 38) (h : nm i = nm j) : i = j := by
  have a := rd_nm i hi
  rw [h, rd_nm j hj] at a
  cases a; rfl
theorem nm_blank : ∀ i, i < 38 → 32 ∉ nm i := by decide +kernel
theorem nm_byte : ∀ i, i < 38 → ∀ x ∈ nm i, x = 80 ∨ x = 88 ∨ x = 67 ∨ x = 68 ∨ x = 72 ∨ x = 83 ∨ x = 78 ∨ x = 84 ∨ (49 ≤ x ∧ x ≤ 55) := by decide +kernel
theorem nm_len : ∀ i, i < 38 → 1 ≤ (nm i).length ∧ (nm i).length ≤ 3 := by decide +kernel
theorem nm_ne {i : Nat} (h : i < 38) : nm i ≠ [] := fun e => by
  have := (nm_len i h).1
  rw [e] at this
  cases this
theorem rd_none {s : List UInt8} (h : ∀ i, i < 38 → nm i ≠ s) : rd s = none := by
  cases e : rd s with
  | none => rfl
  | some c => exact absurd (rd_some e).2 (h c (rd_some e).1)
theorem rd_blank {s : List UInt8} (h : 32 ∈ s) : rd s = none := rd_none fun i hi e => nm_blank i hi (e ▸ h)
theorem rd_hash {s : List UInt8} (h : 35 ∈ s) : rd s = none := rd_none fun i hi e => by
  subst e
  have := nm_byte i hi 35 h
  revert this; decide
theorem rd_nil : rd [] = none := by decide +kernel

/-- The words of a string, between blanks. -/
def wds : List UInt8 → List (List UInt8)
  | [] => [[]]
  | b :: r => if b = 32 then [] :: wds r else
    match wds r with
    | [] => [[b]]
    | w :: ws => (b :: w) :: ws
theorem wds_ne (s : List UInt8) : wds s ≠ [] := by
  cases s with
  | nil => simp [wds]
  | cons b r => unfold wds; split <;> (try split) <;> simp
theorem wds_cut (a r : List UInt8) (h : 32 ∉ a) : wds (a ++ 32 :: r) = a :: wds r := by
  induction a with
  | nil => simp [wds]
  | cons x a ih =>
    have hx : x ≠ 32 := fun e => h (by simp [e])
    have ih := ih (fun e => h (List.mem_cons_of_mem _ e))
    rw [List.cons_append, wds, if_neg hx, ih]
theorem wds_none (a : List UInt8) (h : 32 ∉ a) : wds a = [a] := by
  induction a with
  | nil => simp [wds]
  | cons x a ih =>
    have hx : x ≠ 32 := fun e => h (by simp [e])
    have ih := ih (fun e => h (List.mem_cons_of_mem _ e))
    rw [wds, if_neg hx, ih]
theorem wds_length (s : List UInt8) : (wds s).length = s.count 32 + 1 := by
  induction s with
  | nil => simp [wds]
  | cons b r ih =>
    unfold wds
    split
    · rename_i h; subst h; simp [ih]
    · rename_i h
      split
      · rename_i e; exact absurd e (wds_ne r)
      · rename_i w ws e
        rw [e] at ih
        rw [List.count_cons_of_ne (by simpa using h)]
        simpa using ih
theorem wds_blank (s : List UInt8) : ∀ a ∈ wds s, 32 ∉ a := by
  induction s with
  | nil => simp [wds]
  | cons b r ih =>
    unfold wds
    split
    · intro a ha
      rcases List.mem_cons.1 ha with rfl | h
      · simp
      · exact ih a h
    · rename_i hb
      split
      · intro a ha
        simp only [List.mem_singleton] at ha
        subst ha
        simpa using fun e => hb e.symm
      · rename_i w ws e
        rw [e] at ih
        intro a ha
        rcases List.mem_cons.1 ha with rfl | h
        · have := ih w List.mem_cons_self
          simpa using ⟨fun e => hb e.symm, this⟩
        · exact ih a (List.mem_cons_of_mem _ h)
/-- Words with a blank between two. -/
def jn : List (List UInt8) → List UInt8
  | [] => []
  | [a] => a
  | a :: r => a ++ 32 :: jn r
theorem jn_cons (a b : List UInt8) (r : List (List UInt8)) : jn (a :: b :: r) = a ++ 32 :: jn (b :: r) := rfl
theorem jn_cons_ne (a : List UInt8) {r : List (List UInt8)} (h : r ≠ []) : jn (a :: r) = a ++ 32 :: jn r := by
  cases r with
  | nil => exact absurd rfl h
  | cons b r => rfl
theorem jn_wds (s : List UInt8) : jn (wds s) = s := by
  induction s with
  | nil => rfl
  | cons b r ih =>
    unfold wds
    split
    · rename_i h; subst h
      rw [jn_cons_ne _ (wds_ne r), ih]; rfl
    · split
      · rename_i e; exact absurd e (wds_ne r)
      · rename_i w ws e
        rw [e] at ih
        cases ws with
        | nil => simp [jn] at ih ⊢; exact ih
        | cons x ws => rw [jn_cons] at ih ⊢; rw [List.cons_append, ih]
theorem wds_jn : ∀ (ws : List (List UInt8)), ws ≠ [] → (∀ a ∈ ws, 32 ∉ a) → wds (jn ws) = ws
  | [], h, _ => absurd rfl h
  | [a], _, h => wds_none a (h a (by simp))
  | a :: b :: r, _, h => by
    rw [jn_cons, wds_cut _ _ (h a (by simp)), wds_jn (b :: r) (by simp) (fun x hx => h x (List.mem_cons_of_mem _ hx))]
theorem jn_append : ∀ (a b : List (List UInt8)), a ≠ [] → b ≠ [] → jn (a ++ b) = jn a ++ 32 :: jn b
  | [], _, h, _ => absurd rfl h
  | [x], b, _, hb => by rw [List.singleton_append, jn_cons_ne _ hb]; rfl
  | x :: y :: r, b, _, hb => by
    rw [List.cons_append, jn_cons_ne _ (by simp), jn_append (y :: r) b (by simp) hb, jn_cons]
    simp
theorem join_jn : ∀ (ws : List (List UInt8)), Lib.join ws [32] = jn ws
  | [] => rfl
  | [a] => Lib.join_one a [32]
  | a :: b :: r => by
    have ih := join_jn (b :: r)
    rw [Lib.join_cons] at ih ⊢
    rw [jn_cons, ← ih]
    simp [Lib.joinTail]
theorem jn_length (ws : List (List UInt8)) (m : Nat) (h : ∀ a ∈ ws, a.length ≤ m) : (jn ws).length ≤ ws.length * (m + 1) := by
  match ws with
  | [] => simp [jn]
  | [a] =>
    have := h a (by simp)
    simp [jn]; omega
  | a :: b :: r =>
    have ih := jn_length (b :: r) m (fun x hx => h x (List.mem_cons_of_mem _ hx))
    have := h a (by simp)
    rw [jn_cons, List.length_append, List.length_cons, List.length_cons, Nat.succ_mul]
    omega
/-- strings.Split at a blank. -/
theorem index_blank (a r : List UInt8) (h : 32 ∉ a) : Lib.index (a ++ 32 :: r) [32] = a.length := by
  rw [Lib.index_one]
  induction a with
  | nil => rfl
  | cons x a ih =>
    have ih := ih (fun e => h (List.mem_cons_of_mem _ e))
    have hx : (x == 32) = false := by
      rw [beq_eq_false_iff_ne]
      rintro rfl
      exact h List.mem_cons_self
    simp only [List.cons_append, Lib.indexByte, hx, ih]
    have : ((a.length : Int) == -1) = false := by rw [beq_eq_false_iff_ne]; omega
    simp [this]
theorem cut_blank (s : List UInt8) (h : 32 ∈ s) : ∃ a r, s = a ++ 32 :: r ∧ 32 ∉ a := by
  induction s with
  | nil => cases h
  | cons b s ih =>
    by_cases hb : b = 32
    · exact ⟨[], s, by rw [hb]; rfl, by simp⟩
    · have h' : 32 ∈ s := by
        rcases List.mem_cons.1 h with e | h
        · exact absurd e.symm hb
        · exact h
      obtain ⟨a, r, rfl, ha⟩ := ih h'
      exact ⟨b :: a, r, rfl, by simpa using ⟨fun e => hb e.symm, ha⟩⟩
theorem split_wds : ∀ (k : Nat) (s : List UInt8), s.count 32 = k → Lib.splitK [32] 0 k s = wds s
  | 0, s, h => by
    rw [wds_none s (List.count_eq_zero.1 h)]; rfl
  | k + 1, s, h => by
    obtain ⟨a, r, rfl, ha⟩ := cut_blank s (List.count_pos_iff.1 (by omega))
    have hc : r.count 32 = k := by
      rw [List.count_append, List.count_eq_zero_of_not_mem ha, List.count_cons_self] at h
      omega
    unfold Lib.splitK
    rw [index_blank a r ha]
    have : ((a.length : Int) == -1) = false := by rw [beq_eq_false_iff_ne]; omega
    rw [this, if_neg (by simp), wds_cut a r ha, Int.toNat_natCast, Nat.add_zero, List.take_left, List.length_singleton]
    have hd : (a ++ 32 :: r).drop (a.length + 1) = r := by rw [List.drop_append]; simp
    rw [hd, split_wds k r hc]

/-- The calls of words, if each is one. -/
def rds : List (List UInt8) → Option (List Nat)
  | [] => some []
  | w :: ws =>
    match rd w with
    | none => none
    | some c => (rds ws).map (c :: ·)
theorem rds_some : ∀ {ws : List (List UInt8)} {l : List Nat}, rds ws = some l → ws = l.map nm ∧ ∀ c ∈ l, c < 38
  | [], l, h => by cases h; simp
  | w :: ws, l, h => by
    unfold rds at h
    cases e : rd w with
    | none => rw [e] at h; cases h
    | some c =>
      rw [e] at h
      obtain ⟨l', h', rfl⟩ := Option.map_eq_some_iff.1 h
      obtain ⟨a, b⟩ := rds_some h'
      obtain ⟨c1, c2⟩ := rd_some e
      refine ⟨by rw [a, List.map_cons, c2], fun x hx => ?_⟩
      rcases List.mem_cons.1 hx with rfl | hx
      · exact c1
      · exact b x hx
theorem rds_nms : ∀ (l : List Nat), (∀ c ∈ l, c < 38) → rds (l.map nm) = some l
  | [], _ => rfl
  | c :: l, h => by
    rw [List.map_cons, rds, rd_nm c (h c (by simp)), rds_nms l (fun x hx => h x (List.mem_cons_of_mem _ hx))]
    rfl
theorem rds_append_none : ∀ (a b : List (List UInt8)) (w : List UInt8), rd w = none → rds (a ++ w :: b) = none
  | [], b, w, h => by rw [List.nil_append, rds, h]
  | x :: a, b, w, h => by
    rw [List.cons_append, rds, rds_append_none a b w h]
    cases rd x <;> rfl
/-- The string of a list of calls. -/
def tx (l : List Nat) : List UInt8 := jn (l.map nm)
/-- The calls with a string; ReadAll's answer. -/
def rda (s : List UInt8) : Option (List Nat) := if s = [] then some [] else if 319 ≤ s.count 32 then none else rds (wds s)
theorem tx_eq_nil {l : List Nat} (h : ∀ c ∈ l, c < 38) (e : tx l = []) : l = [] := by
  match l with
  | [] => rfl
  | [c] => exact absurd e (nm_ne (h c (by simp)))
  | c :: d :: r => unfold tx at e; rw [List.map_cons, List.map_cons, jn_cons] at e; simp at e
theorem tx_blank {l : List Nat} (h : ∀ c ∈ l, c < 38) (hne : l ≠ []) : wds (tx l) = l.map nm := by
  refine wds_jn _ (by simpa using hne) fun a ha => ?_
  obtain ⟨c, hc, rfl⟩ := List.mem_map.1 ha
  exact nm_blank c (h c hc)
theorem rda_tx {l : List Nat} (h : ∀ c ∈ l, c < 38) (hl : l.length ≤ 319) : rda (tx l) = some l := by
  unfold rda
  by_cases hne : l = []
  · subst hne; rfl
  · have hw := tx_blank h hne
    have hc := wds_length (tx l)
    rw [hw, List.length_map] at hc
    rw [if_neg (fun e => hne (tx_eq_nil h e)), if_neg (by omega), hw, rds_nms l h]
theorem tx_inj {a b : List Nat} (ha : ∀ c ∈ a, c < 38) (hb : ∀ c ∈ b, c < 38) (e : tx a = tx b) : a = b := by
  by_cases h1 : a = []
  · subst h1; exact (tx_eq_nil hb e.symm).symm
  · by_cases h2 : b = []
    · subst h2; exact tx_eq_nil ha e
    · have h3 := congrArg rds ((tx_blank ha h1).symm.trans (e ▸ tx_blank hb h2))
      rw [rds_nms a ha, rds_nms b hb] at h3
      cases h3; rfl
theorem tx_append {a b : List Nat} (ha : a ≠ []) (hb : b ≠ []) : tx (a ++ b) = tx a ++ 32 :: tx b := by
  unfold tx
  rw [List.map_append, jn_append _ _ (by simpa using ha) (by simpa using hb)]
theorem rda_some {s : List UInt8} {l : List Nat} (h : rda s = some l) : tx l = s ∧ (∀ c ∈ l, c < 38) ∧ l.length ≤ 319 := by
  unfold rda at h
  split at h
  · cases h; simp_all [tx, jn]
  · split at h
    · cases h
    · rename_i hc
      obtain ⟨a, b⟩ := rds_some h
      have hl := wds_length s
      rw [a, List.length_map] at hl
      exact ⟨by unfold tx; rw [← a, jn_wds], b, by omega⟩
theorem tx_length {l : List Nat} (h : ∀ c ∈ l, c < 38) : (tx l).length ≤ l.length * 4 := by
  have := jn_length (l.map nm) 3 (fun a ha => by
    obtain ⟨c, hc, rfl⟩ := List.mem_map.1 ha
    exact (nm_len c (h c hc)).2)
  rwa [List.length_map] at this
end Go.Proofs.YtacgikhedhiaaaaDoor
