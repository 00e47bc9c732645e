/- Auctions: the declarer, the last bid, another dealer, what the last bid's risk is: plain facts. -/
import Derived.Test.YtacgikhedhiaaaaDoorLA
namespace Go.Proofs.YtacgikhedhiaaaaDoor

theorem sd_iff {a b : Nat} : sd a b = true ↔ a % 2 = b % 2 := by simp [sd]
/-- The first seat of a side that bids a denomination, from a turn on. -/
def dcl (seat den : Nat) : Nat → List Nat → Nat
  | _, [] => seat
  | t, c :: r => if (isb c && decide (prD c = den)) && sd t seat then t else dcl seat den ((t + 1) % 4) r
theorem prL_lt (c : Nat) : prL c ≤ 7 := by unfold prL; split; · rename_i h; have := isb_iff.1 h; omega
                                           · decide
theorem prL_pos {c : Nat} (h : isb c = true) : 1 ≤ prL c := by unfold prL; rw [if_pos h]; omega
theorem isb_0 : isb 0 = false := rfl
theorem dcl_lt {seat den : Nat} (h : seat < 4) : ∀ {l : List Nat} {t : Nat}, t < 4 → dcl seat den t l < 4
  | [], _, _ => h
  | c :: r, t, ht => by
    unfold dcl
    split
    · exact ht
    · exact dcl_lt h (Nat.mod_lt _ (by decide))
/-- The contract of a state that is over: level, denomination, risk, declarer. -/
def St.ctr (s : St) (d : Nat) (l : List Nat) : Nat × Nat × Nat × Nat := if isb s.bid then (prL s.bid, prD s.bid, s.risk, dcl s.seat (prD s.bid) d l) else (0, 0, 0, 0)
theorem St.Ok.isb {s : St} {d n : Nat} (h : s.Ok d n) : isb s.bid = decide (s.bid ≠ 0) := by
  by_cases h0 : s.bid = 0
  · rw [h0]; rfl
  · have := h.bid
    rw [decide_eq_true h0]
    exact isb_iff.2 (by omega)

/-- The index of the last bid. -/
def laF (l : List Nat) : Nat → Option Nat
  | 0 => none
  | k + 1 => if Go.Proofs.YtacgikhedhiaaaaDoor.isb (l.getD k 0) then some k else laF l k
def la (l : List Nat) : Option Nat := laF l l.length
theorem laF_congr {l l' : List Nat} : ∀ {k : Nat}, (∀ j, j < k → l.getD j 0 = l'.getD j 0) → laF l k = laF l' k
  | 0, _ => rfl
  | k + 1, h => by
    unfold laF
    rw [h k (by omega), laF_congr (fun j hj => h j (by omega))]
theorem la_snoc (l : List Nat) (c : Nat) : la (l ++ [c]) = if isb c then some l.length else la l := by
  unfold la
  rw [List.length_append, List.length_singleton, laF]
  have h1 : (l ++ [c]).getD l.length 0 = c := by rw [List.getD_eq_getElem?_getD, List.getElem?_concat_length]; rfl
  rw [h1, laF_congr (l := l ++ [c]) (l' := l) (fun j hj => by rw [List.getD_eq_getElem?_getD, List.getElem?_append_left hj, List.getD_eq_getElem?_getD])]
theorem laF_some {l : List Nat} : ∀ {n k : Nat}, laF l n = some k → k < n ∧ isb (l.getD k 0) = true ∧ ∀ j, k < j → j < n → isb (l.getD j 0) = false
  | 0, k, h => by cases h
  | n + 1, k, h => by
    unfold laF at h
    split at h
    · rename_i hb
      cases h
      exact ⟨by omega, hb, fun j h1 h2 => by omega⟩
    · rename_i hb
      obtain ⟨a, b, c⟩ := laF_some h
      refine ⟨by omega, b, fun j h1 h2 => ?_⟩
      by_cases hj : j = n
      · subst hj; simpa using hb
      · exact c j h1 (by omega)
theorem laF_none {l : List Nat} : ∀ {n : Nat}, laF l n = none → ∀ j, j < n → isb (l.getD j 0) = false
  | 0, _, j, hj => by omega
  | n + 1, h, j, hj => by
    unfold laF at h
    split at h
    · cases h
    · rename_i hb
      by_cases hj' : j = n
      · subst hj'; simpa using hb
      · exact laF_none h j (by omega)
theorem List.snoc_ind {α : Type} {p : List α → Prop} (h0 : p []) (h1 : ∀ l c, p l → p (l ++ [c])) (l : List α) : p l := by
  have : ∀ n (l : List α), l.length = n → p l := by
    intro n
    induction n with
    | zero => intro l h; rw [List.length_eq_zero_iff.1 h]; exact h0
    | succ n ih =>
      intro l h
      have hne : l ≠ [] := by rintro rfl; simp at h
      rw [← List.dropLast_concat_getLast hne]
      exact h1 _ _ (ih _ (by rw [List.length_dropLast]; omega))
  exact this _ l rfl
theorem St.run_snoc_inv {s t : St} {l : List Nat} {c : Nat} (h : St.run s (l ++ [c]) = some t) : ∃ u, St.run s l = some u ∧ u.ref c = 0 ∧ t = u.take c := by
  rw [St.run_append] at h
  obtain ⟨u, h1, h2⟩ := Option.bind_eq_some_iff.1 h
  refine ⟨u, h1, ?_⟩
  unfold St.run at h2
  split at h2
  · rename_i hc
    unfold St.run at h2
    cases h2
    exact ⟨hc, rfl⟩
  · cases h2
theorem St.take_nob {s : St} {c : Nat} (h : isb c = false) : (s.take c).bid = s.bid ∧ (s.take c).seat = s.seat := by
  unfold St.take
  rw [h]
  simp only [Bool.false_eq_true, if_false]
  split <;> exact ⟨rfl, rfl⟩
/-- The state's last bid is the list's. -/
theorem St.run_la {d : Nat} (hd : d < 4) (l : List Nat) : ∀ t, St.run (st0 d) l = some t → (t.bid = 0 ∧ la l = none) ∨ (isb t.bid = true ∧ ∃ k, la l = some k ∧ l[k]? = some t.bid ∧ t.seat = (d + k) % 4) := by
  induction l using List.snoc_ind with
  | h0 => intro t h; cases h; exact .inl ⟨rfl, rfl⟩
  | h1 l c ih =>
    intro t h
    obtain ⟨u, hu, hc, rfl⟩ := St.run_snoc_inv h
    have ok := St.ok_of hd hu
    rw [la_snoc]
    by_cases hb : isb c = true
    · rw [St.take_bid hb, if_pos hb]
      exact .inr ⟨hb, l.length, rfl, by simp, ok.turn⟩
    · have hb' : isb c = false := by simpa using hb
      rw [if_neg hb, (St.take_nob hb').1, (St.take_nob hb').2]
      rcases ih u hu with ⟨h1, h2⟩ | ⟨h1, k, h2, h3, h4⟩
      · exact .inl ⟨h1, h2⟩
      · exact .inr ⟨h1, k, h2, by rw [List.getElem?_append_left (List.getElem?_eq_some_iff.1 h3).1, h3], h4⟩
/-- Behind the last bid the last bid stays, and a call that is none is a double of the other side, or a redouble. -/
theorem St.step_nob {u : St} {d n c : Nat} (ok : u.Ok d n) (hc : u.ref c = 0) (hb : isb c = false) (h0 : c ≠ 0) : c = u.risk + 1 ∧ (sd u.turn u.seat = decide (u.risk = 1)) ∧ (u.take c).risk = c ∧ u.bid ≠ 0 := by
  obtain ⟨hlt, _, ha⟩ := St.ref_zero hc
  by_cases c1 : c = 1
  · subst c1
    simp [St.alw] at ha
    obtain ⟨⟨a, b⟩, c⟩ := ha
    refine ⟨by omega, ?_, rfl, a⟩
    rw [b]
    exact c
  · by_cases c2 : c = 2
    · subst c2
      simp [St.alw] at ha
      obtain ⟨a, b⟩ := ha
      refine ⟨by omega, ?_, rfl, fun h => by have := (ok.nob h).1; omega⟩
      rw [a, b]; rfl
    · have := isb_of hlt h0 c1 c2
      rw [hb] at this; cases this

/-- The state that the same calls make with another dealer. -/
def St.rot (s : St) (b : Nat) : St := ⟨s.bid, if s.bid = 0 then 0 else (s.seat + b) % 4, s.risk, (s.turn + b) % 4, s.pas⟩
theorem sd_rot (a b c : Nat) : sd ((a + c) % 4) ((b + c) % 4) = sd a b := by
  unfold sd
  by_cases h : a % 2 = b % 2
  · rw [decide_eq_true h, decide_eq_true (by omega)]
  · rw [decide_eq_false h, decide_eq_false (by omega)]
theorem St.rot_ref {s : St} {d n : Nat} (ok : s.Ok d n) (b c : Nat) : (s.rot b).ref c = s.ref c := by
  have ho : (s.rot b).over = s.over := rfl
  have ha : (s.rot b).alw c = s.alw c := by
    by_cases h0 : s.bid = 0
    · have hr := (ok.nob h0).1
      unfold St.alw St.rot
      simp [h0, hr]
    · unfold St.alw St.rot
      simp only [if_neg h0, sd_rot]
  unfold St.ref
  rw [ho, ha]
theorem St.rot_take {s : St} {d n : Nat} (ok : s.Ok d n) (b c : Nat) : (s.rot b).take c = (s.take c).rot b := by
  unfold St.take
  by_cases hb : Go.Proofs.YtacgikhedhiaaaaDoor.isb c = true
  · have hc : c ≠ 0 := by have := isb_iff.1 hb; omega
    rw [if_pos hb, if_pos hb]
    unfold St.rot
    simp only [if_neg hc, St.mk.injEq, true_and]
    exact ⟨by omega, trivial⟩
  · rw [if_neg hb, if_neg hb]
    by_cases h0 : c = 0
    · rw [if_pos h0, if_pos h0]
      unfold St.rot
      simp only [St.mk.injEq, true_and]
      exact ⟨by omega, trivial⟩
    · rw [if_neg h0, if_neg h0]
      unfold St.rot
      simp only [St.mk.injEq, true_and]
      exact ⟨by omega, trivial⟩
theorem St.rot_run : ∀ {l : List Nat} {s t : St} {d n : Nat} (b : Nat), s.Ok d n → St.run s l = some t → St.run (s.rot b) l = some (t.rot b)
  | [], s, t, d, n, b, ok, h => by cases h; rfl
  | c :: r, s, t, d, n, b, ok, h => by
    unfold St.run at h ⊢
    rw [St.rot_ref ok, St.rot_take ok]
    split at h
    · rename_i hc
      rw [if_pos hc]
      exact St.rot_run b (ok.next hc) h
    · cases h
theorem rot_st0 (d b : Nat) : (st0 d).rot b = st0 ((d + b) % 4) := rfl
theorem dcl_rot (seat den b : Nat) : ∀ (l : List Nat) (t : Nat), dcl ((seat + b) % 4) den ((t + b) % 4) l = (dcl seat den t l + b) % 4
  | [], t => rfl
  | c :: r, t => by
    unfold dcl
    rw [sd_rot, show ((t + b) % 4 + 1) % 4 = ((t + 1) % 4 + b) % 4 by omega, dcl_rot seat den b r]
    split <;> rfl
end Go.Proofs.YtacgikhedhiaaaaDoor
