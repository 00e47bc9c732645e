/- Auctions: the state that calls make, what is legal, how far it goes: plain facts. -/
import Derived.Test.YtacgikhedhiaaaaDoorKC
namespace Go.Proofs.YtacgikhedhiaaaaDoor

/-- The state of an auction: the last bid (0: none), its seat, the risk, whose turn it is, the passes behind the last call that is none. -/
structure St where
  bid : Nat
  seat : Nat
  risk : Nat
  turn : Nat
  pas : Nat
  deriving DecidableEq
def st0 (d : Nat) : St := ⟨0, 0, 0, d, 0⟩
def St.over (s : St) : Bool := if s.bid = 0 then decide (s.pas = 4) else decide (s.pas = 3)
/-- Whether two seats are of one side. -/
def sd (a b : Nat) : Bool := decide (a % 2 = b % 2)
/-- Whether a call is legal where the auction is not over. -/
def St.alw (s : St) (c : Nat) : Bool :=
  if c = 0 then true
  else if c = 1 then (decide (s.bid ≠ 0) && decide (s.risk = 0)) && !sd s.turn s.seat
  else if c = 2 then decide (s.risk = 1) && sd s.turn s.seat
  else decide (s.bid < c)
def St.take (s : St) (c : Nat) : St :=
  if isb c then ⟨c, s.turn, 0, (s.turn + 1) % 4, 0⟩
  else if c = 0 then ⟨s.bid, s.seat, s.risk, (s.turn + 1) % 4, s.pas + 1⟩
  else ⟨s.bid, s.seat, if c = 1 then 1 else if c = 2 then 2 else 0, (s.turn + 1) % 4, 0⟩
/-- Why a call is refused; 0 if it isn't. -/
def St.ref (s : St) (c : Nat) : Nat := if c < 38 then (if s.over then 90 else if s.alw c then 0 else 2) else 80
theorem St.ref_zero {s : St} {c : Nat} (h : s.ref c = 0) : c < 38 ∧ s.over = false ∧ s.alw c = true := by
  unfold St.ref at h
  split at h
  · split at h
    · cases h
    · split at h
      · rename_i h1 h2 h3
        exact ⟨h1, by simpa using h2, h3⟩
      · cases h
  · cases h
theorem St.ref_of {s : St} {c : Nat} (h1 : c < 38) (h2 : s.over = false) (h3 : s.alw c = true) : s.ref c = 0 := by
  unfold St.ref
  rw [if_pos h1, h2, h3]; rfl
/-- The state behind calls, as long as each is legal. -/
def St.run : St → List Nat → Option St
  | s, [] => some s
  | s, c :: r => if s.ref c = 0 then St.run (s.take c) r else none
/-- The same with the index of the first call that is not legal, and why. -/
def St.fol : St → Nat → List Nat → St × Int × Nat
  | s, _, [] => (s, -1, 0)
  | s, i, c :: r => if s.ref c = 0 then St.fol (s.take c) (i + 1) r else (⟨0, 0, 0, 0, 0⟩, i, s.ref c)
theorem St.run_append : ∀ (a b : List Nat) (s : St), St.run s (a ++ b) = (St.run s a).bind (fun t => St.run t b)
  | [], b, s => rfl
  | c :: a, b, s => by
    rw [List.cons_append, St.run, St.run]
    split
    · exact St.run_append a b _
    · rfl
theorem St.run_snoc {s t : St} {l : List Nat} {c : Nat} (h : St.run s l = some t) (hc : t.ref c = 0) : St.run s (l ++ [c]) = some (t.take c) := by
  rw [St.run_append, h]
  simp [St.run, hc]
theorem St.run_part {s t : St} {l : List Nat} (h : St.run s l = some t) (i : Nat) : ∃ u, St.run s (l.take i) = some u ∧ St.run u (l.drop i) = some t := by
  rw [← List.take_append_drop i l, St.run_append] at h
  obtain ⟨u, h1, h2⟩ := Option.bind_eq_some_iff.1 h
  exact ⟨u, h1, h2⟩
theorem St.fol_run : ∀ {l : List Nat} {s t : St} {i : Nat}, St.run s l = some t → St.fol s i l = (t, -1, 0)
  | [], s, t, i, h => by cases h; rfl
  | c :: r, s, t, i, h => by
    unfold St.run at h
    unfold St.fol
    split at h
    · rename_i hc; rw [if_pos hc]; exact St.fol_run h
    · cases h
theorem St.fol_append : ∀ {l : List Nat} {s t : St} {i : Nat} (r : List Nat), St.run s l = some t → St.fol s i (l ++ r) = St.fol t (i + l.length) r
  | [], s, t, i, r, h => by cases h; rfl
  | c :: l, s, t, i, r, h => by
    unfold St.run at h
    rw [List.cons_append, St.fol]
    split at h
    · rename_i hc; rw [if_pos hc, St.fol_append r h, List.length_cons, Nat.add_assoc, Nat.add_comm 1]
    · cases h
theorem St.fol_bad {l r : List Nat} {s t : St} {c : Nat} (h : St.run s l = some t) (hc : t.ref c ≠ 0) : St.fol s 0 (l ++ c :: r) = ((⟨0, 0, 0, 0, 0⟩ : St), (l.length : Int), t.ref c) := by
  rw [St.fol_append _ h, St.fol, if_neg hc, Nat.zero_add]
theorem St.fol_none : ∀ {l : List Nat} {s : St} {i : Nat}, St.run s l = none → (St.fol s i l).1 = ⟨0, 0, 0, 0, 0⟩ ∧ (St.fol s i l).2.2 ≠ 0
  | [], s, i, h => by cases h
  | c :: r, s, i, h => by
    unfold St.run at h
    unfold St.fol
    split at h
    · rename_i hc; rw [if_pos hc]; exact St.fol_none h
    · rename_i hc; rw [if_neg hc]; exact ⟨rfl, hc⟩
theorem St.fol_zero {l : List Nat} {s : St} {i : Nat} (h : (St.fol s i l).2.2 = 0) : ∃ t, St.run s l = some t := by
  cases e : St.run s l with
  | none => exact absurd h (St.fol_none e).2
  | some t => exact ⟨t, rfl⟩
theorem St.fol_err : ∀ {l : List Nat} {s : St} {i : Nat}, (St.fol s i l).2.2 = 0 ∨ (St.fol s i l).2.2 = 2 ∨ (St.fol s i l).2.2 = 80 ∨ (St.fol s i l).2.2 = 90
  | [], s, i => .inl rfl
  | c :: r, s, i => by
    unfold St.fol
    split
    · exact St.fol_err
    · show s.ref c = 0 ∨ _
      unfold St.ref
      split <;> (try split) <;> (try split) <;> simp
/-- What is so in each state that n legal calls make. -/
structure St.Ok (s : St) (d n : Nat) : Prop where
  bid : s.bid = 0 ∨ (3 ≤ s.bid ∧ s.bid ≤ 37)
  risk : s.risk ≤ 2
  seat : s.seat < 4
  turn : s.turn = (d + n) % 4
  nob : s.bid = 0 → s.risk = 0 ∧ s.pas = n ∧ n ≤ 4 ∧ s.seat = 0
  hasb : s.bid ≠ 0 → s.pas ≤ 3 ∧ n ≤ 4 + 9 * (s.bid - 3) + 3 * s.risk + s.pas
theorem St.ok0 (d : Nat) (h : d < 4) : (st0 d).Ok d 0 := ⟨.inl rfl, Nat.zero_le _, by show 0 < 4; omega, by show d = _; omega, fun _ => ⟨rfl, rfl, by decide, rfl⟩, fun h => absurd rfl h⟩
theorem St.Ok.turn_lt {s : St} {d n : Nat} (h : s.Ok d n) : s.turn < 4 := by rw [h.turn]; omega
theorem St.Ok.pas_le {s : St} {d n : Nat} (h : s.Ok d n) : s.pas ≤ 4 := by
  by_cases h0 : s.bid = 0
  · have := h.nob h0; omega
  · have := h.hasb h0; omega
theorem St.take_bid {s : St} {c : Nat} (h : isb c = true) : s.take c = ⟨c, s.turn, 0, (s.turn + 1) % 4, 0⟩ := by unfold St.take; rw [if_pos h]
theorem St.take_0 (s : St) : s.take 0 = ⟨s.bid, s.seat, s.risk, (s.turn + 1) % 4, s.pas + 1⟩ := rfl
theorem St.take_1 (s : St) : s.take 1 = ⟨s.bid, s.seat, 1, (s.turn + 1) % 4, 0⟩ := rfl
theorem St.take_2 (s : St) : s.take 2 = ⟨s.bid, s.seat, 2, (s.turn + 1) % 4, 0⟩ := rfl
theorem isb_of {c : Nat} (h : c < 38) (h0 : c ≠ 0) (h1 : c ≠ 1) (h2 : c ≠ 2) : isb c = true := isb_iff.2 (by omega)
theorem St.Ok.next {s : St} {d n : Nat} (h : s.Ok d n) {c : Nat} (hc : s.ref c = 0) : (s.take c).Ok d (n + 1) := by
  obtain ⟨h1, h2, h5, h6, h3, h4⟩ := h
  obtain ⟨hlt, ho, ha⟩ := St.ref_zero hc
  unfold St.over at ho
  unfold St.alw at ha
  by_cases c0 : c = 0
  · subst c0
    rw [St.take_0]
    by_cases h0 : s.bid = 0
    · obtain ⟨r0, p0, l0, q0⟩ := h3 h0
      simp [h0] at ho
      exact ⟨h1, h2, h5, by simp only; omega, fun _ => ⟨r0, by simp only; omega, by omega, q0⟩, fun h => absurd h0 h⟩
    · obtain ⟨p3, l4⟩ := h4 h0
      simp [h0] at ho
      exact ⟨h1, h2, h5, by simp only; omega, fun h => absurd h h0, fun _ => ⟨by simp only; omega, by simp only; omega⟩⟩
  · by_cases c1 : c = 1
    · subst c1
      rw [St.take_1]
      simp at ha
      obtain ⟨⟨h0, hr⟩, _⟩ := ha
      obtain ⟨p3, l4⟩ := h4 h0
      simp [h0] at ho
      exact ⟨h1, by simp, h5, by simp only; omega, fun h => absurd h h0, fun _ => ⟨by simp, by simp only; omega⟩⟩
    · by_cases c2 : c = 2
      · subst c2
        rw [St.take_2]
        simp at ha
        obtain ⟨hr, _⟩ := ha
        have h0 : s.bid ≠ 0 := fun h => by have := (h3 h).1; omega
        obtain ⟨p3, l4⟩ := h4 h0
        simp [h0] at ho
        exact ⟨h1, by simp, h5, by simp only; omega, fun h => absurd h h0, fun _ => ⟨by simp, by simp only; omega⟩⟩
      · have hb := isb_of hlt c0 c1 c2
        rw [St.take_bid hb]
        have hb := isb_iff.1 hb
        simp [c0, c1, c2] at ha
        have ht : s.turn < 4 := by omega
        by_cases h0 : s.bid = 0
        · obtain ⟨r0, p0, l0, q0⟩ := h3 h0
          simp [h0] at ho
          exact ⟨.inr hb, by simp, ht, by simp only; omega, fun h => by simp only at h; omega, fun _ => ⟨by simp, by simp only; omega⟩⟩
        · obtain ⟨p3, l4⟩ := h4 h0
          simp [h0] at ho
          exact ⟨.inr hb, by simp, ht, by simp only; omega, fun h => by simp only at h; omega, fun _ => ⟨by simp, by simp only; omega⟩⟩
theorem St.Ok.run : ∀ {l : List Nat} {s t : St} {d n : Nat}, s.Ok d n → St.run s l = some t → t.Ok d (n + l.length)
  | [], s, t, d, n, h, e => by cases e; exact h
  | c :: r, s, t, d, n, h, e => by
    unfold St.run at e
    split at e
    · rename_i hl
      have := St.Ok.run (h.next hl) e
      rw [List.length_cons]
      rwa [Nat.add_assoc, Nat.add_comm 1] at this
    · cases e
theorem St.ok_of {d : Nat} {l : List Nat} {t : St} (hd : d < 4) (h : St.run (st0 d) l = some t) : t.Ok d l.length := by
  have := (St.ok0 d hd).run h
  rwa [Nat.zero_add] at this
theorem St.Ok.len_le {s : St} {d n : Nat} (h : s.Ok d n) : n ≤ 319 := by
  by_cases h0 : s.bid = 0
  · have := (h.nob h0).2.2.1; omega
  · have := h.hasb h0
    have := h.risk
    have := h.bid
    omega
theorem St.run_lt : ∀ {l : List Nat} {s t : St}, St.run s l = some t → ∀ c ∈ l, c < 38
  | [], s, t, _ => by simp
  | c :: r, s, t, e => by
    unfold St.run at e
    split at e
    · rename_i hl
      intro x hx
      rcases List.mem_cons.1 hx with rfl | hx
      · exact (St.ref_zero hl).1
      · exact St.run_lt e x hx
    · cases e
theorem St.alw_0 (s : St) : s.alw 0 = true := rfl
theorem St.ref_0 {s : St} (h : s.over = false) : s.ref 0 = 0 := St.ref_of (by decide) h rfl
/-- The calls that are legal next. -/
def St.lgl (s : St) : List Nat := (List.range 38).filter s.alw
theorem St.mem_lgl {s : St} {c : Nat} : c ∈ s.lgl ↔ c < 38 ∧ s.alw c = true := by simp [St.lgl]
theorem St.lgl_le (s : St) : s.lgl.length ≤ 38 := by
  have := List.length_filter_le s.alw (List.range 38)
  rwa [List.length_range] at this
theorem St.lgl_cons (s : St) : s.lgl = 0 :: (List.range' 1 37).filter s.alw := by
  unfold St.lgl
  rw [show List.range 38 = 0 :: List.range' 1 37 from by decide]
  rw [List.filter_cons, if_pos (St.alw_0 s)]
/-- How many passes are missing to the end. -/
def St.mis (s : St) : Nat := if s.bid = 0 then 4 - s.pas else 3 - s.pas
theorem St.mis_le (s : St) : s.mis ≤ 4 := by unfold St.mis; split <;> omega
theorem St.Ok.mis_0 {s : St} {d n : Nat} (h : s.Ok d n) (h0 : s.mis = 0) : s.over = true := by
  unfold St.mis at h0
  unfold St.over
  by_cases hb : s.bid = 0
  · rw [if_pos hb] at h0 ⊢
    have := h.nob hb
    exact decide_eq_true (by omega)
  · rw [if_neg hb] at h0 ⊢
    have := h.hasb hb
    exact decide_eq_true (by omega)
theorem St.mis_take {s : St} : (s.take 0).mis = s.mis - 1 := by
  rw [St.take_0]
  unfold St.mis
  simp only
  split <;> omega
end Go.Proofs.YtacgikhedhiaaaaDoor
