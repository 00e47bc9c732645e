/- Auctions: tables, and what is read of them: plain facts. -/
import Derived.Test.YtacgikhedhiaaaaDoorLB
namespace Go.Proofs.YtacgikhedhiaaaaDoor

def pad (w : List UInt8) : List UInt8 := w ++ List.replicate (5 - w.length) 32
theorem pad_len {w : List UInt8} (h : w.length ≤ 5) : (pad w).length = 5 := by unfold pad; rw [List.length_append, List.length_replicate]; omega
/-- Line r of a table. -/
def ln (ws : List (List UInt8)) (r : Nat) : List UInt8 := pad (ws.getD (4 * r) []) ++ (pad (ws.getD (4 * r + 1) []) ++ (pad (ws.getD (4 * r + 2) []) ++ pad (ws.getD (4 * r + 3) [])))
def tbl (ws : List (List UInt8)) : List (List UInt8) := (List.range ((ws.length + 3) / 4)).map (ln ws)
/-- The words of a table. -/
def wrd (d : Nat) (l : List Nat) (s : St) : List (List UInt8) := List.replicate d [45] ++ (l.map nm ++ if s.over then [] else [[63]])
theorem tbl_len (ws : List (List UInt8)) : (tbl ws).length = (ws.length + 3) / 4 := by simp [tbl]
/-- A string without the blanks at its end. -/
def trm (w : List UInt8) : List UInt8 := (w.reverse.dropWhile (· == 32)).reverse
theorem trm_snoc (w : List UInt8) (x : UInt8) : trm (w ++ [x]) = if x = 32 then trm w else w ++ [x] := by
  unfold trm
  rw [List.reverse_append, List.reverse_singleton, List.singleton_append, List.dropWhile_cons]
  by_cases h : x = 32
  · subst h; simp
  · rw [if_neg h, if_neg (by simpa using h)]; simp
theorem trm_nil : trm [] = [] := rfl
theorem trm_pad {w : List UInt8} (h : 32 ∉ w) (n : Nat) : trm (w ++ List.replicate n 32) = w := by
  induction n with
  | zero =>
    rw [List.replicate_zero, List.append_nil]
    rcases List.eq_nil_or_concat w with rfl | ⟨a, x, e⟩
    · rfl
    · rw [List.concat_eq_append] at e; subst e; rw [trm_snoc, if_neg (fun e => h (by simp [e]))]
  | succ n ih =>
    rw [List.replicate_succ', ← List.append_assoc, trm_snoc, if_pos rfl, ih]
/-- The words of a line. -/
def cutl (s : List UInt8) : List (List UInt8) := [trm (s.take 5), trm ((s.drop 5).take 5), trm ((s.drop 10).take 5), trm ((s.drop 15).take 5)]
def cuts (t : List (List UInt8)) : List (List UInt8) := t.flatMap cutl
/-- How many words are a hyphen, of the first n. -/
def hyp : Nat → List (List UInt8) → Nat
  | 0, _ => 0
  | _, [] => 0
  | n + 1, w :: r => if w = [45] then hyp n r + 1 else 0
/-- The calls that words begin with. -/
def tkn : List (List UInt8) → List Nat
  | [] => []
  | w :: r => match rd w with
    | none => []
    | some c => c :: tkn r
/-- What is read of a table: dealer, calls, error. -/
def rdD (t : List (List UInt8)) : Nat := hyp 4 (cuts t)
def rdL (t : List (List UInt8)) : List Nat := tkn ((cuts t).drop (rdD t))
/-- Whether a table is that of an auction. -/
def isT (d : Nat) (l : List Nat) (t : List (List UInt8)) : Bool := match St.run (st0 d) l with
  | none => false
  | some s => decide (d < 4) && decide (tbl (wrd d l s) = t)
def rdOk (t : List (List UInt8)) : Bool := t.all (fun s => s.length == 20) && isT (rdD t) (rdL t) t
theorem word_ok {d : Nat} {l : List Nat} {s : St} (hl : ∀ c ∈ l, c < 38) : ∀ w ∈ wrd d l s, 32 ∉ w ∧ w.length ≤ 3 := by
  intro w hw
  unfold wrd at hw
  rcases List.mem_append.1 hw with h | h
  · rw [List.eq_of_mem_replicate h]; decide
  · rcases List.mem_append.1 h with h | h
    · obtain ⟨c, hc, rfl⟩ := List.mem_map.1 h
      exact ⟨nm_blank c (hl c hc), (nm_len c (hl c hc)).2⟩
    · split at h
      · cases h
      · rw [List.mem_singleton.1 h]; decide
theorem getD_ok {ws : List (List UInt8)} (h : ∀ w ∈ ws, 32 ∉ w ∧ w.length ≤ 3) (k : Nat) : 32 ∉ ws.getD k [] ∧ (ws.getD k []).length ≤ 3 := by
  rw [List.getD_eq_getElem?_getD]
  cases e : ws[k]? with
  | none => simp
  | some w => exact h w (List.mem_of_getElem? e)
theorem ln_len {ws : List (List UInt8)} (h : ∀ w ∈ ws, 32 ∉ w ∧ w.length ≤ 3) (r : Nat) : (ln ws r).length = 20 := by
  have p : ∀ k, (pad (ws.getD k [])).length = 5 := fun k => pad_len (by have := (getD_ok h k).2; omega)
  unfold ln
  simp only [List.length_append, p]
theorem cutl_ln {ws : List (List UInt8)} (h : ∀ w ∈ ws, 32 ∉ w ∧ w.length ≤ 3) (r : Nat) : cutl (ln ws r) = [ws.getD (4 * r) [], ws.getD (4 * r + 1) [], ws.getD (4 * r + 2) [], ws.getD (4 * r + 3) []] := by
  have p : ∀ k, (pad (ws.getD k [])).length = 5 := fun k => pad_len (by have := (getD_ok h k).2; omega)
  have q : ∀ k, trm (pad (ws.getD k [])) = ws.getD k [] := fun k => trm_pad (getD_ok h k).1 _
  unfold cutl ln
  generalize hA : pad (ws.getD (4 * r) []) = A
  generalize hB : pad (ws.getD (4 * r + 1) []) = B
  generalize hC : pad (ws.getD (4 * r + 2) []) = C
  generalize hD : pad (ws.getD (4 * r + 3) []) = D
  have a := p (4 * r); rw [hA] at a
  have b := p (4 * r + 1); rw [hB] at b
  have c := p (4 * r + 2); rw [hC] at c
  have d := p (4 * r + 3); rw [hD] at d
  have d1 : (A ++ (B ++ (C ++ D))).drop 5 = B ++ (C ++ D) := List.drop_left' a
  have d2 : (A ++ (B ++ (C ++ D))).drop 10 = C ++ D := by rw [show (10 : Nat) = 5 + 5 from rfl, ← List.drop_drop, d1, List.drop_left' b]
  have d3 : (A ++ (B ++ (C ++ D))).drop 15 = D := by rw [show (15 : Nat) = 10 + 5 from rfl, ← List.drop_drop, d2, List.drop_left' c]
  rw [d1, d2, d3, List.take_left' a, List.take_left' b, List.take_left' c, List.take_of_length_le (Nat.le_of_eq d), ← hA, ← hB, ← hC, ← hD, q, q, q, q]
theorem flat4 (ws : List (List UInt8)) : ∀ n, (List.range n).flatMap (fun r => [ws.getD (4 * r) [], ws.getD (4 * r + 1) [], ws.getD (4 * r + 2) [], ws.getD (4 * r + 3) []]) = (List.range (4 * n)).map (fun k => ws.getD k [])
  | 0 => rfl
  | n + 1 => by
    rw [List.range_succ, List.flatMap_append, flat4 ws n, show 4 * (n + 1) = 4 * n + 1 + 1 + 1 + 1 by omega]
    simp only [List.range_succ, List.map_append, List.flatMap_cons, List.flatMap_nil, List.map_cons, List.map_nil, List.append_nil, List.append_assoc, List.cons_append, List.nil_append]
theorem range_getD {α : Type} (ws : List α) (z : α) : (List.range ws.length).map (fun k => ws.getD k z) = ws := by
  apply List.ext_getElem?
  intro i
  rw [List.getElem?_map]
  by_cases h : i < ws.length
  · rw [List.getElem?_range h]
    simp [List.getD_eq_getElem?_getD, h]
  · rw [List.getElem?_eq_none (by simp; omega), List.getElem?_eq_none (by omega)]; rfl
theorem range_pad {α : Type} (ws : List α) (z : α) (m : Nat) : (List.range (ws.length + m)).map (fun k => ws.getD k z) = ws ++ List.replicate m z := by
  induction m with
  | zero => rw [Nat.add_zero, range_getD]; simp
  | succ m ih =>
    rw [← Nat.add_assoc, List.range_succ, List.map_append, ih, List.replicate_succ', ← List.append_assoc]
    congr 1
    simp [List.getD_eq_getElem?_getD]
theorem cuts_tbl {ws : List (List UInt8)} (h : ∀ w ∈ ws, 32 ∉ w ∧ w.length ≤ 3) : ∃ m, cuts (tbl ws) = ws ++ List.replicate m [] := by
  unfold cuts tbl
  rw [List.flatMap_map]
  have : (fun a => cutl (ln ws a)) = fun r => [ws.getD (4 * r) [], ws.getD (4 * r + 1) [], ws.getD (4 * r + 2) [], ws.getD (4 * r + 3) []] := funext fun r => cutl_ln h r
  rw [this, flat4]
  refine ⟨4 * ((ws.length + 3) / 4) - ws.length, ?_⟩
  rw [← range_pad]
  congr 2
  omega
theorem tkn_append : ∀ {l : List Nat} {r : List (List UInt8)}, (∀ c ∈ l, c < 38) → (∀ w, r.head? = some w → rd w = none) → tkn (l.map nm ++ r) = l
  | [], r, _, h => by
    cases r with
    | nil => rfl
    | cons w r => show tkn (w :: r) = []; unfold tkn; rw [h w rfl]
  | c :: l, r, hl, h => by
    rw [List.map_cons, List.cons_append, tkn, rd_nm c (hl c List.mem_cons_self)]
    show c :: tkn (l.map nm ++ r) = _
    rw [tkn_append (fun x hx => hl x (List.mem_cons_of_mem _ hx)) h]
theorem rd_63 : rd [63] = none := by decide +kernel
theorem nm_45 : ∀ i, i < 38 → nm i ≠ [45] := by decide +kernel
theorem hyp_rep : ∀ {d n : Nat} {r : List (List UInt8)}, d ≤ n → (d = n ∨ ∀ w, r.head? = some w → w ≠ [45]) → hyp n (List.replicate d [45] ++ r) = d
  | 0, 0, r, _, _ => by unfold hyp; rfl
  | 0, n + 1, r, _, h => by
    rcases h with h | h
    · omega
    · cases r with
      | nil => rfl
      | cons w r => show hyp (n + 1) (w :: r) = 0; unfold hyp; rw [if_neg (h w rfl)]
  | d + 1, 0, r, h, _ => by omega
  | d + 1, n + 1, r, hd, h => by
    rw [List.replicate_succ, List.cons_append, hyp, if_pos rfl, hyp_rep (by omega) (h.imp (by omega) id)]
/-- A table is read as the auction that it was made of. -/
theorem rd_tbl {d : Nat} {l : List Nat} {s : St} (hd : d < 4) (h : St.run (st0 d) l = some s) : rdD (tbl (wrd d l s)) = d ∧ rdL (tbl (wrd d l s)) = l ∧ rdOk (tbl (wrd d l s)) = true := by
  have hl := St.run_lt h
  have hw := word_ok (d := d) (s := s) hl
  obtain ⟨m, hm⟩ := cuts_tbl hw
  have hD : rdD (tbl (wrd d l s)) = d := by
    unfold rdD
    rw [hm]
    unfold wrd
    rw [List.append_assoc]
    refine hyp_rep (by omega) (.inr fun w hw => ?_)
    cases l with
    | cons c l =>
      simp at hw
      subst hw
      exact nm_45 c (hl c List.mem_cons_self)
    | nil =>
      by_cases ho : s.over = true
      · rw [if_pos ho] at hw
        cases m with
        | zero => simp at hw
        | succ m => simp [List.replicate_succ] at hw; subst hw; decide
      · rw [if_neg ho] at hw
        simp at hw
        subst hw; decide
  have hL : rdL (tbl (wrd d l s)) = l := by
    unfold rdL
    rw [hD, hm]
    unfold wrd
    rw [List.append_assoc, List.drop_left' (by simp), List.append_assoc]
    refine tkn_append hl fun w hw => ?_
    by_cases ho : s.over = true
    · rw [if_pos ho] at hw
      cases m with
      | zero => simp at hw
      | succ m => simp [List.replicate_succ] at hw; subst hw; exact rd_nil
    · rw [if_neg ho] at hw
      simp at hw
      subst hw; exact rd_63
  refine ⟨hD, hL, ?_⟩
  unfold rdOk
  rw [hD, hL]
  unfold isT
  rw [h]
  simp only [hd, decide_true, Bool.true_and, Bool.and_true]
  rw [List.all_eq_true]
  intro x hx
  obtain ⟨r, _, rfl⟩ := List.mem_map.1 hx
  simpa using ln_len hw r
end Go.Proofs.YtacgikhedhiaaaaDoor
