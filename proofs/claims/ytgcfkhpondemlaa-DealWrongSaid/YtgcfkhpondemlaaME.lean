/- SA, SB, SCb, SC, SD, SE, SF, SG, SH. -/
import Derived.Test.YtgcfkhpondemlaaG
import Derived.Test.YtgcfkhpondemlaaProg
import Derived.Deep.RegionHeld3
import Derived.StillTailTactics
import Derived.Deep.RegionWith
import Derived.RangeFuncNested
import Derived.RangeFuncBound
import Derived.RangeFuncCalls
import Derived.RangeFuncLeaves
import Derived.OwnWalkIn
import Derived.TacticsInMore
import Derived.Deep.DeepCutAuto
import Derived.Deep.Cut
import Derived.Deep.LoopGhost
import Derived.Laws.OwnMore
import Derived.Shelf.SlicesE.Clone
import Derived.Lib.Hide
/-! SA -/
namespace Go.Proofs.Ytgcfkhpondemlaa.Se
open Go.RowKit

/-- The next state. -/
def nxt (s : Nat) : Nat := s * 48271 % 2147483647
/-- A state that is right. -/
def St (s : Nat) : Prop := 1 ≤ s ∧ s ≤ 2147483646
theorem inv_a : 48271 * 1899818559 % 2147483647 = 1 := by decide
theorem nxt_St {s : Nat} (h : St s) : St (nxt s) := by
  unfold St nxt at *
  have hlt := Nat.mod_lt (s * 48271) (show 0 < 2147483647 by decide)
  have hne : s * 48271 % 2147483647 ≠ 0 := by
    intro e
    have h1 : s * (48271 * 1899818559) % 2147483647 = 0 := by
      rw [← Nat.mul_assoc, Nat.mul_mod, e, Nat.zero_mul, Nat.zero_mod]
    have h2 : s * (48271 * 1899818559) % 2147483647 = s % 2147483647 := by
      rw [Nat.mul_mod, inv_a, Nat.mul_one, Nat.mod_mod]
    rw [h2] at h1
    rw [Nat.mod_eq_of_lt (by omega)] at h1
    omega
  omega
/-- The powers that make up k steps, the lowest first. -/
def pows (p left : Nat) : List Nat :=
  if h : left = 0 then [] else if left % 2 = 1 then p :: pows (p * p % 2147483647) (left / 2) else pows (p * p % 2147483647) (left / 2)
termination_by left
decreasing_by all_goals omega
theorem pows_zero (p : Nat) : pows p 0 = [] := by rw [pows]; exact dif_pos rfl
theorem pows_odd (p left : Nat) (h : left % 2 = 1) : pows p left = p :: pows (p * p % 2147483647) (left / 2) := by
  rw [pows, dif_neg (by omega), if_pos h]
theorem pows_even (p left : Nat) (h0 : left ≠ 0) (h : left % 2 ≠ 1) : pows p left = pows (p * p % 2147483647) (left / 2) := by
  rw [pows, dif_neg h0, if_neg h]
def times (s p : Nat) : Nat := s * p % 2147483647
theorem pow_step (p left : Nat) : (p * p % 2147483647) ^ (left / 2) % 2147483647 = p ^ (2 * (left / 2)) % 2147483647 := by
  rw [← Nat.pow_mod, Nat.pow_mul, Nat.pow_two]
theorem pows_fold : ∀ (left : Nat) (p s : Nat), s < 2147483647 → (pows p left).foldl times s = s * p ^ left % 2147483647 := by
  intro left
  induction left using Nat.strongRecOn with
  | _ left ih =>
    intro p s hs
    by_cases h0 : left = 0
    · subst h0
      rw [pows_zero]
      simp only [List.foldl_nil, Nat.pow_zero, Nat.mul_one]
      exact (Nat.mod_eq_of_lt hs).symm
    · by_cases h1 : left % 2 = 1
      · rw [pows_odd p left h1, List.foldl_cons, ih (left / 2) (by omega) _ (times s p) (show times s p < _ from Nat.mod_lt _ (by decide))]
        have e : p ^ left = p * p ^ (2 * (left / 2)) := by
          rw [← Nat.pow_succ']
          congr 1
          omega
        rw [e]
        unfold times
        rw [Nat.mul_mod, pow_step, ← Nat.mul_mod, Nat.mul_mod, Nat.mod_mod, ← Nat.mul_mod, Nat.mul_assoc]
      · rw [pows_even p left h0 h1, ih (left / 2) (by omega) _ _ hs]
        have e : p ^ left = p ^ (2 * (left / 2)) := by
          congr 1
          omega
        rw [e, Nat.mul_mod, pow_step, ← Nat.mul_mod]
theorem pows_lt : ∀ (left : Nat) (p : Nat), p < 2147483647 → ∀ x ∈ pows p left, x < 2147483647 := by
  intro left
  induction left using Nat.strongRecOn with
  | _ left ih =>
    intro p hp x hx
    by_cases h0 : left = 0
    · subst h0
      rw [pows_zero] at hx
      cases hx
    · by_cases h1 : left % 2 = 1
      · rw [pows_odd p left h1] at hx
        rcases List.mem_cons.1 hx with e | hx
        · rw [e]; exact hp
        · exact ih (left / 2) (by omega) _ (Nat.mod_lt _ (by decide)) x hx
      · rw [pows_even p left h0 h1] at hx
        exact ih (left / 2) (by omega) _ (Nat.mod_lt _ (by decide)) x hx
/-- The state after k steps, k at least 0. -/
def jmp (s k : Nat) : Nat := s * 48271 ^ k % 2147483647
theorem jmp_fold (s k : Nat) (hs : s < 2147483647) : (pows 48271 k).foldl times s = jmp s k := pows_fold k 48271 s hs
theorem jmp_zero {s : Nat} (hs : St s) : jmp s 0 = s := by unfold jmp St at *; rw [Nat.pow_zero, Nat.mul_one, Nat.mod_eq_of_lt (by omega)]
theorem jmp_one (s : Nat) : jmp s 1 = nxt s := by unfold jmp nxt; rw [Nat.pow_one]
theorem jmp_jmp (s i j : Nat) : jmp (jmp s i) j = jmp s (i + j) := by
  unfold jmp
  rw [Nat.pow_add, ← Nat.mul_assoc, Nat.mul_mod, Nat.mod_mod, ← Nat.mul_mod]
theorem jmp_succ (s k : Nat) : jmp s (k + 1) = nxt (jmp s k) := by rw [← jmp_jmp, jmp_one]
theorem jmp_St {s : Nat} (h : St s) : ∀ k, St (jmp s k)
  | 0 => by rw [jmp_zero h]; exact h
  | k + 1 => by rw [jmp_succ]; exact nxt_St (jmp_St h k)
theorem cycle_fold : (pows 48271 2147483646).foldl times 1 = 1 := by decide +kernel
theorem cycle (c : Nat) (hc : c = 2147483646) : 48271 ^ c % 2147483647 = 1 := by
  have h := pows_fold c 48271 1 (by decide)
  rw [Nat.one_mul] at h
  rw [← h, hc, cycle_fold]
theorem jmp_cyc (s k c : Nat) (hc : c = 2147483646) : jmp s (c + k) = jmp s k := by
  unfold jmp
  rw [Nat.pow_add, ← Nat.mul_assoc, Nat.mul_mod, Nat.mul_mod s, cycle c hc, Nat.mul_one, Nat.mod_mod, ← Nat.mul_mod]
theorem jmp_cycle (s k : Nat) : jmp s (2147483646 + k) = jmp s k := jmp_cyc s k _ rfl
theorem jmp_mod (s k : Nat) : jmp s (k % 2147483646) = jmp s k := by
  have h : ∀ q, jmp s (2147483646 * q + k % 2147483646) = jmp s (k % 2147483646) := by
    intro q
    induction q with
    | zero => rw [Nat.mul_zero, Nat.zero_add]
    | succ q ih => rw [Nat.mul_succ, Nat.add_comm (2147483646 * q), Nat.add_assoc, jmp_cycle, ih]
  rw [← h (k / 2147483646), Nat.div_add_mod]
/-- k steps modulo a cycle. -/
def stp (k : Int) : Nat := (k % 2147483646).toNat
theorem stp_lt (k : Int) : stp k < 2147483646 := by unfold stp; omega
theorem jmp_add (s : Nat) (a b : Int) : jmp (jmp s (stp a)) (stp b) = jmp s (stp (a + b)) := by
  rw [jmp_jmp, ← jmp_mod s (stp a + stp b)]
  congr 1
  unfold stp
  omega
theorem stp_zero : stp 0 = 0 := by decide
theorem stp_one : stp 1 = 1 := by decide
theorem stp_cycle : stp 2147483646 = 0 := by decide
end Go.Proofs.Ytgcfkhpondemlaa.Se

/-! SB -/
namespace Go.Proofs.Ytgcfkhpondemlaa.Se
open Go.RowKit

theorem tmod_V (n : Int) : -2147483646 < n.tmod 2147483646 ∧ n.tmod 2147483646 < 2147483646 ∧ n.tmod 2147483646 % 2147483646 = n % 2147483646 := by
  by_cases h : 0 ≤ n
  · rw [Int.tmod_eq_emod_of_nonneg h]
    omega
  · obtain ⟨m, rfl⟩ : ∃ m : Int, n = -m := ⟨-n, by omega⟩
    rw [Int.neg_tmod, Int.tmod_eq_emod_of_nonneg (by omega)]
    omega
theorem rem_V (n : Int) : IntKind.i64.wrap (n.tmod 2147483646 + 2147483646) = n.tmod 2147483646 + 2147483646 ∧ (n.tmod 2147483646 + 2147483646).tmod 2147483646 = (stp n : Int) := by
  obtain ⟨h1, h2, h3⟩ := tmod_V n
  refine ⟨IntWalk.i64_in _ (by omega), ?_⟩
  rw [Int.tmod_eq_emod_of_nonneg (by omega)]
  unfold stp
  omega
theorem remainder_calls (n : Int) (w : World) : Calls Try.prog 44 #[.int .i64 n] w fun e w' => e = .returned (.int .i64 (stp n)) ∧ w = w' := by
  obtain ⟨e0, e1⟩ := rem_V n
  go_enter Try.func44, Try.ntmps44
  go_wp2
  go_ret
  exact ⟨rfl, rfl⟩
theorem step_num (s : Nat) (h : St s) : IntKind.i64.wrap ((s : Int) * 48271) = (s : Int) * 48271 ∧ ((s : Int) * 48271).tmod 2147483647 = (nxt s : Int) ∧ IntKind.i64.wrap ((nxt s : Int) - 1) = ((nxt s - 1 : Nat) : Int) := by
  have h2 := nxt_St h
  unfold St at h h2
  refine ⟨IntWalk.i64_in _ (by omega), ?_, ?_⟩
  · rw [Int.tmod_eq_emod_of_nonneg (by omega)]
    unfold nxt
    omega
  · rw [IntWalk.i64_in _ (by omega)]
    omega
theorem step_calls (s : Nat) (h : St s) (w : World) : Calls Try.prog 64 #[.int .i64 s] w fun e w' => e = .returned (.tuple #[.int .i64 (nxt s), .int .i64 ((nxt s - 1 : Nat) : Int)]) ∧ Below w.heap.size w w' := by
  obtain ⟨e0, e1, e2⟩ := step_num s h
  go_enter Try.func64, Try.ntmps64
  go_wp2
  refine bodyPost_ret (by simp [results, Try.results64, go_sem]) rfl ⟨rfl, ?_⟩
  repeat (first | (with_reducible exact Below.refl _ _) | ((with_reducible refine below_grow ?_ ?_); rotate_left; focus (first | omega | (simp [go_sem]; done) | (simp [go_sem]; omega))) | ((with_reducible refine Below.alloc ?_ ?_ _); rotate_left; focus (first | omega | (simp [go_sem]; done) | (simp [go_sem]; omega))) | ((with_reducible refine Below.setCell ?_ ?_ _); rotate_left; focus (first | omega | (simp [go_sem]; done) | (simp [go_sem]; omega))) | (with_reducible refine Below.drew ?_) | (with_reducible refine below_drewN _ ?_))
theorem of_calls3 (n : Int) (w : World) : Calls Try.prog 22 #[.int .i64 n] w fun e w' => e = .returned (.int .i64 ((stp n + 1 : Nat) : Int)) ∧ Below w.heap.size w w' := by
  have hl := stp_lt n
  have e0 : IntKind.i64.wrap (1 + (stp n : Int)) = ((stp n + 1 : Nat) : Int) := by rw [IntWalk.i64_in _ (by omega)]; omega
  go_enter Try.func22, Try.ntmps22
  go_wp2_with (go_at_call 44; refine (remainder_calls _ _).mono ?_; rintro e w1 ⟨rfl, rfl⟩)
  refine bodyPost_ret (by simp [results, Try.results22, go_sem]) rfl ⟨rfl, ?_⟩
  repeat (first | (with_reducible exact Below.refl _ _) | ((with_reducible refine below_grow ?_ ?_); rotate_left; focus (first | omega | (simp [go_sem]; done) | (simp [go_sem]; omega))) | ((with_reducible refine Below.alloc ?_ ?_ _); rotate_left; focus (first | omega | (simp [go_sem]; done) | (simp [go_sem]; omega))) | ((with_reducible refine Below.setCell ?_ ?_ _); rotate_left; focus (first | omega | (simp [go_sem]; done) | (simp [go_sem]; omega))) | (with_reducible refine Below.drew ?_) | (with_reducible refine below_drewN _ ?_))
theorem right_calls (s : Int) (w : World) : Calls Try.prog 24 #[.int .i64 s] w fun e w' => e = .returned (.bool (decide (1 ≤ s ∧ s ≤ 2147483646))) ∧ w = w' := by
  by_cases h1 : 1 ≤ s <;> by_cases h2 : s ≤ 2147483646
  all_goals
    rw [show decide (1 ≤ s ∧ s ≤ 2147483646) = _ from by first | exact decide_eq_true ⟨h1, h2⟩ | exact decide_eq_false (by omega)]
    go_enter Try.func24, Try.ntmps24
    go_wp2
    go_ret
    exact ⟨rfl, rfl⟩
theorem right_yes (s : Nat) (h : St s) (w : World) : Calls Try.prog 24 #[.int .i64 s] w fun e w' => e = .returned (.bool true) ∧ w = w' := by
  have := right_calls s w
  unfold St at h
  rwa [decide_eq_true (by omega)] at this
theorem right_no (s : Int) (h : ¬ (1 ≤ s ∧ s ≤ 2147483646)) (w : World) : Calls Try.prog 24 #[.int .i64 s] w fun e w' => e = .returned (.bool false) ∧ w = w' := by
  have := right_calls s w
  rwa [decide_eq_false h] at this
end Go.Proofs.Ytgcfkhpondemlaa.Se

/-! SCb -/
namespace Go.Proofs.Ytgcfkhpondemlaa.Se
open Go.RowKit

def KeepA (B : Nat) (w w' : World) : Prop := ∀ k, B ≤ k → k < w.heap.size → w'.heap[k]? = w.heap[k]?
/-- Block b has the cells cs. -/
def blk (w : World) (b : Nat) (cs : Array Value) (t : TypeId) : Prop := w.heap[b]? = some (.cells cs t (0, 0))
theorem blk_cell {w : World} {b : Nat} {cs : Array Value} {t : TypeId} (h : blk w b cs t) (i : Nat) : w.cell? ⟨b, i, none⟩ = cs[i]? := by
  unfold blk at h; exact cell_of_row w b i cs t (0, 0) h
theorem blk_free {w : World} {b : Nat} {cs : Array Value} {t : TypeId} (h : blk w b cs t) (i : Nat) : w.frozen? ⟨b, i, none⟩ = false := frozen_of_row w b i cs t h
theorem blk_lt {w : World} {b : Nat} {cs : Array Value} {t : TypeId} (h : blk w b cs t) : b < w.heap.size := lt_of_block h
theorem blk_set {w : World} {b : Nat} {cs : Array Value} {t : TypeId} (h : blk w b cs t) (i : Nat) (v : Value) : blk (w.setCell ⟨b, i, none⟩ v) b (cs.setIfInBounds i v) t := heap_setCell_same w b i cs t v h
theorem blk_grown {w w' : World} {b : Nat} {cs : Array Value} {t : TypeId} {row : Option Nat} (h : blk w b cs t) (hg : w.grownBy w' row) (hne : some b ≠ row) : blk w' b cs t :=
  (hg.block b (blk_lt h) hne).trans h
theorem blk_grow {w : World} {b : Nat} {cs : Array Value} {t : TypeId} (h : blk w b cs t) (x : Array Obj) (d : Nat) : blk (grow w x d) b cs t := (grow_heap (blk_lt h)).trans h
theorem blk_alloc {w : World} {b : Nat} {cs : Array Value} {t : TypeId} (h : blk w b cs t) (o : Obj) : blk (w.alloc o) b cs t := by
  have := blk_lt h
  unfold blk at *
  rw [show (w.alloc o).heap = w.heap.push o from rfl, Array.getElem?_push, if_neg (by omega)]
  exact h
theorem own_grow {w : World} {base : Nat} {e : TypeId} {size : Nat} {v : Value} {n : Nat} {xs : List Value} (h : w.ownsRow base e size v n xs) (x : Array Obj) (d : Nat) : (grow w x d).ownsRow base e size v n xs := by
  refine ⟨h.1, ?_⟩
  rcases h.2 with h1 | ⟨g, cap, cur, h1, h2, h3, h4⟩
  · exact .inl h1
  · exact .inr ⟨g, cap, cur, h1, h2, (grow_heap (lt_of_block h3)).trans h3, h4⟩
theorem blk_new (w : World) (cs : Array Value) (t : TypeId) : blk (w.alloc (.cells cs t)) w.heap.size cs t := by
  show (w.heap.push _)[w.heap.size]? = _
  simp
theorem blk_at (w : World) (cs : Array Value) (t : TypeId) {b : Nat} (h : b = w.heap.size) : blk (w.alloc (.cells cs t)) b cs t := by subst h; exact blk_new w cs t
theorem blk_below {w w' : World} {b B : Nat} {cs : Array Value} {t : TypeId} (h : blk w b cs t) (hb : Below B w w') (hlt : b < B) : blk w' b cs t := (hb.block b hlt).trans h
theorem keepA_set {w : World} {B b : Nat} (i : Nat) (v : Value) (h : b < B) : KeepA B w (w.setCell ⟨b, i, none⟩ v) := fun k hk _ => Below.heap_setCell _ _ _ _ (show k ≠ b by omega)
theorem below_putObj (w : World) (l : Nat) (o : Obj) (B : Nat) (h : B ≤ l) : Below B w (w.putObj l o) :=
  ⟨rfl, rfl, rfl, by simp [World.putObj], fun k hk => World.putObj_heap_other (by omega)⟩
theorem keepA_putObj (w : World) (l : Nat) (o : Obj) (B : Nat) (h : l < B) : KeepA B w (w.putObj l o) :=
  fun k hk _ => World.putObj_heap_other (by omega)
theorem keepA_trans {B : Nat} {a b c : World} (h : KeepA B a b) (hs : a.heap.size ≤ b.heap.size) (k : KeepA B b c) : KeepA B a c :=
  fun i h1 h2 => (k i h1 (by omega)).trans (h i h1 h2)
/-- how a round's body must be left: off its end -/
def offEnd (B : Nat) (I : World → Prop) (W : World) : Exit → Act → World → Prop
  | .normal, _, W' => KeepsOthers W W' ∧ KeepA B W W' ∧ I W'
  | _, _, _ => False
theorem range_idx {P : Program} {g : Operand} {ps : Array Tmp} {assign body : Code} {Q : Exit → Act → World → Prop} {a : Act} {w : World} {gf : Nat} {lb : Array Value}
    (hg : a.eval g = .func (.func gf) #[] lb) (eg : ∀ args w, (callFunc gf args).run P w = .ok (.enter gf args) w) {p : Nat} (hps : ps = #[p])
    (I : Nat → World → Prop) (hI : ∀ i W W', I i W → Below w.heap.size W W' → I i W')
    (Rel : Nat → Value → World → Prop) (hRel : ∀ i x W W', Rel i x W → KeepA (w.heap.size + 2) W W' → Rel i x W')
    (M : Nat) (h0 : I 0 w)
    (hseq : ∀ (l : Nat) (J : Nat → World → Prop) (W : World), l < w.heap.size + 2 → (∀ i W W', J i W → Below (w.heap.size + 2) W W' → J i W') → (∀ i W, J i W → I i W ∧ w.heap.size + 2 ≤ W.heap.size) →
      (∀ i x W, i < M → J i W → Rel i x W → YieldAt Fence.wide 2 P l #[x] W fun e W' => e = .returned (.bool true) ∧ J (i + 1) W' ∧ KeepA (w.heap.size + 2) W W') →
      J 0 W → Calls P gf (#[.func (.yield l) #[] #[]] ++ lb) W fun e W' => (∃ v, e = .returned v) ∧ J M W')
    (q : Nat)
    (hassign : ∀ (l i : Nat) (x : Value) (W : World) (K : Act → World → Prop), Rel i x W → K { tmps := (a.tmps.setIfInBounds p x).setIfInBounds q x, defers := [] } W →
      assign.wpIn (Fence.wide.inRound l) 2 P (Exit.then K (fun _ _ _ => False)) { tmps := a.tmps.setIfInBounds p x, defers := [] } W)
    (hbody : ∀ (l i : Nat) (x : Value) (W : World), i < M → I i W → Rel i x W → body.wpIn (Fence.wide.inRound l) 2 P (offEnd (w.heap.size + 2) (I (i + 1)) W) { tmps := (a.tmps.setIfInBounds p x).setIfInBounds q x, defers := [] } W)
    (hdone : ∀ (D : Nat) (W : World), I M W → w.heap.size ≤ D → W.heap[D]? = some (.deferred (some [])) → Q .normal { a with defers := { target := .collected D, args := #[] } :: a.defers } W) :
    (Code.rangeFunc g ps assign body).wp P Q a w := by
  subst hps
  refine (wpIn_wide (n := 3)).1 ?_
  refine wpIn_rangeFunc ?_
  intro fn _
  let rc : LoopState → Loop := fun st => { state := st, pending := none, fn, tmps := a.tmps, params := #[p], assign, body, defers := w.heap.size }
  obtain ⟨W1, hW1⟩ : ∃ W1, (w.alloc (.deferred (some []))).alloc (.loop (rc .ready)) = W1 := ⟨_, rfl⟩
  have sz1 : W1.heap.size = w.heap.size + 2 := by rw [← hW1]; simp
  have l1 : W1.heap[w.heap.size + 1]? = some (.loop (rc .ready)) := by
    rw [← hW1]
    have := World.alloc_heap_new (w.alloc (.deferred (some []))) (.loop (rc .ready))
    simpa using this
  have d1 : W1.heap[w.heap.size]? = some (.deferred (some [])) := by
    rw [← hW1]
    exact (Below.heap_alloc _ _ _ (by simp)).trans (World.alloc_heap_new w _)
  have i1 : I 0 W1 := hI 0 w W1 h0 (by rw [← hW1]; exact ((Below.refl w.heap.size w).alloc (Nat.le_refl _) _).alloc (by simp) _)
  refine ⟨w.heap.size + 1, [{ target := .collected w.heap.size, args := #[] }], W1, { target := .fn (.func gf) lb, args := #[.func (.yield (w.heap.size + 1)) #[] #[]] }, W1, gf,
    #[.func (.yield (w.heap.size + 1)) #[] #[]] ++ lb, W1, ?_, ?_, ?_, ?_, ?_, ?_⟩
  · rw [← hW1]; exact run_enterLoop_outer _ _ _ _ _
  · simp only [resolve, hg]
    simp [go_sem]
  · intro f' _; trivial
  · simp [invoke, go_sem, eg]
  · intro h; cases h
  · refine callsIn_wide.2 ((hseq (w.heap.size + 1)
      (fun i W => I i W ∧ W.heap[w.heap.size + 1]? = some (.loop (rc .ready)) ∧ W.heap[w.heap.size]? = some (.deferred (some [])))
      W1 (by omega) ?_ ?_ ?_ ⟨i1, l1, d1⟩).mono ?_)
    · rintro i X Y ⟨h1, h2, h3⟩ hb
      exact ⟨hI i X Y h1 (hb.mono (by omega)), (hb.block _ (by omega)).trans h2, (hb.block _ (by omega)).trans h3⟩
    · rintro i X ⟨h1, h2, _⟩
      exact ⟨h1, by have := (Array.getElem?_eq_some_iff.1 h2).1; omega⟩
    · rintro i x X hiN ⟨h1, h2, h3⟩ hr
      have hlt := (Array.getElem?_eq_some_iff.1 h2).1
      refine ⟨fn, _, assign, body, run_yield (args := #[x]) h2 (by simp [rc]), roundIn_of_wpIn trivial ?_⟩
      have e0 : ((rc .ready).params.zip #[x]).foldl (fun tmps (t, a) => tmps.setIfInBounds t a) (rc .ready).tmps = a.tmps.setIfInBounds p x := by simp [rc]
      rw [e0]
      refine hassign _ i x X _ hr ⟨_, run_beginRound h2 rfl, ?_⟩
      have l2 := World.putObj_heap_same (w := X) (r := w.heap.size + 1) (o := .loop { rc .ready with state := .busy }) hlt
      have d2 := (World.putObj_heap_other (w := X) (r := w.heap.size + 1) (k := w.heap.size) (o := .loop { rc .ready with state := .busy }) (by omega)).trans h3
      have kA := keepA_putObj X (w.heap.size + 1) (.loop { rc .ready with state := .busy }) (w.heap.size + 2) (by omega)
      refine wpIn_mono (hbody _ i x _ hiN (hI i X _ h1 (below_putObj _ _ _ _ (by omega))) (hRel i x X _ hr kA)) ?_
      rintro e a3 Y hp
      cases e with
      | normal =>
        obtain ⟨ko, ka, hi⟩ := hp
        have l3 := ko.same _ _ l2 rfl
        have d3 := ko.same _ _ d2 rfl
        refine ⟨_, _, run_endRound none l3, rfl, ⟨hI _ Y _ hi (below_putObj _ _ _ _ (by omega)), World.putObj_heap_same (Array.getElem?_eq_some_iff.1 l3).1, (World.putObj_heap_other (by omega)).trans d3⟩, ?_⟩
        refine keepA_trans (keepA_trans kA (by simp [World.putObj]) ka) (Nat.le_trans (by simp [World.putObj]) ko.size) (keepA_putObj Y _ _ _ (by omega))
      | ret => exact hp.elim
      | exit id => exact hp.elim
      | goto t => exact hp.elim
      | panic ch => exact hp.elim
      | outgrown => exact hp.elim
    · rintro e X ⟨⟨v, rfl⟩, h1, h2, h3⟩
      have hlt := (Array.getElem?_eq_some_iff.1 h2).1
      exact ⟨none, _, run_endLoop h2 (by simp [rc]), hdone w.heap.size _ (hI _ X _ h1 (below_putObj _ _ _ _ (by omega))) (Nat.le_refl _) ((World.putObj_heap_other (by omega)).trans h3)⟩
end Go.Proofs.Ytgcfkhpondemlaa.Se

/-! SC -/
namespace Go.Proofs.Ytgcfkhpondemlaa.Se
open Go.RowKit
attribute [local go_sem] Oper.semAt_some

theorem sq_num (p : Nat) (h : p < 2147483647) : IntKind.i64.wrap ((p : Int) * p) = (p : Int) * p ∧ ((p : Int) * p).tmod 2147483647 = ((p * p % 2147483647 : Nat) : Int) := by
  have h1 : p * p ≤ 2147483646 * 2147483646 := Nat.mul_le_mul (by omega) (by omega)
  have e : (p : Int) * p = ((p * p : Nat) : Int) := (Int.natCast_mul p p).symm
  rw [e]
  refine ⟨IntWalk.i64_in _ (by omega), ?_⟩
  rw [Int.tmod_eq_emod_of_nonneg (by omega)]
  omega
theorem drop_cons {l m : List Nat} {i x : Nat} (h : l.drop i = x :: m) : l[i]? = some x ∧ l.drop (i + 1) = m ∧ i < l.length := by
  have h1 : (l.drop i)[0]? = some x := by rw [h]; rfl
  rw [List.getElem?_drop, Nat.add_zero] at h1
  refine ⟨h1, ?_, (List.getElem?_eq_some_iff.1 h1).1⟩
  rw [← List.drop_drop, h]
  rfl
end Go.Proofs.Ytgcfkhpondemlaa.Se

/-! SD -/
namespace Go.Proofs.Ytgcfkhpondemlaa.Se
open Go.RowKit Go.Shelf
attribute [local go_sem] Oper.semAt_some

theorem blk_other {w : World} {b c i : Nat} {cs : Array Value} {t : TypeId} (h : blk w b cs t) (hne : b ≠ c) (v : Value) : blk (w.setCell ⟨c, i, none⟩ v) b cs t := by
  unfold blk at *
  rw [Below.heap_setCell _ _ _ _ hne]
  exact h
theorem prod_num (s p : Nat) (hs : s < 2147483647) (h : p < 2147483647) : IntKind.i64.wrap ((s : Int) * p) = (s : Int) * p ∧ ((s : Int) * p).tmod 2147483647 = (times s p : Int) := by
  have h1 : s * p ≤ 2147483646 * 2147483646 := Nat.mul_le_mul (by omega) (by omega)
  have e : (s : Int) * p = ((s * p : Nat) : Int) := (Int.natCast_mul s p).symm
  rw [e]
  refine ⟨IntWalk.i64_in _ (by omega), ?_⟩
  rw [Int.tmod_eq_emod_of_nonneg (by omega)]
  unfold times
  omega
theorem fold_snoc (l : List Nat) (i v s : Nat) (h : l[i]? = some v) : (l.take (i + 1)).foldl times s = times ((l.take i).foldl times s) v := by
  have : l.take (i + 1) = l.take i ++ [v] := by
    rw [List.take_add_one, h]
    rfl
  rw [this, List.foldl_append]
  rfl
theorem fold_lt (l : List Nat) : ∀ s, s < 2147483647 → l.foldl times s < 2147483647 := by
  induction l with
  | nil => exact fun s h => h
  | cons x l ih => exact fun s _ => ih _ (Nat.mod_lt _ (by decide))
/-- Behind i rounds of a jump's loop. -/
def jpI (w : World) (s k i : Nat) (X : World) : Prop := blk X w.heap.size #[.int .i64 ((((pows 48271 k).take i).foldl times s : Nat) : Int)] 51 ∧ blk X (w.heap.size + 1) #[.int .i64 k] 3 ∧ Below w.heap.size w X
theorem jpI_below (w W : World) (s k : Nat) (hs : W.heap.size = w.heap.size + 2) (i : Nat) (X Y : World) (h : jpI w s k i X) (hb : Below W.heap.size X Y) : jpI w s k i Y := by
  obtain ⟨c0, c1, cb⟩ := h
  exact ⟨blk_below c0 hb (by omega), blk_below c1 hb (by omega), cb.trans (hb.mono (by omega))⟩
def jpRel (k i : Nat) (x : Value) (_ : World) : Prop := ∃ v : Nat, x = .int .i64 v ∧ (pows 48271 k)[i]? = some v
end Go.Proofs.Ytgcfkhpondemlaa.Se

/-! SE -/
namespace Go.Proofs.Ytgcfkhpondemlaa.Se
open Go.RowKit Go.Shelf

/-- The state of the first value that is less than L; after k that are not, of the next one. -/
def fsm (L : Nat) : Nat → Nat → Nat
  | 0, s => nxt s
  | k + 1, s => if nxt s - 1 < L then nxt s else fsm L k (nxt s)
theorem fsm_St (L : Nat) : ∀ (k s : Nat), St s → St (fsm L k s)
  | 0, _, h => nxt_St h
  | k + 1, s, h => by
    unfold fsm
    split
    · exact nxt_St h
    · exact fsm_St L k _ (nxt_St h)
/-- The greatest multiple of n up to Values. -/
def limN (n : Nat) : Nat := 2147483646 - 2147483646 % n
theorem lim_num (n : Nat) (h1 : 1 ≤ n) (h2 : n ≤ 2147483646) : (2147483646 : Int).tmod n = ((2147483646 % n : Nat) : Int) ∧ IntKind.i64.wrap (2147483646 - ((2147483646 % n : Nat) : Int)) = (limN n : Int) := by
  have hl : 2147483646 % n < n := Nat.mod_lt _ (by omega)
  refine ⟨?_, ?_⟩
  · rw [Int.tmod_eq_emod_of_nonneg (by omega)]
    rfl
  · rw [IntWalk.i64_in _ (by omega)]
    unfold limN
    omega
/-- What is drawn below n: the state after it. -/
def blwS (s n : Nat) : Nat := fsm (limN n) 100 s
theorem blwS_St {s : Nat} (h : St s) (n : Nat) : St (blwS s n) := fsm_St _ _ _ h
end Go.Proofs.Ytgcfkhpondemlaa.Se

/-! SF -/
namespace Go.Proofs.Ytgcfkhpondemlaa.Se
open Go.RowKit Go.Shelf

def swp (ys : List Int) (i j : Nat) : List Int := (ys.set i (ys[j]?.getD 0)).set j (ys[i]?.getD 0)
theorem swp_length (ys : List Int) (i j : Nat) : (swp ys i j).length = ys.length := by simp [swp]
/-- The rounds of Shuffle from index k down to 1. -/
def shuf : Nat → Nat → List Int → Nat × List Int
  | 0, s, ys => (s, ys)
  | k + 1, s, ys => shuf k (blwS s (k + 2)) (swp ys (k + 1) ((blwS s (k + 2) - 1) % (k + 2)))
theorem shuf_length : ∀ (k s : Nat) (ys : List Int), (shuf k s ys).2.length = ys.length
  | 0, _, _ => rfl
  | k + 1, s, ys => by unfold shuf; rw [shuf_length k, swp_length]
theorem shuf_St : ∀ (k s : Nat) (ys : List Int), St s → St (shuf k s ys).1
  | 0, _, _, h => h
  | k + 1, s, ys, h => by unfold shuf; exact shuf_St k _ _ (blwS_St h _)
abbrev cel (x : Int) : Value := .int .i64 x
theorem Try.infoI : (Try.prog.info? 3).map (fun i => (i.zero, i.size, i.bytes)) = some (some (.int .i64 0), 1, 8) := by kernel_rfl
theorem add_pl (b o j : Nat) : (⟨b, o, none⟩ : Addr).add j = ⟨b, o + j, none⟩ := by unfold Addr.add; split <;> simp_all
theorem get_some {ys : List Int} {i : Nat} (h : i < ys.length) : ys[i]? = some (ys[i]?.getD 0) := by
  rw [List.getElem?_eq_getElem h]
  rfl
theorem swp_cells (ys : List Int) (i j : Nat) :
    ((ys.map cel).set i (cel (ys[j]?.getD 0))).set j (cel (ys[i]?.getD 0)) = (swp ys i j).map cel := by
  unfold swp
  rw [List.map_set, List.map_set]
theorem own_slice {w : World} {B : Nat} {e : TypeId} {n : Nat} {v : Value} {cs : List Value} (h : w.ownsRow B e 1 v n cs) : ∃ A cap, v = .slice A n cap ∧ (n = 0 ∨ ∃ g, A = some ⟨g, 0, none⟩) := by
  rcases h.2 with ⟨h1, h2⟩ | ⟨g, cap, cur, h1, _⟩
  · subst h2
    exact ⟨none, 0, h1, .inl rfl⟩
  · exact ⟨_, cap, h1, .inr ⟨g, rfl⟩⟩
end Go.Proofs.Ytgcfkhpondemlaa.Se

/-! SG -/
namespace Go.Proofs.Ytgcfkhpondemlaa.Se
open Go.RowKit Go.Shelf

theorem take_eq {xs ys : List Int} {i : Nat} {x : Int} (h : xs.take i = ys.take i) (hx : xs[i]? = some x) (hy : ys[i]? = some x) : xs.take (i + 1) = ys.take (i + 1) := by
  rw [List.take_add_one, List.take_add_one, h, hx, hy]
end Go.Proofs.Ytgcfkhpondemlaa.Se

/-! SH -/
namespace Go.Proofs.Ytgcfkhpondemlaa.Se
open Go.RowKit Go.Shelf

theorem st1 : St 1 := by unfold St; decide
theorem st48 : St 48271 := by unfold St; decide
theorem jumpK2_fold : (pows 48271 2147483645).foldl times 48271 = 1 := by decide +kernel
theorem shufK_eq : shuf 2 1 [7, 8, 9] = (182605794, [9, 8, 7]) := by decide +kernel
theorem ofK1 (w : World) : Calls Try.prog 22 #[.int .i64 0] w fun e w' => e = .returned (.int .i64 1) ∧ Below w.heap.size w w' := of_calls3 0 w
theorem ofK2 (w : World) : Calls Try.prog 22 #[.int .i64 (-1)] w fun e w' => e = .returned (.int .i64 2147483646) ∧ Below w.heap.size w w' := of_calls3 (-1) w
theorem ofK3 (w : World) : Calls Try.prog 22 #[.int .i64 2147483646] w fun e w' => e = .returned (.int .i64 1) ∧ Below w.heap.size w w' := of_calls3 2147483646 w
theorem of_hyp (n : Int) (s : Nat) (hs : stp n + 1 = s) (w : World) : Calls Try.prog 22 #[.int .i64 n] w fun e w' => e = .returned (.int .i64 s) ∧ Below w.heap.size w w' := by
  have h := of_calls3 n w
  rw [hs] at h
  exact h
theorem stp_St (n : Int) : St (stp n + 1) := by
  have := stp_lt n
  unfold St
  omega
end Go.Proofs.Ytgcfkhpondemlaa.Se
