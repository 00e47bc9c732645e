/- A range over an iterator whose rounds may return; the iterator over the calls' strings; TextAll. -/
import Derived.Test.YtacgikhedhiaaaaDoorKD
import Derived.Test.YtacgikhedhiaaaaDoorShelf
namespace Go.Proofs.YtacgikhedhiaaaaDoor
open Go.RowKit
attribute [local go_sem] Oper.semAt_some

/-- How a round's body must be left: off its end, or by a return. -/
def offEndR (I R : World → Prop) (W : World) : Exit → Act → World → Prop
  | .normal, _, W' => KeepsOthers W W' ∧ I W'
  | .ret, _, W' => KeepsOthers W W' ∧ R W'
  | _, _, _ => False
/-- A range over an iterator that hands out the list xs of pairs; a round goes on, or returns. -/
theorem range_seq2r {P : Program} {g : Operand} {ps : Array Tmp} {assign body : Code} {Q : Exit → Act → World → Prop} {a : Act} {w : World} {gf : Nat} {lb : Array Value}
    (hg : a.eval g = .func (.func gf) #[] lb) (eg : ∀ args w, (callFunc gf args).run P w = .ok (.enter gf args) w) {p1 p2 : Nat} (hps : ps = #[p1, p2])
    (xs : List (Value × Value)) (I : Nat → World → Prop) (hI : ∀ i W W', I i W → Below w.heap.size W W' → KeepC W W' → I i W') (h0 : I 0 w) (R : World → Prop) (hR : ∀ W W', R W → Below w.heap.size W W' → KeepC W W' → R W')
    (hseq : ∀ (l : Nat) (J : Nat → World → Prop) (JX : World → Prop) (W : World), (∀ i W, J i W → I i W ∧ w.heap.size + 2 ≤ W.heap.size) →
      (∀ i x W, xs[i]? = some x → J i W → YieldAt Fence.wide 2 P l #[x.1, x.2] W fun e W' => (e = .returned (.bool true) ∧ J (i + 1) W') ∨ (e = .returned (.bool false) ∧ JX W')) →
      J 0 W → Calls P gf (#[.func (.yield l) #[] #[]] ++ lb) W fun e W' => (∃ v, e = .returned v) ∧ (J xs.length W' ∨ JX W'))
    (q1 q2 : Nat)
    (hassign : ∀ (l : Nat) (x y : Value) (W : World) (K : Act → World → Prop), K { tmps := (((a.tmps.setIfInBounds p1 x).setIfInBounds p2 y).setIfInBounds q1 x).setIfInBounds q2 y, defers := [] } W →
      assign.wpIn (Fence.wide.inRound l) 2 P (Exit.then K (fun _ _ _ => False)) { tmps := (a.tmps.setIfInBounds p1 x).setIfInBounds p2 y, defers := [] } W)
    (hbody : ∀ (l i : Nat) (x : Value × Value) (W : World), xs[i]? = some x → I i W → w.heap.size + 2 ≤ W.heap.size → body.wpIn (Fence.wide.inRound l) 2 P (offEndR (I (i + 1)) R W) { tmps := (((a.tmps.setIfInBounds p1 x.1).setIfInBounds p2 x.2).setIfInBounds q1 x.1).setIfInBounds q2 x.2, defers := [] } W)
    (hdone : ∀ (D : Nat) (W : World), I xs.length W → w.heap.size ≤ D → W.heap[D]? = some (.deferred (some [])) → Q .normal { a with defers := { target := .collected D, args := #[] } :: a.defers } W)
    (hstop : ∀ (D : Nat) (W : World), R W → w.heap.size ≤ D → W.heap[D]? = some (.deferred (some [])) → Q .ret { a with defers := { target := .collected D, args := #[] } :: a.defers } W) :
    (Code.rangeFunc g ps assign body).wp P Q a w := by
  subst hps
  refine (wpIn_wide (n := 3)).1 ?_
  refine wpIn_rangeFunc ?_
  intro fn _
  let rc : LoopState → Option Code → Loop := fun st pe => { state := st, pending := pe, fn, tmps := a.tmps, params := #[p1, p2], assign, body, defers := w.heap.size }
  obtain ⟨W1, hW1⟩ : ∃ W1, (w.alloc (.deferred (some []))).alloc (.loop (rc .ready none)) = W1 := ⟨_, rfl⟩
  have sz1 : W1.heap.size = w.heap.size + 2 := by rw [← hW1]; simp
  have l1 : W1.heap[w.heap.size + 1]? = some (.loop (rc .ready none)) := by
    rw [← hW1]
    have := World.alloc_heap_new (w.alloc (.deferred (some []))) (.loop (rc .ready none))
    simpa using this
  have d1 : W1.heap[w.heap.size]? = some (.deferred (some [])) := by
    rw [← hW1]
    exact (Below.heap_alloc _ _ _ (by simp)).trans (World.alloc_heap_new w _)
  have i1 : I 0 W1 := hI 0 w W1 h0 (by rw [← hW1]; exact ((Below.refl w.heap.size w).alloc (Nat.le_refl _) _).alloc (by simp) _) (by rw [← hW1]; exact (keepC_alloc _ _).trans (keepC_alloc _ _))
  refine ⟨w.heap.size + 1, [{ target := .collected w.heap.size, args := #[] }], W1, { target := .fn (.func gf) lb, args := #[.func (.yield (w.heap.size + 1)) #[] #[]] }, W1, gf,
    #[.func (.yield (w.heap.size + 1)) #[] #[]] ++ lb, W1, ?_, ?_, ?_, ?_, ?_, ?_⟩
  · rw [← hW1]; exact run_enterLoop_outer _ _ _ _ _
  · simp only [resolve, hg]
    simp [go_sem]
  · intro f' _; trivial
  · simp [invoke, go_sem, eg]
  · intro h; cases h
  · refine callsIn_wide.2 ((hseq (w.heap.size + 1)
      (fun i W => I i W ∧ W.heap[w.heap.size + 1]? = some (.loop (rc .ready none)) ∧ W.heap[w.heap.size]? = some (.deferred (some [])))
      (fun W => R W ∧ W.heap[w.heap.size + 1]? = some (.loop (rc .done (some .ret))) ∧ W.heap[w.heap.size]? = some (.deferred (some [])))
      W1 ?_ ?_ ⟨i1, l1, d1⟩).mono ?_)
    · rintro i X ⟨h1, h2, _⟩
      exact ⟨h1, by have := (Array.getElem?_eq_some_iff.1 h2).1; omega⟩
    · rintro i x X hx ⟨h1, h2, h3⟩
      have hlt := (Array.getElem?_eq_some_iff.1 h2).1
      refine ⟨fn, _, assign, body, run_yield (args := #[x.1, x.2]) h2 (by simp [rc]), roundIn_of_wpIn trivial ?_⟩
      have e0 : ((rc .ready none).params.zip #[x.1, x.2]).foldl (fun tmps (t, a) => tmps.setIfInBounds t a) (rc .ready none).tmps = (a.tmps.setIfInBounds p1 x.1).setIfInBounds p2 x.2 := by simp [rc]
      rw [e0]
      refine hassign _ x.1 x.2 X _ ⟨_, run_beginRound h2 rfl, ?_⟩
      have l2 := World.putObj_heap_same (w := X) (r := w.heap.size + 1) (o := .loop (rc .busy none)) hlt
      have d2 := (World.putObj_heap_other (w := X) (r := w.heap.size + 1) (k := w.heap.size) (o := .loop (rc .busy none)) (by omega)).trans h3
      refine wpIn_mono (hbody _ i x _ hx (hI i X _ h1 (below_putObj _ _ _ _ (by omega)) (keepC_putObj h2 rfl)) (by simp [World.putObj]; omega)) ?_
      rintro e a3 Y hp
      cases e with
      | normal =>
        obtain ⟨ko, hi⟩ := hp
        have l3 := ko.same _ _ l2 rfl
        have d3 := ko.same _ _ d2 rfl
        exact ⟨_, _, run_endRound none l3, .inl ⟨rfl, hI _ Y _ hi (below_putObj _ _ _ _ (by omega)) (keepC_putObj l3 rfl), World.putObj_heap_same (Array.getElem?_eq_some_iff.1 l3).1, (World.putObj_heap_other (by omega)).trans d3⟩⟩
      | ret =>
        obtain ⟨ko, hi⟩ := hp
        have l3 := ko.same _ _ l2 rfl
        have d3 := ko.same _ _ d2 rfl
        exact ⟨_, _, run_endRound (some .ret) l3, .inr ⟨rfl, hR Y _ hi (below_putObj _ _ _ _ (by omega)) (keepC_putObj l3 rfl), World.putObj_heap_same (Array.getElem?_eq_some_iff.1 l3).1, (World.putObj_heap_other (by omega)).trans d3⟩⟩
      | exit id => exact hp.elim
      | goto t => exact hp.elim
      | panic ch => exact hp.elim
      | outgrown => exact hp.elim
    · rintro e X ⟨⟨v, rfl⟩, (⟨h1, h2, h3⟩ | ⟨h1, h2, h3⟩)⟩
      · exact ⟨none, _, run_endLoop h2 (by simp [rc]), hdone w.heap.size _ (hI _ X _ h1 (below_putObj _ _ _ _ (by omega)) (keepC_putObj h2 rfl)) (Nat.le_refl _) ((World.putObj_heap_other (by omega)).trans h3)⟩
      · refine ⟨some .ret, _, run_endLoop h2 (by simp [rc]), ?_⟩
        exact wpIn_ret (hstop w.heap.size _ (hR X _ h1 (below_putObj _ _ _ _ (by omega)) (keepC_putObj h2 rfl)) (Nat.le_refl _) ((World.putObj_heap_other (by omega)).trans h3))

def pairT (c : Nat) : Value × Value := (strv (txt c), .int .i64 (txE c))
end Go.Proofs.YtacgikhedhiaaaaDoor
