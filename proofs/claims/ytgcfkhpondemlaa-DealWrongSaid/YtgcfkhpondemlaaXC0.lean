/- Choose for every k; the choices' mathematics; ranges over an iterator of two values. -/
import Derived.Test.YtgcfkhpondemlaaXB
import Derived.Test.YtgcfkhpondemlaaMD
import Derived.Test.YtgcfkhpondemlaaMF
import Derived.Test.YtgcfkhpondemlaaMG
import Derived.Test.YtgcfkhpondemlaaShelf
namespace Go.Proofs.Ytgcfkhpondemlaa
open Go.RowKit

theorem pas_bin : DB.Pas bin := ⟨bin_zero, fun _ => rfl, fun _ _ => rfl⟩
theorem bin_symm : ∀ n k : Nat, k ≤ n → bin n (n - k) = bin n k
  | 0, 0, _ => rfl
  | n + 1, 0, _ => by rw [Nat.sub_zero, (pas_bin.self _).1, bin_zero]
  | n + 1, k + 1, h => by
    by_cases e : k = n
    · subst e
      rw [Nat.sub_self, (pas_bin.self _).1, bin_zero]
    · have h1 : n + 1 - (k + 1) = (n - (k + 1)) + 1 := by omega
      rw [h1]
      simp only [bin]
      rw [show n - (k + 1) + 1 = n - k from by omega, bin_symm n k (by omega), bin_symm n (k + 1) (by omega), Nat.add_comm]
theorem bin_min (n k : Nat) (h : k ≤ n) : bin n (min k (n - k)) = bin n k := by
  by_cases e : k ≤ n - k
  · rw [Nat.min_eq_left e]
  · rw [Nat.min_eq_right (by omega), bin_symm n k h]
theorem choose_nat (n k : Nat) (hn : n ≤ 128) (hk : k ≤ 128) (w : World) :
    Calls Try.prog 53 #[.int .i64 n, .int .i64 k] w fun e w' => e = .returned (.tuple #[.agg #[.int .u32 (pt (bin n k) 0), .int .u32 (pt (bin n k) 1), .int .u32 (pt (bin n k) 2), .int .u32 (pt (bin n k) 3)], .int .i64 0]) ∧ Below w.heap.size w w' := by
  by_cases h : k ≤ n
  · have h1 := choose_good n k hn h w
    rw [bin_min n k h] at h1
    exact h1
  · have h1 := choose_bad n k (by omega) (by omega) (by omega) (by omega) (by omega) w
    rw [if_neg (by omega), if_neg (by omega)] at h1
    rw [(pas_bin.self n).2 k (by omega)]
    exact h1
theorem sub_less (a b : Nat) (ha : isN a) (hb : isN b) (h : a < b) (w : World) :
    Calls Try.prog 40 #[.agg #[.int .u32 (pt a 0), .int .u32 (pt a 1), .int .u32 (pt a 2), .int .u32 (pt a 3)], .agg #[.int .u32 (pt b 0), .int .u32 (pt b 1), .int .u32 (pt b 2), .int .u32 (pt b 3)]] w fun e w' => (∃ c : Int, c ≠ 0 ∧ e = .returned (.tuple #[.agg #[.int .u32 (pt 0 0), .int .u32 (pt 0 1), .int .u32 (pt 0 2), .int .u32 (pt 0 3)], .int .i64 c])) ∧ Below w.heap.size w w' :=
  (sub_calls a b ha hb w).mono fun e w' ⟨h1, h2⟩ => ⟨⟨subE a b, by unfold subE; rw [if_pos h]; decide, by rw [h1]; unfold subR; rw [if_pos h]⟩, h2⟩
end Go.Proofs.Ytgcfkhpondemlaa
namespace Go.Proofs.Ytgcfkhpondemlaa.Ca
open Go.RowKit
theorem keepsOthers_of_below {w w' : World} (h : Below w.heap.size w w') : KeepsOthers w w' :=
  ⟨h.size, fun k _o hk _ => (h.block k (Array.getElem?_eq_some_iff.1 hk).1).trans hk⟩
theorem keepsOthers_grow (w : World) (x : Array Obj) (d : Nat) : KeepsOthers w (grow w x d) :=
  ⟨by rw [grow_size]; omega, fun k o hk _ => (grow_heap (Array.getElem?_eq_some_iff.1 hk).1).trans hk⟩
/-- A range over an iterator that hands out the list xs of pairs, each of whose rounds goes on. -/
theorem range_seq2 {P : Program} {g : Operand} {ps : Array Tmp} {assign body : Code} {Q : Exit → Act → World → Prop} {a : Act} {w : World} {gf : Nat} {lb : Array Value}
    (hg : a.eval g = .func (.func gf) #[] lb) (eg : ∀ args w, (callFunc gf args).run P w = .ok (.enter gf args) w) {p1 p2 : Nat} (hps : ps = #[p1, p2])
    (xs : List (Value × Value)) (I : Nat → World → Prop) (hI : ∀ i W W', I i W → Below w.heap.size W W' → KeepC W W' → I i W') (h0 : I 0 w)
    (hseq : ∀ (l : Nat) (J : Nat → World → Prop) (W : World), (∀ i W, J i W → I i W ∧ w.heap.size + 2 ≤ W.heap.size) →
      (∀ i x W, xs[i]? = some x → J i W → YieldAt Fence.wide 2 P l #[x.1, x.2] W fun e W' => e = .returned (.bool true) ∧ J (i + 1) W') →
      J 0 W → Calls P gf (#[.func (.yield l) #[] #[]] ++ lb) W fun e W' => (∃ v, e = .returned v) ∧ J xs.length W')
    (q1 q2 : Nat)
    (hassign : ∀ (l : Nat) (x y : Value) (W : World) (K : Act → World → Prop), K { tmps := (((a.tmps.setIfInBounds p1 x).setIfInBounds p2 y).setIfInBounds q1 x).setIfInBounds q2 y, defers := [] } W →
      assign.wpIn (Fence.wide.inRound l) 2 P (Exit.then K (fun _ _ _ => False)) { tmps := (a.tmps.setIfInBounds p1 x).setIfInBounds p2 y, defers := [] } W)
    (hbody : ∀ (l i : Nat) (x : Value × Value) (W : World), xs[i]? = some x → I i W → w.heap.size + 2 ≤ W.heap.size → body.wpIn (Fence.wide.inRound l) 2 P (offEndS (I (i + 1)) W) { tmps := (((a.tmps.setIfInBounds p1 x.1).setIfInBounds p2 x.2).setIfInBounds q1 x.1).setIfInBounds q2 x.2, defers := [] } W)
    (hdone : ∀ (D : Nat) (W : World), I xs.length W → w.heap.size ≤ D → W.heap[D]? = some (.deferred (some [])) → Q .normal { a with defers := { target := .collected D, args := #[] } :: a.defers } W) :
    (Code.rangeFunc g ps assign body).wp P Q a w := by
  subst hps
  refine (wpIn_wide (n := 3)).1 ?_
  refine wpIn_rangeFunc ?_
  intro fn _
  let rc : LoopState → Loop := fun st => { state := st, pending := none, fn, tmps := a.tmps, params := #[p1, p2], assign, body, defers := w.heap.size }
  obtain ⟨W1, hW1⟩ : ∃ W1, (w.alloc (.deferred (some []))).alloc (.loop (rc .ready)) = W1 := ⟨_, rfl⟩
  have sz1 : W1.heap.size = w.heap.size + 2 := by rw [← hW1]; simp
  have l1 : W1.heap[w.heap.size + 1]? = some (.loop (rc .ready)) := by
    rw [← hW1]
    have := World.alloc_heap_new (w.alloc (.deferred (some []))) (.loop (rc .ready))
    simpa using this
  have d1 : W1.heap[w.heap.size]? = some (.deferred (some [])) := by
    rw [← hW1]
    exact (Below.heap_alloc _ _ _ (by simp)).trans (World.alloc_heap_new w _)
  have i1 : I 0 W1 := hI 0 w W1 h0 (by rw [← hW1]; exact ((Below.refl w.heap.size w).alloc (Nat.le_refl _) _).alloc (by simp) _) (by rw [← hW1]; exact (keepC_alloc _ _).trans (keepC_alloc _ _))
  refine ⟨w.heap.size + 1, [{ target := .collected w.heap.size, args := #[] }], W1, { target := .fn (.func gf) lb, args := #[.func (.yield (w.heap.size + 1)) #[] #[]] }, W1, gf,
    #[.func (.yield (w.heap.size + 1)) #[] #[]] ++ lb, W1, ?_, ?_, ?_, ?_, ?_, ?_⟩
  · rw [← hW1]; exact run_enterLoop_outer _ _ _ _ _
  · simp only [resolve, hg]
    simp [go_sem]
  · intro f' _; trivial
  · simp [invoke, go_sem, eg]
  · intro h; cases h
  · refine callsIn_wide.2 ((hseq (w.heap.size + 1)
      (fun i W => I i W ∧ W.heap[w.heap.size + 1]? = some (.loop (rc .ready)) ∧ W.heap[w.heap.size]? = some (.deferred (some [])))
      W1 ?_ ?_ ⟨i1, l1, d1⟩).mono ?_)
    · rintro i X ⟨h1, h2, _⟩
      exact ⟨h1, by have := (Array.getElem?_eq_some_iff.1 h2).1; omega⟩
    · rintro i x X hx ⟨h1, h2, h3⟩
      have hlt := (Array.getElem?_eq_some_iff.1 h2).1
      refine ⟨fn, _, assign, body, run_yield (args := #[x.1, x.2]) h2 (by simp [rc]), roundIn_of_wpIn trivial ?_⟩
      have e0 : ((rc .ready).params.zip #[x.1, x.2]).foldl (fun tmps (t, a) => tmps.setIfInBounds t a) (rc .ready).tmps = (a.tmps.setIfInBounds p1 x.1).setIfInBounds p2 x.2 := by simp [rc]
      rw [e0]
      refine hassign _ x.1 x.2 X _ ⟨_, run_beginRound h2 rfl, ?_⟩
      have l2 := World.putObj_heap_same (w := X) (r := w.heap.size + 1) (o := .loop { rc .ready with state := .busy }) hlt
      have d2 := (World.putObj_heap_other (w := X) (r := w.heap.size + 1) (k := w.heap.size) (o := .loop { rc .ready with state := .busy }) (by omega)).trans h3
      refine wpIn_mono (hbody _ i x _ hx (hI i X _ h1 (below_putObj _ _ _ _ (by omega)) (keepC_putObj h2 rfl)) (by simp [World.putObj]; omega)) ?_
      rintro e a3 Y hp
      cases e with
      | normal =>
        obtain ⟨ko, hi⟩ := hp
        have l3 := ko.same _ _ l2 rfl
        have d3 := ko.same _ _ d2 rfl
        exact ⟨_, _, run_endRound none l3, rfl, ⟨hI _ Y _ hi (below_putObj _ _ _ _ (by omega)) (keepC_putObj l3 rfl), World.putObj_heap_same (Array.getElem?_eq_some_iff.1 l3).1, (World.putObj_heap_other (by omega)).trans d3⟩⟩
      | ret => exact hp.elim
      | exit id => exact hp.elim
      | goto t => exact hp.elim
      | panic ch => exact hp.elim
      | outgrown => exact hp.elim
    · rintro e X ⟨⟨v, rfl⟩, h1, h2, h3⟩
      have hlt := (Array.getElem?_eq_some_iff.1 h2).1
      exact ⟨none, _, run_endLoop h2 (by simp [rc]), hdone w.heap.size _ (hI _ X _ h1 (below_putObj _ _ _ _ (by omega)) (keepC_putObj h2 rfl)) (Nat.le_refl _) ((World.putObj_heap_other (by omega)).trans h3)⟩
end Go.Proofs.Ytgcfkhpondemlaa.Ca
