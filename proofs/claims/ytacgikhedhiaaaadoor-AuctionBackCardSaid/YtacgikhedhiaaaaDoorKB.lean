/- Blocks, own rows, ranges over iterators, slices of bytes: a kit for the walks. -/
import Derived.Laws.BitsAllLaws
import Derived.Lib.BitFns
import Derived.Lib.Bytealg
import Derived.Lib.Split
import Derived.Lib.SplitLaws
import Derived.Lib.IndexBytes
import Derived.Lib.IndexLaws
import Derived.Test.YtacgikhedhiaaaaDoorG
import Derived.Test.YtacgikhedhiaaaaDoorProg
import Derived.Lib.Hide
import Derived.Deep.RegionWith
import Derived.StillTailTactics
import Derived.RangeFuncNested
import Derived.RangeFuncBound
import Derived.RangeFuncCalls
import Derived.RangeFuncLeaves
import Derived.OwnWalkIn
import Derived.OrdersIn
import Derived.TacticsInMore
import Derived.Deep.DeepCutAuto
import Derived.Deep.Cut
import Derived.Deep.LoopGhost
import Derived.Laws.OwnMore
namespace Go.Proofs.YtacgikhedhiaaaaDoor
open Go.RowKit

abbrev u8v (c : Nat) : Value := .int .u8 c
abbrev strv (l : List UInt8) : Value := .string ⟨l.toArray⟩
theorem u8_wrap {n : Int} (h0 : 0 ≤ n) (h1 : n < 256) : IntKind.u8.wrap n = n := by
  rw [IntKind.wrap_u8', Int.emod_eq_of_lt h0 h1]


def KeepA (B : Nat) (w w' : World) : Prop := ∀ k, B ≤ k → k < w.heap.size → w'.heap[k]? = w.heap[k]?
/-- Block b has the cells cs. -/
def blk (w : World) (b : Nat) (cs : Array Value) (t : TypeId) : Prop := w.heap[b]? = some (.cells cs t (0, 0))
theorem blk_cell {w : World} {b : Nat} {cs : Array Value} {t : TypeId} (h : blk w b cs t) (i : Nat) : w.cell? ⟨b, i, none⟩ = cs[i]? := by
  unfold blk at h; exact cell_of_row w b i cs t (0, 0) h
theorem blk_free {w : World} {b : Nat} {cs : Array Value} {t : TypeId} (h : blk w b cs t) (i : Nat) : w.frozen? ⟨b, i, none⟩ = false := frozen_of_row w b i cs t h
theorem blk_lt {w : World} {b : Nat} {cs : Array Value} {t : TypeId} (h : blk w b cs t) : b < w.heap.size := lt_of_block h
theorem blk_set {w : World} {b : Nat} {cs : Array Value} {t : TypeId} (h : blk w b cs t) (i : Nat) (v : Value) : blk (w.setCell ⟨b, i, none⟩ v) b (cs.setIfInBounds i v) t := heap_setCell_same w b i cs t v h
theorem blk_grown {w w' : World} {b : Nat} {cs : Array Value} {t : TypeId} {row : Option Nat} (h : blk w b cs t) (hg : w.grownBy w' row) (hne : some b ≠ row) : blk w' b cs t :=
  (hg.block b (blk_lt h) hne).trans h
theorem blk_grow {w : World} {b : Nat} {cs : Array Value} {t : TypeId} (h : blk w b cs t) (x : Array Obj) (d : Nat) : blk (grow w x d) b cs t := (grow_heap (blk_lt h)).trans h
theorem blk_alloc {w : World} {b : Nat} {cs : Array Value} {t : TypeId} (h : blk w b cs t) (o : Obj) : blk (w.alloc o) b cs t := by
  have := blk_lt h
  unfold blk at *
  rw [show (w.alloc o).heap = w.heap.push o from rfl, Array.getElem?_push, if_neg (by omega)]
  exact h
theorem own_grow {w : World} {base : Nat} {e : TypeId} {size : Nat} {v : Value} {n : Nat} {xs : List Value} (h : w.ownsRow base e size v n xs) (x : Array Obj) (d : Nat) : (grow w x d).ownsRow base e size v n xs := by
  refine ⟨h.1, ?_⟩
  rcases h.2 with h1 | ⟨g, cap, cur, h1, h2, h3, h4⟩
  · exact .inl h1
  · exact .inr ⟨g, cap, cur, h1, h2, (grow_heap (lt_of_block h3)).trans h3, h4⟩
theorem blk_new (w : World) (cs : Array Value) (t : TypeId) : blk (w.alloc (.cells cs t)) w.heap.size cs t := by
  show (w.heap.push _)[w.heap.size]? = _
  simp
theorem blk_at (w : World) (cs : Array Value) (t : TypeId) {b : Nat} (h : b = w.heap.size) : blk (w.alloc (.cells cs t)) b cs t := by subst h; exact blk_new w cs t
theorem blk_below {w w' : World} {b B : Nat} {cs : Array Value} {t : TypeId} (h : blk w b cs t) (hb : Below B w w') (hlt : b < B) : blk w' b cs t := (hb.block b hlt).trans h
theorem keepA_set {w : World} {B b : Nat} (i : Nat) (v : Value) (h : b < B) : KeepA B w (w.setCell ⟨b, i, none⟩ v) := fun k hk _ => Below.heap_setCell _ _ _ _ (show k ≠ b by omega)
theorem below_putObj (w : World) (l : Nat) (o : Obj) (B : Nat) (h : B ≤ l) : Below B w (w.putObj l o) :=
  ⟨rfl, rfl, rfl, by simp [World.putObj], fun k hk => World.putObj_heap_other (by omega)⟩
theorem keepA_putObj (w : World) (l : Nat) (o : Obj) (B : Nat) (h : l < B) : KeepA B w (w.putObj l o) :=
  fun k hk _ => World.putObj_heap_other (by omega)
theorem keepA_trans {B : Nat} {a b c : World} (h : KeepA B a b) (hs : a.heap.size ≤ b.heap.size) (k : KeepA B b c) : KeepA B a c :=
  fun i h1 h2 => (k i h1 (by omega)).trans (h i h1 h2)
/-- In a round an operation that is no defer statement is carried out as everywhere. -/
theorem wpOpIn_of_wide {n l : Nat} {P : Program} {ops : Array Oper} {Q : Exit → Act → World → Prop} {i : Nat} {K : Act → World → Prop} {a : Act} {w : World}
    (hd : ∀ (i : Nat) (o : Oper) c, ops[i]? = some o → o.op ≠ .defer c) (h : wpOpIn Fence.wide n P ops Q i K a w) : wpOpIn (Fence.wide.inRound l) n P ops Q i K a w := by
  unfold wpOpIn at *
  cases ho : ops[i]? with
  | none => simpa only [ho] using h
  | some o =>
    simp only [ho] at h ⊢
    split
    · rename_i hw
      simp only [hw, if_true] at h
      refine ⟨h.1, ?_⟩
      have h2 := h.2
      rw [Oper.semAt_eq _ _ _ (fun c => hd i o c ho)] at h2 ⊢
      generalize (execOp a.eval o).run P w = r at *
      cases r with
      | ok x w' => cases x <;> exact h2
      | halt x w' => cases x <;> exact h2
    · rename_i hw
      simp only [hw] at h
      exact h
theorem wpAnyIn_of_wide {n l : Nat} {P : Program} {md : Region.Mode} {ops : Array Oper} {Q : Exit → Act → World → Prop}
    (hd : ∀ (i : Nat) (o : Oper) c, ops[i]? = some o → o.op ≠ .defer c) : ∀ {fuel : Nat} {listed : Array Bool} {a : Act} {w : World},
    wpAnyIn Fence.wide n P md ops Q fuel listed a w → wpAnyIn (Fence.wide.inRound l) n P md ops Q fuel listed a w
  | 0, _, _, _, h => h
  | _fuel + 1, _listed, _a, _w, h => ⟨h.1, fun i hi => wpOpIn_of_wide hd (wpOpIn_mono (fun _a _w h => wpAnyIn_of_wide hd h) (h.2 i hi))⟩
def noDefer (ops : Array Oper) : Bool := ops.all fun o => match o.op with | .defer _ => false | _ => true
theorem noDefer_spec {ops : Array Oper} (h : noDefer ops = true) (i : Nat) (o : Oper) (c) (hi : ops[i]? = some o) : o.op ≠ .defer c := by
  intro e
  unfold noDefer at h
  rw [Array.all_eq_true] at h
  obtain ⟨hlt, rfl⟩ := Array.getElem?_eq_some_iff.1 hi
  have := h i hlt
  rw [e] at this
  cases this
theorem wpIn_round_any {n l : Nat} {P : Program} {ops : Array Oper} {Q : Exit → Act → World → Prop} {id : Nat} {a : Act} {w : World} (hm : P.follows .mixedOrders = true) (hd : noDefer ops = true)
    (h : wpAnyIn Fence.wide n P .any ops Q ops.size (Array.replicate ops.size false) a w.drew) : (Code.region id ops true).wpIn (Fence.wide.inRound l) n P Q a w :=
  wpIn_region_any hm (wpAnyIn_of_wide (noDefer_spec hd) h)
/-- How a round's body must be left: off its end; it may write what it will, but no loop's record. -/
def offEndS (I : World → Prop) (W : World) : Exit → Act → World → Prop
  | .normal, _, W' => KeepsOthers W W' ∧ I W'
  | _, _, _ => False
/-- Every block of cells is as it was. -/
def KeepC (w w' : World) : Prop := ∀ (k : Nat) (cs : Array Value) (t : TypeId) (f : Nat × Nat), w.heap[k]? = some (Obj.cells cs t f) → w'.heap[k]? = some (Obj.cells cs t f)
theorem keepC_alloc (w : World) (o : Obj) : KeepC w (w.alloc o) := fun k cs t f h => by
  have := (Array.getElem?_eq_some_iff.1 h).1
  rw [Below.heap_alloc _ _ _ this, h]
theorem KeepC.trans {a b c : World} (h : KeepC a b) (g : KeepC b c) : KeepC a c := fun k cs t f e => g k cs t f (h k cs t f e)
theorem keepC_putObj {w : World} {l : Nat} {o o' : Obj} (h : w.heap[l]? = some o) (ho : o.isCells = false) : KeepC w (w.putObj l o') := fun k cs t f e => by
  by_cases hk : k = l
  · subst hk
    rw [h] at e
    cases e
    cases ho
  · rw [World.putObj_heap_other (by omega), e]
/-- A range over an iterator that hands out the list xs, each of whose rounds goes on. -/
theorem range_seq {P : Program} {g : Operand} {ps : Array Tmp} {assign body : Code} {Q : Exit → Act → World → Prop} {a : Act} {w : World} {gf : Nat} {lb : Array Value}
    (hg : a.eval g = .func (.func gf) #[] lb) (eg : ∀ args w, (callFunc gf args).run P w = .ok (.enter gf args) w) {p : Nat} (hps : ps = #[p])
    (xs : List Value) (I : Nat → World → Prop) (hI : ∀ i W W', I i W → Below w.heap.size W W' → KeepC W W' → I i W') (h0 : I 0 w)
    (hseq : ∀ (l : Nat) (J : Nat → World → Prop) (W : World), (∀ i W, J i W → I i W ∧ w.heap.size + 2 ≤ W.heap.size) →
      (∀ i x W, xs[i]? = some x → J i W → YieldAt Fence.wide 2 P l #[x] W fun e W' => e = .returned (.bool true) ∧ J (i + 1) W') →
      J 0 W → Calls P gf (#[.func (.yield l) #[] #[]] ++ lb) W fun e W' => (∃ v, e = .returned v) ∧ J xs.length W')
    (q : Nat)
    (hassign : ∀ (l : Nat) (x : Value) (W : World) (K : Act → World → Prop), K { tmps := (a.tmps.setIfInBounds p x).setIfInBounds q x, defers := [] } W →
      assign.wpIn (Fence.wide.inRound l) 2 P (Exit.then K (fun _ _ _ => False)) { tmps := a.tmps.setIfInBounds p x, defers := [] } W)
    (hbody : ∀ (l i : Nat) (x : Value) (W : World), xs[i]? = some x → I i W → w.heap.size + 2 ≤ W.heap.size → body.wpIn (Fence.wide.inRound l) 2 P (offEndS (I (i + 1)) W) { tmps := (a.tmps.setIfInBounds p x).setIfInBounds q x, defers := [] } W)
    (hdone : ∀ (D : Nat) (W : World), I xs.length W → w.heap.size ≤ D → W.heap[D]? = some (.deferred (some [])) → Q .normal { a with defers := { target := .collected D, args := #[] } :: a.defers } W) :
    (Code.rangeFunc g ps assign body).wp P Q a w := by
  subst hps
  refine (wpIn_wide (n := 3)).1 ?_
  refine wpIn_rangeFunc ?_
  intro fn _
  let rc : LoopState → Loop := fun st => { state := st, pending := none, fn, tmps := a.tmps, params := #[p], assign, body, defers := w.heap.size }
  obtain ⟨W1, hW1⟩ : ∃ W1, (w.alloc (.deferred (some []))).alloc (.loop (rc .ready)) = W1 := ⟨_, rfl⟩
  have sz1 : W1.heap.size = w.heap.size + 2 := by rw [← hW1]; simp
  have l1 : W1.heap[w.heap.size + 1]? = some (.loop (rc .ready)) := by
    rw [← hW1]
    have := World.alloc_heap_new (w.alloc (.deferred (some []))) (.loop (rc .ready))
    simpa using this
  have d1 : W1.heap[w.heap.size]? = some (.deferred (some [])) := by
    rw [← hW1]
    exact (Below.heap_alloc _ _ _ (by simp)).trans (World.alloc_heap_new w _)
  have i1 : I 0 W1 := hI 0 w W1 h0 (by rw [← hW1]; exact ((Below.refl w.heap.size w).alloc (Nat.le_refl _) _).alloc (by simp) _) (by rw [← hW1]; exact (keepC_alloc _ _).trans (keepC_alloc _ _))
  refine ⟨w.heap.size + 1, [{ target := .collected w.heap.size, args := #[] }], W1, { target := .fn (.func gf) lb, args := #[.func (.yield (w.heap.size + 1)) #[] #[]] }, W1, gf,
    #[.func (.yield (w.heap.size + 1)) #[] #[]] ++ lb, W1, ?_, ?_, ?_, ?_, ?_, ?_⟩
  · rw [← hW1]; exact run_enterLoop_outer _ _ _ _ _
  · simp only [resolve, hg]
    simp [go_sem]
  · intro f' _; trivial
  · simp [invoke, go_sem, eg]
  · intro h; cases h
  · refine callsIn_wide.2 ((hseq (w.heap.size + 1)
      (fun i W => I i W ∧ W.heap[w.heap.size + 1]? = some (.loop (rc .ready)) ∧ W.heap[w.heap.size]? = some (.deferred (some [])))
      W1 ?_ ?_ ⟨i1, l1, d1⟩).mono ?_)
    · rintro i X ⟨h1, h2, _⟩
      exact ⟨h1, by have := (Array.getElem?_eq_some_iff.1 h2).1; omega⟩
    · rintro i x X hx ⟨h1, h2, h3⟩
      have hlt := (Array.getElem?_eq_some_iff.1 h2).1
      refine ⟨fn, _, assign, body, run_yield (args := #[x]) h2 (by simp [rc]), roundIn_of_wpIn trivial ?_⟩
      have e0 : ((rc .ready).params.zip #[x]).foldl (fun tmps (t, a) => tmps.setIfInBounds t a) (rc .ready).tmps = a.tmps.setIfInBounds p x := by simp [rc]
      rw [e0]
      refine hassign _ x X _ ⟨_, run_beginRound h2 rfl, ?_⟩
      have l2 := World.putObj_heap_same (w := X) (r := w.heap.size + 1) (o := .loop { rc .ready with state := .busy }) hlt
      have d2 := (World.putObj_heap_other (w := X) (r := w.heap.size + 1) (k := w.heap.size) (o := .loop { rc .ready with state := .busy }) (by omega)).trans h3
      refine wpIn_mono (hbody _ i x _ hx (hI i X _ h1 (below_putObj _ _ _ _ (by omega)) (keepC_putObj h2 rfl)) (by simp [World.putObj]; omega)) ?_
      rintro e a3 Y hp
      cases e with
      | normal =>
        obtain ⟨ko, hi⟩ := hp
        have l3 := ko.same _ _ l2 rfl
        have d3 := ko.same _ _ d2 rfl
        exact ⟨_, _, run_endRound none l3, rfl, ⟨hI _ Y _ hi (below_putObj _ _ _ _ (by omega)) (keepC_putObj l3 rfl), World.putObj_heap_same (Array.getElem?_eq_some_iff.1 l3).1, (World.putObj_heap_other (by omega)).trans d3⟩⟩
      | ret => exact hp.elim
      | exit id => exact hp.elim
      | goto t => exact hp.elim
      | panic ch => exact hp.elim
      | outgrown => exact hp.elim
    · rintro e X ⟨⟨v, rfl⟩, h1, h2, h3⟩
      have hlt := (Array.getElem?_eq_some_iff.1 h2).1
      exact ⟨none, _, run_endLoop h2 (by simp [rc]), hdone w.heap.size _ (hI _ X _ h1 (below_putObj _ _ _ _ (by omega)) (keepC_putObj h2 rfl)) (Nat.le_refl _) ((World.putObj_heap_other (by omega)).trans h3)⟩
theorem blk_keep {w w' : World} {b : Nat} {cs : Array Value} {t : TypeId} (h : blk w b cs t) (k : KeepC w w') : blk w' b cs t := k _ _ _ _ h
theorem own_keep {w w' : World} {base : Nat} {e : TypeId} {size : Nat} {v : Value} {n : Nat} {xs : List Value} (h : w.ownsRow base e size v n xs) (k : KeepC w w') : w'.ownsRow base e size v n xs := by
  refine ⟨h.1, ?_⟩
  rcases h.2 with h1 | ⟨g, cap, cur, h1, h2, h3, h4⟩
  · exact .inl h1
  · exact .inr ⟨g, cap, cur, h1, h2, k _ _ _ _ h3, h4⟩
theorem Tryd.infoU : (Tryd.prog.info? 5).map (fun i => (i.zero, i.size, i.bytes)) = some (some (.int .u8 0), 1, 1) := by kernel_rfl
theorem own_base {w : World} {B C : Nat} {e : TypeId} {z : Nat} {v : Value} {n : Nat} {cs : List Value} (h : w.ownsRow (B + C) e z v n cs) : w.ownsRow B e z v n cs := by
  refine ⟨h.1, ?_⟩
  rcases h.2 with h1 | ⟨g, cap, cur, h1, h2, h3⟩
  · exact .inl h1
  · exact .inr ⟨g, cap, cur, h1, by omega, h3⟩
theorem news1 (W : World) (t : TypeId) (x y : Value) {n : Nat} (hn : n = W.heap.size) (hxy : y = x) : ∀ (j : Nat) (u : Value), [y][j]? = some u → (W.alloc (.cells #[x] t)).cell? ((⟨n, 0, none⟩ : Addr).add j) = some u := by
  intro j u hj
  match j, hj with
  | 0, hj =>
    simp only [List.getElem?_cons_zero, Option.some.injEq] at hj
    subst hj hxy
    have : (⟨n, 0, none⟩ : Addr).add 0 = ⟨n, 0, none⟩ := rfl
    rw [this, World.cell?_alloc_at _ _ _ 0 hn]
    rfl
theorem own_block_ge {w : World} {B k : Nat} {e : TypeId} {z : Nat} {v : Value} {n : Nat} {cs : List Value} (h : w.ownsRow B e z v n cs) (hk : v.ownBlock = some k) : B ≤ k := by
  rcases h.2 with h1 | ⟨g, cap, cur, h1, h2, _⟩
  · rw [h1.1] at hk; cases hk
  · rw [h1] at hk
    have : g = k := by simpa [Value.ownBlock] using hk
    omega
theorem own_cells {w : World} {B : Nat} {e : TypeId} {z : Nat} {v : Value} {n : Nat} {cs : List Value} (h : w.ownsRow B e z v n cs) (j : Nat) (o : Obj) (hj : v.ownBlock = some j) (ho : w.heap[j]? = some o) : o.isCells = true := by
  rcases h.2 with h1 | ⟨g, cap, cur, h1, h2, h3, _⟩
  · rw [h1.1] at hj; cases hj
  · rw [h1] at hj
    have : g = j := by simpa [Value.ownBlock] using hj
    subst this
    rw [h3] at ho
    cases ho
    rfl
theorem not_row {w : World} {B k : Nat} {e : TypeId} {z : Nat} {v : Value} {n : Nat} {cs : List Value} (h : w.ownsRow B e z v n cs) (hk : k < B) : some k ≠ v.ownBlock := fun he => by
  have := own_block_ge h he.symm
  omega
theorem own_other {w : World} {B k i : Nat} {e : TypeId} {z : Nat} {v : Value} {n : Nat} {cs : List Value} (h : w.ownsRow B e z v n cs) (hk : k < B) (x : Value) : (w.setCell ⟨k, i, none⟩ x).ownsRow B e z v n cs := by
  refine ⟨h.1, ?_⟩
  rcases h.2 with h1 | ⟨g, cap, cur, h1, h2, h3, h4⟩
  · exact .inl h1
  · exact .inr ⟨g, cap, cur, h1, h2, (Below.heap_setCell _ _ _ _ (show g ≠ k by omega)).trans h3, h4⟩
theorem own_slice {w : World} {B : Nat} {e : TypeId} {n : Nat} {v : Value} {cs : List Value} (h : w.ownsRow B e 1 v n cs) : ∃ A cap, v = .slice A n cap ∧ (n = 0 ∨ ∃ g, A = some ⟨g, 0, none⟩) := by
  rcases h.2 with ⟨h1, h2⟩ | ⟨g, cap, cur, h1, _⟩
  · subst h2
    exact ⟨none, 0, h1, .inl rfl⟩
  · exact ⟨_, cap, h1, .inr ⟨g, rfl⟩⟩
theorem add_strv (l r : List UInt8) (h : l.length ≤ 8388608) (h' : r.length ≤ 8388608) (W : World) : (binOp .add 9 (strv l) (strv r)).run Tryd.prog W = .ok (strv (l ++ r)) W := by
  have h1 := run_string_add_lists (P := Tryd.prog) (w := W) l r (by omega) (by omega)
  unfold binOp
  simp [h1]
theorem add_op (l r : List UInt8) (h : l.length ≤ 8388608) (h' : r.length ≤ 8388608) (W : World) : (Op.stringOp .add ⟨l.toArray⟩ ⟨r.toArray⟩).run Tryd.prog W = .ok (strv (l ++ r)) W :=
  run_string_add_lists (P := Tryd.prog) (w := W) l r (by omega) (by omega)
theorem blk_drew {w : World} {b : Nat} {cs : Array Value} {t : TypeId} (h : blk w b cs t) : blk w.drew b cs t := h
theorem blk_other {w : World} {b : Nat} {cs : Array Value} {t : TypeId} (h : blk w b cs t) {c i : Nat} (hne : c ≠ b) (v : Value) : blk (w.setCell ⟨c, i, none⟩ v) b cs t :=
  (Below.heap_setCell _ _ _ _ (show b ≠ c by omega)).trans h
/-- A slice that holds a list of bytes. -/
def SlB (W : World) (v : Value) (xs : List Nat) : Prop := ∃ p c, v = .slice p xs.length c ∧ xs.length ≤ c ∧ (xs ≠ [] → ∃ b off, p = some ⟨b, off, none⟩ ∧ b < W.heap.size ∧ ∀ j x, xs[j]? = some x → W.cell? ⟨b, off + j, none⟩ = some (.int .u8 (x : Nat)))
theorem slb_slice {W : World} {v : Value} {xs : List Nat} (h : SlB W v xs) (m : Nat) (hm : m ≤ xs.length) : ∃ p c, (∀ w, (Instr.slice 22 v none (some (.int .i64 m)) none).run Tryd.prog w = .ok (.slice p m c) w) ∧ (0 < m → ∃ b off, p = some ⟨b, off, none⟩ ∧ b < W.heap.size ∧ ∀ j, j < m → ∃ x, xs[j]? = some x ∧ W.cell? ⟨b, off + j, none⟩ = some (.int .u8 (x : Nat))) := by
  obtain ⟨p, c, rfl, hc, hr⟩ := h
  have z := Tryd.sizeOf5
  have u := Tryd.underlying22
  have hm2 : (m : Int) ≤ c := by omega
  refine ⟨if c = 0 then p else p.map (·.add 0), c, fun w => by simp [go_sem, *], fun h0 => ?_⟩
  have hne : xs ≠ [] := by rintro rfl; simp at hm; omega
  obtain ⟨b, off, rfl, hb, hcell⟩ := hr hne
  have hc0 : ¬ c = 0 := by
    have : 0 < xs.length := List.length_pos_iff.2 hne
    omega
  refine ⟨b, off, by rw [if_neg hc0]; simp [Addr.add], hb, fun j hj => ⟨xs[j], List.getElem?_eq_getElem (by omega), hcell j _ (List.getElem?_eq_getElem (by omega))⟩⟩
theorem slb_below {w W : World} {v : Value} {xs : List Nat} (h : SlB w v xs) (hb : Below w.heap.size w W) : SlB W v xs := by
  obtain ⟨p, c, h1, h2, h3⟩ := h
  refine ⟨p, c, h1, h2, fun hx => ?_⟩
  obtain ⟨b, off, rfl, hlt, hc⟩ := h3 hx
  have := hb.size
  exact ⟨b, off, rfl, by omega, fun j x hj => (hb.cell (p := ⟨b, off + j, none⟩) hlt).trans (hc j x hj)⟩
/-- The deal made of a list; without some cards. -/
theorem keepsOthers_of_below {w w' : World} (h : Below w.heap.size w w') : KeepsOthers w w' :=
  ⟨h.size, fun k _o hk _ => (h.block k (Array.getElem?_eq_some_iff.1 hk).1).trans hk⟩
theorem keepsOthers_grow (w : World) (x : Array Obj) (d : Nat) : KeepsOthers w (grow w x d) :=
  ⟨by rw [grow_size]; omega, fun k o hk _ => (grow_heap (Array.getElem?_eq_some_iff.1 hk).1).trans hk⟩
/-- A range over an iterator that hands out the list xs of pairs, each of whose rounds goes on. -/
theorem range_seq2 {P : Program} {g : Operand} {ps : Array Tmp} {assign body : Code} {Q : Exit → Act → World → Prop} {a : Act} {w : World} {gf : Nat} {lb : Array Value}
    (hg : a.eval g = .func (.func gf) #[] lb) (eg : ∀ args w, (callFunc gf args).run P w = .ok (.enter gf args) w) {p1 p2 : Nat} (hps : ps = #[p1, p2])
    (xs : List (Value × Value)) (I : Nat → World → Prop) (hI : ∀ i W W', I i W → Below w.heap.size W W' → KeepC W W' → I i W') (h0 : I 0 w)
    (hseq : ∀ (l : Nat) (J : Nat → World → Prop) (W : World), (∀ i W, J i W → I i W ∧ w.heap.size + 2 ≤ W.heap.size) →
      (∀ i x W, xs[i]? = some x → J i W → YieldAt Fence.wide 2 P l #[x.1, x.2] W fun e W' => e = .returned (.bool true) ∧ J (i + 1) W') →
      J 0 W → Calls P gf (#[.func (.yield l) #[] #[]] ++ lb) W fun e W' => (∃ v, e = .returned v) ∧ J xs.length W')
    (q1 q2 : Nat)
    (hassign : ∀ (l : Nat) (x y : Value) (W : World) (K : Act → World → Prop), K { tmps := (((a.tmps.setIfInBounds p1 x).setIfInBounds p2 y).setIfInBounds q1 x).setIfInBounds q2 y, defers := [] } W →
      assign.wpIn (Fence.wide.inRound l) 2 P (Exit.then K (fun _ _ _ => False)) { tmps := (a.tmps.setIfInBounds p1 x).setIfInBounds p2 y, defers := [] } W)
    (hbody : ∀ (l i : Nat) (x : Value × Value) (W : World), xs[i]? = some x → I i W → w.heap.size + 2 ≤ W.heap.size → body.wpIn (Fence.wide.inRound l) 2 P (offEndS (I (i + 1)) W) { tmps := (((a.tmps.setIfInBounds p1 x.1).setIfInBounds p2 x.2).setIfInBounds q1 x.1).setIfInBounds q2 x.2, defers := [] } W)
    (hdone : ∀ (D : Nat) (W : World), I xs.length W → w.heap.size ≤ D → W.heap[D]? = some (.deferred (some [])) → Q .normal { a with defers := { target := .collected D, args := #[] } :: a.defers } W) :
    (Code.rangeFunc g ps assign body).wp P Q a w := by
  subst hps
  refine (wpIn_wide (n := 3)).1 ?_
  refine wpIn_rangeFunc ?_
  intro fn _
  let rc : LoopState → Loop := fun st => { state := st, pending := none, fn, tmps := a.tmps, params := #[p1, p2], assign, body, defers := w.heap.size }
  obtain ⟨W1, hW1⟩ : ∃ W1, (w.alloc (.deferred (some []))).alloc (.loop (rc .ready)) = W1 := ⟨_, rfl⟩
  have sz1 : W1.heap.size = w.heap.size + 2 := by rw [← hW1]; simp
  have l1 : W1.heap[w.heap.size + 1]? = some (.loop (rc .ready)) := by
    rw [← hW1]
    have := World.alloc_heap_new (w.alloc (.deferred (some []))) (.loop (rc .ready))
    simpa using this
  have d1 : W1.heap[w.heap.size]? = some (.deferred (some [])) := by
    rw [← hW1]
    exact (Below.heap_alloc _ _ _ (by simp)).trans (World.alloc_heap_new w _)
  have i1 : I 0 W1 := hI 0 w W1 h0 (by rw [← hW1]; exact ((Below.refl w.heap.size w).alloc (Nat.le_refl _) _).alloc (by simp) _) (by rw [← hW1]; exact (keepC_alloc _ _).trans (keepC_alloc _ _))
  refine ⟨w.heap.size + 1, [{ target := .collected w.heap.size, args := #[] }], W1, { target := .fn (.func gf) lb, args := #[.func (.yield (w.heap.size + 1)) #[] #[]] }, W1, gf,
    #[.func (.yield (w.heap.size + 1)) #[] #[]] ++ lb, W1, ?_, ?_, ?_, ?_, ?_, ?_⟩
  · rw [← hW1]; exact run_enterLoop_outer _ _ _ _ _
  · simp only [resolve, hg]
    simp [go_sem]
  · intro f' _; trivial
  · simp [invoke, go_sem, eg]
  · intro h; cases h
  · refine callsIn_wide.2 ((hseq (w.heap.size + 1)
      (fun i W => I i W ∧ W.heap[w.heap.size + 1]? = some (.loop (rc .ready)) ∧ W.heap[w.heap.size]? = some (.deferred (some [])))
      W1 ?_ ?_ ⟨i1, l1, d1⟩).mono ?_)
    · rintro i X ⟨h1, h2, _⟩
      exact ⟨h1, by have := (Array.getElem?_eq_some_iff.1 h2).1; omega⟩
    · rintro i x X hx ⟨h1, h2, h3⟩
      have hlt := (Array.getElem?_eq_some_iff.1 h2).1
      refine ⟨fn, _, assign, body, run_yield (args := #[x.1, x.2]) h2 (by simp [rc]), roundIn_of_wpIn trivial ?_⟩
      have e0 : ((rc .ready).params.zip #[x.1, x.2]).foldl (fun tmps (t, a) => tmps.setIfInBounds t a) (rc .ready).tmps = (a.tmps.setIfInBounds p1 x.1).setIfInBounds p2 x.2 := by simp [rc]
      rw [e0]
      refine hassign _ x.1 x.2 X _ ⟨_, run_beginRound h2 rfl, ?_⟩
      have l2 := World.putObj_heap_same (w := X) (r := w.heap.size + 1) (o := .loop { rc .ready with state := .busy }) hlt
      have d2 := (World.putObj_heap_other (w := X) (r := w.heap.size + 1) (k := w.heap.size) (o := .loop { rc .ready with state := .busy }) (by omega)).trans h3
      refine wpIn_mono (hbody _ i x _ hx (hI i X _ h1 (below_putObj _ _ _ _ (by omega)) (keepC_putObj h2 rfl)) (by simp [World.putObj]; omega)) ?_
      rintro e a3 Y hp
      cases e with
      | normal =>
        obtain ⟨ko, hi⟩ := hp
        have l3 := ko.same _ _ l2 rfl
        have d3 := ko.same _ _ d2 rfl
        exact ⟨_, _, run_endRound none l3, rfl, ⟨hI _ Y _ hi (below_putObj _ _ _ _ (by omega)) (keepC_putObj l3 rfl), World.putObj_heap_same (Array.getElem?_eq_some_iff.1 l3).1, (World.putObj_heap_other (by omega)).trans d3⟩⟩
      | ret => exact hp.elim
      | exit id => exact hp.elim
      | goto t => exact hp.elim
      | panic ch => exact hp.elim
      | outgrown => exact hp.elim
    · rintro e X ⟨⟨v, rfl⟩, h1, h2, h3⟩
      have hlt := (Array.getElem?_eq_some_iff.1 h2).1
      exact ⟨none, _, run_endLoop h2 (by simp [rc]), hdone w.heap.size _ (hI _ X _ h1 (below_putObj _ _ _ _ (by omega)) (keepC_putObj h2 rfl)) (Nat.le_refl _) ((World.putObj_heap_other (by omega)).trans h3)⟩
theorem own_pos {w : World} {B : Nat} {e : TypeId} {n z : Nat} {v : Value} {cs : List Value} (h : w.ownsRow B e z v (n + 1) cs) : ∃ g cap, v = .slice (some ⟨g, 0, none⟩) (n + 1) cap ∧ g < w.heap.size := by
  rcases h.2 with ⟨h1, h2⟩ | ⟨g, cap, cur, h1, h2, h3, _⟩
  · omega
  · exact ⟨g, cap, h1, lt_of_block h3⟩
theorem own_at {w : World} {B : Nat} {e : TypeId} {n z g cap : Nat} {cs : List Value} (h : w.ownsRow B e z (.slice (some ⟨g, 0, none⟩) n cap) n cs) (j : Nat) (hj : j < n * z) : w.cell? ⟨g, j, none⟩ = cs[j]? := h.cellAt j hj
end Go.Proofs.YtacgikhedhiaaaaDoor
