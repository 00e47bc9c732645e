/- Worlds that have only grown: a call that makes memory and writes none that was there leaves 'grow w x d'. -/
import Derived.WalkKit
import Derived.Deep.QuietTactic
namespace Go.Proofs.YtacgikhedhiaaaaDoor
open Go.RowKit

/-- w with the blocks x more, and d draws in all. -/
def grow (w : World) (x : Array Obj) (d : Nat) : World := { w with heap := w.heap ++ x, drawn := d }
/-- How many blocks. -/
def sz (x : Array Obj) : Nat := x.size

theorem grow_of_below {w w' : World} (h : Below w.heap.size w w') : ∃ x d, w' = grow w x d := by
  refine ⟨w'.heap.extract w.heap.size w'.heap.size, w'.drawn, ?_⟩
  obtain ⟨h1, h2, h3, h4, h5⟩ := h
  have e : w.heap ++ w'.heap.extract w.heap.size w'.heap.size = w'.heap := by
    apply Array.ext_getElem?
    intro i
    by_cases hi : i < w.heap.size
    · rw [Array.getElem?_append_left hi, h5 i hi]
    · rw [Array.getElem?_append_right (by omega)]
      simp only [Array.getElem?_extract]
      by_cases hj : i < w'.heap.size
      · rw [if_pos (by omega)]; congr 1; omega
      · rw [if_neg (by omega)]; exact (Array.getElem?_eq_none (by omega)).symm
  cases w'
  simp only [grow] at *
  simp [*]
theorem grow_heap {w : World} {x : Array Obj} {d k : Nat} (h : k < w.heap.size) : (grow w x d).heap[k]? = w.heap[k]? := by
  simp [grow, Array.getElem?_append_left h]
@[go_sem] theorem grow_size (w : World) (x : Array Obj) (d : Nat) : (grow w x d).heap.size = w.heap.size + sz x := by simp [grow, sz]
theorem below_grow {B : Nat} {a w : World} {x : Array Obj} {d : Nat} (h : Below B a w) (hB : B ≤ w.heap.size) : Below B a (grow w x d) :=
  h.trans ⟨rfl, rfl, rfl, by simp [grow], fun k hk => grow_heap (by omega)⟩
/-- Block n lies in w; w has just k blocks: as instances, which simp finds by the worlds' shape. -/
def inW (n : Nat) (w : World) : Nat := w.heap.size - n
def szIs (k : Nat) (w : World) : Nat := if w.heap.size = k then 1 else 0
theorem inW_lt {n : Nat} {w : World} (h : NeZero (inW n w)) : n < w.heap.size := by have := h.out; unfold inW at this; omega
theorem inW_mk {n : Nat} {w : World} (h : n < w.heap.size) : NeZero (inW n w) := ⟨by unfold inW; omega⟩
theorem szIs_eq {k : Nat} {w : World} (h : NeZero (szIs k w)) : w.heap.size = k := by have := h.out; unfold szIs at this; by_cases e : w.heap.size = k <;> simp_all
theorem szIs_mk {k : Nat} {w : World} (h : w.heap.size = k) : NeZero (szIs k w) := ⟨by unfold szIs; simp [h]⟩
instance (w : World) : NeZero (szIs w.heap.size w) := szIs_mk rfl
instance (k : Nat) (w : World) (o : Obj) [h : NeZero (szIs k w)] : NeZero (szIs (k + 1) (w.alloc o)) := szIs_mk (by simp [szIs_eq h])
instance (k : Nat) (w : World) [h : NeZero (szIs k w)] : NeZero (szIs k w.drew) := szIs_mk (szIs_eq h)
instance (k n : Nat) (w : World) [h : NeZero (szIs k w)] : NeZero (szIs k (w.drewN n)) := szIs_mk (szIs_eq h)
instance (k : Nat) (w : World) (a : Addr) (v : Value) [h : NeZero (szIs k w)] : NeZero (szIs k (w.setCell a v)) := szIs_mk (by simp [World.setCell, szIs_eq h])
instance (k : Nat) (w : World) (x : Array Obj) (d : Nat) [h : NeZero (szIs k w)] : NeZero (szIs (k + sz x) (grow w x d)) := szIs_mk (by rw [grow_size, szIs_eq h])
instance (k : Nat) (w : World) (o : Obj) [h : NeZero (szIs k w)] : NeZero (inW k (w.alloc o)) := inW_mk (by simp [szIs_eq h])
instance (k : Nat) (w : World) (o : Obj) [h : NeZero (inW k w)] : NeZero (inW k (w.alloc o)) := inW_mk (by have := inW_lt h; simp; omega)
instance (k : Nat) (w : World) [h : NeZero (inW k w)] : NeZero (inW k w.drew) := inW_mk (inW_lt h)
instance (k n : Nat) (w : World) [h : NeZero (inW k w)] : NeZero (inW k (w.drewN n)) := inW_mk (inW_lt h)
instance (k : Nat) (w : World) (a : Addr) (v : Value) [h : NeZero (inW k w)] : NeZero (inW k (w.setCell a v)) := inW_mk (by simp [World.setCell, inW_lt h])
instance (k : Nat) (w : World) (x : Array Obj) (d : Nat) [h : NeZero (inW k w)] : NeZero (inW k (grow w x d)) := inW_mk (by have := inW_lt h; rw [grow_size]; omega)
@[go_sem] theorem grow_cell (w : World) (x : Array Obj) (d n i : Nat) [hn : NeZero (inW n w)] : (grow w x d).cell? ⟨n, i, none⟩ = w.cell? ⟨n, i, none⟩ :=
  World.cell?_of_block (w := w) (grow_heap (inW_lt hn))
@[go_sem] theorem grow_frozen (w : World) (x : Array Obj) (d n i : Nat) [hn : NeZero (inW n w)] : (grow w x d).frozen? ⟨n, i, none⟩ = w.frozen? ⟨n, i, none⟩ :=
  World.frozen?_of_block (w := w) (grow_heap (inW_lt hn))
@[go_sem] theorem grow_set (w : World) (x : Array Obj) (d n i : Nat) (v : Value) [hm : NeZero (inW n w)] : (grow w x d).setCell ⟨n, i, none⟩ v = grow (w.setCell ⟨n, i, none⟩ v) x d := by
  have hn := inW_lt hm
  simp only [grow, World.setCell]
  congr 1
  apply Array.ext_getElem?
  intro k
  by_cases hk : k < w.heap.size
  · by_cases hkn : n = k <;> simp [Array.getElem?_modify, Array.getElem?_append_left, Array.getElem_modify, hk, hkn]
  · simp [Array.getElem?_modify, Array.getElem?_append, hk, show ¬ n = k by omega]
@[go_sem] theorem alloc_cell (w : World) (o : Obj) (n i : Nat) [hn : NeZero (inW n w)] : (w.alloc o).cell? ⟨n, i, none⟩ = w.cell? ⟨n, i, none⟩ := World.cell?_alloc_past o n i (inW_lt hn)
@[go_sem] theorem alloc_cell_at (w : World) (c : Array Value) (t : TypeId) (n i : Nat) [hn : NeZero (szIs n w)] : (w.alloc (.cells c t)).cell? ⟨n, i, none⟩ = c[i]? := World.cell?_alloc_at c t n i (szIs_eq hn).symm
@[go_sem] theorem alloc_frozen (w : World) (o : Obj) (n i : Nat) [hn : NeZero (inW n w)] : (w.alloc o).frozen? ⟨n, i, none⟩ = w.frozen? ⟨n, i, none⟩ := World.frozen?_alloc_past o n i (inW_lt hn)
@[go_sem] theorem alloc_frozen_at (w : World) (c : Array Value) (t : TypeId) (n i : Nat) [hn : NeZero (szIs n w)] : (w.alloc (.cells c t)).frozen? ⟨n, i, none⟩ = false := World.frozen?_alloc_at c t n i (szIs_eq hn).symm
@[go_sem] theorem alloc_set (w : World) (o : Obj) (n i : Nat) (v : Value) [hn : NeZero (inW n w)] : (w.alloc o).setCell ⟨n, i, none⟩ v = (w.setCell ⟨n, i, none⟩ v).alloc o := World.setCell_alloc_past o n i v (inW_lt hn)
@[go_sem] theorem alloc_set_at (w : World) (c : Array Value) (t : TypeId) (n i : Nat) (v : Value) [hn : NeZero (szIs n w)] : (w.alloc (.cells c t)).setCell ⟨n, i, none⟩ v = w.alloc (.cells (c.setIfInBounds i v) t) := World.setCell_alloc_at c t n i v (szIs_eq hn).symm
@[go_sem] theorem grow_grow (w : World) (x y : Array Obj) (d e : Nat) : grow (grow w x d) y e = grow w (x ++ y) e := by simp [grow, Array.append_assoc]
@[go_sem] theorem grow_drewN' (w : World) (x : Array Obj) (d n : Nat) : grow (w.drewN n) x d = grow w x d := rfl
@[go_sem] theorem grow_drew' (w : World) (x : Array Obj) (d : Nat) : grow w.drew x d = grow w x d := rfl
@[go_sem] theorem grow_drew (w : World) (x : Array Obj) (d : Nat) : (grow w x d).drew = grow w x (d + 1) := rfl
@[go_sem] theorem grow_drewN (w : World) (x : Array Obj) (d n : Nat) : (grow w x d).drewN n = grow w x (d + n) := rfl
theorem below_drewN {B : Nat} {a w : World} (n : Nat) (h : Below B a w) : Below B a (w.drewN n) := ⟨h.os, h.tape, h.output, h.size, h.block⟩
end Go.Proofs.YtacgikhedhiaaaaDoor
