/- Walks of nat: Text. -/
import Derived.Test.YtjhocgeoangbdaaNJ
import Derived.Laws.OwnMore
import Derived.Laws.BytesArg
import Derived.Laws.IdiomStrings
import Derived.Shelf.SlicesE.Reverse
namespace Go.Proofs.Ytjhocgeoangbdaa
open Go.RowKit Go.Shelf Go.Sort

def dig (k : Nat) : UInt8 := UInt8.ofNat (48 + k)
theorem dig_nat {k : Nat} (h : k < 10) : (dig k).toNat = 48 + k := by
  unfold dig
  simp [UInt8.toNat_ofNat']
  omega
def decF : Nat → Nat → List UInt8
  | 0, _ => []
  | f + 1, n => if n < 10 then [dig n] else decF f (n / 10) ++ [dig (n % 10)]
/-- a number as decimal digits -/
def decD (n : Nat) : List UInt8 := decF 40 n
theorem decF_more : ∀ (f n : Nat), n < 10 ^ (f + 1) → decF (f + 2) n = decF (f + 1) n
  | 0, n, h => by
    have h1 : n < 10 := by omega
    simp only [decF, if_pos h1]
  | f + 1, n, h => by
    rw [decF]
    conv => rhs; rw [decF]
    rw [decF_more f (n / 10) (by rw [Nat.div_lt_iff_lt_mul (by decide), ← Nat.pow_succ]; exact h)]
theorem decD_low (n : Nat) (h : n < 10) : decD n = [dig n] := by
  show decF (39 + 1) n = _
  rw [decF, if_pos h]
theorem decD_step (n : Nat) (hn : isN n) (h : ¬ n < 10) : decD n = decD (n / 10) ++ [dig (n % 10)] := by
  show decF (39 + 1) n = _
  rw [decF, if_neg h]
  have e : decF 39 (n / 10) = decD (n / 10) := by
    symm
    refine decF_more 38 (n / 10) ?_
    have : (10 : Nat) ^ (38 + 1) = 1000000000000000000000000000000000000000 := by decide
    unfold isN at hn
    omega
  rw [e]
/-- behind some rounds: cur is left, ds are the last digits, the lowest one first -/
def tinv (a cur : Nat) (ds : List UInt8) : Prop := (ds = [] ∧ cur = a) ∨ (ds ≠ [] ∧ decD a = (if cur = 0 then [] else decD cur) ++ ds.reverse)
theorem tinv_step (a cur : Nat) (ds : List UInt8) (hc : isN cur) (h : tinv a cur ds) (hgo : ds = [] ∨ cur ≠ 0) : tinv a (cur / 10) (ds ++ [dig (cur % 10)]) := by
  refine .inr ⟨by simp, ?_⟩
  have key : (if cur / 10 = 0 then [] else decD (cur / 10)) ++ [dig (cur % 10)] = decD cur := by
    by_cases hl : cur < 10
    · rw [if_pos (by omega), decD_low cur hl, Nat.mod_eq_of_lt hl]; rfl
    · rw [if_neg (by omega), ← decD_step cur hc hl]
  rw [List.reverse_append, ← List.append_assoc]
  rcases h with ⟨rfl, rfl⟩ | ⟨h1, h2⟩
  · simp only [List.reverse_nil, List.append_nil, List.reverse_cons, List.nil_append]
    exact key.symm
  · have h3 : cur ≠ 0 := by
      rcases hgo with h | h
      · exact absurd h h1
      · exact h
    rw [if_neg h3] at h2
    rw [h2]
    simp only [List.reverse_cons, List.reverse_nil, List.nil_append]
    rw [key]
theorem tinv_end (a : Nat) (ds : List UInt8) (h : tinv a 0 ds) (hne : ds ≠ []) : decD a = ds.reverse := by
  rcases h with ⟨h1, _⟩ | ⟨_, h2⟩
  · exact absurd h1 hne
  · rw [if_pos rfl, List.nil_append] at h2; exact h2

abbrev enc (b : UInt8) : Value := .int .u8 (b.toNat : Int)
/-- block b is these cells -/
def blk (w : World) (b : Nat) (cs : Array Value) (t : TypeId) : Prop := w.heap[b]? = some (.cells cs t (0, 0))
theorem blk_cell {w : World} {b : Nat} {cs : Array Value} {t : TypeId} (h : blk w b cs t) (i : Nat) : w.cell? ⟨b, i, none⟩ = cs[i]? := by
  unfold blk at h; exact cell_of_row w b i cs t (0, 0) h
theorem blk_free {w : World} {b : Nat} {cs : Array Value} {t : TypeId} (h : blk w b cs t) (i : Nat) : w.frozen? ⟨b, i, none⟩ = false := frozen_of_row w b i cs t h
theorem blk_lt {w : World} {b : Nat} {cs : Array Value} {t : TypeId} (h : blk w b cs t) : b < w.heap.size := lt_of_block h
theorem blk_set {w : World} {b : Nat} {cs : Array Value} {t : TypeId} (h : blk w b cs t) (i : Nat) (v : Value) : blk (w.setCell ⟨b, i, none⟩ v) b (cs.setIfInBounds i v) t := heap_setCell_same w b i cs t v h
theorem blk_grown {w w' : World} {b : Nat} {cs : Array Value} {t : TypeId} {row : Option Nat} (h : blk w b cs t) (hg : w.grownBy w' row) (hne : some b ≠ row) : blk w' b cs t :=
  (hg.block b (blk_lt h) hne).trans h
theorem blk_grow {w : World} {b : Nat} {cs : Array Value} {t : TypeId} (h : blk w b cs t) (x : Array Obj) (d : Nat) : blk (grow w x d) b cs t := (grow_heap (blk_lt h)).trans h
theorem blk_alloc {w : World} {b : Nat} {cs : Array Value} {t : TypeId} (h : blk w b cs t) (o : Obj) : blk (w.alloc o) b cs t := by
  have := blk_lt h
  unfold blk at *
  rw [show (w.alloc o).heap = w.heap.push o from rfl, Array.getElem?_push, if_neg (by omega)]
  exact h
theorem own_grow {w : World} {base : Nat} {e : TypeId} {size : Nat} {v : Value} {n : Nat} {xs : List Value} (h : w.ownsRow base e size v n xs) (x : Array Obj) (d : Nat) : (grow w x d).ownsRow base e size v n xs := by
  refine ⟨h.1, ?_⟩
  rcases h.2 with h1 | ⟨g, cap, cur, h1, h2, h3, h4⟩
  · exact .inl h1
  · exact .inr ⟨g, cap, cur, h1, h2, (grow_heap (lt_of_block h3)).trans h3, h4⟩
def rev_ren : Go.Shelf.Ren := ⟨fun | 35 => 48 | n => n, fun | 0 => 0 | 3 => 3 | 4 => 4 | 22 => 53 | 23 => 5 | n => n, fun | n => n⟩
theorem lays_rev : SlLaysE.n35 Try.prog rev_ren := {
  mixed := by kernel_rfl
  f35 := ⟨Try.f48.name, by decide, Try.func48.trans (congrArg some (by kernel_rfl))⟩
  t0 := Try.underlying0
  a0 := Try.isAgg0
  z0 := Try.sizeOf0
  v0 := Try.zeroValue0
  t3 := Try.underlying3
  a3 := Try.isAgg3
  z3 := Try.sizeOf3
  v3 := Try.zeroValue3
  t4 := Try.underlying4
  a4 := Try.isAgg4
  z4 := Try.sizeOf4
  v4 := Try.zeroValue4
  t22 := Try.underlying53
  a22 := Try.isAgg53
  z22 := Try.sizeOf53
  v22 := Try.zeroValue53
  a23 := Try.isAgg5
  z23 := Try.sizeOf5 }
theorem reverse_calls (b cap : Nat) (zs : List UInt8) (w : World) (hH : Holds enc w b 0 zs.toArray) (hsz : zs.length ≤ 9223372036854775807) :
    Calls Try.prog 48 #[.slice (some ⟨b, 0, none⟩) zs.length cap] w fun e w' => e = .returned (.tuple #[]) ∧ ∃ n, w' = putRow enc (Sort.ahead w n) b 0 zs.reverse.toArray :=
  AnyE.slices_Reverse lays_rev enc (fun _ => rfl) b 0 cap zs w hH hsz
theorem Try.infoB : (Try.prog.info? 5).map (fun i => (i.zero, i.size, i.bytes)) = some (some (.int .u8 0), 1, 1) := by kernel_rfl
end Go.Proofs.Ytjhocgeoangbdaa
