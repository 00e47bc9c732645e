/- waysFrom, Ways. -/
import Derived.Test.YtgcfkhpondemlaaXE
import Derived.Deep.WholeRow
import Derived.Laws.CopyOwn
namespace Go.Proofs.Ytgcfkhpondemlaa.Ca
open Go.RowKit
open Go.Proofs.DB (ct bt Pd lack W2 W3 W4)

theorem mul_at (a b m : Nat) (ha : isN a) (hb : isN b) (hm : a * b = m) (hf : isN m) (q : Nat) (X : World) (c : blk X q #[.int .u32 (pt a 0), .int .u32 (pt a 1), .int .u32 (pt a 2), .int .u32 (pt a 3), .int .u32 (pt b 0), .int .u32 (pt b 1), .int .u32 (pt b 2), .int .u32 (pt b 3)] 26) :
    Calls Try.prog 30 #[.slice (some ⟨q, 0, none⟩) 2 2] X fun e w' => e = .returned (.tuple #[.agg #[.int .u32 (pt m 0), .int .u32 (pt m 1), .int .u32 (pt m 2), .int .u32 (pt m 3)], .int .i64 0]) ∧ Below X.heap.size X w' := by
  haveI : NeZero (inW q X) := inW_mk (blk_lt c)
  have h := mul_calls a b q ha hb _ (blk_cell c 0) (blk_cell c 1) (blk_cell c 2) (blk_cell c 3) (blk_cell c 4) (blk_cell c 5) (blk_cell c 6) (blk_cell c 7)
  have e1 : mulR a b = m := by unfold mulR; rw [hm, if_pos hf]
  have e2 : mulE a b = 0 := by unfold mulE; rw [hm, if_pos hf]
  rwa [e1, e2] at h
/-- How many cards the hands from seat s on lack; in how many ways they can share them. -/
def cum (p : Nat → Nat) : Nat → Nat
  | 0 => lack p 0 + (lack p 1 + (lack p 2 + lack p 3))
  | 1 => lack p 1 + (lack p 2 + lack p 3)
  | 2 => lack p 2 + lack p 3
  | 3 => lack p 3
  | _ => 0
def Wv (p : Nat → Nat) : Nat → Nat
  | 0 => DB.ways bin p
  | 1 => W3 bin (lack p 1) (lack p 2) (lack p 3)
  | 2 => W2 bin (lack p 2) (lack p 3)
  | _ => 1
theorem lack_le (p : Nat → Nat) (i : Nat) : lack p i ≤ 13 := Nat.sub_le _ _
theorem ways_le (p : Nat → Nat) : DB.ways bin p ≤ 53644737765488792839237440000 := DB.W4_le pas_bin (lack_le p 0) (lack_le p 1) (lack_le p 2) (lack_le p 3)
theorem ways_pos (p : Nat → Nat) : 0 < DB.ways bin p := Nat.mul_pos (pas_bin.pos _ _) (DB.W3_pos pas_bin _ _ _)
theorem Wv_le (p : Nat → Nat) : ∀ s, Wv p s ≤ 53644737765488792839237440000
  | 0 => ways_le p
  | 1 => Nat.le_trans (DB.W3_le4 pas_bin (lack p 0) (lack p 1) (lack p 2) (lack p 3)) (ways_le p)
  | 2 => Nat.le_trans (Nat.le_trans (DB.W2_le3 pas_bin (lack p 1) (lack p 2) (lack p 3)) (DB.W3_le4 pas_bin (lack p 0) (lack p 1) (lack p 2) (lack p 3))) (ways_le p)
  | _ + 3 => by show 1 ≤ _; decide
theorem Wv_isN (p : Nat → Nat) (s : Nat) : isN (Wv p s) := by have := Wv_le p s; unfold isN; omega
theorem Wv_pos (p : Nat → Nat) : ∀ s, Wv p s ≠ 0
  | 0 => by have := ways_pos p; show DB.ways bin p ≠ 0; omega
  | 1 => by have := DB.W3_pos pas_bin (lack p 1) (lack p 2) (lack p 3); show W3 _ _ _ _ ≠ 0; omega
  | 2 => by have := DB.W2_pos pas_bin (lack p 2) (lack p 3); show W2 _ _ _ ≠ 0; omega
  | _ + 3 => by show 1 ≠ 0; decide
theorem Wv_mul (p : Nat → Nat) : ∀ s, s < 4 → bin (cum p s) (lack p s) * Wv p (s + 1) = Wv p s
  | 0, _ => rfl
  | 1, _ => rfl
  | 2, _ => Nat.mul_one _
  | 3, _ => by show bin (lack p 3) (lack p 3) * 1 = 1; rw [(pas_bin.self _).1]
theorem cum_le (p : Nat → Nat) : ∀ s, cum p s ≤ 52
  | 0 => by have := lack_le p 0; have := lack_le p 1; have := lack_le p 2; have := lack_le p 3; show lack p 0 + (lack p 1 + (lack p 2 + lack p 3)) ≤ 52; omega
  | 1 => by have := lack_le p 1; have := lack_le p 2; have := lack_le p 3; show lack p 1 + (lack p 2 + lack p 3) ≤ 52; omega
  | 2 => by have := lack_le p 2; have := lack_le p 3; show lack p 2 + lack p 3 ≤ 52; omega
  | 3 => by have := lack_le p 3; show lack p 3 ≤ 52; omega
  | _ + 4 => Nat.zero_le _
theorem blk_setRow {w : World} {b : Nat} {cs : Array Value} {t : TypeId} (h : blk w b cs t) (c : Array Value) : blk (w.setRow b c) b c t := by
  unfold blk at *
  simp [World.setRow, Array.getElem?_modify, h]
theorem results_row {P : Program} {f : Func} {tm : Array Value} {V : World} {a : Nat} {t : TypeId} {b : Nat} {c : Array Value} {d : TypeDesc} {bt : TypeId} (hf : f.results = #[.cell a t]) (ha : tm.getD a undef = .pointer (some ⟨b, 0, none⟩))
    (hb : blk V b c bt) (hd : (match d with | .struct _ | .array _ _ => true | _ => false) = true) (hu : P.underlying t = some d) (hi : (P.info? t).map (·.size) = some c.size) : (results f tm).run P V = .ok (.agg c) V := by
  have := run_loadVar_row (P := P) V b bt t c (0, 0) d hb hu (by cases d <;> first | rfl | cases hd) hi
  unfold results
  rw [hf]
  rw [Array.getD_eq_getD_getElem?] at ha
  simp [ha, asAddr, this]
theorem loadCells_row {P : Program} (w : World) (b : Nat) (c : Array Value) (t : TypeId) (h : blk w b c t) (n : Nat) (hn : c.size = n) :
    (loadCellsFrom ⟨b, 0, none⟩ 0 n #[]).run P w = .ok c w := by
  subst hn
  have := run_loadCells_list (P := P) w ⟨b, 0, none⟩ c.toList (fun j v hv => by
    have hadd : (⟨b, 0, none⟩ : Addr).add j = ⟨b, j, none⟩ := by unfold Addr.add; split <;> simp_all
    rw [hadd, blk_cell h j]
    simpa using hv)
  simpa [loadCells] using this
theorem wpList_store_new {P : Program} {ops : Array Oper} {rest : List Oper} {o : Oper} {a : Act} {w : World} {Q : Exit → Act → World → Prop} (hgd : o.guard = none) (ty : TypeId) (x y : Operand) (ho : o.op = .store ty x y)
    (g : Nat) (cells c : Array Value) (hx : a.eval x = .pointer (some ⟨g, 0, none⟩)) (hg : g = w.heap.size) (hy : a.eval y = .agg cells) (t : TypeId) (hi : (P.info? ty).map (·.size) = some cells.size)
    (hold : c.size = cells.size) (h1 : cells.all (·.oneCell') = true) (h : wpList P ops Q rest (a.put o.dst undef) (w.alloc (.cells cells t))) : wpList P ops Q (o :: rest) a (w.alloc (.cells c t)) := by
  subst hg
  refine wpList_store_row hgd ty x y ho _ cells hx hy t c (heap_alloc_last _ _) hi hold h1 ?_
  rw [World.setRow_alloc_new]
  exact h
theorem Try.infoWays : (Try.prog.info? 63).map (·.size) = some 20 := by kernel_rfl
/-- The cells of five numbers. -/
def wc (f : Nat → Nat) : Array Value := #[.int .u32 (pt (f 0) 0), .int .u32 (pt (f 0) 1), .int .u32 (pt (f 0) 2), .int .u32 (pt (f 0) 3), .int .u32 (pt (f 1) 0), .int .u32 (pt (f 1) 1), .int .u32 (pt (f 1) 2), .int .u32 (pt (f 1) 3), .int .u32 (pt (f 2) 0), .int .u32 (pt (f 2) 1), .int .u32 (pt (f 2) 2), .int .u32 (pt (f 2) 3), .int .u32 (pt (f 3) 0), .int .u32 (pt (f 3) 1), .int .u32 (pt (f 3) 2), .int .u32 (pt (f 3) 3), .int .u32 (pt (f 4) 0), .int .u32 (pt (f 4) 1), .int .u32 (pt (f 4) 2), .int .u32 (pt (f 4) 3)]
theorem wc_one (f : Nat → Nat) : (wc f).all (·.oneCell') = true := by simp [wc, Value.oneCell']
def fs0 (m j : Nat) : Nat := if j = 4 then m else 0
def fs (p : Nat → Nat) (s j : Nat) : Nat := if s ≤ j then Wv p j else 0
end Go.Proofs.Ytgcfkhpondemlaa.Ca
