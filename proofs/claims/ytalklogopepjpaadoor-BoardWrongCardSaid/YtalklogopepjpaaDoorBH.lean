/- Classes: the map keyed by deals. -/
import Derived.Test.YtalklogopepjpaaDoorBC
import Derived.Test.YtalklogopepjpaaDoorG
import Derived.Test.YtalklogopepjpaaDoorMG
import Derived.Maps.OwnSet
import Derived.WideKeyPair
namespace Go.Proofs.YtalklogopepjpaaDoor.Ca
open Go.RowKit Go.WideMaps
open Go.Maps (Keyed IsMap)
open Go.Proofs.DB (Same fc)

theorem arrK : ArrKey Tryd.prog 39 37 4 := ⟨Tryd.underlying39, by kernel_rfl, by kernel_rfl, by kernel_rfl⟩
theorem keyD : Keyed Tryd.prog 39 := Keyed.of_law arrK.law
/-- The key of a deal. -/
def klD (d : Nat → Nat) : Lit := .string (keyBytes [.int .u64 (d 0 : Nat), .int .u64 (d 1 : Nat), .int .u64 (d 2 : Nat), .int .u64 (d 3 : Nat)])
theorem keyOf_four {P : Program} {k e : TypeId} {q : IntKind} (A : ArrKey P k e 4) (he : P.underlying e = some (.int q)) (hsz : ∃ m, P.types.size = m + 1) {a b c d : Int} (wa : (Lit.int q a).wf = true) (wb : (Lit.int q b).wf = true) (wc : (Lit.int q c).wf = true) (wd : (Lit.int q d).wf = true) :
    keyOf P k (.agg #[.int q a, .int q b, .int q c, .int q d]) = some (.string (keyBytes [.int q a, .int q b, .int q c, .int q d])) := by
  have hkt := A.keyType hsz
  obtain ⟨m, hm⟩ := hsz
  unfold keyOf
  simp only [A.hu]
  rw [if_pos (by simp [hkt, Value.formed, A.hu, A.size]), hm]
  unfold Program.keyLits
  simp only [A.hu, Value.cells]
  rw [if_pos (by rw [A.size]; rfl), show List.range 4 = [0, 1, 2, 3] from rfl, List.mapM_cons, List.mapM_cons, List.mapM_cons, List.mapM_cons, List.mapM_nil]
  simp [A.one, Program.keyLits, he, wa, wb, wc, wd]
/-- Four numbers of 64 bits. -/
def B64 (d : Nat → Nat) : Prop := ∀ i, i < 4 → d i < 18446744073709551616
theorem sizeP : Tryd.prog.types.size = Tryd.prog.types.size - 1 + 1 := by kernel_rfl
set_option maxRecDepth 100000 in
theorem kofD (d : Nat → Nat) (h : B64 d) : keyOf Tryd.prog 39 (.agg #[.int .u64 (d 0 : Nat), .int .u64 (d 1 : Nat), .int .u64 (d 2 : Nat), .int .u64 (d 3 : Nat)]) = some (klD d) := by
  have := h 0 (by decide); have := h 1 (by decide); have := h 2 (by decide); have := h 3 (by decide)
  exact keyOf_four arrK Tryd.underlying37 ⟨_, sizeP⟩ (WalkArith.wf_u64 (by omega)) (WalkArith.wf_u64 (by omega)) (WalkArith.wf_u64 (by omega)) (WalkArith.wf_u64 (by omega))
theorem klD_same {d e : Nat → Nat} (s : Same d e) : klD d = klD e := by
  obtain ⟨a, b, c, f⟩ := s
  unfold klD
  rw [a, b, c, f]
set_option maxRecDepth 100000 in
theorem klD_ne {d e : Nat → Nat} (hd : B64 d) (he : B64 e) (s : ¬ Same d e) : klD d ≠ klD e := fun h => by
  have h1 := kofD d hd
  have h2 := kofD e he
  rw [← h] at h2
  have := keyOf_inj_deep arrK.tiled arrK.wide h1 h2
  simp only [Value.agg.injEq, Array.mk.injEq, List.cons.injEq, Value.int.injEq, true_and, and_true] at this
  exact s ⟨by omega, by omega, by omega, by omega⟩
theorem zeroInt (w : World) : (zeroValue 3).run Tryd.prog w = .ok (.int .i64 0) w := by kernel_rfl
/-- The map holds, for each deal among the first i, the first index that is equal to it. -/
def FM (W : World) (bm : Nat) (L : Nat → Nat → Nat) (i : Nat) : Prop :=
  ∃ D : DataW Unit, W.ownsMap Tryd.prog 39 (plainElem Tryd.prog 3) bm i D ∧ ∀ d, B64 d → Maps.has D (klD d) = decide (fc L d i < i) ∧ (fc L d i < i → D.atKey (klD d) (.lit (.int .i64 0)) = .lit (.int .i64 (fc L d i : Nat)))
theorem fm_made (W : World) (L : Nat → Nat → Nat) : FM (W.alloc (.map #[] 0)) W.heap.size L 0 :=
  ⟨.map [], World.ownsMap_made _ _ _ _, fun d _ => ⟨by simp [Maps.has], fun h => absurd h (Nat.not_lt_zero _)⟩⟩
theorem FM.lt {W : World} {bm i : Nat} {L : Nat → Nat → Nat} (h : FM W bm L i) : bm < W.heap.size := let ⟨_, h, _⟩ := h; h.lt
theorem FM.of_block {W W' : World} {bm i : Nat} {L : Nat → Nat → Nat} (h : FM W bm L i) (e : W'.heap[bm]? = W.heap[bm]?) : FM W' bm L i := by
  obtain ⟨D, ⟨es, clock, hb, r⟩, hf⟩ := h
  exact ⟨D, ⟨es, clock, e.trans hb, r⟩, hf⟩
theorem FM.grow {W : World} {bm i : Nat} {L : Nat → Nat → Nat} (h : FM W bm L i) (x : Array Obj) (d : Nat) : FM (grow W x d) bm L i := h.of_block (grow_heap h.lt)
theorem FM.alloc {W : World} {bm i : Nat} {L : Nat → Nat → Nat} (h : FM W bm L i) (o : Obj) : FM (W.alloc o) bm L i :=
  let ⟨D, g, hf⟩ := h
  ⟨D, g.alloc o, hf⟩
theorem FM.setCell {W : World} {bm i : Nat} {L : Nat → Nat → Nat} (h : FM W bm L i) {c j : Nat} (hne : bm ≠ c) (u : Value) : FM (W.setCell ⟨c, j, none⟩ u) bm L i :=
  let ⟨D, g, hf⟩ := h
  ⟨D, g.setCell (a := ⟨c, j, none⟩) hne u, hf⟩
theorem fm_look {W : World} {bm i : Nat} {L : Nat → Nat → Nat} (h : FM W bm L i) (d : Nat → Nat) (hd : B64 d) :
    ∃ c : Int, (Instr.lookup 72 (.map (some bm)) (.agg #[.int .u64 (d 0 : Nat), .int .u64 (d 1 : Nat), .int .u64 (d 2 : Nat), .int .u64 (d 3 : Nat)]) true).run Tryd.prog W = .ok (.tuple #[.int .i64 c, .bool (decide (fc L d i < i))]) W := by
  obtain ⟨D, g, hf⟩ := h
  obtain ⟨v, ps, hrun, hv⟩ := g.look_ok keyD Tryd.underlying72 (zeroInt _) (plainElem_int Tryd.underlying3 (by decide)) (kofD d hd)
  obtain ⟨c, rfl, _, _⟩ := plainElem_int_inv Tryd.underlying3 hv
  rw [(hf d hd).1] at hrun
  exact ⟨c, hrun⟩
theorem fm_get {W : World} {bm i : Nat} {L : Nat → Nat → Nat} (h : FM W bm L i) (d : Nat → Nat) (hd : B64 d) (hi : fc L d i < i) :
    (Instr.lookup 72 (.map (some bm)) (.agg #[.int .u64 (d 0 : Nat), .int .u64 (d 1 : Nat), .int .u64 (d 2 : Nat), .int .u64 (d 3 : Nat)]) false).run Tryd.prog W = .ok (.int .i64 (fc L d i : Nat)) W := by
  obtain ⟨D, g, hf⟩ := h
  obtain ⟨c, hrun, hat, _⟩ := g.lookup_int keyD Tryd.underlying72 Tryd.underlying3 (zeroInt _) (kofD d hd)
  rw [(hf d hd).2 hi] at hat
  have hat2 : (fc L d i : Int) = c := by simpa using hat
  rw [hat2]
  exact hrun
theorem fm_same {W : World} {bm i : Nat} {L : Nat → Nat → Nat} (h : FM W bm L i) (hi : fc L (L i) i < i) : FM W bm L (i + 1) := by
  obtain ⟨D, g, hf⟩ := h
  refine ⟨D, g.mono (Nat.le_succ _), fun d hd => ?_⟩
  obtain ⟨h1, h2⟩ := hf d hd
  by_cases hs : fc L d i < i
  · rw [DB.fc_hit hs]
    exact ⟨by rw [h1]; simp [hs]; omega, fun _ => h2 hs⟩
  · have hns : ¬ Same (L i) d := fun s => by
      rw [DB.fc_congr s] at hi
      exact hs hi
    have := DB.fc_none hs hns
    exact ⟨by rw [h1, decide_eq_false hs, decide_eq_false this], fun g => absurd g this⟩
theorem fm_put {W : World} {bm i : Nat} {L : Nat → Nat → Nat} (h : FM W bm L i) (hL : B64 (L i)) (hi : ¬ fc L (L i) i < i) (hn : i < 1000) :
    ∃ W', (Instr.mapUpdate 72 (.map (some bm)) (.agg #[.int .u64 (L i 0 : Nat), .int .u64 (L i 1 : Nat), .int .u64 (L i 2 : Nat), .int .u64 (L i 3 : Nat)]) (.int .i64 (i : Int))).run Tryd.prog W = .ok () W' ∧ FM W' bm L (i + 1) ∧ W.grownBy W' (some bm) := by
  obtain ⟨D, g, hf⟩ := h
  obtain ⟨W', hrun, g', hg⟩ := g.update (d := .lit (.int .i64 (i : Int))) (ps := []) keyD Tryd.underlying72 (by unfold maxLen; omega) (kofD (L i) hL) (plainElem_int Tryd.underlying3 (WalkArith.wf_i64 (by omega)))
  refine ⟨W', hrun, ⟨_, g', fun d hd => ?_⟩, hg⟩
  obtain ⟨h1, h2⟩ := hf d hd
  have hm := g.isMap
  by_cases hs : Same (L i) d
  · have hni : ¬ fc L d i < i := by rw [← DB.fc_congr hs]; exact hi
    rw [← klD_same hs, DB.fc_new hni hs, Maps.has_put_same hm (keyD.key (kofD (L i) hL)), Maps.atKey_put_same hm (keyD.key (kofD (L i) hL))]
    exact ⟨by simp, fun _ => rfl⟩
  · have hne : klD d ≠ klD (L i) := (klD_ne hL hd hs).symm
    rw [Maps.has_put_other hne, Maps.atKey_put_other hne]
    by_cases h3 : fc L d i < i
    · rw [DB.fc_hit h3]
      exact ⟨by rw [h1]; simp [h3]; omega, fun _ => h2 h3⟩
    · have := DB.fc_none h3 hs
      exact ⟨by rw [h1, decide_eq_false h3, decide_eq_false this], fun g => absurd g this⟩
end Go.Proofs.YtalklogopepjpaaDoor.Ca
