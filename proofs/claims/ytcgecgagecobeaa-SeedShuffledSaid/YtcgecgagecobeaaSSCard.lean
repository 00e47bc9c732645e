/- SeedShuffled returns true for every input: a shuffled list has each element as often, the state is that after as many draws, a list and another one of the same length are shuffled in the same way, and without two elements nothing is drawn. Conditions: none. -/
import Derived.Test.YtcgecgagecobeaaSSz
import Derived.Test.YtcgecgagecobeaaRows
import Derived.ProofKit
import Derived.OpenShut
import Derived.Laws.IdiomArrays
namespace Go.Proofs.Ytcgecgagecobeaa
open Go.ChangeShapes Go.WideShapes Go.ChangeAt Go.RowKit
set_option linter.constructorNameAsVariable false

theorem Try.own : ownKnob Try.prog.godebug = none := by kernel_rfl
theorem Try.cellsInt : Try.prog.cellsOf 3 = 1 := by kernel_rfl
set_option maxRecDepth 100000 in
theorem seedShuffled_lifted (os : Os) (started : os.Started) (H : Type) (enc : TypeId × Value → H) :
    ReturnsInHanded {} Try.checked os 8 .any (Rows.seedShuffledSpec.pre6 enc Try.prog Try.f8 Rows.seedShuffledRow.domain false) (Rows.seedShuffledSpec.post enc Try.prog Try.f8 false true false false) := by
  refine returnsInHanded_of_change (C := Try.checked) Try.own started (by kernel_rfl) Try.func8
    (ChangeSpec.witness6 (enc := enc) (C := Try.checked) false ⟨#[], #[.int .i64 0, .slice none 0 0], []⟩ 8 (by kernel_rfl) (by kernel_rfl) (by kernel_rfl) (by kernel_rfl)) ?_
  intro W base args ds gs before hval0 hW _ _
  have hval : ∀ (j : Nat) t v, Try.f8.params[j]? = some t → args[j]? = some v → Value.okWide Try.prog W .any base t v := hval0
  have hW' := hW
  obtain ⟨p, q, hA0, hV, rfl, hfz, hnd⟩ := hW
  have hA : DataW.TrodAll enc Try.prog W 0 (fun _ => true) true Try.f8.params.toList args.toList ds p := hA0
  rw [Try.params8] at hA hval
  obtain ⟨v0, vs0, d0, ds0, p0, q0, hargs, rfl, rfl, h0, r0⟩ := trodAll_cons hA
  obtain ⟨v1, vs1, d1, ds1, p1, q1, rfl, rfl, rfl, h1, r1⟩ := trodAll_cons r0
  obtain ⟨rfl, rfl, rfl⟩ := trodAll_nil r1
  obtain rfl : args = #[v0, v1] := by cases args; simp_all
  obtain ⟨rfl, rfl⟩ := trodVars_none hV
  obtain ⟨a0, rfl, rfl, rfl, w0⟩ := open_int Try.underlying3 (hval 0 3 v0 rfl rfl) h0
  obtain ⟨ad0, len, cap, rfl⟩ := okWide_slice Try.underlying28 (hval 1 28 v1 rfl rfl)
  obtain ⟨fuel, hf⟩ := h1
  clear hA0 hval0
  simp only [List.append_nil, List.nil_append] at hW'
  rcases open_ints Try.underlying28 Try.underlying3 Try.cellsInt hf with ⟨hcs, hx⟩ | ⟨a, len', cap', zs, hcs, _, hl, hm, hz, hx, hcell, hwz⟩
  · simp [Value.cells] at hcs
    obtain ⟨rfl, rfl, rfl⟩ := hcs
    simp only [Prod.mk.injEq] at hx
    obtain ⟨rfl, rfl⟩ := hx
    refine (shuffled_zero a0 none 0 W).mono fun e W' ⟨he, hb⟩ => ?_
    subst he
    refine ⟨_, rfl, _, _, _, [], [], [], hW', ?_, ?_, rfl, hb.frame _, fun h => by cases h⟩
    · exact (trodAll_cons_mk (shut_bool Try.underlying4 _) trodAll_mk0)
    · exact (trodAll_cons_mk (shut_int Try.underlying3 w0) (trodAll_cons_mk (shut_slice_nil Try.underlying28) trodAll_mk0))
  · simp [Value.cells] at hcs
    obtain ⟨rfl, rfl, rfl⟩ := hcs
    simp only [Prod.mk.injEq] at hx
    obtain ⟨rfl, rfl⟩ := hx
    simp only [if_true] at hz
    have hlt : ∀ i, i < zs.length → a.block < W.heap.size := fun i hi => by
      have := World.block_lt_of_cell? W _ (hcell i hi)
      rwa [block_add] at this
    have hkeep : ∀ W', Below W.heap.size W W' → DataW.Trod enc Try.prog W' 0 (fun x => decide (x < W.heap.size)) true 28 (.slice (some a) len cap) (.slice (lits .i64 (zs.take len)) (lits .i64 (zs.drop len))) (MemPlace.row a zs.length) := by
      intro W' hb
      refine ⟨2, shut_ints (zs := zs) 0 Try.underlying28 Try.underlying3 Try.cellsInt (Nat.zero_le _) hl hm ?_ ?_ hwz⟩
      · by_cases h0 : zs.length = 0
        · split <;> omega
        · have := hlt 0 (by omega)
          rw [if_pos (decide_eq_true (by omega))]
          exact hz
      · intro i hi
        have := hb.cell (p := a.add i) (by rw [block_add]; exact hlt i hi)
        rw [this]
        exact hcell i hi
    have fin : (Calls Try.prog 8 #[.int .i64 a0, .slice (some a) len cap] W fun e W' => e = .returned (.bool true) ∧ Below W.heap.size W W') := by
      by_cases hz0 : len = 0
      · subst hz0
        exact shuffled_zero a0 (some a) cap W
      · obtain ⟨b, off, spot⟩ := a
        have hspot : spot = none := by simpa [Addr.add] using World.cell?_spot (hcell 0 (by omega))
        subst hspot
        refine shuffled_pos a0 b off len cap (min len 60) (zs.take (min len 60)) rfl (by omega) (by rw [List.length_take]; omega) hl hm W ?_ (hlt 0 (by omega))
        intro j x hj
        have hj1 := (List.getElem?_eq_some_iff.1 hj).1
        rw [List.length_take] at hj1
        have hj2 : zs[j]? = some x := by
          rw [List.getElem?_take] at hj
          split at hj
          · exact hj
          · cases hj
        have := hcell j (by omega)
        rw [add_pl] at this
        rw [this, List.getD_eq_getElem?_getD, hj2]
        rfl
    refine fin.mono fun e W' ⟨he, hb⟩ => ?_
    subst he
    refine ⟨_, rfl, _, _, _, [], MemPlace.row a zs.length, [], hW', ?_, ?_, rfl, hb.frame _, fun h => by cases h⟩
    · exact (trodAll_cons_mk (shut_bool Try.underlying4 _) trodAll_mk0)
    · have h := trodAll_cons_mk (shut_int Try.underlying3 w0) (trodAll_cons_mk (hkeep W' hb) trodAll_mk0)
      simp only [List.append_nil, List.nil_append] at h
      exact h

theorem seedShuffled_proved : Rows.SeedShuffledSaid :=
  OpenClaim.holds_of_wide 8 Try.f8 rfl rfl rfl rfl rfl rfl rfl ⟨rfl, rfl, rfl, rfl, rfl⟩ rfl rfl rfl rfl rfl (by kernel_rfl) Try.func8 (by kernel_rfl)
    (of_decide_eq_true (by kernel_rfl)) (by unfold Func.isWrapper; first | (rw [if_pos (by decide +kernel)]; kernel_rfl) | (rw [if_neg (by decide +kernel)]; exact ⟨rfl, rfl⟩))
    (fun os started H enc _ => seedShuffled_lifted os started H enc)
#print axioms seedShuffled_proved
end Go.Proofs.Ytcgecgagecobeaa
