/- HandBalanced returns true for every input: a hand is balanced exactly if it has 13 cards, two to five of each suit, and at most one suit of two. Conditions: the listed variables of the library hold what their initialisers lay (tied to the program's text by the card). -/
import Derived.Test.YtgndhdcnofblaaaDoorHZ
import Derived.Test.YtgndhdcnofblaaaDoorHT
import Derived.Test.YtgndhdcnofblaaaDoorCards
import Derived.Test.YtgndhdcnofblaaaDoorTie
import Derived.SevenTiedAt
import Derived.OpenShut
import Derived.ProofKit
import Derived.Laws.IdiomArrays
namespace Go.Proofs.YtgndhdcnofblaaaDoor
open Go.ChangeShapes Go.WideShapes Go.ChangeAt Go.RowKit

theorem cellsU8x : Tryd.prog.cellsOf 5 = 1 := by kernel_rfl
set_option maxRecDepth 100000 in
theorem handBalanced_lifted (os : Os) (started : os.Started) (H : Type) (enc : TypeId × Value → H) :
    ReturnsInHanded {} Tryd.checked os 9 .any (fun w args => (Rows.handBalancedSpec.pre enc Tryd.prog Tryd.f9 Rows.handBalancedRow.domain false w args ∧ laidMetH Tryd.prog Rows.handBalancedRow.laid w) ∧ sizedMet enc Tryd.prog Tryd.f9 (OpenSpec.ofChange Rows.handBalancedSpec) false w args)
      (Rows.handBalancedSpec.post enc Tryd.prog Tryd.f9 false true false false) := by
  refine handed_of_laid_shaped (C := Tryd.checked) (X := fun w _ => laidMetH Tryd.prog Rows.handBalancedRow.laid w) (fun _ _ _ hh h => h.of_heap hh) Tryd.own started (by kernel_rfl) Tryd.func9
    (ChangeSpec.witness_at (enc := enc) (C := Tryd.checked) (os := os) (X := fun w _ => laidMetH Tryd.prog Rows.handBalancedRow.laid w) false (laidWorld os) #[.int .u64 0, .slice none 0 0] 8 rfl (by kernel_rfl) (by kernel_rfl) (by kernel_rfl) (by kernel_rfl) (by kernel_rfl) (laidWorld_met os _)) ?_
  intro W base args ds gs before hval0 hW _ hL hsh
  have hval : ∀ (j : Nat) t v, Tryd.f9.params[j]? = some t → args[j]? = some v → Value.okWide Tryd.prog W .any base t v := hval0
  have hW' := hW
  obtain ⟨p, q, hA0, hV, rfl, hfz, hnd⟩ := hW
  have hA : DataW.TrodAll enc Tryd.prog W 0 (fun _ => true) true Tryd.f9.params.toList args.toList ds p := hA0
  rw [Tryd.params9] at hA hval
  obtain ⟨v0, vs0, d0, ds0, p0, q0, hargs, rfl, rfl, h0, r0⟩ := trodAll_cons hA
  obtain ⟨v1, vs1, d1, ds1, p1, q1, rfl, rfl, rfl, h1, r1⟩ := trodAll_cons r0
  obtain ⟨rfl, rfl, rfl⟩ := trodAll_nil r1
  obtain rfl : args = #[v0, v1] := by cases args; simp_all
  obtain ⟨rfl, rfl⟩ := trodVars_none hV
  obtain ⟨a0, rfl, rfl, rfl, w0⟩ := open_int Tryd.underlying22 (hval 0 22 v0 rfl rfl) h0
  obtain ⟨ad1, len, cap, rfl⟩ := okWide_slice Tryd.underlying36 (hval 1 36 v1 rfl rfl)
  obtain ⟨fuel, hf⟩ := h1
  clear hA0 hval0
  simp only [List.append_nil, List.nil_append] at hW'
  rcases open_ints Tryd.underlying36 Tryd.underlying5 cellsU8x hf with ⟨hcs, hx⟩ | ⟨a, len', cap', zs, hcs, _, hl, hm, hz, hx, hcell, hwz⟩
  · simp [Value.cells] at hcs
    obtain ⟨rfl, rfl, rfl⟩ := hcs
    simp only [Prod.mk.injEq] at hx
    obtain ⟨rfl, rfl⟩ := hx
    refine (handBalanced_walk a0 (.slice none 0 0) [] (bounds_u64 w0) (by simp) W ⟨none, 0, rfl, Nat.le_refl _, fun h => absurd rfl h⟩).mono fun e W' ⟨he, hb⟩ => ?_
    subst he
    refine ⟨_, rfl, _, _, _, [], [], [], hW', ?_, ?_, rfl, hb.frame _, fun h => by cases h⟩
    · exact (trodAll_cons_mk (shut_bool Tryd.underlying4 _) trodAll_mk0)
    · exact (trodAll_cons_mk (shut_int Tryd.underlying22 w0) (trodAll_cons_mk (shut_slice_nil Tryd.underlying36) trodAll_mk0))
  · simp [Value.cells] at hcs
    obtain ⟨rfl, rfl, rfl⟩ := hcs
    simp only [Prod.mk.injEq] at hx
    obtain ⟨rfl, rfl⟩ := hx
    simp only [if_true] at hz
    have hlt : ∀ i, i < zs.length → a.block < W.heap.size := fun i hi => by
      have := World.block_lt_of_cell? W _ (hcell i hi)
      rwa [block_add] at this
    have hkeep : ∀ W', Below W.heap.size W W' → DataW.Trod enc Tryd.prog W' 0 (fun x => decide (x < W.heap.size)) true 36 (.slice (some a) len cap) (.slice (lits .u8 (zs.take len)) (lits .u8 (zs.drop len))) (MemPlace.row a zs.length) := by
      intro W' hb
      refine ⟨2, shut_ints (zs := zs) 0 Tryd.underlying36 Tryd.underlying5 cellsU8x (Nat.zero_le _) hl hm ?_ ?_ hwz⟩
      · by_cases h0 : zs.length = 0
        · split <;> omega
        · have := hlt 0 (by omega)
          rw [if_pos (decide_eq_true (by omega))]
          exact hz
      · intro i hi
        have := hb.cell (p := a.add i) (by rw [block_add]; exact hlt i hi)
        rw [this]
        exact hcell i hi
    have h8 : ∀ x ∈ (zs.take len).map Int.toNat, x < 256 := fun x hx => by
      obtain ⟨z, hz, rfl⟩ := List.mem_map.1 hx
      have := bounds_u8 (hwz z (List.mem_of_mem_take hz))
      omega
    have hlen : ((zs.take len).map Int.toNat).length = len := by rw [List.length_map, List.length_take]; omega
    have hsl : SlB W (.slice (some a) len cap) ((zs.take len).map Int.toNat) := by
      refine ⟨some a, cap, by rw [hlen], by rw [hlen]; omega, fun hne => ?_⟩
      have h0 : ¬ len = 0 := fun e => hne (by subst e; rfl)
      obtain ⟨b, off, spot⟩ := a
      have hspot : spot = none := by simpa [Addr.add] using World.cell?_spot (hcell 0 (by omega))
      subst hspot
      refine ⟨b, off, rfl, hlt 0 (by omega), fun j x hj => ?_⟩
      rw [List.getElem?_map, List.getElem?_take] at hj
      split at hj
      · obtain ⟨z, hz2, rfl⟩ := Option.map_eq_some_iff.1 hj
        have hb8 := bounds_u8 (hwz z (List.mem_of_getElem? hz2))
        have hc := hcell j (by omega)
        rw [show (⟨b, off, none⟩ : Addr).add j = ⟨b, off + j, none⟩ by unfold Addr.add; split <;> simp_all] at hc
        rw [hc, List.getD_eq_getElem?_getD, hz2]
        rw [Int.toNat_of_nonneg hb8.1]
        rfl
      · simp at hj
    refine (handBalanced_walk a0 (.slice (some a) len cap) _ (bounds_u64 w0) h8 W hsl).mono fun e W' ⟨he, hb⟩ => ?_
    subst he
    refine ⟨_, rfl, _, _, _, [], MemPlace.row a zs.length, [], hW', ?_, ?_, rfl, hb.frame _, fun h => by cases h⟩
    · exact (trodAll_cons_mk (shut_bool Tryd.underlying4 _) trodAll_mk0)
    · have h := (trodAll_cons_mk (shut_int Tryd.underlying22 w0) (trodAll_cons_mk (hkeep W' hb) trodAll_mk0))
      simp only [List.append_nil, List.nil_append] at h
      exact h

theorem handBalanced_holds : Rows.HandBalancedSaid :=
  OpenClaim.holds_of_wide 9 Tryd.f9 rfl rfl rfl rfl rfl rfl rfl ⟨rfl, rfl, rfl, rfl, rfl⟩ rfl rfl rfl rfl rfl (by kernel_rfl) Tryd.func9 (by kernel_rfl)
    (of_decide_eq_true (by kernel_rfl)) (by unfold Func.isWrapper; first | (rw [if_pos (by decide +kernel)]; kernel_rfl) | (rw [if_neg (by decide +kernel)]; exact ⟨rfl, rfl⟩))
    (fun os started H enc _ => handBalanced_lifted os started H enc)

theorem handBalanced_proved : Rows.HandBalancedCardSaid :=
  Claim7.holds_tied_plain_at .later [] [.data, .data, .data] true (true, "78341152391dba05ac104881e3c919e4b1a9ecf73e67f4e099849f981df125cf") false
    handBalanced_holds (fun _ h => by cases h) (by kernel_rfl) (fun _ h => by cases h) handBalanced_row_tie rfl ⟨rfl, rfl⟩ (by kernel_rfl) rfl
    (fun f fn hf hfn => by
      obtain rfl : f = 9 := Option.some.inj ((show Tryd.prog.funcNamed "finesse/finesselaw05.HandBalanced" = some 9 by kernel_rfl).symm.trans hf) |>.symm
      obtain rfl : fn = Tryd.f9 := (Option.some.inj (Tryd.func9.symm.trans hfn)).symm
      exact ⟨by kernel_rfl, fun j t ht => by
        rw [Tryd.params9] at ht
        have h3 : t = 36 ∨ t = 22 := by
          rcases j with _ | _ | j
          · exact (.inr (by simpa using ht.symm))
          · exact (.inl (by simpa using ht.symm))
          · simp at ht
        rcases h3 with rfl | rfl
        · exact (show Tryd.prog.wantsStandIn 36 = false by kernel_rfl)
        · exact (show Tryd.prog.wantsStandIn 22 = false by kernel_rfl)⟩)
    (by kernel_rfl)
#print axioms handBalanced_proved
end Go.Proofs.YtgndhdcnofblaaaDoor

