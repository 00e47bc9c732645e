/- HandDeal returns true for every input: the four hands of a deal are right, and have 40 points and 12 controls together, and 13 cards of each suit. Conditions: the listed variables of the library hold what their initialisers lay (tied to the program's text by the card). -/
import Derived.Test.YtgndhdcnofblaaaDoorHY
import Derived.Test.YtgndhdcnofblaaaDoorHT
import Derived.Test.YtgndhdcnofblaaaDoorCards
import Derived.Test.YtgndhdcnofblaaaDoorTie
import Derived.SevenTiedAt
import Derived.OpenShut
import Derived.ProofKit
import Derived.Laws.IdiomArrays
namespace Go.Proofs.YtgndhdcnofblaaaDoor
open Go.ChangeShapes Go.WideShapes Go.ChangeAt Go.RowKit

theorem cellsU8x : Tryd.prog.cellsOf 5 = 1 := by kernel_rfl
set_option maxRecDepth 100000 in
theorem handDeal_lifted (os : Os) (started : os.Started) (H : Type) (enc : TypeId × Value → H) :
    ReturnsInHanded {} Tryd.checked os 6 .any (fun w args => (Rows.handDealSpec.pre enc Tryd.prog Tryd.f6 Rows.handDealRow.domain false w args ∧ laidMetH Tryd.prog Rows.handDealRow.laid w) ∧ sizedMet enc Tryd.prog Tryd.f6 (OpenSpec.ofChange Rows.handDealSpec) false w args)
      (Rows.handDealSpec.post enc Tryd.prog Tryd.f6 false true false false) := by
  refine handed_of_laid_shaped (C := Tryd.checked) (X := fun w _ => laidMetH Tryd.prog Rows.handDealRow.laid w) (fun _ _ _ hh h => h.of_heap hh) Tryd.own started (by kernel_rfl) Tryd.func6
    (ChangeSpec.witness_at (enc := enc) (C := Tryd.checked) (os := os) (X := fun w _ => laidMetH Tryd.prog Rows.handDealRow.laid w) false (laidWorld os) #[.slice none 0 0] 8 rfl (by kernel_rfl) (by kernel_rfl) (by kernel_rfl) (by kernel_rfl) (by kernel_rfl) (laidWorld_met os _)) ?_
  intro W base args ds gs before hval0 hW _ hL hsh
  have hval : ∀ (j : Nat) t v, Tryd.f6.params[j]? = some t → args[j]? = some v → Value.okWide Tryd.prog W .any base t v := hval0
  have hW' := hW
  obtain ⟨p, q, hA0, hV, rfl, hfz, hnd⟩ := hW
  have hA : DataW.TrodAll enc Tryd.prog W 0 (fun _ => true) true Tryd.f6.params.toList args.toList ds p := hA0
  rw [Tryd.params6] at hA hval
  obtain ⟨v0, vs0, d0, ds0, p0, q0, hargs, rfl, rfl, h0, r0⟩ := trodAll_cons hA
  obtain ⟨rfl, rfl, rfl⟩ := trodAll_nil r0
  obtain rfl : args = #[v0] := by cases args; simp_all
  obtain ⟨rfl, rfl⟩ := trodVars_none hV
  obtain ⟨ad1, len, cap, rfl⟩ := okWide_slice Tryd.underlying36 (hval 0 36 v0 rfl rfl)
  obtain ⟨fuel, hf⟩ := h0
  clear hA0 hval0
  simp only [List.append_nil, List.nil_append] at hW'
  rcases open_ints Tryd.underlying36 Tryd.underlying5 cellsU8x hf with ⟨hcs, hx⟩ | ⟨a, len', cap', zs, hcs, _, hl, hm, hz, hx, hcell, hwz⟩
  · simp [Value.cells] at hcs
    obtain ⟨rfl, rfl, rfl⟩ := hcs
    simp only [Prod.mk.injEq] at hx
    obtain ⟨rfl, rfl⟩ := hx
    refine (handDeal_walk  (.slice none 0 0) []  (by simp) W ⟨none, 0, rfl, Nat.le_refl _, fun h => absurd rfl h⟩).mono fun e W' ⟨he, hb⟩ => ?_
    subst he
    refine ⟨_, rfl, _, _, _, [], [], [], hW', ?_, ?_, rfl, hb.frame _, fun h => by cases h⟩
    · exact (trodAll_cons_mk (shut_bool Tryd.underlying4 _) trodAll_mk0)
    · exact (trodAll_cons_mk (shut_slice_nil Tryd.underlying36) trodAll_mk0)
  · simp [Value.cells] at hcs
    obtain ⟨rfl, rfl, rfl⟩ := hcs
    simp only [Prod.mk.injEq] at hx
    obtain ⟨rfl, rfl⟩ := hx
    simp only [if_true] at hz
    have hlt : ∀ i, i < zs.length → a.block < W.heap.size := fun i hi => by
      have := World.block_lt_of_cell? W _ (hcell i hi)
      rwa [block_add] at this
    have hkeep : ∀ W', Below W.heap.size W W' → DataW.Trod enc Tryd.prog W' 0 (fun x => decide (x < W.heap.size)) true 36 (.slice (some a) len cap) (.slice (lits .u8 (zs.take len)) (lits .u8 (zs.drop len))) (MemPlace.row a zs.length) := by
      intro W' hb
      refine ⟨2, shut_ints (zs := zs) 0 Tryd.underlying36 Tryd.underlying5 cellsU8x (Nat.zero_le _) hl hm ?_ ?_ hwz⟩
      · by_cases h0 : zs.length = 0
        · split <;> omega
        · have := hlt 0 (by omega)
          rw [if_pos (decide_eq_true (by omega))]
          exact hz
      · intro i hi
        have := hb.cell (p := a.add i) (by rw [block_add]; exact hlt i hi)
        rw [this]
        exact hcell i hi
    have h8 : ∀ x ∈ (zs.take len).map Int.toNat, x < 256 := fun x hx => by
      obtain ⟨z, hz, rfl⟩ := List.mem_map.1 hx
      have := bounds_u8 (hwz z (List.mem_of_mem_take hz))
      omega
    have hlen : ((zs.take len).map Int.toNat).length = len := by rw [List.length_map, List.length_take]; omega
    have hsl : SlB W (.slice (some a) len cap) ((zs.take len).map Int.toNat) := by
      refine ⟨some a, cap, by rw [hlen], by rw [hlen]; omega, fun hne => ?_⟩
      have h0 : ¬ len = 0 := fun e => hne (by subst e; rfl)
      obtain ⟨b, off, spot⟩ := a
      have hspot : spot = none := by simpa [Addr.add] using World.cell?_spot (hcell 0 (by omega))
      subst hspot
      refine ⟨b, off, rfl, hlt 0 (by omega), fun j x hj => ?_⟩
      rw [List.getElem?_map, List.getElem?_take] at hj
      split at hj
      · obtain ⟨z, hz2, rfl⟩ := Option.map_eq_some_iff.1 hj
        have hb8 := bounds_u8 (hwz z (List.mem_of_getElem? hz2))
        have hc := hcell j (by omega)
        rw [show (⟨b, off, none⟩ : Addr).add j = ⟨b, off + j, none⟩ by unfold Addr.add; split <;> simp_all] at hc
        rw [hc, List.getD_eq_getElem?_getD, hz2]
        rw [Int.toNat_of_nonneg hb8.1]
        rfl
      · simp at hj
    refine (handDeal_walk  (.slice (some a) len cap) _  h8 W hsl).mono fun e W' ⟨he, hb⟩ => ?_
    subst he
    refine ⟨_, rfl, _, _, _, [], MemPlace.row a zs.length, [], hW', ?_, ?_, rfl, hb.frame _, fun h => by cases h⟩
    · exact (trodAll_cons_mk (shut_bool Tryd.underlying4 _) trodAll_mk0)
    · have h := (trodAll_cons_mk (hkeep W' hb) trodAll_mk0)
      simp only [List.append_nil, List.nil_append] at h
      exact h

theorem handDeal_holds : Rows.HandDealSaid :=
  OpenClaim.holds_of_wide 6 Tryd.f6 rfl rfl rfl rfl rfl rfl rfl ⟨rfl, rfl, rfl, rfl, rfl⟩ rfl rfl rfl rfl rfl (by kernel_rfl) Tryd.func6 (by kernel_rfl)
    (of_decide_eq_true (by kernel_rfl)) (by unfold Func.isWrapper; first | (rw [if_pos (by decide +kernel)]; kernel_rfl) | (rw [if_neg (by decide +kernel)]; exact ⟨rfl, rfl⟩))
    (fun os started H enc _ => handDeal_lifted os started H enc)

theorem handDeal_proved : Rows.HandDealCardSaid :=
  Claim7.holds_tied_plain_at .later [] [.data, .data, .data] true (true, "78341152391dba05ac104881e3c919e4b1a9ecf73e67f4e099849f981df125cf") false
    handDeal_holds (fun _ h => by cases h) (by kernel_rfl) (fun _ h => by cases h) handDeal_row_tie rfl ⟨rfl, rfl⟩ (by kernel_rfl) rfl
    (fun f fn hf hfn => by
      obtain rfl : f = 6 := Option.some.inj ((show Tryd.prog.funcNamed "finesse/finesselaw05.HandDeal" = some 6 by kernel_rfl).symm.trans hf) |>.symm
      obtain rfl : fn = Tryd.f6 := (Option.some.inj (Tryd.func6.symm.trans hfn)).symm
      exact ⟨by kernel_rfl, fun j t ht => by
        rw [Tryd.params6] at ht
        have h3 : t = 36 := by
          rcases j with _ | j
          · exact by simpa using ht.symm
          · simp at ht
        rcases h3 with rfl
        · exact (show Tryd.prog.wantsStandIn 36 = false by kernel_rfl)⟩)
    (by kernel_rfl)
#print axioms handDeal_proved
end Go.Proofs.YtgndhdcnofblaaaDoor

