/- An argument that is a slice of bytes: what it holds, and that it reads as it did behind the call. -/
import Derived.Test.YtacgikhedhiaaaaDoorKT
import Derived.OpenShut
import Derived.Laws.IdiomArrays
namespace Go.Proofs.YtacgikhedhiaaaaDoor
open Go.ChangeShapes Go.WideShapes Go.ChangeAt Go.RowKit

theorem cellsU8x : Tryd.prog.cellsOf 5 = 1 := by kernel_rfl
set_option maxRecDepth 100000 in
theorem open_u8s {H : Type} {enc : TypeId × Value → H} {W : World} {r : Reach} {b0 : Nat} {v : Value} {d : DataW H} {p : List MemPlace} (hval : Value.okWide Tryd.prog W r b0 22 v) (h : DataW.Trod enc Tryd.prog W 0 (fun _ => true) true 22 v d p) :
    ∃ xs : List Nat, (∀ x ∈ xs, x < 256) ∧ SlB W v xs ∧ ∀ W', Below W.heap.size W W' → DataW.Trod enc Tryd.prog W' 0 (fun x => decide (x < W.heap.size)) true 22 v d p := by
  obtain ⟨ad1, len, cap, rfl⟩ := okWide_slice Tryd.underlying22 hval
  obtain ⟨fuel, hf⟩ := h
  rcases open_ints Tryd.underlying22 Tryd.underlying5 cellsU8x hf with ⟨hcs, hx⟩ | ⟨a, len', cap', zs, hcs, _, hl, hm, hz, hx, hcell, hwz⟩
  · simp [Value.cells] at hcs
    obtain ⟨rfl, rfl, rfl⟩ := hcs
    simp only [Prod.mk.injEq] at hx
    obtain ⟨rfl, rfl⟩ := hx
    exact ⟨[], by simp, ⟨none, 0, rfl, Nat.le_refl _, fun h => absurd rfl h⟩, fun W' _ => shut_slice_nil Tryd.underlying22⟩
  · simp [Value.cells] at hcs
    obtain ⟨rfl, rfl, rfl⟩ := hcs
    simp only [Prod.mk.injEq] at hx
    obtain ⟨rfl, rfl⟩ := hx
    simp only [if_true] at hz
    have hlt : ∀ i, i < zs.length → a.block < W.heap.size := fun i hi => by
      have := World.block_lt_of_cell? W _ (hcell i hi)
      rwa [block_add] at this
    have h8 : ∀ x ∈ (zs.take len).map Int.toNat, x < 256 := fun x hx => by
      obtain ⟨z, hz, rfl⟩ := List.mem_map.1 hx
      have := bounds_u8 (hwz z (List.mem_of_mem_take hz))
      omega
    have hlen : ((zs.take len).map Int.toNat).length = len := by rw [List.length_map, List.length_take]; omega
    have hsl : SlB W (.slice (some a) len cap) ((zs.take len).map Int.toNat) := by
      refine ⟨some a, cap, by rw [hlen], by rw [hlen]; omega, fun hne => ?_⟩
      have h0 : ¬ len = 0 := fun e => hne (by subst e; rfl)
      obtain ⟨b, off, spot⟩ := a
      have hspot : spot = none := by simpa [Addr.add] using World.cell?_spot (hcell 0 (by omega))
      subst hspot
      refine ⟨b, off, rfl, hlt 0 (by omega), fun j x hj => ?_⟩
      rw [List.getElem?_map, List.getElem?_take] at hj
      split at hj
      · obtain ⟨z, hz2, rfl⟩ := Option.map_eq_some_iff.1 hj
        have hb8 := bounds_u8 (hwz z (List.mem_of_getElem? hz2))
        have hc := hcell j (by omega)
        rw [show (⟨b, off, none⟩ : Addr).add j = ⟨b, off + j, none⟩ by unfold Addr.add; split <;> simp_all] at hc
        rw [hc, List.getD_eq_getElem?_getD, hz2]
        rw [Int.toNat_of_nonneg hb8.1]
        rfl
      · simp at hj
    refine ⟨_, h8, hsl, fun W' hb => ?_⟩
    refine ⟨2, shut_ints (zs := zs) 0 Tryd.underlying22 Tryd.underlying5 cellsU8x (Nat.zero_le _) hl hm ?_ ?_ hwz⟩
    · by_cases h0 : zs.length = 0
      · split <;> omega
      · have := hlt 0 (by omega)
        rw [if_pos (decide_eq_true (by omega))]
        exact hz
    · intro i hi
      have := hb.cell (p := a.add i) (by rw [block_add]; exact hlt i hi)
      rw [this]
      exact hcell i hi
end Go.Proofs.YtacgikhedhiaaaaDoor
