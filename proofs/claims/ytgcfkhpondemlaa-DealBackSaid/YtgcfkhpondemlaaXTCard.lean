/- DealBack returns true for every input: each completion of a partial deal has an index below Ways and is the completion with it, each number below Ways is the index of its completion, a greater index has a later completion, and from Ways on there is none. Conditions: none. -/
import Derived.Test.YtgcfkhpondemlaaXT
import Derived.Test.YtgcfkhpondemlaaRows
import Derived.ProofKit
import Derived.OpenShut
import Derived.Laws.IdiomArrays
namespace Go.Proofs.Ytgcfkhpondemlaa
open Go.ChangeShapes Go.WideShapes Go.ChangeAt Go.RowKit
set_option linter.constructorNameAsVariable false

section
variable {H : Type} {enc : TypeId × Value → H} {w : World} {base : Nat} {spare : Nat → Bool} {held : Bool}
theorem open_N {r : Reach} {b0 : Nat} {v : Value} {d : DataW H} {p : List MemPlace} (hv : Value.okWide Try.prog w r b0 26 v) (h : DataW.Trod enc Try.prog w base spare held 26 v d p) :
    ∃ a : Nat, isN a ∧ v = .agg #[.int .u32 (pt a 0), .int .u32 (pt a 1), .int .u32 (pt a 2), .int .u32 (pt a 3)] ∧ d = .agg [.lit (.int .u32 (pt a 0)), .lit (.int .u32 (pt a 1)), .lit (.int .u32 (pt a 2)), .lit (.int .u32 (pt a 3))] ∧ p = [] := by
  have hc4 : Try.prog.cellsOf 26 = 4 := by kernel_rfl
  have hc1 : Try.prog.cellsOf 24 = 1 := by kernel_rfl
  simp only [Value.okWide, Try.underlying26] at hv
  obtain ⟨cs, rfl, hsz, _⟩ := hv
  rw [hc4] at hsz
  obtain ⟨c0, c1, c2, c3, rfl⟩ : ∃ c0 c1 c2 c3, cs = #[c0, c1, c2, c3] := by
    obtain ⟨l⟩ := cs
    match l, hsz with
    | [c0, c1, c2, c3], _ => exact ⟨c0, c1, c2, c3, rfl⟩
  obtain ⟨fuel, hf⟩ := h
  obtain ⟨y0, y1, y2, y3, m, hx, h0, h1, h2, h3⟩ := trod_array4 Try.underlying26 hc1 hf
  obtain ⟨a0, e0, rfl, w0⟩ := DataW.trod_int Try.underlying24 h0
  obtain ⟨a1, e1, rfl, w1⟩ := DataW.trod_int Try.underlying24 h1
  obtain ⟨a2, e2, rfl, w2⟩ := DataW.trod_int Try.underlying24 h2
  obtain ⟨a3, e3, rfl, w3⟩ := DataW.trod_int Try.underlying24 h3
  simp only [List.cons.injEq, and_true] at e0 e1 e2 e3
  subst e0 e1 e2 e3
  have b0 := bounds_u32 w0
  have b1 := bounds_u32 w1
  have b2 := bounds_u32 w2
  have b3 := bounds_u32 w3
  obtain ⟨n, hn⟩ : ∃ n : Nat, (n : Int) = a0 + 4294967296 * a1 + 18446744073709551616 * a2 + 79228162514264337593543950336 * a3 := ⟨(a0 + 4294967296 * a1 + 18446744073709551616 * a2 + 79228162514264337593543950336 * a3).toNat, by omega⟩
  obtain ⟨k, k0, k1, k2, k3⟩ := pt_mk a0 a1 a2 a3 b0 b1 b2 b3 n hn
  simp only [Prod.mk.injEq] at hx
  refine ⟨n, k, ?_, ?_, ?_⟩
  · rw [← k0, ← k1, ← k2, ← k3]
  · rw [hx.1, ← k0, ← k1, ← k2, ← k3]
  · rw [hx.2]; rfl
theorem shut_N {a : Nat} : DataW.Trod enc Try.prog w base spare held 26 (.agg #[.int .u32 (pt a 0), .int .u32 (pt a 1), .int .u32 (pt a 2), .int .u32 (pt a 3)]) (.agg [.lit (.int .u32 (pt a 0)), .lit (.int .u32 (pt a 1)), .lit (.int .u32 (pt a 2)), .lit (.int .u32 (pt a 3))]) [] := by
  have hc4 : Try.prog.cellsOf 26 = 4 := by kernel_rfl
  have hc1 : Try.prog.cellsOf 24 = 1 := by kernel_rfl
  have w0 : (Lit.int .u32 (pt a 0)).wf = true := WalkArith.wf_u32 (pt_bd a 0)
  have w1 : (Lit.int .u32 (pt a 1)).wf = true := WalkArith.wf_u32 (pt_bd a 1)
  have w2 : (Lit.int .u32 (pt a 2)).wf = true := WalkArith.wf_u32 (pt_bd a 2)
  have w3 : (Lit.int .u32 (pt a 3)).wf = true := WalkArith.wf_u32 (pt_bd a 3)
  have r4 : List.range 4 = [0, 1, 2, 3] := rfl
  exact ⟨2, by simp [DataW.trod, Value.cells, Try.underlying26, Try.underlying24, r4, hc1, hc4, w0, w1, w2, w3]⟩
end

theorem Try.own : ownKnob Try.prog.godebug = none := by kernel_rfl
theorem cellsU8x : Try.prog.cellsOf 5 = 1 := by kernel_rfl
set_option maxRecDepth 100000 in
theorem dealBack_lifted (os : Os) (started : os.Started) (H : Type) (enc : TypeId × Value → H) :
    ReturnsInHanded {} Try.checked os 3 .any (Rows.dealBackSpec.pre6 enc Try.prog Try.f3 Rows.dealBackRow.domain false) (Rows.dealBackSpec.post enc Try.prog Try.f3 false true false false) := by
  refine returnsInHanded_of_change (C := Try.checked) Try.own started (by kernel_rfl) Try.func3
    (ChangeSpec.witness6 (enc := enc) (C := Try.checked) false ⟨#[], #[.slice none 0 0, .int .u64 0, .agg #[.int .u32 0, .int .u32 0, .int .u32 0, .int .u32 0], .agg #[.int .u32 0, .int .u32 0, .int .u32 0, .int .u32 0]], []⟩ 8 (by kernel_rfl) (by kernel_rfl) (by kernel_rfl) (by kernel_rfl)) ?_
  intro W base args ds gs before hval0 hW _ _
  have hval : ∀ (j : Nat) t v, Try.f3.params[j]? = some t → args[j]? = some v → Value.okWide Try.prog W .any base t v := hval0
  have hW' := hW
  obtain ⟨p, q, hA0, hV, rfl, hfz, hnd⟩ := hW
  have hA : DataW.TrodAll enc Try.prog W 0 (fun _ => true) true Try.f3.params.toList args.toList ds p := hA0
  rw [Try.params3] at hA hval
  obtain ⟨v0, vs0, d0, ds0, p0, q0, hargs, rfl, rfl, h0, r0⟩ := trodAll_cons hA
  obtain ⟨v1, vs1, d1, ds1, p1, q1, rfl, rfl, rfl, h1, r1⟩ := trodAll_cons r0
  obtain ⟨v2, vs2, d2, ds2, p2, q2, rfl, rfl, rfl, h2, r2⟩ := trodAll_cons r1
  obtain ⟨v3, vs3, d3, ds3, p3, q3, rfl, rfl, rfl, h3, r3⟩ := trodAll_cons r2
  obtain ⟨rfl, rfl, rfl⟩ := trodAll_nil r3
  obtain rfl : args = #[v0, v1, v2, v3] := by cases args; simp_all
  obtain ⟨rfl, rfl⟩ := trodVars_none hV
  obtain ⟨ad1, len, cap, rfl⟩ := okWide_slice Try.underlying22 (hval 0 22 v0 rfl rfl)
  obtain ⟨fuel, hf⟩ := h0
  obtain ⟨a1, rfl, rfl, rfl, w1⟩ := open_int Try.underlying23 (hval 1 23 v1 rfl rfl) h1
  obtain ⟨a2, w2, rfl, rfl, rfl⟩ := open_N (hval 2 26 v2 rfl rfl) h2
  obtain ⟨a3, w3, rfl, rfl, rfl⟩ := open_N (hval 3 26 v3 rfl rfl) h3
  clear hA0 hval0
  simp only [List.append_nil] at hW'
  rcases open_ints Try.underlying22 Try.underlying5 cellsU8x hf with ⟨hcs, hx⟩ | ⟨a, len', cap', zs, hcs, _, hl, hm, hz, hx, hcell, hwz⟩
  · simp [Value.cells] at hcs
    obtain ⟨rfl, rfl, rfl⟩ := hcs
    simp only [Prod.mk.injEq] at hx
    obtain ⟨rfl, rfl⟩ := hx
    refine (Ca.dealBack_walk (.slice none 0 0) [] (by simp) a1 a2 a3 (bounds_u64 w1) w2 w3 W ⟨none, 0, rfl, Nat.le_refl _, fun h => absurd rfl h⟩).mono fun e W' ⟨he, hb⟩ => ?_
    subst he
    refine ⟨_, rfl, _, _, _, [], [], [], hW', ?_, ?_, rfl, hb.frame _, fun h => by cases h⟩
    · exact (trodAll_cons_mk (shut_bool Try.underlying4 _) trodAll_mk0)
    · exact (trodAll_cons_mk (shut_slice_nil Try.underlying22) (trodAll_cons_mk (shut_int Try.underlying23 w1) (trodAll_cons_mk (shut_N (a := a2)) (trodAll_cons_mk (shut_N (a := a3)) trodAll_mk0))))
  · simp [Value.cells] at hcs
    obtain ⟨rfl, rfl, rfl⟩ := hcs
    simp only [Prod.mk.injEq] at hx
    obtain ⟨rfl, rfl⟩ := hx
    simp only [if_true] at hz
    have hlt : ∀ i, i < zs.length → a.block < W.heap.size := fun i hi => by
      have := World.block_lt_of_cell? W _ (hcell i hi)
      rwa [block_add] at this
    have hkeep : ∀ W', Below W.heap.size W W' → DataW.Trod enc Try.prog W' 0 (fun x => decide (x < W.heap.size)) true 22 (.slice (some a) len cap) (.slice (lits .u8 (zs.take len)) (lits .u8 (zs.drop len))) (MemPlace.row a zs.length) := by
      intro W' hb
      refine ⟨2, shut_ints (zs := zs) 0 Try.underlying22 Try.underlying5 cellsU8x (Nat.zero_le _) hl hm ?_ ?_ hwz⟩
      · by_cases h0 : zs.length = 0
        · split <;> omega
        · have := hlt 0 (by omega)
          rw [if_pos (decide_eq_true (by omega))]
          exact hz
      · intro i hi
        have := hb.cell (p := a.add i) (by rw [block_add]; exact hlt i hi)
        rw [this]
        exact hcell i hi
    have h8 : ∀ x ∈ (zs.take len).map Int.toNat, x < 256 := fun x hx => by
      obtain ⟨z, hz, rfl⟩ := List.mem_map.1 hx
      have := bounds_u8 (hwz z (List.mem_of_mem_take hz))
      omega
    have hlen : ((zs.take len).map Int.toNat).length = len := by rw [List.length_map, List.length_take]; omega
    have hsl : Ha.SlB W (.slice (some a) len cap) ((zs.take len).map Int.toNat) := by
      refine ⟨some a, cap, by rw [hlen], by rw [hlen]; omega, fun hne => ?_⟩
      have h0 : ¬ len = 0 := fun e => hne (by subst e; rfl)
      obtain ⟨b, off, spot⟩ := a
      have hspot : spot = none := by simpa [Addr.add] using World.cell?_spot (hcell 0 (by omega))
      subst hspot
      refine ⟨b, off, rfl, hlt 0 (by omega), fun j x hj => ?_⟩
      rw [List.getElem?_map, List.getElem?_take] at hj
      split at hj
      · obtain ⟨z, hz2, rfl⟩ := Option.map_eq_some_iff.1 hj
        have hb8 := bounds_u8 (hwz z (List.mem_of_getElem? hz2))
        have hc := hcell j (by omega)
        rw [show (⟨b, off, none⟩ : Addr).add j = ⟨b, off + j, none⟩ by unfold Addr.add; split <;> simp_all] at hc
        rw [hc, List.getD_eq_getElem?_getD, hz2]
        rw [Int.toNat_of_nonneg hb8.1]
        rfl
      · simp at hj
    refine (Ca.dealBack_walk (.slice (some a) len cap) _ h8 a1 a2 a3 (bounds_u64 w1) w2 w3 W hsl).mono fun e W' ⟨he, hb⟩ => ?_
    subst he
    refine ⟨_, rfl, _, _, _, [], MemPlace.row a zs.length, [], hW', ?_, ?_, rfl, hb.frame _, fun h => by cases h⟩
    · exact (trodAll_cons_mk (shut_bool Try.underlying4 _) trodAll_mk0)
    · have h := (trodAll_cons_mk (hkeep W' hb) (trodAll_cons_mk (shut_int Try.underlying23 w1) (trodAll_cons_mk (shut_N (a := a2)) (trodAll_cons_mk (shut_N (a := a3)) trodAll_mk0))))
      simp only [List.append_nil] at h
      exact h

theorem dealBack_proved : Rows.DealBackSaid :=
  OpenClaim.holds_of_wide 3 Try.f3 rfl rfl rfl rfl rfl rfl rfl ⟨rfl, rfl, rfl, rfl, rfl⟩ rfl rfl rfl rfl rfl (by kernel_rfl) Try.func3 (by kernel_rfl)
    (of_decide_eq_true (by kernel_rfl)) (by unfold Func.isWrapper; first | (rw [if_pos (by decide +kernel)]; kernel_rfl) | (rw [if_neg (by decide +kernel)]; exact ⟨rfl, rfl⟩))
    (fun os started H enc _ => dealBack_lifted os started H enc)
#print axioms dealBack_proved
end Go.Proofs.Ytgcfkhpondemlaa
