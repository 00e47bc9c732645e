/- An argument that is a contract: four bytes. -/
import Derived.Test.YtacgikhedhiaaaaDoorKTs
import Derived.ChangeSame
import Derived.ChangeArms
import Derived.WideShapes
namespace Go.Proofs.YtacgikhedhiaaaaDoor
open Go.ChangeShapes Go.WideShapes Go.ChangeAt Go.RowKit

theorem cellsCt : Tryd.prog.cellsOf 26 = 4 := by kernel_rfl
set_option maxRecDepth 100000 in
theorem open_ct {H : Type} {enc : TypeId × Value → H} {W : World} {r : Reach} {b0 : Nat} {v : Value} {d : DataW H} {p : List MemPlace} (hval : Value.okWide Tryd.prog W r b0 26 v) (h : DataW.Trod enc Tryd.prog W 0 (fun _ => true) true 26 v d p) :
    ∃ l e k s : Nat, (l < 256 ∧ e < 256 ∧ k < 256 ∧ s < 256) ∧ v = ctV (l, e, k, s) ∧ p = [] ∧ ∀ W' sp, DataW.Trod enc Tryd.prog W' 0 sp true 26 v d [] := by
  obtain ⟨cs, rfl, hsz⟩ := okWide_struct Tryd.underlying26 hval
  rw [cellsCt] at hsz
  obtain ⟨fuel, hf⟩ := h
  obtain ⟨xs, n, _, hx, hl, hlen, hfs⟩ := DataW.trod_struct Tryd.underlying26 hf
  obtain ⟨c0, c1, c2, c3, rfl⟩ : ∃ c0 c1 c2 c3, cs = #[c0, c1, c2, c3] := by
    obtain ⟨l⟩ := cs
    match l, hsz with
    | [a, b, c, d], _ => exact ⟨a, b, c, d, rfl⟩
  obtain ⟨y0, y1, y2, y3, rfl⟩ : ∃ y0 y1 y2 y3, xs = [y0, y1, y2, y3] := by
    match xs, hlen with
    | [a, b, c, d], _ => exact ⟨a, b, c, d, rfl⟩
  have h0 := hfs 0 _ rfl
  have h1 := hfs 1 _ rfl
  have h2 := hfs 2 _ rfl
  have h3 := hfs 3 _ rfl
  simp [Value.cells, cellsU8x] at h0 h1 h2 h3
  obtain ⟨z0, e0, r0, w0⟩ := DataW.trod_int Tryd.underlying5 h0
  obtain ⟨z1, e1, r1, w1⟩ := DataW.trod_int Tryd.underlying5 h1
  obtain ⟨z2, e2, r2, w2⟩ := DataW.trod_int Tryd.underlying5 h2
  obtain ⟨z3, e3, r3, w3⟩ := DataW.trod_int Tryd.underlying5 h3
  have b0 := bounds_u8 w0
  have b1 := bounds_u8 w1
  have b2 := bounds_u8 w2
  have b3 := bounds_u8 w3
  simp only [List.cons.injEq, and_true] at e0 e1 e2 e3
  subst e0 e1 e2 e3
  subst r0 r1 r2 r3
  simp only [Prod.mk.injEq] at hx
  obtain ⟨rfl, rfl⟩ := hx
  refine ⟨z0.toNat, z1.toNat, z2.toNat, z3.toNat, ⟨by omega, by omega, by omega, by omega⟩, ?_, by simp, fun W' sp => ?_⟩
  · unfold ctV
    simp only [Int.toNat_of_nonneg b0.1, Int.toNat_of_nonneg b1.1, Int.toNat_of_nonneg b2.1, Int.toNat_of_nonneg b3.1]
  · refine ⟨2, ?_⟩
    have m0 := trod_int_mk (enc := enc) (P := Tryd.prog) (w := W') (base := 0) (spare := sp) (held := true) 0 Tryd.underlying5 w0
    have m1 := trod_int_mk (enc := enc) (P := Tryd.prog) (w := W') (base := 0) (spare := sp) (held := true) 0 Tryd.underlying5 w1
    have m2 := trod_int_mk (enc := enc) (P := Tryd.prog) (w := W') (base := 0) (spare := sp) (held := true) 0 Tryd.underlying5 w2
    have m3 := trod_int_mk (enc := enc) (P := Tryd.prog) (w := W') (base := 0) (spare := sp) (held := true) 0 Tryd.underlying5 w3
    have := trod_struct_mk (enc := enc) (P := Tryd.prog) (w := W') (base := 0) (spare := sp) (held := true) (n := 1) (cs := [.int .u8 z0, .int .u8 z1, .int .u8 z2, .int .u8 z3]) (xs := [(.lit (.int .u8 z0), []), (.lit (.int .u8 z1), []), (.lit (.int .u8 z2), []), (.lit (.int .u8 z3), [])]) Tryd.underlying26 (by rw [cellsCt]; rfl) (by simp [cellsU8x, m0, m1, m2, m3])
    have e : (Value.agg #[.int .u8 z0, .int .u8 z1, .int .u8 z2, .int .u8 z3]).cells.toList = [.int .u8 z0, .int .u8 z1, .int .u8 z2, .int .u8 z3] := rfl
    rw [e]
    simpa using this
set_option maxRecDepth 100000 in
theorem open_bool {H : Type} {enc : TypeId × Value → H} {W : World} {r : Reach} {b0 : Nat} {v : Value} {d : DataW H} {p : List MemPlace} (hval : Value.okWide Tryd.prog W r b0 4 v) (h : DataW.Trod enc Tryd.prog W 0 (fun _ => true) true 4 v d p) :
    ∃ b : Bool, v = .bool b ∧ p = [] ∧ d = .lit (.bool b) := by
  have ht := Tryd.underlying4
  obtain ⟨b, rfl⟩ : ∃ b, v = .bool b := by
    simp only [Value.okWide, ht, Cell.okWide] at hval
    cases v <;> simp_all [Cell.ok]
  obtain ⟨fuel, hf⟩ := h
  cases fuel with
  | zero => simp [DataW.trod] at hf
  | succ n =>
    simp [DataW.trod, ht, Value.cells] at hf
    exact ⟨b, rfl, by simp_all, by simp_all⟩
end Go.Proofs.YtacgikhedhiaaaaDoor
