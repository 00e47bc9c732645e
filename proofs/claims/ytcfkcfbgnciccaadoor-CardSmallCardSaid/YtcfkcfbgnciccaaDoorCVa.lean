/- Parts of strings; texts that are none. -/
import Derived.Test.YtcfkcfbgnciccaaDoorCS
namespace Go.Proofs.YtcfkcfbgnciccaaDoor
open Go.RowKit

theorem ba_take (l : List UInt8) (i : Nat) : (ByteArray.mk l.toArray).extract 0 i = ⟨(l.take i).toArray⟩ := by
  apply ByteArray.ext
  simp [ByteArray.data_extract]
theorem ba_drop (l : List UInt8) (i n : Nat) (hn : l.length ≤ n) : (ByteArray.mk l.toArray).extract i n = ⟨(l.drop i).toArray⟩ := by
  apply ByteArray.ext
  simp [ByteArray.data_extract, List.extract_eq_take_drop]
  rw [List.take_of_length_le (by rw [List.length_drop]; omega)]
theorem slice_take (l : List UInt8) (i : Nat) (h : i ≤ l.length) (W : World) : (Instr.slice 9 (strv l) none (some (.int .i64 (i : Int))) none).run Tryd.prog W = .ok (strv (l.take i)) W := by
  have h1 : (i : Int) ≤ l.length := by omega
  have h2 := ba_take l i
  simp [go_sem, h1, h2]
theorem slice_drop (l : List UInt8) (i : Nat) (h : i ≤ l.length) (W : World) : (Instr.slice 9 (strv l) (some (.int .i64 (i : Int))) none none).run Tryd.prog W = .ok (strv (l.drop i)) W := by
  have h1 : (i : Int) ≤ l.length := by omega
  have h2 := ba_drop l i l.length (Nat.le_refl _)
  simp [go_sem, h1, h2]
theorem wrt_bytes {m : Nat} {b : UInt8} (h : b ∈ wrt m) : b = 46 ∨ 0 ≤ idx b := by
  have hp : ∀ s, b ∈ prt m s → 0 ≤ idx b := fun s hs => by
    unfold prt at hs
    obtain ⟨x, hx, rfl⟩ := List.mem_map.1 hs
    have := idx_chr ⟨x, (cdsF_mem.1 hx).1⟩
    simp only at this
    rw [this]
    omega
  unfold wrt at h
  simp only [List.mem_append, List.mem_cons] at h
  rcases h with h | rfl | h | rfl | h | rfl | h
  · exact .inr (hp 3 h)
  · exact .inl rfl
  · exact .inr (hp 2 h)
  · exact .inl rfl
  · exact .inr (hp 1 h)
  · exact .inl rfl
  · exact .inr (hp 0 h)
theorem wrt_dots (m : Nat) : (wrt m).count 46 = 3 := by
  unfold wrt
  simp [List.count_append, List.count_cons, List.count_eq_zero_of_not_mem (prt_dot _ _)]
theorem prs_bad {l : List UInt8} {b : UInt8} (hb : b ∈ l) (h1 : b ≠ 46) (h2 : idx b < 0) : prs l = none := by
  cases h : prs l with
  | none => rfl
  | some m =>
    obtain ⟨-, rfl⟩ := wrt_prs h
    rcases wrt_bytes hb with h3 | h3
    · exact absurd h3 h1
    · omega
theorem prs_count {l : List UInt8} (h : l.count 46 ≠ 3) : prs l = none := by
  unfold prs
  rw [if_neg h]
theorem parse_none (l : List UInt8) (hl : l.length < 4294967281) (h : prs l = none) (w : World) (he : Env w) :
    Calls Tryd.prog 17 #[strv l] w fun e w' => e = .returned (.tuple #[.int .u64 0, .int .i64 40]) ∧ Below w.heap.size w w' := by
  have H := parse_calls ⟨l.toArray⟩ hl w he
  simp only [h, parV] at H
  exact H
theorem parse_some (l : List UInt8) (hl : l.length < 4294967281) (m : Nat) (h : prs l = some m) (w : World) (he : Env w) :
    Calls Tryd.prog 17 #[strv l] w fun e w' => e = .returned (.tuple #[.int .u64 m, .int .i64 0]) ∧ Below w.heap.size w w' := by
  have H := parse_calls ⟨l.toArray⟩ hl w he
  simp only [h, parV] at H
  exact H
end Go.Proofs.YtcfkcfbgnciccaaDoor
