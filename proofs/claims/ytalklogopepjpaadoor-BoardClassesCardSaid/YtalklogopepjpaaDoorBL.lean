/- deal.Read. -/
import Derived.Test.YtalklogopepjpaaDoorBK2
namespace Go.Proofs.YtalklogopepjpaaDoor.Ca
open Go.RowKit
open Go.Proofs.DB (Pd Rd)

/-- SplitN at a space: the parts, and where they lie. -/
theorem splitn_calls (l : List UInt8) (hl : l.length < 4294967281) (n : Nat) (hn : 1 ≤ n) (hn63 : n ≤ 100) (w : World) (he : EnvB w) :
    Calls Tryd.prog 34 #[strv l, .string ⟨#[32]⟩, .int .i64 n] w fun e w' =>
      (∃ c, e = .returned (.slice (some ⟨w.heap.size, 0, none⟩) (Lib.splitN l [32] n).length c)) ∧ (∀ (j : Nat) (x : List UInt8), (Lib.splitN l [32] n)[j]? = some x → w'.cell? ⟨w.heap.size, j, none⟩ = some (strv x)) ∧ Below w.heap.size w w' ∧ w'.heap.size = w.heap.size + 1 := by
  obtain ⟨m, hm⟩ := he.ml
  have hs : (ByteArray.mk l.toArray).size = l.length := by show l.toArray.size = _; simp
  have hd := Lib.splitB_data (ByteArray.mk #[32]) 0 (min n (l.length + 1) - 1) ⟨l.toArray⟩
  have hlen := Lib.splitB_length_le (ByteArray.mk #[32]) 0 (min n (l.length + 1) - 1) ⟨l.toArray⟩
  have c := Tryd.strings_SplitN ⟨l.toArray⟩ ⟨#[32]⟩ n m w (by rw [hs]; exact hl) hm (by decide) hn (by omega)
  rw [hs] at c
  refine c.mono ?_
  rintro e w' ⟨rfl, rfl⟩
  have hd2 : (Lib.splitB ⟨#[32]⟩ 0 (min n (l.length + 1) - 1) ⟨l.toArray⟩).map (·.data.toList) = Lib.splitN l [32] n := by rw [hd]; rfl
  have hl2 : (Lib.splitB ⟨#[32]⟩ 0 (min n (l.length + 1) - 1) ⟨l.toArray⟩).length = (Lib.splitN l [32] n).length := by rw [← hd2, List.length_map]
  generalize Lib.splitB (ByteArray.mk #[32]) 0 (min n (l.length + 1) - 1) ⟨l.toArray⟩ = ps at *
  refine ⟨⟨_, by rw [hl2]⟩, fun j x hj => ?_, by repeat (first | (with_reducible exact Below.refl _ _) | ((with_reducible refine below_grow ?_ ?_); rotate_left; focus (first | omega | (simp [go_sem]; done) | (simp [go_sem]; omega))) | ((with_reducible refine Below.alloc ?_ ?_ _); rotate_left; focus (first | omega | (simp [go_sem]; done) | (simp [go_sem]; omega))) | ((with_reducible refine Below.setCell ?_ ?_ _); rotate_left; focus (first | omega | (simp [go_sem]; done) | (simp [go_sem]; omega))) | (with_reducible refine Below.drew ?_) | (with_reducible refine below_drewN _ ?_)), by simp⟩
  rw [← hd2, List.getElem?_map] at hj
  obtain ⟨y, hy, rfl⟩ := Option.map_eq_some_iff.1 hj
  have hb : blk (w.alloc (.cells (Lib.cellsOf ps (min n (l.length + 1))) 9)) w.heap.size (Lib.cellsOf ps (min n (l.length + 1))) 9 := blk_new _ _ _
  rw [blk_cell hb]
  have hlt := (List.getElem?_eq_some_iff.1 hy).1
  simp only [Lib.cellsOf, List.getElem?_toArray]
  rw [List.getElem?_append_left (by simpa using hlt), List.getElem?_map, hy]
  rfl
def quad (x y z t : Nat) : Nat → Nat
  | 0 => x
  | 1 => y
  | 2 => z
  | _ => t
def zerD : Nat → Nat := fun _ => 0
/-- What deal.Read returns: the deal whose text it is. -/
def rdD (l : List UInt8) : Option (Nat → Nat) :=
  if Lib.hasPrefix l [78, 58] = true then
    match Lib.splitN (Lib.trimPrefix l [78, 58]) [32] 5 with
    | [a, b, c, d] =>
      match prs a, prs b, prs c, prs d with
      | some x, some y, some z, some t => if Pd (quad x y z t) then some (quad x y z t) else none
      | _, _, _, _ => none
    | _ => none
  else none
def rdV : Option (Nat → Nat) → Value
  | some p => .tuple #[.agg #[.int .u64 (p 0 : Nat), .int .u64 (p 1 : Nat), .int .u64 (p 2 : Nat), .int .u64 (p 3 : Nat)], .int .i64 0]
  | none => .tuple #[.agg #[.int .u64 0, .int .u64 0, .int .u64 0, .int .u64 0], .int .i64 61]
end Go.Proofs.YtalklogopepjpaaDoor.Ca
