/- The functions of sets, in one form. -/
import Derived.Test.YtcfkcfbgnciccaaDoorCZk
namespace Go.Proofs.YtcfkcfbgnciccaaDoor
open Go.RowKit

def lcs (m : Nat) : List Nat := if m < 4503599627370496 then cds m else []
def lce (m : Nat) : Int := if m < 4503599627370496 then 0 else 41
def wrs (m : Nat) : List UInt8 := if m < 4503599627370496 then wrt m else []
theorem lcs_lt (m : Nat) : ∀ x ∈ lcs m, x < 256 := fun x hx => by
  unfold lcs at hx
  split at hx
  · have := (cds_mem.1 hx).1; omega
  · simp at hx
theorem lcs_len (m : Nat) : (lcs m).length ≤ 52 := by
  unfold lcs
  split
  · exact cds_length_le m
  · exact Nat.zero_le _
theorem wrs_len (m : Nat) : (wrs m).length ≤ 55 := by
  unfold wrs
  split
  · rw [wrt_length]; have := cds_length_le m; omega
  · exact Nat.zero_le _
theorem list_all (m : Nat) (w : World) : Calls Tryd.prog 18 #[.int .u64 m] w fun e w' => ∃ v, e = .returned (.tuple #[v, .int .i64 (lce m)]) ∧ w'.ownsRow w.heap.size 5 1 v (lcs m).length ((lcs m).map u8v) ∧ Below w.heap.size w w' := by
  unfold lcs lce
  split
  · rename_i h; exact list_yes m h w
  · rename_i h; exact (list_no m h w).mono fun e w' h => ⟨_, h.1, World.ownsRow_nil _ _ _ _, below_refl_of h.2⟩
theorem ref_list_all (m : Nat) (w : World) : Calls Tryd.prog 15 #[.int .u64 m] w fun e w' => ∃ v, e = .returned (.tuple #[v, .int .i64 (lce m)]) ∧ w'.ownsRow w.heap.size 5 1 v (lcs m).length ((lcs m).map u8v) ∧ Below w.heap.size w w' := by
  unfold lcs lce
  split
  · rename_i h; exact ref_list m h w
  · rename_i h; exact (ref_list_no m h w).mono fun e w' h => ⟨_, h.1, World.ownsRow_nil _ _ _ _, below_refl_of h.2⟩
theorem write_all (m : Nat) (w : World) : Calls Tryd.prog 16 #[.int .u64 m] w fun e w' => e = .returned (.tuple #[strv (wrs m), .int .i64 (lce m)]) ∧ Below w.heap.size w w' := by
  unfold wrs lce
  split
  · rename_i h; exact write_yes m h w
  · rename_i h; exact (write_no m h w).mono fun e w' h => ⟨h.1, below_refl_of h.2⟩
theorem ref_write_all (m : Nat) (w : World) : Calls Tryd.prog 14 #[.int .u64 m] w fun e w' => e = .returned (.tuple #[strv (wrs m), .int .i64 (lce m)]) ∧ Below w.heap.size w w' := by
  unfold wrs lce
  split
  · rename_i h; exact ref_write m h w
  · rename_i h; exact (ref_write_no m h w).mono fun e w' h => ⟨h.1, below_refl_of h.2⟩
theorem ref_mask_all {v : Value} {ys : List Nat} (h8 : ∀ x ∈ ys, x < 256) (hn : ys.length ≤ 1000000) (w : World) (h : Sl w v ys) : Calls Tryd.prog 34 #[v] w fun e w' => e = .returned (.tuple #[.int .u64 (mskR 0 ys).1, .int .i64 (mskR 0 ys).2]) ∧ Below w.heap.size w w' := by
  rcases h with ⟨rfl, rfl | ⟨a, c, rfl⟩⟩ | ⟨b, off, c, rfl, h2, h3⟩
  · exact ref_mask_nil none 0 w
  · exact ref_mask_nil (some a) c w
  · exact ref_mask b off c ys h8 hn w h2 h3
def prsN (s : List UInt8) : Nat := (prs s).getD 0
def prsE (s : List UInt8) : Int := if (prs s).isSome then 0 else 40
theorem parV_eq (s : List UInt8) : parV (prs s) = .tuple #[.int .u64 (prsN s), .int .i64 (prsE s)] := by
  unfold prsN prsE
  cases prs s <;> rfl
theorem parse_all (s : ByteArray) (hs : s.size < 4294967281) (w : World) (he : Env w) : Calls Tryd.prog 17 #[.string s] w fun e w' => e = .returned (.tuple #[.int .u64 (prsN s.data.toList), .int .i64 (prsE s.data.toList)]) ∧ Below w.heap.size w w' := by
  rw [← parV_eq]; exact parse_calls s hs w he
theorem ref_parse_all (s : ByteArray) (hs : s.size < 4294967281) (w : World) : Calls Tryd.prog 36 #[.string s] w fun e w' => e = .returned (.tuple #[.int .u64 (prsN s.data.toList), .int .i64 (prsE s.data.toList)]) ∧ Below w.heap.size w w' := by
  rw [← parV_eq]; exact ref_parse s (by omega) w
end Go.Proofs.YtcfkcfbgnciccaaDoor
