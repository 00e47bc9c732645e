/- Auctions: how many question marks a table has: plain facts. -/
import Derived.Test.YtacgikhedhiaaaaDoorNAa
namespace Go.Proofs.YtacgikhedhiaaaaDoor
open Go.RowKit

/-- How many question marks. -/
def qm (t : List (List UInt8)) : Nat := (t.map (List.count 63)).sum
theorem qm_snoc (t : List (List UInt8)) (s : List UInt8) : qm (t ++ [s]) = qm t + s.count 63 := by simp [qm]
theorem qm_append (a b : List (List UInt8)) : qm (a ++ b) = qm a + qm b := by simp [qm]
theorem pad_qm (w : List UInt8) : (pad w).count 63 = w.count 63 := by
  unfold pad
  rw [List.count_append, List.count_replicate]
  simp
theorem ln_qm (ws : List (List UInt8)) (r : Nat) : (ln ws r).count 63 = qm [ws.getD (4 * r) [], ws.getD (4 * r + 1) [], ws.getD (4 * r + 2) [], ws.getD (4 * r + 3) []] := by
  unfold ln
  simp only [List.count_append, pad_qm]
  simp [qm]
theorem qm_flatMap {α : Type} (f : α → List (List UInt8)) : ∀ (l : List α), qm (l.flatMap f) = (l.map fun a => qm (f a)).sum
  | [] => rfl
  | a :: r => by rw [List.flatMap_cons, qm_append, qm_flatMap f r, List.map_cons, List.sum_cons]
theorem qm_rep (m : Nat) : qm (List.replicate m []) = 0 := by simp [qm]
theorem tbl_qm (ws : List (List UInt8)) : qm (tbl ws) = qm ws := by
  have h1 : qm (tbl ws) = ((List.range ((ws.length + 3) / 4)).map fun r => qm [ws.getD (4 * r) [], ws.getD (4 * r + 1) [], ws.getD (4 * r + 2) [], ws.getD (4 * r + 3) []]).sum := by
    unfold tbl
    show (List.map (List.count 63) (List.map (ln ws) _)).sum = _
    rw [List.map_map]
    congr 1
    exact List.map_congr_left fun r _ => ln_qm ws r
  rw [h1, ← qm_flatMap, flat4, show 4 * ((ws.length + 3) / 4) = ws.length + (4 * ((ws.length + 3) / 4) - ws.length) by omega, range_pad, qm_append, qm_rep]
  rfl
theorem nms_qm : ∀ (l : List Nat), (∀ c ∈ l, c < 38) → qm (l.map nm) = 0
  | [], _ => rfl
  | c :: r, h => by
    have h0 : (nm c).count 63 = 0 := by
      rw [List.count_eq_zero]
      intro hm
      exact absurd (nm_byte c (h c List.mem_cons_self) 63 hm) (by decide)
    have h1 := nms_qm r (fun x hx => h x (List.mem_cons_of_mem _ hx))
    show (nm c).count 63 + qm (r.map nm) = 0
    omega
theorem wrd_qm (d : Nat) (l : List Nat) (s : St) (hl : ∀ c ∈ l, c < 38) : qm (wrd d l s) = if s.over then 0 else 1 := by
  unfold wrd
  rw [qm_append, qm_append]
  have h1 : qm (List.replicate d [45]) = 0 := by simp [qm]
  have h2 : qm (l.map nm) = 0 := nms_qm l hl
  rw [h1, h2]
  split <;> simp [qm]
theorem wrd_len (d : Nat) (l : List Nat) (s : St) : (wrd d l s).length = d + l.length + if s.over then 0 else 1 := by
  unfold wrd
  rw [List.length_append, List.length_append, List.length_replicate, List.length_map]
  split <;> simp <;> omega
end Go.Proofs.YtacgikhedhiaaaaDoor
