/- TextAll. -/
import Derived.Test.YtacgikhedhiaaaaDoorKE
namespace Go.Proofs.YtacgikhedhiaaaaDoor
open Go.RowKit
attribute [local go_sem] Oper.semAt_some

def okA (xs : List Nat) : Bool := xs.all fun c => decide (c < 38)
theorem okA_iff {xs : List Nat} : okA xs = true ↔ ∀ c ∈ xs, c < 38 := by simp [okA]
theorem Tryd.infoS : (Tryd.prog.info? 9).map (fun i => (i.zero, i.size, i.bytes)) = some (some (.string ByteArray.empty), 1, 16) := by kernel_rfl
/-- Between two rounds of TextAll. -/
def taI (w : World) (u : Value) (xs : List Nat) (i : Nat) (W : World) : Prop := blk W (w.heap.size + 3) #[u] 22 ∧ blk W w.heap.size #[strv []] 9 ∧ blk W (w.heap.size + 1) #[.int .i64 0] 30 ∧ (∃ v, blk W (w.heap.size + 2) #[v] 51 ∧ W.ownsRow (w.heap.size + 4) 9 1 v i (((xs.take i).map nm).map strv)) ∧ Below w.heap.size w W ∧ okA (xs.take i) = true
def taR (w : World) (xs : List Nat) (W : World) : Prop := blk W w.heap.size #[strv []] 9 ∧ blk W (w.heap.size + 1) #[.int .i64 80] 30 ∧ Below w.heap.size w W ∧ okA xs = false
end Go.Proofs.YtacgikhedhiaaaaDoor
