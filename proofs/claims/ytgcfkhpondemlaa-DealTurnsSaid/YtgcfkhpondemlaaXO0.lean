/- DealTurns: the mathematics. -/
import Derived.Test.YtgcfkhpondemlaaXN
import Derived.Test.YtgcfkhpondemlaaXG
namespace Go.Proofs.Ytgcfkhpondemlaa.Ca
open Go.RowKit
open Go.Proofs.DB (ct bt Pd Rd wo dl lack turnN)

theorem turn_hyp (p r : Nat → Nat) (k : Int) (h0 : -9223372036854775808 ≤ k) (h1 : k ≤ 9223372036854775807) (hr : ∀ i, i < 4 → tn p k i = r i) (w : World) :
    Calls Try.prog 21 #[.agg #[.int .u64 (p 0 : Nat), .int .u64 (p 1 : Nat), .int .u64 (p 2 : Nat), .int .u64 (p 3 : Nat)], .int .i64 k] w fun e w' => e = .returned (.agg #[.int .u64 (r 0 : Nat), .int .u64 (r 1 : Nat), .int .u64 (r 2 : Nat), .int .u64 (r 3 : Nat)]) ∧ Below w.heap.size w w' := by
  have h := turn_calls p k h0 h1 w
  rwa [hr 0 (by decide), hr 1 (by decide), hr 2 (by decide), hr 3 (by decide)] at h
theorem tn_turnN (p : Nat → Nat) (k : Int) (i : Nat) (hi : i < 4) : tn p k i = turnN p (k % 4).toNat i := by
  rw [DB.turnN_at p _ i hi]
  unfold tn
  congr 1
  omega
theorem pd_congr {p q : Nat → Nat} (h : ∀ i, i < 4 → p i = q i) (hp : Pd p) : Pd q := by
  refine ⟨fun i hi => by rw [← h i hi]; exact hp.lt i hi, fun i hi => by rw [← h i hi]; exact hp.few i hi, fun i j hij hj => ?_⟩
  rw [← h i (by omega), ← h j hj]
  exact hp.dj i j hij hj
theorem tn_pd {p : Nat → Nat} (hp : Pd p) (k : Int) : Pd (tn p k) := pd_congr (fun i hi => (tn_turnN p k i hi).symm) (DB.turnN_pd hp _)
theorem ways_congr {p q : Nat → Nat} (h : ∀ i, i < 4 → p i = q i) : DB.ways bin p = DB.ways bin q := by
  unfold DB.ways lack
  rw [h 0 (by decide), h 1 (by decide), h 2 (by decide), h 3 (by decide)]
theorem tn_ways (p : Nat → Nat) (k : Int) : DB.ways bin (tn p k) = DB.ways bin p := by
  rw [ways_congr (tn_turnN p k), DB.ways_turnN pas_bin]
theorem tn_tn (p : Nat → Nat) (a b c : Int) (h : (a + b) % 4 = c % 4) (i : Nat) (_hi : i < 4) : tn (tn p a) b i = tn p c i := by
  unfold tn
  congr 1
  omega
theorem tn_none (p : Nat → Nat) (c : Int) (h : c % 4 = 0) (i : Nat) (hi : i < 4) : tn p c i = p i := by
  unfold tn
  congr 1
  omega
/-- Turned by 1, s times. -/
def yS (p : Nat → Nat) : Nat → Nat → Nat
  | 0 => p
  | s + 1 => tn (yS p s) 1
theorem yS4 (p : Nat → Nat) (i : Nat) (hi : i < 4) : yS p 4 i = p i := by
  show tn (tn (tn (tn p 1) 1) 1) 1 i = p i
  rw [tn_tn _ 1 1 2 rfl i hi, tn_tn _ 1 2 3 rfl i hi, tn_tn _ 1 3 4 rfl i hi]
  exact tn_none p 4 rfl i hi
theorem tn_congr {p q : Nat → Nat} (h : ∀ i, i < 4 → p i = q i) (k : Int) (i : Nat) : tn p k i = tn q k i := h _ (by omega)
end Go.Proofs.Ytgcfkhpondemlaa.Ca
