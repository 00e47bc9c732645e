import Derived.Test.YtjhocgeoangbdaaNU
import Derived.Test.YtjhocgeoangbdaaNV
namespace Go.Proofs.Ytjhocgeoangbdaa
open Go.RowKit
theorem divides_walk (a b : Nat) (ha : isN a) (hb : isN b) (w : World) :
    Calls Try.prog 8 #[.agg #[.int .u32 (pt a 0), .int .u32 (pt a 1), .int .u32 (pt a 2), .int .u32 (pt a 3)], .agg #[.int .u32 (pt b 0), .int .u32 (pt b 1), .int .u32 (pt b 2), .int .u32 (pt b 3)]] w fun e w' => e = .returned (.bool true) ∧ Below w.heap.size w w' := by
  by_cases h : b = 0
  · subst h
    have := divides_zero a ha w
    simp only [pt_zero]
    exact this
  · exact divides_pos a b ha hb h w
end Go.Proofs.Ytjhocgeoangbdaa
