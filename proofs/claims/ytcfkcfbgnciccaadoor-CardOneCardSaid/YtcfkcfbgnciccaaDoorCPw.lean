/- CardOne: the whole. -/
import Derived.Test.YtcfkcfbgnciccaaDoorCP
import Derived.Test.YtcfkcfbgnciccaaDoorCT
namespace Go.Proofs.YtcfkcfbgnciccaaDoor
open Go.RowKit

theorem cardOne_walk (a0 : Int) (b : 0 ≤ a0 ∧ a0 ≤ 255) (w : World) (he : Env w) :
    Calls Tryd.prog 7 #[.int .u8 a0] w fun e w' => e = .returned (.bool true) ∧ Below w.heap.size w w' := by
  obtain ⟨n, rfl⟩ : ∃ n : Nat, a0 = n := ⟨a0.toNat, by omega⟩
  have e : (n : Int).tmod 52 = ((n % 52 : Nat) : Int) := by rw [Int.tmod_eq_emod_of_nonneg (by omega)]; omega
  have h1 : n % 52 = 13 * (n % 52 / 13) + n % 52 % 13 := by omega
  have hr : n % 52 % 13 < 13 := by omega
  have hs : n % 52 / 13 < 4 := by omega
  generalize n % 52 % 13 = r at *
  generalize n % 52 / 13 = s at *
  rw [h1] at e
  match s, hs with
  | 0, _ => exact one_0 _ r hr e w he
  | 1, _ => exact one_1 _ r hr e w he
  | 2, _ => exact one_2 _ r hr e w he
  | 3, _ => exact one_3 _ r hr e w he
end Go.Proofs.YtcfkcfbgnciccaaDoor
