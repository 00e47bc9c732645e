/- Text. -/
import Derived.Test.YtcfkcfbgnciccaaDoorCR
import Derived.Deep.RegionHeld3
import Derived.BigQuiet
namespace Go.Proofs.YtcfkcfbgnciccaaDoor
open Go.RowKit

theorem text_no (c : Nat) (h : ¬ c < 52) (w : World) : Calls Tryd.prog 24 #[.int .u8 c] w fun e w' => e = .returned (.tuple #[.string ⟨#[]⟩, .int .i64 41]) ∧ w = w' := by
  have R := Lib.hid (right_no c h)
  go_enter Tryd.func24, Tryd.ntmps24
  go_wp2_with (go_at_call 26; refine (R.out _).mono ?_; rintro e w1 ⟨rfl, rfl⟩)
  refine bodyPost_ret (by simp [results, Tryd.results24, go_sem]) rfl ⟨rfl, rfl⟩
def letters : List UInt8 := [67, 68, 72, 83]
def ltr (s : Nat) : UInt8 := letters[s]?.getD 0
theorem letters_at (s : Nat) (h : s < (ByteArray.mk #[67, 68, 72, 83]).size) : (ByteArray.mk #[67, 68, 72, 83])[s] = ltr s := by
  match s, h with
  | 0, _ => rfl
  | 1, _ => rfl
  | 2, _ => rfl
  | 3, _ => rfl
theorem chrs_at (s : Nat) (h : s < (ByteArray.mk #[50, 51, 52, 53, 54, 55, 56, 57, 84, 74, 81, 75, 65]).size) : (ByteArray.mk #[50, 51, 52, 53, 54, 55, 56, 57, 84, 74, 81, 75, 65])[s] = chr s := by
  match s, h with
  | 0, _ => rfl
  | 1, _ => rfl
  | 2, _ => rfl
  | 3, _ => rfl
  | 4, _ => rfl
  | 5, _ => rfl
  | 6, _ => rfl
  | 7, _ => rfl
  | 8, _ => rfl
  | 9, _ => rfl
  | 10, _ => rfl
  | 11, _ => rfl
  | 12, _ => rfl
theorem conv2 (W X : World) (a b : UInt8) (g : Nat) (hg : g = W.heap.size) (hX : X = W.alloc (.cells #[.int .u8 a.toNat, .int .u8 b.toNat] 5) ∨ X = (W.alloc (.cells #[.int .u8 a.toNat, .int .u8 b.toNat] 5)).drew) :
    (convert 25 9 (.slice (some ⟨g, 0, none⟩) 2 2)).run Tryd.prog X = .ok (.string ⟨#[a, b]⟩) X := by
  subst hg
  refine run_convert_bytes_back X 25 9 5 ⟨W.heap.size, 0, none⟩ 2 [a, b] Tryd.underlying25 Tryd.underlying5 Tryd.underlying9 fun j hj => ?_
  have hp : (⟨W.heap.size, 0, none⟩ : Addr).add j = ⟨W.heap.size, 0 + j, none⟩ := by unfold Addr.add; split <;> simp_all
  rw [hp, Nat.zero_add]
  have hc : X.cell? ⟨W.heap.size, j, none⟩ = (W.alloc (.cells #[.int .u8 a.toNat, .int .u8 b.toNat] 5)).cell? ⟨W.heap.size, j, none⟩ := by
    rcases hX with rfl | rfl <;> rfl
  rw [hc, blk_cell (blk_new W _ _) j]
  match j, hj with
  | 0, _ => rfl
  | 1, _ => rfl
set_option maxRecDepth 100000 in
set_option maxHeartbeats 2000000 in
theorem text_yes (c : Nat) (h : c < 52) (w : World) : Calls Tryd.prog 24 #[.int .u8 c] w fun e w' => e = .returned (.tuple #[.string ⟨#[ltr (c / 13), chr (c % 13)]⟩, .int .i64 0]) ∧ Below w.heap.size w w' := by
  have R := Lib.hid (right_yes c h)
  have S := Lib.hid (suit_yes c h)
  have K := Lib.hid (rank_yes c h)
  obtain ⟨s, hs⟩ : ∃ s, c / 13 = s := ⟨_, rfl⟩
  obtain ⟨r, hr⟩ : ∃ r, c % 13 = r := ⟨_, rfl⟩
  rw [hs] at S ⊢
  rw [hr] at K ⊢
  have hs4 : s < 4 := by omega
  have hr13 : r < 13 := by omega
  have cv1 := fun (W : World) (a b : UInt8) (g : Nat) (hg : g = W.heap.size) => conv2 W _ a b g hg (.inl rfl)
  have cv2 := fun (W : World) (a b : UInt8) (g : Nat) (hg : g = W.heap.size) => conv2 W _ a b g hg (.inr rfl)
  go_enter Tryd.func24, Tryd.ntmps24
  go_upto_region 3 with (first | (go_at_call 26; refine (R.out _).mono ?_; rintro e w1 ⟨rfl, rfl⟩))
  go_region_with (first | (go_at_call 22; refine (S.out _).mono ?_; rintro e w1 ⟨rfl, rfl⟩) | (go_at_call 23; refine (K.out _).mono ?_; rintro e w1 ⟨rfl, rfl⟩))
  all_goals go_wp2
  all_goals
    rw [letters_at, chrs_at]
    refine bodyPost_ret (by simp [results, Tryd.results24, go_sem]) rfl ⟨rfl, ?_⟩
  all_goals repeat (first | (with_reducible exact Below.refl _ _) | ((with_reducible refine below_grow ?_ ?_); rotate_left; focus (first | omega | (simp [go_sem]; done) | (simp [go_sem]; omega))) | ((with_reducible refine Below.alloc ?_ ?_ _); rotate_left; focus (first | omega | (simp [go_sem]; done) | (simp [go_sem]; omega))) | ((with_reducible refine Below.setCell ?_ ?_ _); rotate_left; focus (first | omega | (simp [go_sem]; done) | (simp [go_sem]; omega))) | (with_reducible refine Below.drew ?_) | (with_reducible refine below_drewN _ ?_))
end Go.Proofs.YtcfkcfbgnciccaaDoor
