/- Read. -/
import Derived.Test.YtcfkcfbgnciccaaDoorCE
namespace Go.Proofs.YtcfkcfbgnciccaaDoor
open Go.RowKit

theorem read_len (s : ByteArray) (h : s.size ≠ 2) (w : World) : Calls Tryd.prog 25 #[.string s] w fun e w' => e = .returned (.tuple #[.int .u8 0, .int .i64 40]) ∧ w = w' := by
  have h' : ¬ (s.size : Int) = 2 := by omega
  go_enter Tryd.func25, Tryd.ntmps25
  go_wp2
  refine bodyPost_ret (by simp [results, Tryd.results25, go_sem]) rfl ⟨rfl, rfl⟩
/-- The suit of a letter, or -1. -/
def sdx (c : UInt8) : Int := Lib.indexByte letters c
theorem sdx_fin : ∀ c : Fin 256, -1 ≤ sdx (UInt8.ofNat c.val) ∧ sdx (UInt8.ofNat c.val) < 4 ∧ (0 ≤ sdx (UInt8.ofNat c.val) → ltr (sdx (UInt8.ofNat c.val)).toNat = UInt8.ofNat c.val) := by decide +kernel
theorem sdx_all (c : UInt8) : -1 ≤ sdx c ∧ sdx c < 4 ∧ (0 ≤ sdx c → ltr (sdx c).toNat = c) := by
  have := sdx_fin ⟨c.toNat, c.toNat_lt⟩
  simp only [UInt8.ofNat_toNat] at this
  exact this
theorem sdx_ltr : ∀ s : Fin 4, sdx (ltr s.val) = (s.val : Int) := by decide
theorem idx_all (c : UInt8) : -1 ≤ idx c ∧ idx c < 13 := by
  refine ⟨idx_ge c, ?_⟩
  by_cases h : 0 ≤ idx c
  · exact (idx_lt c h).1
  · omega
/-- What a text of two bytes says: the card and the error. -/
def rdc (a b : UInt8) : Nat := if sdx a < 0 ∨ idx b < 0 then 0 else 13 * (sdx a).toNat + (idx b).toNat
def rde (a b : UInt8) : Int := if sdx a < 0 ∨ idx b < 0 then 40 else 0
set_option maxRecDepth 100000 in
set_option maxHeartbeats 1000000 in
theorem read_two (a b : UInt8) (w : World) : Calls Tryd.prog 25 #[.string ⟨#[a, b]⟩] w fun e w' => e = .returned (.tuple #[.int .u8 (rdc a b), .int .i64 (rde a b)]) ∧ Below w.heap.size w w' := by
  have A := Tryd.strings_IndexByte ⟨#[67, 68, 72, 83]⟩ (a.toNat : Int)
  have B := Tryd.strings_IndexByte ⟨#[50, 51, 52, 53, 54, 55, 56, 57, 84, 74, 81, 75, 65]⟩ (b.toNat : Int)
  have ea : Lib.indexByte (ByteArray.mk #[67, 68, 72, 83]).data.toList (a.toNat : Int).toNat.toUInt8 = sdx a := by
    rw [Int.toNat_natCast, Nat.toUInt8, UInt8.ofNat_toNat]; rfl
  have eb : Lib.indexByte (ByteArray.mk #[50, 51, 52, 53, 54, 55, 56, 57, 84, 74, 81, 75, 65]).data.toList (b.toNat : Int).toNat.toUInt8 = idx b := by
    rw [Int.toNat_natCast, Nat.toUInt8, UInt8.ofNat_toNat]; rfl
  rw [ea] at A
  rw [eb] at B
  have A := Lib.hid A
  have B := Lib.hid B
  clear ea eb
  obtain ⟨a1, a2, -⟩ := sdx_all a
  obtain ⟨b1, b2⟩ := idx_all b
  unfold rdc rde
  obtain ⟨x, hx⟩ : ∃ x, sdx a = x := ⟨_, rfl⟩
  obtain ⟨y, hy⟩ : ∃ y, idx b = y := ⟨_, rfl⟩
  rw [hx] at A a1 a2 ⊢
  rw [hy] at B b1 b2 ⊢
  clear hx hy
  by_cases hx : x < 0
  · rw [if_pos (.inl hx), if_pos (.inl hx)]
    go_enter Tryd.func25, Tryd.ntmps25
    go_upto_region 3 with fail
    go_region_with (first | (go_at_call_of 49 (Value.string ⟨#[67, 68, 72, 83]⟩); refine (A.out _).mono ?_; rintro e w1 ⟨rfl, rfl⟩) | (go_at_call_of 49 (Value.string ⟨#[50, 51, 52, 53, 54, 55, 56, 57, 84, 74, 81, 75, 65]⟩); refine (B.out _).mono ?_; rintro e w1 ⟨rfl, rfl⟩))
    all_goals go_wp2
    all_goals (refine bodyPost_ret (by simp [results, Tryd.results25, go_sem]) rfl ⟨rfl, ?_⟩; repeat (first | (with_reducible exact Below.refl _ _) | ((with_reducible refine below_grow ?_ ?_); rotate_left; focus (first | omega | (simp [go_sem]; done) | (simp [go_sem]; omega))) | ((with_reducible refine Below.alloc ?_ ?_ _); rotate_left; focus (first | omega | (simp [go_sem]; done) | (simp [go_sem]; omega))) | ((with_reducible refine Below.setCell ?_ ?_ _); rotate_left; focus (first | omega | (simp [go_sem]; done) | (simp [go_sem]; omega))) | (with_reducible refine Below.drew ?_) | (with_reducible refine below_drewN _ ?_)))
  · by_cases hy : y < 0
    · rw [if_pos (.inr hy), if_pos (.inr hy)]
      go_enter Tryd.func25, Tryd.ntmps25
      go_upto_region 3 with fail
      go_region_with (first | (go_at_call_of 49 (Value.string ⟨#[67, 68, 72, 83]⟩); refine (A.out _).mono ?_; rintro e w1 ⟨rfl, rfl⟩) | (go_at_call_of 49 (Value.string ⟨#[50, 51, 52, 53, 54, 55, 56, 57, 84, 74, 81, 75, 65]⟩); refine (B.out _).mono ?_; rintro e w1 ⟨rfl, rfl⟩))
      all_goals go_wp2
      all_goals (refine bodyPost_ret (by simp [results, Tryd.results25, go_sem]) rfl ⟨rfl, ?_⟩; repeat (first | (with_reducible exact Below.refl _ _) | ((with_reducible refine below_grow ?_ ?_); rotate_left; focus (first | omega | (simp [go_sem]; done) | (simp [go_sem]; omega))) | ((with_reducible refine Below.alloc ?_ ?_ _); rotate_left; focus (first | omega | (simp [go_sem]; done) | (simp [go_sem]; omega))) | ((with_reducible refine Below.setCell ?_ ?_ _); rotate_left; focus (first | omega | (simp [go_sem]; done) | (simp [go_sem]; omega))) | (with_reducible refine Below.drew ?_) | (with_reducible refine below_drewN _ ?_)))
    · rw [if_neg (by omega), if_neg (by omega)]
      obtain ⟨s, rfl⟩ : ∃ s : Nat, x = s := ⟨x.toNat, by omega⟩
      obtain ⟨r, rfl⟩ : ∃ r : Nat, y = r := ⟨y.toNat, by omega⟩
      have O := Lib.hid (of_yes s r (by omega) (by omega))
      have e1 : IntKind.u8.wrap (s : Int) = (s : Int) := u8_wrap (by omega) (by omega)
      have e2 : IntKind.u8.wrap (r : Int) = (r : Int) := u8_wrap (by omega) (by omega)
      go_enter Tryd.func25, Tryd.ntmps25
      go_upto_region 3 with fail
      go_region_with (first | (go_at_call_of 49 (Value.string ⟨#[67, 68, 72, 83]⟩); refine (A.out _).mono ?_; rintro e w1 ⟨rfl, rfl⟩) | (go_at_call_of 49 (Value.string ⟨#[50, 51, 52, 53, 54, 55, 56, 57, 84, 74, 81, 75, 65]⟩); refine (B.out _).mono ?_; rintro e w1 ⟨rfl, rfl⟩))
      all_goals go_wp2_with (go_at_call 21; refine (O.out _).mono ?_; rintro e w2 ⟨rfl, rfl⟩)
      all_goals (refine bodyPost_ret (by simp [results, Tryd.results25, go_sem]) rfl ⟨rfl, ?_⟩; repeat (first | (with_reducible exact Below.refl _ _) | ((with_reducible refine below_grow ?_ ?_); rotate_left; focus (first | omega | (simp [go_sem]; done) | (simp [go_sem]; omega))) | ((with_reducible refine Below.alloc ?_ ?_ _); rotate_left; focus (first | omega | (simp [go_sem]; done) | (simp [go_sem]; omega))) | ((with_reducible refine Below.setCell ?_ ?_ _); rotate_left; focus (first | omega | (simp [go_sem]; done) | (simp [go_sem]; omega))) | (with_reducible refine Below.drew ?_) | (with_reducible refine below_drewN _ ?_)))
end Go.Proofs.YtcfkcfbgnciccaaDoor
