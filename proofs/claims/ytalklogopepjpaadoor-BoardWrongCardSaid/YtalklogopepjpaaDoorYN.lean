/- Made, Torn. -/
import Derived.Test.YtalklogopepjpaaDoorYJ
namespace Go.Proofs.YtalklogopepjpaaDoor.Ca
open Go.RowKit
open Go.Proofs.DB (ct bt Pd Rd wo dl)
open Go.Proofs.YtalklogopepjpaaDoor.Ha (SlB od)

theorem slb_below {w W : World} {v : Value} {xs : List Nat} (h : SlB w v xs) (hb : Below w.heap.size w W) : SlB W v xs := by
  obtain ⟨p, c, h1, h2, h3⟩ := h
  refine ⟨p, c, h1, h2, fun hx => ?_⟩
  obtain ⟨b, off, rfl, hlt, hc⟩ := h3 hx
  have := hb.size
  exact ⟨b, off, rfl, by omega, fun j x hj => (hb.cell (p := ⟨b, off + j, none⟩) hlt).trans (hc j x hj)⟩
/-- The deal made of a list; without some cards. -/
def mD (xs : List Nat) : Nat → Nat := fun q => dl (od xs) q 52
def tD (xs : List Nat) (out : Nat) : Nat → Nat := fun q => wo (mD xs q) out
theorem mD_rd (xs : List Nat) : Rd (mD xs) := DB.dl_rd (Ha.od_ord xs)
theorem tD_pd (xs : List Nat) (out : Nat) : Pd (tD xs out) := DB.torn_pd (mD_rd xs).toPd out
theorem tD_in (xs : List Nat) (out : Nat) : DB.In (tD xs out) (mD xs) := DB.torn_in (mD_rd xs).toPd out
theorem made_calls (v : Value) (xs : List Nat) (hx8 : ∀ x ∈ xs, x < 256) (w : World) (hS : SlB w v xs) :
    Calls Tryd.prog 16 #[v] w fun e w' => e = .returned (.agg #[.int .u64 ((mD xs) 0 : Nat), .int .u64 ((mD xs) 1 : Nat), .int .u64 ((mD xs) 2 : Nat), .int .u64 ((mD xs) 3 : Nat)]) ∧ Below w.heap.size w w' := by
  have D := Lib.hid (fun W hW => Ha.dealt_calls v xs hx8 W (slb_below hS hW))
  have e0 : ∀ q, mD xs q = dl (od xs) q 52 := fun q => rfl
  rw [e0, e0, e0, e0]
  obtain ⟨d0, h0⟩ : ∃ d, dl (od xs) 0 52 = d := ⟨_, rfl⟩
  obtain ⟨d1, h1⟩ : ∃ d, dl (od xs) 1 52 = d := ⟨_, rfl⟩
  obtain ⟨d2, h2⟩ : ∃ d, dl (od xs) 2 52 = d := ⟨_, rfl⟩
  obtain ⟨d3, h3⟩ : ∃ d, dl (od xs) 3 52 = d := ⟨_, rfl⟩
  rw [h0, h1, h2, h3] at D ⊢
  clear e0 h0 h1 h2 h3 hS hx8
  go_enter Tryd.func16, Tryd.ntmps16
  go_wp2_with (go_at_call 27; refine (D.out _ (by repeat (first | (with_reducible exact Below.refl _ _) | ((with_reducible refine below_grow ?_ ?_); rotate_left; focus (first | omega | (simp [go_sem]; done) | (simp [go_sem]; omega))) | ((with_reducible refine Below.alloc ?_ ?_ _); rotate_left; focus (first | omega | (simp [go_sem]; done) | (simp [go_sem]; omega))) | ((with_reducible refine Below.setCell ?_ ?_ _); rotate_left; focus (first | omega | (simp [go_sem]; done) | (simp [go_sem]; omega))) | (with_reducible refine Below.drew ?_) | (with_reducible refine below_drewN _ ?_)))).mono ?_; rintro e w9 ⟨rfl, hbel⟩; obtain ⟨o1, j1, rfl⟩ := grow_of_below hbel; clear hbel)
  refine bodyPost_ret (by simp [results, Tryd.results16, go_sem]) rfl ⟨rfl, ?_⟩
  repeat (first | (with_reducible exact Below.refl _ _) | ((with_reducible refine below_grow ?_ ?_); rotate_left; focus (first | omega | (simp [go_sem]; done) | (simp [go_sem]; omega))) | ((with_reducible refine Below.alloc ?_ ?_ _); rotate_left; focus (first | omega | (simp [go_sem]; done) | (simp [go_sem]; omega))) | ((with_reducible refine Below.setCell ?_ ?_ _); rotate_left; focus (first | omega | (simp [go_sem]; done) | (simp [go_sem]; omega))) | (with_reducible refine Below.drew ?_) | (with_reducible refine below_drewN _ ?_))
end Go.Proofs.YtalklogopepjpaaDoor.Ca
