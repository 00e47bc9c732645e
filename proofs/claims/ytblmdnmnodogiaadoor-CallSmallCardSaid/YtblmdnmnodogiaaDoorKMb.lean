/- OverBytes: what is written over lies in the list's own block. -/
import Derived.Test.YtblmdnmnodogiaaDoorKM
namespace Go.Proofs.YtblmdnmnodogiaaDoor
open Go.RowKit

theorem slice_to {g m c : Nat} (hm : m ≤ c) {n : Nat} (W : World) : (Instr.slice 24 (.slice (some ⟨g, 0, none⟩) n c) none (some (.int .i64 m)) none).run Tryd.prog W = .ok (.slice (some ⟨g, 0, none⟩) m c) W := by
  have z := Tryd.sizeOf5
  have u := Tryd.underlying24
  have hm2 : (m : Int) ≤ c := by omega
  by_cases hc : c = 0
  · subst hc
    obtain rfl : m = 0 := by omega
    simp [go_sem, *]
  · simp [go_sem, *, Addr.add]
set_option maxRecDepth 100000 in
set_option maxHeartbeats 4000000 in
theorem over_calls (v : Value) (B n : Nat) (cs : List Value) (w : World) (hn : n ≤ 10000) (hrow : w.ownsRow B 5 1 v n cs) :
    Calls Tryd.prog 36 #[v] w fun e w' => (∃ u, e = .returned u) ∧ Below B w w' := by
  rcases hrow.2 with ⟨rfl, rfl⟩ | ⟨g, cap, cur, rfl, hg, hblk, hnc, hml, hsz, -⟩
  · go_enter Tryd.func36, Tryd.ntmps36
    go_wp2
    go_loopw [3] (fun s3 wr => s3 = .int .i64 0 ∧ Below B w wr) (fun _ _ => 0)
    case atStart => exact ⟨rfl, Below.refl _ _⟩
    case round =>
      obtain ⟨rfl, cb⟩ := hrel
      go_wp2
      go_end0
      exact ⟨⟨_, rfl⟩, cb⟩
  · rw [Nat.mul_one] at hsz
    have hcb : (cap : Int) ≤ 9223372036854775807 := by unfold maxLen at hml; omega
    obtain ⟨m, hm⟩ : ∃ m, min cap (n + 12) = m := ⟨_, rfl⟩
    have e1 : IntKind.i64.wrap ((n : Int) + 12) = (n : Int) + 12 := IntWalk.i64_in _ (by omega)
    have e2 : min (cap : Int) ((n : Int) + 12) = m := by omega
    have S := fun W => slice_to (g := g) (m := m) (c := cap) (by omega) (n := n) W
    have HM := Lib.hid (show m ≤ cap ∧ m ≤ n + 12 by omega)
    have hb0 : blk w g cur 5 := hblk
    clear hrow hblk hml hcb hm
    go_enter Tryd.func36, Tryd.ntmps36
    go_wp2
    go_loopw [3] (fun s3 wr => ∃ i : Nat, s3 = .int .i64 i ∧ i ≤ m ∧ (∃ cur, blk wr g cur 5 ∧ cur.size = cap) ∧ Below B w wr) (fun s3 _ => m - (intOf s3).toNat)
    case atStart => exact ⟨0, rfl, Nat.zero_le _, ⟨cur, hb0, hsz⟩, Below.refl _ _⟩
    case round =>
      obtain ⟨i, rfl, hi, ⟨cur', hb', hsz'⟩, cb⟩ := hrel
      clear hb0 hsz
      by_cases hlt : i < m
      · have hlt2 : (i : Int) < m := by omega
        have hM := HM.out
        have K := Lib.hid (markByte_calls 2 i (by decide) (by omega))
        obtain ⟨x, hx⟩ : ∃ x, mb 2 i = x := ⟨_, rfl⟩
        rw [hx] at K
        have K : Hid (∀ w : World, Calls Tryd.prog 53 #[.int .i64 2, .int .i64 i] w fun e w' => e = .returned (.int .u8 (x : Nat)) ∧ w = w') := K
        have u1 : IntKind.i64.wrap ((i : Int) + 1) = (i : Int) + 1 := IntWalk.i64_in _ (by omega)
        obtain ⟨y, hy⟩ : ∃ y, cur'[i]? = some y := ⟨_, Array.getElem?_eq_getElem (by omega)⟩
        have k0 := (blk_cell hb' i).trans hy
        have f0 := blk_free hb' i
        have HB := Lib.hid hb'
        have HS := Lib.hid hsz'
        have CB := Lib.hid cb
        clear hx hy hM hb' hsz' cb
        go_wp2_with (go_at_call 53; refine (K.out _).mono ?_; rintro e w9 ⟨rfl, rfl⟩)
        go_roundw
        case rel => exact ⟨i + 1, by go_num, by omega, ⟨_, blk_set HB.out i _, by simp [HS.out]⟩, CB.out.setCell (p := ⟨g, i, none⟩) hg _⟩
        case measure => simp [intOf]; omega
      · obtain rfl : i = m := by omega
        go_wp2
        go_end0
        exact ⟨⟨_, rfl⟩, cb⟩
end Go.Proofs.YtblmdnmnodogiaaDoor
