/- Auctions: words in lines: rows. -/
import Derived.Test.YtacgikhedhiaaaaDoorLI
import Derived.Deep.RegionHeld3
namespace Go.Proofs.YtacgikhedhiaaaaDoor
open Go.RowKit

/-- A slice that holds a list of strings. -/
def SlT (W : World) (v : Value) (xs : List (List UInt8)) : Prop := ∃ p c, v = .slice p xs.length c ∧ xs.length ≤ c ∧ (xs ≠ [] → ∃ b off, p = some ⟨b, off, none⟩ ∧ b < W.heap.size ∧ ∀ j x, xs[j]? = some x → W.cell? ⟨b, off + j, none⟩ = some (strv x))
theorem slt_below {w W : World} {v : Value} {xs : List (List UInt8)} (h : SlT w v xs) (hb : Below w.heap.size w W) : SlT W v xs := by
  obtain ⟨p, c, h1, h2, h3⟩ := h
  refine ⟨p, c, h1, h2, fun hx => ?_⟩
  obtain ⟨b, off, rfl, hlt, hc⟩ := h3 hx
  have := hb.size
  exact ⟨b, off, rfl, by omega, fun j x hj => (hb.cell (p := ⟨b, off + j, none⟩) hlt).trans (hc j x hj)⟩
theorem slt_own {W : World} {base n : Nat} {v : Value} {xs : List (List UInt8)} (h : W.ownsRow base 9 1 v n (xs.map strv)) : SlT W v xs ∧ xs.length = n := by
  have hn : xs.length = n := by have := h.1; rw [List.length_map] at this; omega
  refine ⟨?_, hn⟩
  rcases h.2 with ⟨rfl, h0⟩ | ⟨g, cap, cur, rfl, hbg, hg, h1, h2, h3, h4⟩
  · have h00 : xs = [] := List.length_eq_zero_iff.1 (by omega)
    subst h00
    exact ⟨none, 0, rfl, Nat.le_refl _, fun h => absurd rfl h⟩
  · refine ⟨some ⟨g, 0, none⟩, cap, by rw [hn], by omega, fun _ => ⟨g, 0, rfl, lt_of_block hg, fun j x hj => ?_⟩⟩
    have hc := h.cells (g := g) rfl j (strv x) (by rw [List.getElem?_map, hj]; rfl)
    rw [show (⟨g, 0 + j, none⟩ : Addr) = (⟨g, 0, none⟩ : Addr).add j by unfold Addr.add; split <;> simp_all]
    exact hc
theorem Tryd.infoRow : (Tryd.prog.info? 95).map (fun i => (i.zero, i.size, i.bytes)) = some (some (.agg #[.string ⟨#[]⟩, .string ⟨#[]⟩, .string ⟨#[]⟩, .string ⟨#[]⟩]), 4, 64) := by kernel_rfl
theorem made4 (n j : Nat) (h : j < n) : (madeCells (Value.agg #[.string ⟨#[]⟩, .string ⟨#[]⟩, .string ⟨#[]⟩, .string ⟨#[]⟩]).cells n)[j]? = some (strv []) := by
  have h4 : j % 4 = 0 ∨ j % 4 = 1 ∨ j % 4 = 2 ∨ j % 4 = 3 := by omega
  rcases h4 with h4 | h4 | h4 | h4 <;> simp [madeCells, h, Value.cells, h4]
set_option maxRecDepth 100000 in
set_option maxHeartbeats 8000000 in
theorem rows_calls (v : Value) (ws : List (List UInt8)) (hn : ws.length ≤ 100000) (w : World) (hS : SlT w v ws) :
    Calls Tryd.prog 54 #[v] w fun e w' => (∃ q, e = .returned (.slice (some ⟨q, 0, none⟩) ((ws.length + 3) / 4) ((ws.length + 3) / 4)) ∧ q < w'.heap.size ∧ ∀ i, i < 4 * ((ws.length + 3) / 4) → w'.cell? ⟨q, i, none⟩ = some (strv (ws.getD i []))) ∧ Below w.heap.size w w' := by
  obtain ⟨i0, hi, hz0, hz1, hz2⟩ := info_parts Tryd.infoRow
  obtain ⟨p, c, rfl, hc, hx⟩ := hS
  obtain ⟨n, hxn⟩ : ∃ n, ws.length = n := ⟨_, rfl⟩
  rw [hxn] at hc hn ⊢
  obtain ⟨R, hR⟩ : ∃ R, (n + 3) / 4 = R := ⟨_, rfl⟩
  rw [hR]
  have e1 : IntKind.i64.wrap ((n : Int) + 4) = (n : Int) + 4 := IntWalk.i64_in _ (by omega)
  have e2 : IntKind.i64.wrap ((n : Int) + 4 - 1) = (n : Int) + 3 := by rw [IntWalk.i64_in _ (by omega)]; omega
  have e3 : ((n : Int) + 3).tdiv 4 = R := by rw [Int.tdiv_eq_ediv_of_nonneg (by omega)]; omega
  have e4 : IntKind.i64.wrap (R : Int) = R := IntWalk.i64_in _ (by omega)
  have HX := Lib.hid hx
  have HR := Lib.hid hR
  clear hx hR
  go_enter Tryd.func54, Tryd.ntmps54
  go_upto_region 3 with (first | (at_make; refine wpList_make_full _ rfl _ _ 92 rfl w.heap.size 95 i0 _ 4 Tryd.underlying92 hi hz0 hz1 _ _ _ _ R rfl rfl rfl rfl (by rw [hz2]; have := HR.out; omega) (by have := HR.out; unfold maxLen; omega) (Nat.le_refl _) ?_; intro w1 hown1 hgrow1))
  have hb1 : Below w.heap.size w w1 := (Below.refl _ w).grown hgrow1 (Nat.le_refl _) (fun k e => by cases e)
  obtain ⟨q, hq⟩ : ∃ q, w.heap.size = q := ⟨_, rfl⟩
  obtain ⟨cur, hcur, hcs⟩ : ∃ cur : Array Value, blk w1 w.heap.size cur 95 ∧ ∀ j, j < 4 * R → cur[j]? = some (strv []) := by
    rcases hown1.2 with ⟨h, _⟩ | ⟨g, cap, cur, h, _, hg, h1, h2, h3, h4⟩
    · cases h
    · simp only [Value.slice.injEq, Option.some.injEq, Addr.mk.injEq, and_true, true_and] at h
      obtain ⟨rfl, rfl⟩ := h
      refine ⟨cur, hg, fun j hj => ?_⟩
      have h5 := congrArg (·[j]?) h4
      simp only [List.getElem?_take, if_pos (show j < R * 4 by omega), Array.getElem?_toList] at h5
      rw [h5]
      exact made4 _ j (by omega)
  clear hown1 hgrow1
  rw [hq] at hcur ⊢
  go_wp2
  go_loopw [5, 6, 17] (fun _ _ s17 wr => ∃ (i : Nat) (cur : Array Value), s17 = .int .i64 i ∧ i ≤ n ∧ blk wr q cur 95 ∧ (∀ j, j < 4 * R → cur[j]? = some (strv ((ws.take i).getD j []))) ∧ Below w.heap.size w wr) (fun _ _ s17 _ => n - (intOf s17).toNat)
  case atStart => exact ⟨0, cur, rfl, Nat.zero_le _, hcur, by simpa using hcs, hb1⟩
  case round =>
    obtain ⟨i, cur, rfl, hin, hB, hcs, cb⟩ := hrel
    by_cases hlt : i < n
    · have hlt2 : (i : Int) < n := by omega
      have hne : ws ≠ [] := by rintro rfl; simp at hxn; omega
      obtain ⟨b1, o1, rfl, hb1, hx⟩ := HX.out hne
      obtain ⟨a, ha⟩ : ∃ a, ws[i]? = some a := ⟨_, List.getElem?_eq_getElem (by omega)⟩
      have k1 : wr.cell? ⟨b1, o1 + i, none⟩ = some (strv a) := (cb.cell (p := ⟨b1, o1 + i, none⟩) hb1).trans (hx i a ha)
      have f1 : IntKind.i64.wrap ((i : Int) + 1) = (i : Int) + 1 := IntWalk.i64_in _ (by omega)
      obtain ⟨x, hx4⟩ : ∃ x, i / 4 = x := ⟨_, rfl⟩
      obtain ⟨y, hy4⟩ : ∃ x, i % 4 = x := ⟨_, rfl⟩
      have f2 : (i : Int).tdiv 4 = x := by rw [Int.tdiv_eq_ediv_of_nonneg (by omega)]; omega
      have f3 : (i : Int).tmod 4 = y := by rw [Int.tmod_eq_emod_of_nonneg (by omega)]; omega
      have f4 : IntKind.i64.wrap (x : Int) = x := IntWalk.i64_in _ (by omega)
      have f5 : IntKind.i64.wrap (y : Int) = y := IntWalk.i64_in _ (by omega)
      have hxR : x < R := by have := HR.out; omega
      have hxR2 : (x : Int) < R := by omega
      have hyR : y < 4 := by omega
      have hyR2 : (y : Int) < 4 := by omega
      have HI := Lib.hid (show x * 4 + y = i by omega)
      have kq : wr.cell? ⟨q, x * 4 + y, none⟩ = some (strv ((ws.take i).getD i [])) := (blk_cell hB _).trans (by rw [HI.out]; exact hcs i (by have := HR.out; omega))
      have fq := blk_free hB (x * 4 + y)
      have HB := Lib.hid hB
      have HC := Lib.hid hcs
      have CB := Lib.hid cb
      have HA := Lib.hid ha
      clear hB hcs cb ha hx hne hx4 hy4
      go_upto_region 6 with fail
      go_region
      go_wp2
      go_roundw
      case rel =>
        refine ⟨i + 1, _, by go_num, by omega, blk_drew (blk_set HB.out (x * 4 + y) (strv a)), ?_, by repeat (first | (with_reducible exact CB.out) | ((with_reducible refine below_grow ?_ ?_); rotate_left; focus (first | omega | (simp [go_sem]; done) | (simp [go_sem]; omega))) | ((with_reducible refine Below.alloc ?_ ?_ _); rotate_left; focus (first | omega | (simp [go_sem]; done) | (simp [go_sem]; omega))) | ((with_reducible refine Below.setCell ?_ ?_ _); rotate_left; focus (first | omega | (simp [go_sem]; done) | (simp [go_sem]; omega))) | (with_reducible refine Below.drew ?_) | (with_reducible refine below_drewN _ ?_))⟩
        intro j hj
        rw [HI.out, Array.getElem?_setIfInBounds]
        by_cases hji : i = j
        · subst hji
          rw [if_pos rfl, if_pos (by have := HC.out i hj; exact (Array.getElem?_eq_some_iff.1 this).1)]
          rw [List.getD_eq_getElem?_getD, List.getElem?_take, if_pos (by omega), HA.out]; rfl
        · rw [if_neg hji, HC.out j hj]
          congr 2
          rw [List.getD_eq_getElem?_getD, List.getD_eq_getElem?_getD, List.getElem?_take, List.getElem?_take]
          by_cases h2 : j < i
          · rw [if_pos h2, if_pos (by omega)]
          · rw [if_neg h2, if_neg (by omega)]
      case measure => simp [intOf]; omega
    · obtain rfl : i = n := by omega
      go_wp2
      refine bodyPost_ret (by simp [results, Tryd.results54, go_sem]) rfl ⟨⟨q, rfl, blk_lt hB, fun j hj => ?_⟩, cb⟩
      rw [blk_cell hB, hcs j hj, List.take_of_length_le (by omega)]
end Go.Proofs.YtacgikhedhiaaaaDoor
