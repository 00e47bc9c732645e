/- Auctions: slices.IsSorted of a sorted list; a slice's first part; plain facts for the stage's theorem. -/
import Derived.Test.YtacgikhedhiaaaaDoorLS
namespace Go.Proofs.YtacgikhedhiaaaaDoor
open Go.RowKit

theorem isNaN_calls (a : Nat) (w : World) : Calls Tryd.prog 69 #[.int .u8 a] w fun e w' => e = .returned (.bool false) ∧ w = w' := by
  go_enter Tryd.func69, Tryd.ntmps69
  go_wp2
  go_ret
  exact ⟨by simp, rfl⟩
theorem less_calls (a b : Nat) (h : ¬ a < b) (w : World) : Calls Tryd.prog 43 #[.int .u8 a, .int .u8 b] w fun e w' => e = .returned (.bool false) ∧ w = w' := by
  have N := Lib.hid (isNaN_calls a)
  have h' : ¬ (a : Int) < b := by omega
  go_enter Tryd.func43, Tryd.ntmps43
  go_wp2_with (go_at_call 69; refine (N.out _).mono ?_; rintro e w9 ⟨rfl, rfl⟩)
  go_ret
  exact ⟨by simp [h'], rfl⟩
set_option maxRecDepth 100000 in
set_option maxHeartbeats 8000000 in
theorem sorted_calls (v : Value) (l : List Nat) (B : Nat) (w : World) (hn : l.length ≤ 100000) (hs : ∀ j a b, l[j]? = some a → l[j + 1]? = some b → a ≤ b) (hrow : w.ownsRow B 5 1 v l.length (l.map u8v)) :
    Calls Tryd.prog 16 #[v] w fun e w' => e = .returned (.bool true) ∧ Below w.heap.size w w' := by
  obtain ⟨p, c, rfl, hc, hx⟩ := (slb_own hrow).1
  obtain ⟨n, hxn⟩ : ∃ n, l.length = n := ⟨_, rfl⟩
  rw [hxn] at hc hn ⊢
  have e0 : IntKind.i64.wrap ((n : Int) - 1) = (n : Int) - 1 := IntWalk.i64_in _ (by omega)
  have HX := Lib.hid hx
  clear hx hrow
  go_enter Tryd.func16, Tryd.ntmps16
  go_wp2
  go_loopw [3] (fun s3 wr => ∃ k : Nat, s3 = .int .i64 ((k : Int) - 1) ∧ k ≤ n ∧ Below w.heap.size w wr) (fun s3 _ => ((intOf s3) + 1).toNat)
  case atStart => exact ⟨n, rfl, Nat.le_refl _, Below.refl _ _⟩
  case round =>
    obtain ⟨k, rfl, hk, cb⟩ := hrel
    by_cases h2 : 2 ≤ k
    · obtain ⟨m, rfl⟩ : ∃ m, k = m + 2 := ⟨k - 2, by omega⟩
      have e1 : ((m + 2 : Nat) : Int) - 1 = ((m + 1 : Nat) : Int) := by omega
      rw [e1]
      have e2 : IntKind.i64.wrap (((m + 1 : Nat) : Int) - 1) = (m : Int) := by rw [IntWalk.i64_in _ (by omega)]; omega
      have hpos : (0 : Int) < ((m + 1 : Nat) : Int) := by omega
      have hmn : ((m + 1 : Nat) : Int) < n := by omega
      have hmn2 : (m : Int) < n := by omega
      obtain ⟨b, off, rfl, hb, hx⟩ := HX.out (by rintro rfl; simp at hxn; omega)
      obtain ⟨a, ha⟩ : ∃ a, l[m]? = some a := ⟨_, List.getElem?_eq_getElem (by omega)⟩
      obtain ⟨a1, ha1⟩ : ∃ a, l[m + 1]? = some a := ⟨_, List.getElem?_eq_getElem (by omega)⟩
      have k0 : wr.cell? ⟨b, off + m, none⟩ = some (.int .u8 a) := (cb.cell (p := ⟨b, off + m, none⟩) hb).trans (hx m a ha)
      obtain ⟨m1, hm1⟩ : ∃ m1, m + 1 = m1 := ⟨_, rfl⟩
      have k1 : wr.cell? ⟨b, off + m1, none⟩ = some (.int .u8 a1) := by rw [← hm1]; exact (cb.cell (p := ⟨b, off + (m + 1), none⟩) hb).trans (hx (m + 1) a1 ha1)
      have LS := Lib.hid (less_calls a1 a (by have := hs m a a1 ha ha1; omega))
      rw [hm1] at e2 hpos hmn ⊢
      have hm1' := Lib.hid hm1
      have CB := Lib.hid cb
      clear hx ha ha1 hm1 cb e1
      go_upto_region 4 with fail
      go_region_with (first | (go_at_call 43; refine (LS.out _).mono ?_; rintro e w8 ⟨rfl, rfl⟩))
      all_goals go_wp2
      all_goals (go_roundw <;> first | exact ⟨m + 1, by congr 1; omega, by omega, by repeat (first | (with_reducible exact CB.out) | ((with_reducible refine below_grow ?_ ?_); rotate_left; focus (first | omega | (simp [go_sem]; done) | (simp [go_sem]; omega))) | ((with_reducible refine Below.alloc ?_ ?_ _); rotate_left; focus (first | omega | (simp [go_sem]; done) | (simp [go_sem]; omega))) | ((with_reducible refine Below.setCell ?_ ?_ _); rotate_left; focus (first | omega | (simp [go_sem]; done) | (simp [go_sem]; omega))) | (with_reducible refine Below.drew ?_) | (with_reducible refine below_drewN _ ?_))⟩ | (simp [intOf]; have := hm1'.out; omega))
    · have hneg : ¬ (0 : Int) < (k : Int) - 1 := by omega
      go_wp2
      refine bodyPost_ret (by simp [results, Tryd.results16, go_sem]) rfl ⟨rfl, ?_⟩
      repeat (first | (with_reducible exact cb) | ((with_reducible refine below_grow ?_ ?_); rotate_left; focus (first | omega | (simp [go_sem]; done) | (simp [go_sem]; omega))) | ((with_reducible refine Below.alloc ?_ ?_ _); rotate_left; focus (first | omega | (simp [go_sem]; done) | (simp [go_sem]; omega))) | ((with_reducible refine Below.setCell ?_ ?_ _); rotate_left; focus (first | omega | (simp [go_sem]; done) | (simp [go_sem]; omega))) | (with_reducible refine Below.drew ?_) | (with_reducible refine below_drewN _ ?_))
theorem slb_cut {p : Option Addr} {n c : Nat} {xs : List Nat} {w : World} (hS : SlB w (.slice p n c) xs) (m : Nat) (hm : m ≤ n) : ∃ p', (∀ W, (Instr.slice 22 (.slice p n c) none (some (.int .i64 m)) none).run Tryd.prog W = .ok (.slice p' m c) W) ∧ SlB w (.slice p' m c) (xs.take m) := by
  obtain ⟨p0, c0, e, h2, h3⟩ := id hS
  simp only [Value.slice.injEq] at e
  obtain ⟨rfl, rfl, rfl⟩ := e
  obtain ⟨p', hp⟩ := slice_u8 (p := p) m hm h2
  refine ⟨p', fun W => (hp W).1, ?_⟩
  by_cases h0 : m = 0
  · subst h0
    exact ⟨p', c, rfl, Nat.zero_le _, fun h => absurd rfl h⟩
  · obtain ⟨b, off, hb, -⟩ := h3 (by rintro rfl; simp at hm; omega)
    rw [(hp w).2 b off hb (by omega)]
    exact slb_take hS m hm
theorem lgl_sorted (s : St) : ∀ j a b, s.lgl[j]? = some a → s.lgl[j + 1]? = some b → a ≤ b := by
  intro j a b ha hb
  have hp : s.lgl.Pairwise (· < ·) := List.Pairwise.filter _ List.pairwise_lt_range
  obtain ⟨h1, rfl⟩ := List.getElem?_eq_some_iff.1 ha
  obtain ⟨h2, rfl⟩ := List.getElem?_eq_some_iff.1 hb
  exact Nat.le_of_lt (List.pairwise_iff_getElem.1 hp j (j + 1) h1 h2 (by omega))
theorem dcl_side (seat den : Nat) : ∀ (l : List Nat) (t : Nat), sd (dcl seat den t l) seat = true
  | [], t => by unfold dcl sd; simp
  | c :: r, t => by
    unfold dcl
    split
    · rename_i h
      simp only [Bool.and_eq_true] at h
      exact h.2
    · exact dcl_side seat den r _
/-- The state behind the first i calls. -/
theorem Rt.part {d : Nat} {l : List Nat} {s : St} (h : Rt d l s) (i : Nat) (hi : i ≤ l.length) : ∃ u, Rt d (l.take i) u ∧ St.run u (l.drop i) = some s ∧ u.Ok d i := by
  obtain ⟨u, h1, h2⟩ := St.run_part h.hr i
  have hr : Rt d (l.take i) u := ⟨h.hd, h1⟩
  refine ⟨u, hr, h2, ?_⟩
  have := hr.ok
  rwa [List.length_take, Nat.min_eq_left hi] at this
theorem run_head {u s : St} {c : Nat} {r : List Nat} (h : St.run u (c :: r) = some s) : u.ref c = 0 ∧ St.run (u.take c) r = some s := by
  unfold St.run at h
  split at h
  · rename_i hc; exact ⟨hc, h⟩
  · cases h
theorem drop_at {l : List Nat} {i a : Nat} (h : l[i]? = some a) : l.drop i = a :: l.drop (i + 1) := by
  obtain ⟨hl, rfl⟩ := List.getElem?_eq_some_iff.1 h
  exact List.drop_eq_getElem_cons hl
end Go.Proofs.YtacgikhedhiaaaaDoor
