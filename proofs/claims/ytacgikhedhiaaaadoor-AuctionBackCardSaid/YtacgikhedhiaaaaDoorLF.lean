/- Auctions: follow, right, open, Check, Over, Turn. -/
import Derived.Test.YtacgikhedhiaaaaDoorLE
namespace Go.Proofs.YtacgikhedhiaaaaDoor
open Go.RowKit

theorem slb_at {W : World} {v : Value} {xs : List Nat} (h : SlB W v xs) : ∃ p c, v = .slice p xs.length c ∧ xs.length ≤ c := by
  obtain ⟨p, c, h1, h2, _⟩ := h
  exact ⟨p, c, h1, h2⟩
set_option maxRecDepth 100000 in
set_option maxHeartbeats 8000000 in
theorem follow_calls (d : Nat) (hd : d < 256) (v : Value) (xs : List Nat) (h8 : ∀ x ∈ xs, x < 256) (hn : xs.length ≤ 1000000) (w : World) (hS : SlB w v xs) :
    Calls Tryd.prog 51 #[.int .u8 d, v] w fun e w' => e = .returned (if d < 4 then .tuple #[stV ((st0 d).fol 0 xs).1, .int .i64 ((st0 d).fol 0 xs).2.1, .int .i64 (((st0 d).fol 0 xs).2.2 : Nat)] else .tuple #[stV ⟨0, 0, 0, 0, 0⟩, .int .i64 (-1), .int .i64 2]) ∧ Below w.heap.size w w' := by
  obtain ⟨p, c, rfl, hc, hxc⟩ := hS
  obtain ⟨n, hxn⟩ : ∃ n, xs.length = n := ⟨_, rfl⟩
  rw [hxn] at hc hn ⊢
  by_cases h4 : d < 4
  · have h4' : ¬ (4 : Int) ≤ d := by omega
    rw [if_pos h4]
    obtain ⟨T, hT⟩ : ∃ T, (st0 d).fol 0 xs = T := ⟨_, rfl⟩
    rw [hT]
    have HT := Lib.hid hT
    have HX := Lib.hid hxc
    clear hT hxc
    go_enter Tryd.func51, Tryd.ntmps51
    go_wp2
    go_loopw [8, 9, 10, 18] (fun _ _ _ s18 wr => ∃ (i : Nat) (s : St), s18 = .int .i64 i ∧ i ≤ n ∧ s.Ok d i ∧ s.fol i (xs.drop i) = T ∧ blk wr w.heap.size (stC ⟨0, 0, 0, 0, 0⟩) 79 ∧ blk wr (w.heap.size + 1) (stC s) 79 ∧ Below w.heap.size w wr) (fun _ _ _ s18 _ => n - (intOf s18).toNat)
    case atStart => exact ⟨0, st0 d, rfl, Nat.zero_le _, St.ok0 d h4, HT.out, blk_alloc (blk_new _ _ _) _, blk_at _ _ _ (by simp), by repeat (first | (with_reducible exact Below.refl _ _) | ((with_reducible refine below_grow ?_ ?_); rotate_left; focus (first | omega | (simp [go_sem]; done) | (simp [go_sem]; omega))) | ((with_reducible refine Below.alloc ?_ ?_ _); rotate_left; focus (first | omega | (simp [go_sem]; done) | (simp [go_sem]; omega))) | ((with_reducible refine Below.setCell ?_ ?_ _); rotate_left; focus (first | omega | (simp [go_sem]; done) | (simp [go_sem]; omega))) | (with_reducible refine Below.drew ?_) | (with_reducible refine below_drewN _ ?_))⟩
    case round =>
      obtain ⟨i, s, rfl, hi, ok, hT, bR, bS, cb⟩ := hrel
      by_cases hlt : i < n
      · have hlt2 : (i : Int) < n := by omega
        have hne : xs ≠ [] := by rintro rfl; simp at hxn; omega
        obtain ⟨b1, o1, rfl, hb1, hx⟩ := HX.out hne
        obtain ⟨a, ha⟩ : ∃ a, xs[i]? = some a := ⟨_, List.getElem?_eq_getElem (by omega)⟩
        have a8 := h8 a (List.mem_of_getElem? ha)
        have k1 : wr.cell? ⟨b1, o1 + i, none⟩ = some (.int .u8 a) := (cb.cell (p := ⟨b1, o1 + i, none⟩) hb1).trans (hx i a ha)
        have e1 : IntKind.i64.wrap ((i : Int) + 1) = (i : Int) + 1 := IntWalk.i64_in _ (by omega)
        have hdrop : xs.drop i = a :: xs.drop (i + 1) := by
          obtain ⟨hl, rfl⟩ := List.getElem?_eq_some_iff.1 ha
          exact List.drop_eq_getElem_cons hl
        rw [hdrop] at hT
        have R := Lib.hid (refuses_calls s ok.by a a8)
        obtain ⟨m0, m1, m2, m3, m4⟩ := st_cells bS
        have BR := Lib.hid bR
        have BS := Lib.hid bS
        have CB := Lib.hid cb
        have hbs := cb.size
        have hbl := blk_lt bS
        clear ha hx hne hdrop bR bS cb
        by_cases hr : s.ref a = 0
        · have TK := Lib.hid (take_calls s ok.by a (w.heap.size + 1) (St.ref_zero hr).1)
          rw [hr] at R
          rw [St.fol, if_pos hr] at hT
          have OK := Lib.hid (ok.next hr)
          have HT2 := Lib.hid hT
          clear hT ok hr
          go_wp2_with (first | (go_at_call 71; refine (R.out _).mono ?_; rintro e w9 ⟨rfl, hbel⟩; obtain ⟨o1, j1, rfl⟩ := grow_of_below hbel; clear hbel) | (go_at_call 72; refine (TK.out _ (by repeat (first | (with_reducible exact BS.out) | (with_reducible exact set4 BS.out _ _ _ _) | (with_reducible refine blk_grow ?_ _ _) | (with_reducible refine blk_alloc ?_ _) | (with_reducible refine blk_drew ?_) | (with_reducible refine blk_other ?_ (by (first | omega | (simp [go_sem]; done) | (simp [go_sem]; omega))) _)))).mono ?_; rintro e w9 ⟨⟨v9, rfl⟩, hbs9, hbel9⟩))
          go_roundw
          case rel => exact ⟨i + 1, s.take a, by go_num, by omega, OK.out, HT2.out, blk_below (by repeat (first | (with_reducible exact BR.out) | (with_reducible exact set4 BR.out _ _ _ _) | (with_reducible refine blk_grow ?_ _ _) | (with_reducible refine blk_alloc ?_ _) | (with_reducible refine blk_drew ?_) | (with_reducible refine blk_other ?_ (by (first | omega | (simp [go_sem]; done) | (simp [go_sem]; omega))) _))) hbel9 (by simp), hbs9, Below.trans (by repeat (first | (with_reducible exact CB.out) | ((with_reducible refine below_grow ?_ ?_); rotate_left; focus (first | omega | (simp [go_sem]; done) | (simp [go_sem]; omega))) | ((with_reducible refine Below.alloc ?_ ?_ _); rotate_left; focus (first | omega | (simp [go_sem]; done) | (simp [go_sem]; omega))) | ((with_reducible refine Below.setCell ?_ ?_ _); rotate_left; focus (first | omega | (simp [go_sem]; done) | (simp [go_sem]; omega))) | (with_reducible refine Below.drew ?_) | (with_reducible refine below_drewN _ ?_))) (hbel9.mono (by simp))⟩
          case measure => simp [intOf]; omega
        · have hr2 : ¬ (s.ref a : Int) = 0 := by omega
          rw [St.fol, if_neg hr] at hT
          subst hT
          obtain ⟨q0, q1, q2, q3, q4⟩ := st_cells BR.out
          have f := blk_free BR.out
          have f0 := f 0
          have f1 := f 1
          have f2 := f 2
          have f3 := f 3
          have f4 := f 4
          haveI := inW_mk (blk_lt BR.out)
          clear ok hr f
          go_wp2_with (first | (go_at_call 71; refine (R.out _).mono ?_; rintro e w9 ⟨rfl, hbel⟩; obtain ⟨o1, j1, rfl⟩ := grow_of_below hbel; clear hbel))
          refine bodyPost_ret (by simp [results, Tryd.results51, go_sem, q0, q1, q2, q3, q4]) rfl ⟨rfl, ?_⟩
          have hbs := CB.out.size
          repeat (first | (with_reducible exact CB.out) | ((with_reducible refine below_grow ?_ ?_); rotate_left; focus (first | omega | (simp [go_sem]; done) | (simp [go_sem]; omega))) | ((with_reducible refine Below.alloc ?_ ?_ _); rotate_left; focus (first | omega | (simp [go_sem]; done) | (simp [go_sem]; omega))) | ((with_reducible refine Below.setCell ?_ ?_ _); rotate_left; focus (first | omega | (simp [go_sem]; done) | (simp [go_sem]; omega))) | (with_reducible refine Below.drew ?_) | (with_reducible refine below_drewN _ ?_))
      · obtain rfl : i = n := by omega
        rw [List.drop_of_length_le (by omega), St.fol] at hT
        subst hT
        obtain ⟨m0, m1, m2, m3, m4⟩ := st_cells bS
        obtain ⟨q0, q1, q2, q3, q4⟩ := st_cells bR
        have f := blk_free bR
        have f0 := f 0
        have f1 := f 1
        have f2 := f 2
        have f3 := f 3
        have f4 := f 4
        clear f
        go_wp2
        refine bodyPost_ret (by simp [results, Tryd.results51, go_sem, q0, q1, q2, q3, q4]) rfl ⟨rfl, ?_⟩
        repeat (first | (with_reducible exact cb) | ((with_reducible refine below_grow ?_ ?_); rotate_left; focus (first | omega | (simp [go_sem]; done) | (simp [go_sem]; omega))) | ((with_reducible refine Below.alloc ?_ ?_ _); rotate_left; focus (first | omega | (simp [go_sem]; done) | (simp [go_sem]; omega))) | ((with_reducible refine Below.setCell ?_ ?_ _); rotate_left; focus (first | omega | (simp [go_sem]; done) | (simp [go_sem]; omega))) | (with_reducible refine Below.drew ?_) | (with_reducible refine below_drewN _ ?_))
  · have h4' : (4 : Int) ≤ d := by omega
    rw [if_neg h4]
    clear hxc
    go_enter Tryd.func51, Tryd.ntmps51
    go_wp2
    refine bodyPost_ret (by simp [results, Tryd.results51, go_sem]) rfl ⟨rfl, ?_⟩
    repeat (first | (with_reducible exact Below.refl _ _) | ((with_reducible refine below_grow ?_ ?_); rotate_left; focus (first | omega | (simp [go_sem]; done) | (simp [go_sem]; omega))) | ((with_reducible refine Below.alloc ?_ ?_ _); rotate_left; focus (first | omega | (simp [go_sem]; done) | (simp [go_sem]; omega))) | ((with_reducible refine Below.setCell ?_ ?_ _); rotate_left; focus (first | omega | (simp [go_sem]; done) | (simp [go_sem]; omega))) | (with_reducible refine Below.drew ?_) | (with_reducible refine below_drewN _ ?_))
/-- What an auction is: its dealer and its calls, with the state behind them. -/
structure Rt (d : Nat) (xs : List Nat) (s : St) : Prop where
  hd : d < 4
  hr : (st0 d).run xs = some s
theorem Rt.lt {d : Nat} {xs : List Nat} {s : St} (h : Rt d xs s) : ∀ x ∈ xs, x < 256 := fun x hx => by have := St.run_lt h.hr x hx; omega
theorem Rt.ok {d : Nat} {xs : List Nat} {s : St} (h : Rt d xs s) : s.Ok d xs.length := St.ok_of h.hd h.hr
theorem Rt.len {d : Nat} {xs : List Nat} {s : St} (h : Rt d xs s) : xs.length ≤ 319 := h.ok.len_le
/-- What is not: no seat, or a call that is not legal. -/
def Wg (d : Nat) (xs : List Nat) : Prop := ¬ d < 4 ∨ (st0 d).run xs = none
/-- Calls of bytes, not too many. -/
structure Bts (d : Nat) (xs : List Nat) : Prop where
  hd : d < 256
  h8 : ∀ x ∈ xs, x < 256
  hn : xs.length ≤ 1000000
theorem Rt.bts {d : Nat} {xs : List Nat} {s : St} (h : Rt d xs s) : Bts d xs := ⟨by have := h.hd; omega, h.lt, by have := h.len; omega⟩
theorem follow_rt (d : Nat) (v : Value) (xs : List Nat) (s : St) (h : Rt d xs s) (w : World) (hS : SlB w v xs) :
    Calls Tryd.prog 51 #[.int .u8 d, v] w fun e w' => e = .returned (.tuple #[stV s, .int .i64 (-1), .int .i64 0]) ∧ Below w.heap.size w w' := by
  have F := follow_calls d (by have := h.hd; omega) v xs h.lt (by have := h.len; omega) w hS
  rwa [if_pos h.hd, St.fol_run h.hr] at F
theorem follow_wg (d : Nat) (v : Value) (xs : List Nat) (h : Wg d xs) (b : Bts d xs) (w : World) (hS : SlB w v xs) :
    Calls Tryd.prog 51 #[.int .u8 d, v] w fun e w' => (∃ i x : Int, e = .returned (.tuple #[stV ⟨0, 0, 0, 0, 0⟩, .int .i64 i, .int .i64 x]) ∧ x ≠ 0) ∧ Below w.heap.size w w' := by
  have F := follow_calls d b.hd v xs b.h8 b.hn w hS
  by_cases hd : d < 4
  · rw [if_pos hd] at F
    have := St.fol_none (i := 0) (h.resolve_left (fun x => x hd))
    rw [this.1] at F
    exact F.mono fun e w' h => ⟨⟨_, _, h.1, by have := this.2; omega⟩, h.2⟩
  · rw [if_neg hd] at F
    exact F.mono fun e w' h => ⟨⟨_, _, h.1, by decide⟩, h.2⟩
theorem aright_yes (d : Nat) (v : Value) (xs : List Nat) (s : St) (h : Rt d xs s) (w : World) (hS : SlB w v xs) :
    Calls Tryd.prog 45 #[.int .u8 d, v] w fun e w' => e = .returned (.tuple #[stV s, .int .i64 0]) ∧ Below w.heap.size w w' := by
  have F := Lib.hid (fun W (hb : Below w.heap.size w W) => follow_rt d v xs s h W (slb_below hS hb))
  clear h hS
  go_enter Tryd.func45, Tryd.ntmps45
  go_wp2_with (go_at_call 51; refine (F.out _ (by repeat (first | (with_reducible exact Below.refl _ _) | ((with_reducible refine below_grow ?_ ?_); rotate_left; focus (first | omega | (simp [go_sem]; done) | (simp [go_sem]; omega))) | ((with_reducible refine Below.alloc ?_ ?_ _); rotate_left; focus (first | omega | (simp [go_sem]; done) | (simp [go_sem]; omega))) | ((with_reducible refine Below.setCell ?_ ?_ _); rotate_left; focus (first | omega | (simp [go_sem]; done) | (simp [go_sem]; omega))) | (with_reducible refine Below.drew ?_) | (with_reducible refine below_drewN _ ?_)))).mono ?_; rintro e w9 ⟨rfl, hbel⟩; obtain ⟨o1, j1, rfl⟩ := grow_of_below hbel; clear hbel)
  refine bodyPost_ret (by simp [results, Tryd.results45, go_sem]) rfl ⟨rfl, ?_⟩
  repeat (first | (with_reducible exact Below.refl _ _) | ((with_reducible refine below_grow ?_ ?_); rotate_left; focus (first | omega | (simp [go_sem]; done) | (simp [go_sem]; omega))) | ((with_reducible refine Below.alloc ?_ ?_ _); rotate_left; focus (first | omega | (simp [go_sem]; done) | (simp [go_sem]; omega))) | ((with_reducible refine Below.setCell ?_ ?_ _); rotate_left; focus (first | omega | (simp [go_sem]; done) | (simp [go_sem]; omega))) | (with_reducible refine Below.drew ?_) | (with_reducible refine below_drewN _ ?_))
theorem aright_no (d : Nat) (v : Value) (xs : List Nat) (h : Wg d xs) (b : Bts d xs) (w : World) (hS : SlB w v xs) :
    Calls Tryd.prog 45 #[.int .u8 d, v] w fun e w' => e = .returned (.tuple #[stV ⟨0, 0, 0, 0, 0⟩, .int .i64 2]) ∧ Below w.heap.size w w' := by
  have F := Lib.hid (fun W (hb : Below w.heap.size w W) => follow_wg d v xs h b W (slb_below hS hb))
  clear h hS b
  go_enter Tryd.func45, Tryd.ntmps45
  go_wp2_with (go_at_call 51; refine (F.out _ (by repeat (first | (with_reducible exact Below.refl _ _) | ((with_reducible refine below_grow ?_ ?_); rotate_left; focus (first | omega | (simp [go_sem]; done) | (simp [go_sem]; omega))) | ((with_reducible refine Below.alloc ?_ ?_ _); rotate_left; focus (first | omega | (simp [go_sem]; done) | (simp [go_sem]; omega))) | ((with_reducible refine Below.setCell ?_ ?_ _); rotate_left; focus (first | omega | (simp [go_sem]; done) | (simp [go_sem]; omega))) | (with_reducible refine Below.drew ?_) | (with_reducible refine below_drewN _ ?_)))).mono ?_; rintro e w9 ⟨⟨i, x, rfl, hx⟩, hbel⟩; obtain ⟨o1, j1, rfl⟩ := grow_of_below hbel; clear hbel)
  refine bodyPost_ret (by simp [results, Tryd.results45, go_sem]) rfl ⟨rfl, ?_⟩
  repeat (first | (with_reducible exact Below.refl _ _) | ((with_reducible refine below_grow ?_ ?_); rotate_left; focus (first | omega | (simp [go_sem]; done) | (simp [go_sem]; omega))) | ((with_reducible refine Below.alloc ?_ ?_ _); rotate_left; focus (first | omega | (simp [go_sem]; done) | (simp [go_sem]; omega))) | ((with_reducible refine Below.setCell ?_ ?_ _); rotate_left; focus (first | omega | (simp [go_sem]; done) | (simp [go_sem]; omega))) | (with_reducible refine Below.drew ?_) | (with_reducible refine below_drewN _ ?_))
theorem open_yes (d : Nat) (v : Value) (xs : List Nat) (s : St) (h : Rt d xs s) (w : World) (hS : SlB w v xs) :
    Calls Tryd.prog 41 #[.int .u8 d, v] w fun e w' => e = .returned (if s.over then .tuple #[stV ⟨0, 0, 0, 0, 0⟩, .int .i64 90] else .tuple #[stV s, .int .i64 0]) ∧ Below w.heap.size w w' := by
  have F := Lib.hid (fun W (hb : Below w.heap.size w W) => aright_yes d v xs s h W (slb_below hS hb))
  have O := Lib.hid (over_calls s)
  clear h hS
  cases ho : s.over with
  | true =>
    rw [ho] at O
    rw [if_pos rfl]
    go_enter Tryd.func41, Tryd.ntmps41
    go_wp2_with (first | (go_at_call 45; refine (F.out _ (by repeat (first | (with_reducible exact Below.refl _ _) | ((with_reducible refine below_grow ?_ ?_); rotate_left; focus (first | omega | (simp [go_sem]; done) | (simp [go_sem]; omega))) | ((with_reducible refine Below.alloc ?_ ?_ _); rotate_left; focus (first | omega | (simp [go_sem]; done) | (simp [go_sem]; omega))) | ((with_reducible refine Below.setCell ?_ ?_ _); rotate_left; focus (first | omega | (simp [go_sem]; done) | (simp [go_sem]; omega))) | (with_reducible refine Below.drew ?_) | (with_reducible refine below_drewN _ ?_)))).mono ?_; rintro e w9 ⟨rfl, hbel⟩; obtain ⟨o1, j1, rfl⟩ := grow_of_below hbel; clear hbel) | (go_at_call 46; refine (O.out _).mono ?_; rintro e w9 ⟨rfl, hbel⟩; obtain ⟨o2, j2, rfl⟩ := grow_of_below hbel; clear hbel))
    refine bodyPost_ret (by simp [results, Tryd.results41, go_sem]) rfl ⟨rfl, ?_⟩
    repeat (first | (with_reducible exact Below.refl _ _) | ((with_reducible refine below_grow ?_ ?_); rotate_left; focus (first | omega | (simp [go_sem]; done) | (simp [go_sem]; omega))) | ((with_reducible refine Below.alloc ?_ ?_ _); rotate_left; focus (first | omega | (simp [go_sem]; done) | (simp [go_sem]; omega))) | ((with_reducible refine Below.setCell ?_ ?_ _); rotate_left; focus (first | omega | (simp [go_sem]; done) | (simp [go_sem]; omega))) | (with_reducible refine Below.drew ?_) | (with_reducible refine below_drewN _ ?_))
  | false =>
    rw [ho] at O
    rw [if_neg (by decide)]
    go_enter Tryd.func41, Tryd.ntmps41
    go_wp2_with (first | (go_at_call 45; refine (F.out _ (by repeat (first | (with_reducible exact Below.refl _ _) | ((with_reducible refine below_grow ?_ ?_); rotate_left; focus (first | omega | (simp [go_sem]; done) | (simp [go_sem]; omega))) | ((with_reducible refine Below.alloc ?_ ?_ _); rotate_left; focus (first | omega | (simp [go_sem]; done) | (simp [go_sem]; omega))) | ((with_reducible refine Below.setCell ?_ ?_ _); rotate_left; focus (first | omega | (simp [go_sem]; done) | (simp [go_sem]; omega))) | (with_reducible refine Below.drew ?_) | (with_reducible refine below_drewN _ ?_)))).mono ?_; rintro e w9 ⟨rfl, hbel⟩; obtain ⟨o1, j1, rfl⟩ := grow_of_below hbel; clear hbel) | (go_at_call 46; refine (O.out _).mono ?_; rintro e w9 ⟨rfl, hbel⟩; obtain ⟨o2, j2, rfl⟩ := grow_of_below hbel; clear hbel))
    refine bodyPost_ret (by simp [results, Tryd.results41, go_sem]) rfl ⟨rfl, ?_⟩
    repeat (first | (with_reducible exact Below.refl _ _) | ((with_reducible refine below_grow ?_ ?_); rotate_left; focus (first | omega | (simp [go_sem]; done) | (simp [go_sem]; omega))) | ((with_reducible refine Below.alloc ?_ ?_ _); rotate_left; focus (first | omega | (simp [go_sem]; done) | (simp [go_sem]; omega))) | ((with_reducible refine Below.setCell ?_ ?_ _); rotate_left; focus (first | omega | (simp [go_sem]; done) | (simp [go_sem]; omega))) | (with_reducible refine Below.drew ?_) | (with_reducible refine below_drewN _ ?_))
theorem open_no (d : Nat) (v : Value) (xs : List Nat) (h : Wg d xs) (b : Bts d xs) (w : World) (hS : SlB w v xs) :
    Calls Tryd.prog 41 #[.int .u8 d, v] w fun e w' => e = .returned (.tuple #[stV ⟨0, 0, 0, 0, 0⟩, .int .i64 2]) ∧ Below w.heap.size w w' := by
  have F := Lib.hid (fun W (hb : Below w.heap.size w W) => aright_no d v xs h b W (slb_below hS hb))
  clear h hS b
  go_enter Tryd.func41, Tryd.ntmps41
  go_wp2_with (go_at_call 45; refine (F.out _ (by repeat (first | (with_reducible exact Below.refl _ _) | ((with_reducible refine below_grow ?_ ?_); rotate_left; focus (first | omega | (simp [go_sem]; done) | (simp [go_sem]; omega))) | ((with_reducible refine Below.alloc ?_ ?_ _); rotate_left; focus (first | omega | (simp [go_sem]; done) | (simp [go_sem]; omega))) | ((with_reducible refine Below.setCell ?_ ?_ _); rotate_left; focus (first | omega | (simp [go_sem]; done) | (simp [go_sem]; omega))) | (with_reducible refine Below.drew ?_) | (with_reducible refine below_drewN _ ?_)))).mono ?_; rintro e w9 ⟨rfl, hbel⟩; obtain ⟨o1, j1, rfl⟩ := grow_of_below hbel; clear hbel)
  refine bodyPost_ret (by simp [results, Tryd.results41, go_sem]) rfl ⟨rfl, ?_⟩
  repeat (first | (with_reducible exact Below.refl _ _) | ((with_reducible refine below_grow ?_ ?_); rotate_left; focus (first | omega | (simp [go_sem]; done) | (simp [go_sem]; omega))) | ((with_reducible refine Below.alloc ?_ ?_ _); rotate_left; focus (first | omega | (simp [go_sem]; done) | (simp [go_sem]; omega))) | ((with_reducible refine Below.setCell ?_ ?_ _); rotate_left; focus (first | omega | (simp [go_sem]; done) | (simp [go_sem]; omega))) | (with_reducible refine Below.drew ?_) | (with_reducible refine below_drewN _ ?_))
theorem check_calls (d : Nat) (v : Value) (xs : List Nat) (b : Bts d xs) (w : World) (hS : SlB w v xs) :
    Calls Tryd.prog 23 #[.int .u8 d, v] w fun e w' => e = .returned (if d < 4 then .tuple #[.int .i64 ((st0 d).fol 0 xs).2.1, .int .i64 (((st0 d).fol 0 xs).2.2 : Nat)] else .tuple #[.int .i64 (-1), .int .i64 2]) ∧ Below w.heap.size w w' := by
  have F := Lib.hid (fun W (hb : Below w.heap.size w W) => follow_calls d b.hd v xs b.h8 b.hn W (slb_below hS hb))
  clear b hS
  by_cases hd : d < 4
  · rw [if_pos hd] at F ⊢
    generalize (st0 d).fol 0 xs = T at *
    obtain ⟨⟨y0, y1, y2, y3, y4⟩, x1, x2⟩ := T
    clear hd
    go_enter Tryd.func23, Tryd.ntmps23
    go_wp2_with (go_at_call 51; refine (F.out _ (by repeat (first | (with_reducible exact Below.refl _ _) | ((with_reducible refine below_grow ?_ ?_); rotate_left; focus (first | omega | (simp [go_sem]; done) | (simp [go_sem]; omega))) | ((with_reducible refine Below.alloc ?_ ?_ _); rotate_left; focus (first | omega | (simp [go_sem]; done) | (simp [go_sem]; omega))) | ((with_reducible refine Below.setCell ?_ ?_ _); rotate_left; focus (first | omega | (simp [go_sem]; done) | (simp [go_sem]; omega))) | (with_reducible refine Below.drew ?_) | (with_reducible refine below_drewN _ ?_)))).mono ?_; rintro e w9 ⟨rfl, hbel⟩; obtain ⟨o1, j1, rfl⟩ := grow_of_below hbel; clear hbel)
    refine bodyPost_ret (by simp [results, Tryd.results23, go_sem]) rfl ⟨rfl, ?_⟩
    repeat (first | (with_reducible exact Below.refl _ _) | ((with_reducible refine below_grow ?_ ?_); rotate_left; focus (first | omega | (simp [go_sem]; done) | (simp [go_sem]; omega))) | ((with_reducible refine Below.alloc ?_ ?_ _); rotate_left; focus (first | omega | (simp [go_sem]; done) | (simp [go_sem]; omega))) | ((with_reducible refine Below.setCell ?_ ?_ _); rotate_left; focus (first | omega | (simp [go_sem]; done) | (simp [go_sem]; omega))) | (with_reducible refine Below.drew ?_) | (with_reducible refine below_drewN _ ?_))
  · rw [if_neg hd] at F ⊢
    clear hd
    go_enter Tryd.func23, Tryd.ntmps23
    go_wp2_with (go_at_call 51; refine (F.out _ (by repeat (first | (with_reducible exact Below.refl _ _) | ((with_reducible refine below_grow ?_ ?_); rotate_left; focus (first | omega | (simp [go_sem]; done) | (simp [go_sem]; omega))) | ((with_reducible refine Below.alloc ?_ ?_ _); rotate_left; focus (first | omega | (simp [go_sem]; done) | (simp [go_sem]; omega))) | ((with_reducible refine Below.setCell ?_ ?_ _); rotate_left; focus (first | omega | (simp [go_sem]; done) | (simp [go_sem]; omega))) | (with_reducible refine Below.drew ?_) | (with_reducible refine below_drewN _ ?_)))).mono ?_; rintro e w9 ⟨rfl, hbel⟩; obtain ⟨o1, j1, rfl⟩ := grow_of_below hbel; clear hbel)
    refine bodyPost_ret (by simp [results, Tryd.results23, go_sem]) rfl ⟨rfl, ?_⟩
    repeat (first | (with_reducible exact Below.refl _ _) | ((with_reducible refine below_grow ?_ ?_); rotate_left; focus (first | omega | (simp [go_sem]; done) | (simp [go_sem]; omega))) | ((with_reducible refine Below.alloc ?_ ?_ _); rotate_left; focus (first | omega | (simp [go_sem]; done) | (simp [go_sem]; omega))) | ((with_reducible refine Below.setCell ?_ ?_ _); rotate_left; focus (first | omega | (simp [go_sem]; done) | (simp [go_sem]; omega))) | (with_reducible refine Below.drew ?_) | (with_reducible refine below_drewN _ ?_))
theorem check_yes (d : Nat) (v : Value) (xs : List Nat) (s : St) (h : Rt d xs s) (w : World) (hS : SlB w v xs) :
    Calls Tryd.prog 23 #[.int .u8 d, v] w fun e w' => e = .returned (.tuple #[.int .i64 (-1), .int .i64 0]) ∧ Below w.heap.size w w' := by
  have F := check_calls d v xs h.bts w hS
  rwa [if_pos h.hd, St.fol_run h.hr] at F
theorem aover_yes (d : Nat) (v : Value) (xs : List Nat) (s : St) (h : Rt d xs s) (w : World) (hS : SlB w v xs) :
    Calls Tryd.prog 18 #[.int .u8 d, v] w fun e w' => e = .returned (.tuple #[.bool s.over, .int .i64 0]) ∧ Below w.heap.size w w' := by
  have F := Lib.hid (fun W (hb : Below w.heap.size w W) => aright_yes d v xs s h W (slb_below hS hb))
  have O := Lib.hid (over_calls s)
  clear h hS
  go_enter Tryd.func18, Tryd.ntmps18
  go_wp2_with (first | (go_at_call 45; refine (F.out _ (by repeat (first | (with_reducible exact Below.refl _ _) | ((with_reducible refine below_grow ?_ ?_); rotate_left; focus (first | omega | (simp [go_sem]; done) | (simp [go_sem]; omega))) | ((with_reducible refine Below.alloc ?_ ?_ _); rotate_left; focus (first | omega | (simp [go_sem]; done) | (simp [go_sem]; omega))) | ((with_reducible refine Below.setCell ?_ ?_ _); rotate_left; focus (first | omega | (simp [go_sem]; done) | (simp [go_sem]; omega))) | (with_reducible refine Below.drew ?_) | (with_reducible refine below_drewN _ ?_)))).mono ?_; rintro e w9 ⟨rfl, hbel⟩; obtain ⟨o1, j1, rfl⟩ := grow_of_below hbel; clear hbel) | (go_at_call 46; refine (O.out _).mono ?_; rintro e w9 ⟨rfl, hbel⟩; obtain ⟨o2, j2, rfl⟩ := grow_of_below hbel; clear hbel))
  refine bodyPost_ret (by simp [results, Tryd.results18, go_sem]) rfl ⟨rfl, ?_⟩
  repeat (first | (with_reducible exact Below.refl _ _) | ((with_reducible refine below_grow ?_ ?_); rotate_left; focus (first | omega | (simp [go_sem]; done) | (simp [go_sem]; omega))) | ((with_reducible refine Below.alloc ?_ ?_ _); rotate_left; focus (first | omega | (simp [go_sem]; done) | (simp [go_sem]; omega))) | ((with_reducible refine Below.setCell ?_ ?_ _); rotate_left; focus (first | omega | (simp [go_sem]; done) | (simp [go_sem]; omega))) | (with_reducible refine Below.drew ?_) | (with_reducible refine below_drewN _ ?_))
theorem aover_no (d : Nat) (v : Value) (xs : List Nat) (h : Wg d xs) (b : Bts d xs) (w : World) (hS : SlB w v xs) :
    Calls Tryd.prog 18 #[.int .u8 d, v] w fun e w' => e = .returned (.tuple #[.bool false, .int .i64 2]) ∧ Below w.heap.size w w' := by
  have F := Lib.hid (fun W (hb : Below w.heap.size w W) => aright_no d v xs h b W (slb_below hS hb))
  clear h hS b
  go_enter Tryd.func18, Tryd.ntmps18
  go_wp2_with (go_at_call 45; refine (F.out _ (by repeat (first | (with_reducible exact Below.refl _ _) | ((with_reducible refine below_grow ?_ ?_); rotate_left; focus (first | omega | (simp [go_sem]; done) | (simp [go_sem]; omega))) | ((with_reducible refine Below.alloc ?_ ?_ _); rotate_left; focus (first | omega | (simp [go_sem]; done) | (simp [go_sem]; omega))) | ((with_reducible refine Below.setCell ?_ ?_ _); rotate_left; focus (first | omega | (simp [go_sem]; done) | (simp [go_sem]; omega))) | (with_reducible refine Below.drew ?_) | (with_reducible refine below_drewN _ ?_)))).mono ?_; rintro e w9 ⟨rfl, hbel⟩; obtain ⟨o1, j1, rfl⟩ := grow_of_below hbel; clear hbel)
  refine bodyPost_ret (by simp [results, Tryd.results18, go_sem]) rfl ⟨rfl, ?_⟩
  repeat (first | (with_reducible exact Below.refl _ _) | ((with_reducible refine below_grow ?_ ?_); rotate_left; focus (first | omega | (simp [go_sem]; done) | (simp [go_sem]; omega))) | ((with_reducible refine Below.alloc ?_ ?_ _); rotate_left; focus (first | omega | (simp [go_sem]; done) | (simp [go_sem]; omega))) | ((with_reducible refine Below.setCell ?_ ?_ _); rotate_left; focus (first | omega | (simp [go_sem]; done) | (simp [go_sem]; omega))) | (with_reducible refine Below.drew ?_) | (with_reducible refine below_drewN _ ?_))
theorem turn_yes (d : Nat) (v : Value) (xs : List Nat) (s : St) (h : Rt d xs s) (w : World) (hS : SlB w v xs) :
    Calls Tryd.prog 15 #[.int .u8 d, v] w fun e w' => e = .returned (if s.over then .tuple #[.int .u8 0, .int .i64 90] else .tuple #[.int .u8 s.turn, .int .i64 0]) ∧ Below w.heap.size w w' := by
  have F := Lib.hid (fun W (hb : Below w.heap.size w W) => open_yes d v xs s h W (slb_below hS hb))
  clear h hS
  cases ho : s.over with
  | true =>
    rw [ho, if_pos rfl] at F
    rw [if_pos rfl]
    go_enter Tryd.func15, Tryd.ntmps15
    go_wp2_with (go_at_call 41; refine (F.out _ (by repeat (first | (with_reducible exact Below.refl _ _) | ((with_reducible refine below_grow ?_ ?_); rotate_left; focus (first | omega | (simp [go_sem]; done) | (simp [go_sem]; omega))) | ((with_reducible refine Below.alloc ?_ ?_ _); rotate_left; focus (first | omega | (simp [go_sem]; done) | (simp [go_sem]; omega))) | ((with_reducible refine Below.setCell ?_ ?_ _); rotate_left; focus (first | omega | (simp [go_sem]; done) | (simp [go_sem]; omega))) | (with_reducible refine Below.drew ?_) | (with_reducible refine below_drewN _ ?_)))).mono ?_; rintro e w9 ⟨rfl, hbel⟩; obtain ⟨o1, j1, rfl⟩ := grow_of_below hbel; clear hbel)
    refine bodyPost_ret (by simp [results, Tryd.results15, go_sem]) rfl ⟨rfl, ?_⟩
    repeat (first | (with_reducible exact Below.refl _ _) | ((with_reducible refine below_grow ?_ ?_); rotate_left; focus (first | omega | (simp [go_sem]; done) | (simp [go_sem]; omega))) | ((with_reducible refine Below.alloc ?_ ?_ _); rotate_left; focus (first | omega | (simp [go_sem]; done) | (simp [go_sem]; omega))) | ((with_reducible refine Below.setCell ?_ ?_ _); rotate_left; focus (first | omega | (simp [go_sem]; done) | (simp [go_sem]; omega))) | (with_reducible refine Below.drew ?_) | (with_reducible refine below_drewN _ ?_))
  | false =>
    rw [ho, if_neg (by decide)] at F
    rw [if_neg (by decide)]
    go_enter Tryd.func15, Tryd.ntmps15
    go_wp2_with (go_at_call 41; refine (F.out _ (by repeat (first | (with_reducible exact Below.refl _ _) | ((with_reducible refine below_grow ?_ ?_); rotate_left; focus (first | omega | (simp [go_sem]; done) | (simp [go_sem]; omega))) | ((with_reducible refine Below.alloc ?_ ?_ _); rotate_left; focus (first | omega | (simp [go_sem]; done) | (simp [go_sem]; omega))) | ((with_reducible refine Below.setCell ?_ ?_ _); rotate_left; focus (first | omega | (simp [go_sem]; done) | (simp [go_sem]; omega))) | (with_reducible refine Below.drew ?_) | (with_reducible refine below_drewN _ ?_)))).mono ?_; rintro e w9 ⟨rfl, hbel⟩; obtain ⟨o1, j1, rfl⟩ := grow_of_below hbel; clear hbel)
    refine bodyPost_ret (by simp [results, Tryd.results15, go_sem]) rfl ⟨rfl, ?_⟩
    repeat (first | (with_reducible exact Below.refl _ _) | ((with_reducible refine below_grow ?_ ?_); rotate_left; focus (first | omega | (simp [go_sem]; done) | (simp [go_sem]; omega))) | ((with_reducible refine Below.alloc ?_ ?_ _); rotate_left; focus (first | omega | (simp [go_sem]; done) | (simp [go_sem]; omega))) | ((with_reducible refine Below.setCell ?_ ?_ _); rotate_left; focus (first | omega | (simp [go_sem]; done) | (simp [go_sem]; omega))) | (with_reducible refine Below.drew ?_) | (with_reducible refine below_drewN _ ?_))
theorem turn_no (d : Nat) (v : Value) (xs : List Nat) (h : Wg d xs) (b : Bts d xs) (w : World) (hS : SlB w v xs) :
    Calls Tryd.prog 15 #[.int .u8 d, v] w fun e w' => e = .returned (.tuple #[.int .u8 0, .int .i64 2]) ∧ Below w.heap.size w w' := by
  have F := Lib.hid (fun W (hb : Below w.heap.size w W) => open_no d v xs h b W (slb_below hS hb))
  clear h hS b
  go_enter Tryd.func15, Tryd.ntmps15
  go_wp2_with (go_at_call 41; refine (F.out _ (by repeat (first | (with_reducible exact Below.refl _ _) | ((with_reducible refine below_grow ?_ ?_); rotate_left; focus (first | omega | (simp [go_sem]; done) | (simp [go_sem]; omega))) | ((with_reducible refine Below.alloc ?_ ?_ _); rotate_left; focus (first | omega | (simp [go_sem]; done) | (simp [go_sem]; omega))) | ((with_reducible refine Below.setCell ?_ ?_ _); rotate_left; focus (first | omega | (simp [go_sem]; done) | (simp [go_sem]; omega))) | (with_reducible refine Below.drew ?_) | (with_reducible refine below_drewN _ ?_)))).mono ?_; rintro e w9 ⟨rfl, hbel⟩; obtain ⟨o1, j1, rfl⟩ := grow_of_below hbel; clear hbel)
  refine bodyPost_ret (by simp [results, Tryd.results15, go_sem]) rfl ⟨rfl, ?_⟩
  repeat (first | (with_reducible exact Below.refl _ _) | ((with_reducible refine below_grow ?_ ?_); rotate_left; focus (first | omega | (simp [go_sem]; done) | (simp [go_sem]; omega))) | ((with_reducible refine Below.alloc ?_ ?_ _); rotate_left; focus (first | omega | (simp [go_sem]; done) | (simp [go_sem]; omega))) | ((with_reducible refine Below.setCell ?_ ?_ _); rotate_left; focus (first | omega | (simp [go_sem]; done) | (simp [go_sem]; omega))) | (with_reducible refine Below.drew ?_) | (with_reducible refine below_drewN _ ?_))
end Go.Proofs.YtacgikhedhiaaaaDoor
