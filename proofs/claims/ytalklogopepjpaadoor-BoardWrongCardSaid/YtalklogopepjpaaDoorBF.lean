/- Changes: the closure that compares one card; Changes. -/
import Derived.Test.YtalklogopepjpaaDoorYO
import Derived.Test.YtalklogopepjpaaDoorBC
import Derived.Test.YtalklogopepjpaaDoorMH
import Derived.Laws.OwnMore
namespace Go.Proofs.YtalklogopepjpaaDoor.Ca
open Go.RowKit
open Go.Proofs.DB (Pd Rd bt own chg)

theorem own_slice_any {w : World} {B : Nat} {e : TypeId} {n z : Nat} {v : Value} {cs : List Value} (h : w.ownsRow B e z v n cs) : ∃ A cap, v = .slice A n cap := by
  rcases h.2 with ⟨h1, h2⟩ | ⟨g, cap, cur, h1, _⟩
  · subst h2
    exact ⟨none, 0, h1⟩
  · exact ⟨_, cap, h1⟩
/-- The cells of changes. -/
def chV (p q : Nat → Nat) (l : List Nat) : List Value := l.flatMap fun (c : Nat) => [.int .u8 c, .int .u8 (own p c : Nat), .int .u8 (own q c : Nat)]
theorem chV_snoc (p q : Nat → Nat) (l : List Nat) (c : Nat) : chV p q (l ++ [c]) = chV p q l ++ [.int .u8 c, .int .u8 (own p c : Nat), .int .u8 (own q c : Nat)] := by simp [chV]
theorem Tryd.infoCh : (Tryd.prog.info? 45).map (fun i => (i.zero, i.size, i.bytes)) = some (some (.agg #[.int .u8 0, .int .u8 0, .int .u8 0]), 3, 3) := by kernel_rfl
theorem news3 (W : World) (t : TypeId) (x y z : Value) : ∀ (j : Nat) (u : Value), [x, y, z][j]? = some u → (W.alloc (.cells #[x, y, z] t)).cell? ((⟨W.heap.size, 0, none⟩ : Addr).add j) = some u := by
  intro j u hj
  have hb : blk (W.alloc (.cells #[x, y, z] t)) W.heap.size #[x, y, z] t := blk_new _ _ _
  have : (⟨W.heap.size, 0, none⟩ : Addr).add j = ⟨W.heap.size, j, none⟩ := by unfold Addr.add; split <;> simp_all
  rw [this, blk_cell hb, List.getElem?_toArray]
  exact hj
theorem owner_right (p : Nat → Nat) (hp : Rd p) (c : Nat) (hc : c < 52) (w : World) : Calls Tryd.prog 30 #[.agg #[.int .u64 (p 0 : Nat), .int .u64 (p 1 : Nat), .int .u64 (p 2 : Nat), .int .u64 (p 3 : Nat)], .int .u8 c] w fun e w' => e = .returned (.tuple #[.int .u8 (own p c : Nat), .bool true]) ∧ Below w.heap.size w w' :=
  owner_calls p (fun i hi => Nat.lt_trans (hp.lt i hi) (by decide)) c (own p c) hc (DB.own_lt p c) (DB.own_bit hp hc) (DB.own_none p c) w
set_option maxRecDepth 100000 in
set_option maxHeartbeats 4000000 in
theorem chg1_calls (p q : Nat → Nat) (hp : Rd p) (hq : Rd q) (c : Nat) (hc : c < 52) (ba bb bs B n : Nat) (v : Value) (xs : List Value) (W : World) (hB : B ≤ bs) (hab : ba < bs) (hbb : bb < bs)
    (b1 : blk W ba (#[.int .u64 (p 0 : Nat), .int .u64 (p 1 : Nat), .int .u64 (p 2 : Nat), .int .u64 (p 3 : Nat)]) 39) (b2 : blk W bb (#[.int .u64 (q 0 : Nat), .int .u64 (q 1 : Nat), .int .u64 (q 2 : Nat), .int .u64 (q 3 : Nat)]) 39) (b3 : blk W bs #[v] 41) (hown : W.ownsRow (bs + 1) 45 3 v n xs) (hn : n ≤ 1000) :
    Calls Tryd.prog 29 #[.int .u8 c, .pointer (some ⟨ba, 0, none⟩), .pointer (some ⟨bb, 0, none⟩), .pointer (some ⟨bs, 0, none⟩)] W fun e W' => (∃ u, e = .returned u) ∧ Below B W W' ∧
      blk W' ba (#[.int .u64 (p 0 : Nat), .int .u64 (p 1 : Nat), .int .u64 (p 2 : Nat), .int .u64 (p 3 : Nat)]) 39 ∧ blk W' bb (#[.int .u64 (q 0 : Nat), .int .u64 (q 1 : Nat), .int .u64 (q 2 : Nat), .int .u64 (q 3 : Nat)]) 39 ∧ W.heap.size ≤ W'.heap.size ∧
      ∃ v', blk W' bs #[v'] 41 ∧ if own p c = own q c then W'.ownsRow (bs + 1) 45 3 v' n xs else W'.ownsRow (bs + 1) 45 3 v' (n + 1) (xs ++ [.int .u8 c, .int .u8 (own p c : Nat), .int .u8 (own q c : Nat)]) := by
  have OP := Lib.hid (owner_right p hp c hc)
  have OQ := Lib.hid (owner_right q hq c hc)
  obtain ⟨i0, hi, hz0, hz1, hz2⟩ := info_parts Tryd.infoCh
  have l3 := blk_lt b3
  obtain ⟨A, cap, rfl⟩ := own_slice_any hown
  have k10 : W.cell? ⟨ba, 0, none⟩ = some (.int .u64 (p 0 : Nat)) := blk_cell b1 0
  have k11 : W.cell? ⟨ba, 1, none⟩ = some (.int .u64 (p 1 : Nat)) := blk_cell b1 1
  have k12 : W.cell? ⟨ba, 2, none⟩ = some (.int .u64 (p 2 : Nat)) := blk_cell b1 2
  have k13 : W.cell? ⟨ba, 3, none⟩ = some (.int .u64 (p 3 : Nat)) := blk_cell b1 3
  have k20 : W.cell? ⟨bb, 0, none⟩ = some (.int .u64 (q 0 : Nat)) := blk_cell b2 0
  have k21 : W.cell? ⟨bb, 1, none⟩ = some (.int .u64 (q 1 : Nat)) := blk_cell b2 1
  have k22 : W.cell? ⟨bb, 2, none⟩ = some (.int .u64 (q 2 : Nat)) := blk_cell b2 2
  have k23 : W.cell? ⟨bb, 3, none⟩ = some (.int .u64 (q 3 : Nat)) := blk_cell b2 3
  have k3 : W.cell? ⟨bs, 0, none⟩ = some (.slice A n cap) := blk_cell b3 0
  haveI i1 : NeZero (inW ba W) := inW_mk (blk_lt b1)
  haveI i2 : NeZero (inW bb W) := inW_mk (blk_lt b2)
  haveI i3 : NeZero (inW bs W) := inW_mk (blk_lt b3)
  have HE := Lib.hid (show ∀ x y : Nat, ((x : Int) = y) = (x = y) from fun x y => by rw [Int.ofNat_inj])
  obtain ⟨s, hs⟩ : ∃ s, own p c = s := ⟨_, rfl⟩
  obtain ⟨t, ht⟩ : ∃ s, own q c = s := ⟨_, rfl⟩
  rw [hs, ht]
  rw [hs] at OP
  rw [ht] at OQ
  clear hs ht hp hq hc
  by_cases hst : s = t
  · subst hst
    simp only [if_true]
    have B1 := Lib.hid b1; have B2 := Lib.hid b2; have B3 := Lib.hid b3
    clear b1 b2 b3
    go_enter Tryd.func29, Tryd.ntmps29
    go_upto_region 1 with (go_at_call 30; refine (OP.out _).mono ?_; rintro e w9 ⟨rfl, hbel⟩; obtain ⟨o1, j1, rfl⟩ := grow_of_below hbel; clear hbel)
    clear OP
    go_upto_region 2 with (go_at_call 30; refine (OQ.out _).mono ?_; rintro e w9 ⟨rfl, hbel⟩; obtain ⟨o2, j2, rfl⟩ := grow_of_below hbel; clear hbel)
    clear OQ
    go_wp2
    go_end0
    refine ⟨⟨_, rfl⟩, ?_, blk_grow B1.out _ _, blk_grow B2.out _ _, by simp [grow_size], _, blk_grow B3.out _ _, own_grow hown _ _⟩
    exact (by repeat (first | (with_reducible exact Below.refl _ _) | ((with_reducible refine below_grow ?_ ?_); rotate_left; focus (first | omega | (simp [go_sem]; done) | (simp [go_sem]; omega))) | ((with_reducible refine Below.alloc ?_ ?_ _); rotate_left; focus (first | omega | (simp [go_sem]; done) | (simp [go_sem]; omega))) | ((with_reducible refine Below.setCell ?_ ?_ _); rotate_left; focus (first | omega | (simp [go_sem]; done) | (simp [go_sem]; omega))) | (with_reducible refine Below.drew ?_) | (with_reducible refine below_drewN _ ?_)) : Below W.heap.size W _).mono (by omega)
  · simp only [hst, if_false]
    have hst' : ¬ (s : Int) = t := by omega
    have B1 := Lib.hid b1; have B2 := Lib.hid b2; have B3 := Lib.hid b3
    clear b1 b2 b3
    go_enter Tryd.func29, Tryd.ntmps29
    go_upto_region 1 with (go_at_call 30; refine (OP.out _).mono ?_; rintro e w9 ⟨rfl, hbel⟩; obtain ⟨o1, j1, rfl⟩ := grow_of_below hbel; clear hbel)
    clear OP
    go_upto_region 2 with (go_at_call 30; refine (OQ.out _).mono ?_; rintro e w9 ⟨rfl, hbel⟩; obtain ⟨o2, j2, rfl⟩ := grow_of_below hbel; clear hbel)
    clear OQ
    go_upto_region 3 with fail
    generalize hV : grow W _ j2 = V
    have bV : Below B W V := (show Below W.heap.size W V by rw [← hV]; repeat (first | (with_reducible exact Below.refl _ _) | ((with_reducible refine below_grow ?_ ?_); rotate_left; focus (first | omega | (simp [go_sem]; done) | (simp [go_sem]; omega))) | ((with_reducible refine Below.alloc ?_ ?_ _); rotate_left; focus (first | omega | (simp [go_sem]; done) | (simp [go_sem]; omega))) | ((with_reducible refine Below.setCell ?_ ?_ _); rotate_left; focus (first | omega | (simp [go_sem]; done) | (simp [go_sem]; omega))) | (with_reducible refine Below.drew ?_) | (with_reducible refine below_drewN _ ?_))).mono (by omega)
    have sV : W.heap.size ≤ V.heap.size := bV.size
    have c1 : blk V ba (#[.int .u64 (p 0 : Nat), .int .u64 (p 1 : Nat), .int .u64 (p 2 : Nat), .int .u64 (p 3 : Nat)]) 39 := by rw [← hV]; exact blk_grow B1.out _ _
    have c2 : blk V bb (#[.int .u64 (q 0 : Nat), .int .u64 (q 1 : Nat), .int .u64 (q 2 : Nat), .int .u64 (q 3 : Nat)]) 39 := by rw [← hV]; exact blk_grow B2.out _ _
    have c3 : blk V bs #[.slice A n cap] 41 := by rw [← hV]; exact blk_grow B3.out _ _
    have hownV : V.ownsRow (bs + 1) 45 3 (.slice A n cap) n xs := by rw [← hV]; exact own_grow hown _ _
    clear hV k10 k11 k12 k13 k20 k21 k22 k23 k3 i1 i2 i3 hown B1 B2 B3 HE
    have k3 : V.cell? ⟨bs, 0, none⟩ = some (.slice A n cap) := blk_cell c3 0
    have h1 : n + 1 ≤ maxLen := by unfold maxLen; omega
    go_wp2_with (at_builtin; refine wpList_append_own _ rfl _ _ 41 rfl (bs + 1) 45 i0 _ 3 3 Tryd.underlying41 hi hz0 hz1 hz2 rfl (by decide) _ _ _ rfl (hownV.alloc _) ⟨V.heap.size, 0, none⟩ 1 1 [.int .u8 c, .int .u8 s, .int .u8 t] rfl rfl (news3 _ _ _ _ _) (fun u hu => by simp only [List.mem_cons, List.not_mem_nil, or_false] at hu; rcases hu with rfl | rfl | rfl <;> rfl) h1 (by omega) (by simp; omega) ?_; intro v' w1 hown' hgrow _; obtain ⟨A', cap', rfl⟩ := own_slice_any hown'; have hv1 := blk_grown (blk_alloc c3 _) hgrow (not_row hownV (by omega)); have f1 := blk_free hv1 0; have k1 := (blk_cell hv1 0).trans (show _ = some (Value.slice A n cap) from rfl))
    have hB1 : Below B W w1 := Below.grown (bV.alloc (by omega) _) hgrow (by simp; omega) (fun k e => by have := own_block_ge hownV e; omega)
    go_end0
    refine ⟨⟨_, rfl⟩, hB1.setCell (p := ⟨bs, 0, none⟩) hB _, blk_other (blk_grown (blk_alloc c1 _) hgrow (not_row hownV (by omega))) (by omega) _, blk_other (blk_grown (blk_alloc c2 _) hgrow (not_row hownV (by omega))) (by omega) _, ?_, _, blk_set hv1 0 _, own_other hown' (by omega) _⟩
    have := hgrow.size
    simp at this
    simp [World.size_setCell]
    omega
end Go.Proofs.YtalklogopepjpaaDoor.Ca
