/- BoardClasses: the walk. -/
import Derived.Test.YtalklogopepjpaaDoorBX0
import Derived.Test.YtalklogopepjpaaDoorYN
import Derived.Lib.MinMax
import Derived.BigQuiet
namespace Go.Proofs.YtalklogopepjpaaDoor.Ca
open Go.RowKit
open Go.Proofs.DB (Rd cl Same)
open Go.Proofs.YtalklogopepjpaaDoor.Ha (SlB slb_slice)

theorem Tryd.infoDl : (Tryd.prog.info? 39).map (fun i => (i.zero, i.size, i.bytes)) = some (some (.agg #[.int .u64 0, .int .u64 0, .int .u64 0, .int .u64 0]), 4, 32) := by kernel_rfl
theorem news4 (W : World) (t : TypeId) (x y z u : Value) : ∀ (j : Nat) (v : Value), [x, y, z, u][j]? = some v → (W.alloc (.cells #[x, y, z, u] t)).cell? ((⟨W.heap.size, 0, none⟩ : Addr).add j) = some v := by
  intro j v hj
  have hb : blk (W.alloc (.cells #[x, y, z, u] t)) W.heap.size #[x, y, z, u] t := blk_new _ _ _
  have : (⟨W.heap.size, 0, none⟩ : Addr).add j = ⟨W.heap.size, j, none⟩ := by unfold Addr.add; split <;> simp_all
  rw [this, blk_cell hb, List.getElem?_toArray]
  exact hj
/-- The cells of a list of deals. -/
def dlV (L : Nat → Nat → Nat) : Nat → List Value
  | 0 => []
  | n + 1 => dlV L n ++ [.int .u64 (L n 0 : Nat), .int .u64 (L n 1 : Nat), .int .u64 (L n 2 : Nat), .int .u64 (L n 3 : Nat)]
theorem dlV_len (L : Nat → Nat → Nat) : ∀ n, (dlV L n).length = n * 4
  | 0 => rfl
  | n + 1 => by rw [dlV, List.length_append, dlV_len L n]; simp; omega
theorem dlV_at (L : Nat → Nat → Nat) : ∀ n j i, j < n → i < 4 → (dlV L n)[j * 4 + i]? = some (.int .u64 (L j i : Nat))
  | 0, j, i, h, _ => absurd h (Nat.not_lt_zero _)
  | n + 1, j, i, h, hi => by
    rw [dlV]
    by_cases hj : j < n
    · rw [List.getElem?_append_left (by rw [dlV_len]; omega)]
      exact dlV_at L n j i hj hi
    · obtain rfl : j = n := by omega
      rw [List.getElem?_append_right (by rw [dlV_len]; omega), dlV_len, Nat.add_sub_cancel_left]
      obtain rfl | rfl | rfl | rfl : i = 0 ∨ i = 1 ∨ i = 2 ∨ i = 3 := by omega
      all_goals rfl
theorem own_sld {w : World} {B n : Nat} {v : Value} {L : Nat → Nat → Nat} (h : w.ownsRow B 39 4 v n (dlV L n)) : SlD w v L n := by
  rcases h.2 with ⟨h1, h2⟩ | ⟨g, cap, cur, h1, h2, h3, h4⟩
  · exact ⟨none, 0, by rw [h1, h2], .inl h2⟩
  · refine ⟨_, cap, h1, .inr ⟨g, rfl, lt_of_block h3, fun j hj i hi => ?_⟩⟩
    subst h1
    rw [h.cellAt (j * 4 + i) (by omega)]
    exact dlV_at L n j i hj hi
theorem neg_num {x : Nat} (h0 : 0 < x) (h : x < 18446744073709551616) : IntKind.u64.wrap (-(x : Int)) = ((18446744073709551616 - x : Nat) : Int) := by
  have : IntKind.u64.wrap (-(x : Int)) = (-(x : Int)) % 18446744073709551616 := rfl
  rw [this]; omega
theorem drewN_add (w : World) (a b : Nat) : (w.drewN a).drewN b = w.drewN (a + b) := by simp [World.drewN, Nat.add_assoc]
theorem own_any2 {w : World} {B : Nat} {e : TypeId} {n z : Nat} {v : Value} {cs : List Value} (h : w.ownsRow B e z v n cs) : ∃ A cap, v = .slice A n cap ∧ (n = 0 ∨ ∃ g, A = some ⟨g, 0, none⟩ ∧ g < w.heap.size ∧ ∀ j, j < n * z → w.cell? ⟨g, j, none⟩ = cs[j]?) := by
  rcases h.2 with ⟨h1, h2⟩ | ⟨g, cap, cur, h1, h2, h3, h4⟩
  · exact ⟨none, 0, by rw [h1, h2], .inl h2⟩
  · refine ⟨_, cap, h1, .inr ⟨g, rfl, lt_of_block h3, fun j hj => ?_⟩⟩
    subst h1
    exact h.cellAt j hj
theorem own_other2 {w : World} {B k i : Nat} {e : TypeId} {z : Nat} {A : Option Addr} {m cap n : Nat} {cs : List Value} (h : w.ownsRow B e z (.slice A m cap) n cs) (hk : ∀ g, A = some ⟨g, 0, none⟩ → g ≠ k) (x : Value) : (w.setCell ⟨k, i, none⟩ x).ownsRow B e z (.slice A m cap) n cs := by
  refine ⟨h.1, ?_⟩
  rcases h.2 with h1 | ⟨g, cap', cur, h1, h2, h3, h4⟩
  · exact .inl h1
  · injection h1 with hA hm hc
    exact .inr ⟨g, cap', cur, by rw [hA, hm, hc], h2, (Below.heap_setCell _ _ _ _ (hk g hA)).trans h3, h4⟩
theorem blk_drewN2 {w : World} {b : Nat} {cs : Array Value} {t : TypeId} (h : blk w b cs t) (n : Nat) : blk (w.drewN n) b cs t := h
set_option maxRecDepth 100000 in
set_option maxHeartbeats 8000000 in
theorem boardClasses_walk (v1 : Value) (xs : List Nat) (v2 : Value) (ys : List Nat) (hx8 : ∀ x ∈ xs, x < 256) (hy8 : ∀ x ∈ ys, x < 256) (w : World) (hS1 : SlB w v1 xs) (hS2 : SlB w v2 ys) (he : EnvB w) :
    Calls Tryd.prog 6 #[v1, v2] w fun e w' => e = .returned (.bool true) ∧ Below w.heap.size w w' := by
  have A := Lib.hid (fun W (hW : Below w.heap.size w W) => awake_calls W (he.below hW))
  have M1 := Lib.hid (fun W (hW : Below w.heap.size w W) => made_calls v1 xs hx8 W (slb_below hS1 hW))
  have hd := mD_rd xs
  obtain ⟨d, hde⟩ : ∃ p, mD xs = p := ⟨_, rfl⟩
  rw [hde] at hd M1
  have HD := Lib.hid hd
  have hS' := hS2
  obtain ⟨p0, c0, hv, hc, _⟩ := hS'
  obtain ⟨p, c, sl, hp⟩ := slb_slice hS2 (min ys.length 24) (Nat.min_le_left _ _)
  have HY := Lib.hid hy8
  rw [hv] at sl
  subst hv
  obtain ⟨n, hn⟩ : ∃ n, ys.length = n := ⟨_, rfl⟩
  rw [hn] at sl hp ⊢
  have mn : min (n : Int) 24 = ((min n 24 : Nat) : Int) := by omega
  have ml : min n 24 ≤ 24 := Nat.min_le_right _ _
  obtain ⟨m, hm⟩ : ∃ m, min n 24 = m := ⟨_, rfl⟩
  rw [hm] at sl hp mn ml
  have HP := Lib.hid hp
  obtain ⟨L, hL⟩ : ∃ L : Nat → Nat → Nat, ∀ j, L j = eD d (ys.getD j 0) := ⟨_, fun j => rfl⟩
  have HL := Lib.hid hL
  have hLr : ∀ j, Rd (L j) := fun j => by rw [hL]; exact eD_rd hd _
  have HR := Lib.hid hLr
  have TN := Lib.hid (fun k : Nat => fun (hk : k < 4) => turn_calls d k (by omega) (by omega))
  obtain ⟨i0, hi, hz0, hz1, hz2⟩ := info_parts Tryd.infoDl
  clear hx8 hy8 hS1 hS2 he hd hde hc hp hn hm hL hLr
  go_enter Tryd.func6, Tryd.ntmps6
  go_upto_region 2 with (go_at_call 16; refine (M1.out _ (by repeat (first | (with_reducible exact Below.refl _ _) | ((with_reducible refine below_grow ?_ ?_); rotate_left; focus (first | omega | (simp [go_sem]; done) | (simp [go_sem]; omega))) | ((with_reducible refine Below.alloc ?_ ?_ _); rotate_left; focus (first | omega | (simp [go_sem]; done) | (simp [go_sem]; omega))) | ((with_reducible refine Below.setCell ?_ ?_ _); rotate_left; focus (first | omega | (simp [go_sem]; done) | (simp [go_sem]; omega))) | (with_reducible refine Below.drew ?_) | (with_reducible refine below_drewN _ ?_)))).mono ?_; rintro e w9 ⟨rfl, hbel⟩; obtain ⟨o1, j1, rfl⟩ := grow_of_below hbel; clear hbel)
  clear M1
  generalize hW : World.alloc (grow w _ j1) _ = W
  generalize hpa : w.heap.size + sz o1 = pa at *
  have b0 : blk W pa (#[.int .u64 (d 0 : Nat), .int .u64 (d 1 : Nat), .int .u64 (d 2 : Nat), .int .u64 (d 3 : Nat)]) 39 := by rw [← hW]; exact blk_at _ _ _ (by rw [← hpa]; simp [go_sem])
  have bb : Below w.heap.size w W := by rw [← hW]; repeat (first | (with_reducible exact Below.refl _ _) | ((with_reducible refine below_grow ?_ ?_); rotate_left; focus (first | omega | (simp [go_sem]; done) | (simp [go_sem]; omega))) | ((with_reducible refine Below.alloc ?_ ?_ _); rotate_left; focus (first | omega | (simp [go_sem]; done) | (simp [go_sem]; omega))) | ((with_reducible refine Below.setCell ?_ ?_ _); rotate_left; focus (first | omega | (simp [go_sem]; done) | (simp [go_sem]; omega))) | (with_reducible refine Below.drew ?_) | (with_reducible refine below_drewN _ ?_))
  have hwp : w.heap.size ≤ pa := by omega
  clear hW hpa
  go_wp2
  go_loopw [6, 8, 9, 10, 11, 24] (fun s6 _ _ _ _ s24 wr => ∃ i : Nat, i ≤ m ∧ s24 = .int .i64 i ∧ blk wr pa (#[.int .u64 (d 0 : Nat), .int .u64 (d 1 : Nat), .int .u64 (d 2 : Nat), .int .u64 (d 3 : Nat)]) 39 ∧ wr.ownsRow (pa + 1) 39 4 s6 i (dlV L i) ∧ Below w.heap.size w wr) (fun _ _ _ _ _ s24 _ => m - (intOf s24).toNat)
  case atStart => exact ⟨0, Nat.zero_le _, rfl, b0, World.ownsRow_nil _ _ _ _, bb⟩
  case round =>
    obtain ⟨i, hi', rfl, c1, hown, cb⟩ := hrel
    clear b0 bb
    obtain ⟨A6, cap6, rfl⟩ := own_slice_any hown
    by_cases hlt : i < m
    · obtain ⟨b, off, rfl, hb, hcell⟩ := HP.out (by omega)
      obtain ⟨x, hx, hc⟩ := hcell i hlt
      have kx : wr.cell? ⟨b, off + i, none⟩ = some (.int .u8 (x : Nat)) := (cb.cell (p := ⟨b, off + i, none⟩) hb).trans hc
      have hx8 := HY.out x (List.mem_of_getElem? hx)
      have hLi : L i = eD d x := by rw [HL.out, List.getD_eq_getElem?_getD, hx]; rfl
      have hlt2 : (i : Int) < m := by omega
      have e1 : IntKind.i64.wrap ((i : Int) + 1) = (i : Int) + 1 := IntWalk.i64_in _ (by omega)
      have e2 : (x : Int).tmod 4 = ((x % 4 : Nat) : Int) := by rw [Int.tmod_eq_emod_of_nonneg (by omega)]; omega
      have e3 : (x : Int).tmod 8 = ((x % 8 : Nat) : Int) := by rw [Int.tmod_eq_emod_of_nonneg (by omega)]; omega
      have e4 : IntKind.u8.wrap ((x % 4 : Nat) : Int) = ((x % 4 : Nat) : Int) := u8_wrap (by omega) (by omega)
      have e5 : IntKind.u8.wrap ((x % 8 : Nat) : Int) = ((x % 8 : Nat) : Int) := u8_wrap (by omega) (by omega)
      have e6 : IntKind.i64.wrap ((x % 4 : Nat) : Int) = ((x % 4 : Nat) : Int) := IntWalk.i64_in _ (by omega)
      have T := Lib.hid (TN.out (x % 4) (by omega))
      have k0 : wr.cell? ⟨pa, 0, none⟩ = some (.int .u64 (d 0 : Nat)) := blk_cell c1 0
      have k1 : wr.cell? ⟨pa, 1, none⟩ = some (.int .u64 (d 1 : Nat)) := blk_cell c1 1
      have k2 : wr.cell? ⟨pa, 2, none⟩ = some (.int .u64 (d 2 : Nat)) := blk_cell c1 2
      have k3 : wr.cell? ⟨pa, 3, none⟩ = some (.int .u64 (d 3 : Nat)) := blk_cell c1 3
      have hpr := blk_lt c1
      haveI ip : NeZero (inW pa wr) := inW_mk hpr
      have tr := tn_rd ((x % 4 : Nat) : Int) HD.out
      have C1 := Lib.hid c1
      have CB := Lib.hid cb
      have HI := Lib.hid hlt
      have HO := Lib.hid hown
      have hcbs := cb.size
      clear hc hcell c1 cb hown hlt hi' hx hb TN
      by_cases h8 : 3 < x % 8
      · have g8 : (3 : Int) < ((x % 8 : Nat) : Int) := by omega
        have hLe : L i = swp (tn d ((x % 4 : Nat) : Int)) := by rw [hLi]; unfold eD; rw [if_pos h8]
        obtain ⟨e, hee⟩ : ∃ e, tn d ((x % 4 : Nat) : Int) = e := ⟨_, rfl⟩
        rw [hee] at T tr hLe
        obtain ⟨k, hk⟩ : ∃ k, x % 4 = k := ⟨_, rfl⟩
        obtain ⟨y, hy⟩ : ∃ k, x % 8 = k := ⟨_, rfl⟩
        rw [hk] at e2 e4 e6 T
        rw [hy] at e3 e5 g8
        have lt0 := Nat.lt_trans (tr.lt 0 (by decide)) (show 2 ^ 52 < 18446744073709551616 by decide)
        have lt1 := Nat.lt_trans (tr.lt 1 (by decide)) (show 2 ^ 52 < 18446744073709551616 by decide)
        have po0 := hand_pos tr 0 (by decide)
        have po1 := hand_pos tr 1 (by decide)
        have N0 := neg_num po0 lt0
        have N1 := neg_num po1 lt1
        have a0 := u64_and_nat (e 0) (18446744073709551616 - e 0) lt0 (by omega)
        have a1 := u64_and_nat (e 1) (18446744073709551616 - e 1) lt1 (by omega)
        have w0 : e 0 &&& (18446744073709551616 - e 0) = lw (e 0) := rfl
        have w1 : e 1 &&& (18446744073709551616 - e 1) = lw (e 1) := rfl
        rw [w0] at a0
        rw [w1] at a1
        have lw0 : lw (e 0) < 18446744073709551616 := Nat.lt_of_le_of_lt Nat.and_le_left lt0
        have lw1 : lw (e 1) < 18446744073709551616 := Nat.lt_of_le_of_lt Nat.and_le_left lt1
        have x0 := u64_xor_nat (e 0) (lw (e 0)) lt0 lw0
        have x1 := u64_xor_nat (e 0 ^^^ lw (e 0)) (lw (e 1)) (Nat.xor_lt_two_pow (n := 64) lt0 lw0) lw1
        have x2 := u64_xor_nat (e 1) (lw (e 0)) lt1 lw0
        have x3 := u64_xor_nat (e 1 ^^^ lw (e 0)) (lw (e 1)) (Nat.xor_lt_two_pow (n := 64) lt1 lw0) lw1
        have s0 : e 0 ^^^ lw (e 0) ^^^ lw (e 1) = L i 0 := by rw [hLe]; rfl
        have s1 : e 1 ^^^ lw (e 0) ^^^ lw (e 1) = L i 1 := by rw [hLe]; rfl
        have s2 : e 2 = L i 2 := by rw [hLe]; rfl
        have s3 : e 3 = L i 3 := by rw [hLe]; rfl
        rw [s0] at x1
        rw [s1] at x3
        obtain ⟨ne0, hn0⟩ : ∃ k, 18446744073709551616 - e 0 = k := ⟨_, rfl⟩
        obtain ⟨ne1, hn1⟩ : ∃ k, 18446744073709551616 - e 1 = k := ⟨_, rfl⟩
        rw [hn0] at N0 a0
        rw [hn1] at N1 a1
        obtain ⟨q0, hq0⟩ : ∃ k, e 0 ^^^ lw (e 0) = k := ⟨_, rfl⟩
        obtain ⟨q1, hq1⟩ : ∃ k, e 1 ^^^ lw (e 0) = k := ⟨_, rfl⟩
        rw [hq0] at x0 x1
        rw [hq1] at x2 x3
        obtain ⟨r0, hr0⟩ : ∃ k, lw (e 0) = k := ⟨_, rfl⟩
        obtain ⟨r1, hr1⟩ : ∃ k, lw (e 1) = k := ⟨_, rfl⟩
        rw [hr0] at a0 x0 x2
        rw [hr1] at a1 x1 x3
        have S2 := Lib.hid s2
        have S3 := Lib.hid s3
        clear s0 s1 s2 s3 hn0 hn1 hq0 hq1 hr0 hr1 lw0 lw1 w0 w1 po0 po1 lt0 lt1 tr hee hk hy hLe hLi h8 hx8
        go_upto_region 7 with (go_at_call 18; refine (T.out _).mono ?_; rintro e w9 ⟨rfl, hbel⟩; obtain ⟨o2, j2, rfl⟩ := grow_of_below hbel; clear hbel)
        generalize hVe : World.alloc (grow wr o2 j2) _ = V0
        generalize heb : wr.heap.size + sz o2 = eb at *
        have ev0 : blk V0 eb (#[.int .u64 (e 0 : Nat), .int .u64 (e 1 : Nat), .int .u64 (e 2 : Nat), .int .u64 (e 3 : Nat)]) 39 := by rw [← hVe]; exact blk_at _ _ _ (by rw [← heb]; simp [go_sem])
        have cV0 : blk V0 pa (#[.int .u64 (d 0 : Nat), .int .u64 (d 1 : Nat), .int .u64 (d 2 : Nat), .int .u64 (d 3 : Nat)]) 39 := by rw [← hVe]; exact blk_alloc (blk_grow C1.out _ _) _
        have hV0 : V0.ownsRow (pa + 1) 39 4 (.slice A6 i cap6) i (dlV L i) := by rw [← hVe]; exact (own_grow HO.out _ _).alloc _
        have bV0 : Below w.heap.size w V0 := by rw [← hVe]; repeat (first | (with_reducible exact CB.out) | ((with_reducible refine below_grow ?_ ?_); rotate_left; focus (first | omega | (simp [go_sem]; done) | (simp [go_sem]; omega))) | ((with_reducible refine Below.alloc ?_ ?_ _); rotate_left; focus (first | omega | (simp [go_sem]; done) | (simp [go_sem]; omega))) | ((with_reducible refine Below.setCell ?_ ?_ _); rotate_left; focus (first | omega | (simp [go_sem]; done) | (simp [go_sem]; omega))) | (with_reducible refine Below.drew ?_) | (with_reducible refine below_drewN _ ?_))
        have hwe : w.heap.size ≤ eb := by omega
        have hpe : pa < eb := by omega
        have gfresh : ∀ g, A6 = some ⟨g, 0, none⟩ → g ≠ eb := fun g hg e => by
          have := (HO.out).lt g (by rw [hg]; rfl)
          omega
        clear hVe heb k0 k1 k2 k3 ip C1 HO CB kx T
        have ke0 : V0.cell? ⟨eb, 0, none⟩ = some (.int .u64 (e 0 : Nat)) := blk_cell ev0 0
        have ke1 : V0.cell? ⟨eb, 1, none⟩ = some (.int .u64 (e 1 : Nat)) := blk_cell ev0 1
        have fe : ∀ j, V0.frozen? ⟨eb, j, none⟩ = false := fun j => blk_free ev0 j
        have EV := Lib.hid ev0
        have CV0 := Lib.hid cV0
        have HV0 := Lib.hid hV0
        have BV0 := Lib.hid bV0
        have GF := Lib.hid gfresh
        clear ev0 cV0 hV0 bV0 gfresh
        go_upto_region 8 with fail
        go_quiet (fail)
        go_upto_region 10 with fail
        generalize hVe : World.setCell (World.setCell (V0.drewN nq) _ _) _ _ = V
        have ev : blk V eb (#[.int .u64 ((L i) 0 : Nat), .int .u64 ((L i) 1 : Nat), .int .u64 ((L i) 2 : Nat), .int .u64 ((L i) 3 : Nat)]) 39 := by
          rw [← hVe, ← S2.out, ← S3.out]
          exact blk_set (blk_set (blk_drewN2 EV.out nq) 0 _) 1 _
        have cV : blk V pa (#[.int .u64 (d 0 : Nat), .int .u64 (d 1 : Nat), .int .u64 (d 2 : Nat), .int .u64 (d 3 : Nat)]) 39 := by rw [← hVe]; exact blk_other (blk_other (blk_drewN2 CV0.out nq) (by omega) _) (by omega) _
        have hV : V.ownsRow (pa + 1) 39 4 (.slice A6 i cap6) i (dlV L i) := by
          rw [← hVe]
          refine own_other2 (own_other2 (show (V0.drewN nq).ownsRow (pa + 1) 39 4 (.slice A6 i cap6) i (dlV L i) from HV0.out) ?_ _) ?_ _
          all_goals exact fun g hg => GF.out g hg
        have bV : Below w.heap.size w V := by rw [← hVe]; repeat (first | (with_reducible exact BV0.out) | ((with_reducible refine below_grow ?_ ?_); rotate_left; focus (first | omega | (simp [go_sem]; done) | (simp [go_sem]; omega))) | ((with_reducible refine Below.alloc ?_ ?_ _); rotate_left; focus (first | omega | (simp [go_sem]; done) | (simp [go_sem]; omega))) | ((with_reducible refine Below.setCell ?_ ?_ _); rotate_left; focus (first | omega | (simp [go_sem]; done) | (simp [go_sem]; omega))) | (with_reducible refine Below.drew ?_) | (with_reducible refine below_drewN _ ?_))
        clear hVe EV CV0 HV0 BV0 GF S2 S3 ke0 ke1 fe N0 N1 a0 a1 x0 x1 x2 x3
        have kv0 : V.cell? ⟨eb, 0, none⟩ = some (.int .u64 (L i 0 : Nat)) := blk_cell ev 0
        have kv1 : V.cell? ⟨eb, 1, none⟩ = some (.int .u64 (L i 1 : Nat)) := blk_cell ev 1
        have kv2 : V.cell? ⟨eb, 2, none⟩ = some (.int .u64 (L i 2 : Nat)) := blk_cell ev 2
        have kv3 : V.cell? ⟨eb, 3, none⟩ = some (.int .u64 (L i 3 : Nat)) := blk_cell ev 3
        have hi24 : i < 24 := Nat.lt_of_lt_of_le HI.out ml
        have vsz := bV.size
        have psz := blk_lt cV
        go_wp2_with (at_builtin; refine wpList_append_own _ rfl _ _ 47 rfl (pa + 1) 39 i0 _ 4 32 Tryd.underlying47 hi hz0 hz1 hz2 rfl (by decide) _ _ _ rfl (hV.alloc _) ⟨V.heap.size, 0, none⟩ 1 1 [.int .u64 (L i 0 : Nat), .int .u64 (L i 1 : Nat), .int .u64 (L i 2 : Nat), .int .u64 (L i 3 : Nat)] rfl rfl (news4 _ _ _ _ _ _) (fun u hu => by simp only [List.mem_cons, List.not_mem_nil, or_false] at hu; rcases hu with rfl | rfl | rfl | rfl <;> rfl) (by unfold maxLen; omega) (by omega) (by simp; omega) ?_; intro v' w1 hown' hgrow _; obtain ⟨A', cap', rfl⟩ := own_slice_any hown')
        go_roundw
        case rel => exact ⟨i + 1, HI.out, by go_num, blk_grown (blk_alloc cV _) hgrow (not_row hV (by omega)), hown', Below.grown (bV.alloc (by omega) _) hgrow (by simp; omega) (fun k e => by have := own_block_ge hV e; omega)⟩
        case measure => simp [intOf]; have := HI.out; omega
      · have g8 : ¬ (3 : Int) < ((x % 8 : Nat) : Int) := by omega
        have hLe : L i = tn d ((x % 4 : Nat) : Int) := by rw [hLi]; unfold eD; rw [if_neg h8]
        rw [← hLe] at T tr
        obtain ⟨k, hk⟩ : ∃ k, x % 4 = k := ⟨_, rfl⟩
        obtain ⟨y, hy⟩ : ∃ k, x % 8 = k := ⟨_, rfl⟩
        rw [hk] at e2 e4 e6 T
        rw [hy] at e3 e5 g8
        clear hk hy hLe hLi h8 hx8
        go_upto_region 7 with (go_at_call 18; refine (T.out _).mono ?_; rintro e w9 ⟨rfl, hbel⟩; obtain ⟨o2, j2, rfl⟩ := grow_of_below hbel; clear hbel)
        generalize hVe : World.alloc (grow wr o2 j2) _ = V
        generalize heb : wr.heap.size + sz o2 = eb at *
        have ev : blk V eb (#[.int .u64 ((L i) 0 : Nat), .int .u64 ((L i) 1 : Nat), .int .u64 ((L i) 2 : Nat), .int .u64 ((L i) 3 : Nat)]) 39 := by rw [← hVe]; exact blk_at _ _ _ (by rw [← heb]; simp [go_sem])
        have cV : blk V pa (#[.int .u64 (d 0 : Nat), .int .u64 (d 1 : Nat), .int .u64 (d 2 : Nat), .int .u64 (d 3 : Nat)]) 39 := by rw [← hVe]; exact blk_alloc (blk_grow C1.out _ _) _
        have hV : V.ownsRow (pa + 1) 39 4 (.slice A6 i cap6) i (dlV L i) := by rw [← hVe]; exact (own_grow HO.out _ _).alloc _
        have bV : Below w.heap.size w V := by rw [← hVe]; repeat (first | (with_reducible exact CB.out) | ((with_reducible refine below_grow ?_ ?_); rotate_left; focus (first | omega | (simp [go_sem]; done) | (simp [go_sem]; omega))) | ((with_reducible refine Below.alloc ?_ ?_ _); rotate_left; focus (first | omega | (simp [go_sem]; done) | (simp [go_sem]; omega))) | ((with_reducible refine Below.setCell ?_ ?_ _); rotate_left; focus (first | omega | (simp [go_sem]; done) | (simp [go_sem]; omega))) | (with_reducible refine Below.drew ?_) | (with_reducible refine below_drewN _ ?_))
        clear hVe heb k0 k1 k2 k3 ip C1 HO CB kx T
        go_upto_region 10 with fail
        have kv0 : V.cell? ⟨eb, 0, none⟩ = some (.int .u64 (L i 0 : Nat)) := blk_cell ev 0
        have kv1 : V.cell? ⟨eb, 1, none⟩ = some (.int .u64 (L i 1 : Nat)) := blk_cell ev 1
        have kv2 : V.cell? ⟨eb, 2, none⟩ = some (.int .u64 (L i 2 : Nat)) := blk_cell ev 2
        have kv3 : V.cell? ⟨eb, 3, none⟩ = some (.int .u64 (L i 3 : Nat)) := blk_cell ev 3
        have hi24 : i < 24 := Nat.lt_of_lt_of_le HI.out ml
        have vsz := bV.size
        have psz := blk_lt cV
        go_wp2_with (at_builtin; refine wpList_append_own _ rfl _ _ 47 rfl (pa + 1) 39 i0 _ 4 32 Tryd.underlying47 hi hz0 hz1 hz2 rfl (by decide) _ _ _ rfl (hV.alloc _) ⟨V.heap.size, 0, none⟩ 1 1 [.int .u64 (L i 0 : Nat), .int .u64 (L i 1 : Nat), .int .u64 (L i 2 : Nat), .int .u64 (L i 3 : Nat)] rfl rfl (news4 _ _ _ _ _ _) (fun u hu => by simp only [List.mem_cons, List.not_mem_nil, or_false] at hu; rcases hu with rfl | rfl | rfl | rfl <;> rfl) (by unfold maxLen; omega) (by omega) (by simp; omega) ?_; intro v' w1 hown' hgrow _; obtain ⟨A', cap', rfl⟩ := own_slice_any hown')
        go_roundw
        case rel => exact ⟨i + 1, HI.out, by go_num, blk_grown (blk_alloc cV _) hgrow (not_row hV (by omega)), hown', Below.grown (bV.alloc (by omega) _) hgrow (by simp; omega) (fun k e => by have := own_block_ge hV e; omega)⟩
        case measure => simp [intOf]; have := HI.out; omega
    · obtain rfl : i = m := by omega
      have hS := own_sld hown
      have hD2 : i = 0 ∨ ∃ g, A6 = some ⟨g, 0, none⟩ ∧ g < wr.heap.size ∧ ∀ j, j < i → ∀ k, k < 4 → wr.cell? ⟨g, j * 4 + k, none⟩ = some (.int .u64 (L j k : Nat)) := by
        obtain ⟨A', cap', hv', hov⟩ := own_any2 hown
        injection hv' with hA _ _
        rcases hov with h | ⟨g, h1, h2, h3⟩
        · exact .inl h
        · exact .inr ⟨g, hA.trans h1, h2, fun j hj k hk => (h3 (j * 4 + k) (by omega)).trans (dlV_at L i j k hj hk)⟩
      have CL := Lib.hid (fun X hX => classes_yes L i ml (.slice A6 i cap6) (fun j _ => HR.out j) X hX)
      clear TN HP sl mn hown c1
      go_upto_region 13 with (go_at_call 19; refine (CL.out _ hS).mono ?_; rintro e w2 ⟨⟨u, rfl, hown2⟩, hb2⟩; obtain ⟨A2, cap2, rfl, hq⟩ := own_any2 hown2)
      have HC2 := Lib.hid (show i = 0 ∨ ∃ g, A2 = some ⟨g, 0, none⟩ ∧ ∀ j, j < i → w2.cell? ⟨g, j, none⟩ = some (.int .i64 (cl L j : Nat)) from by
        rcases hq with h | ⟨g, h1, _, h3⟩
        · exact .inl h
        · exact .inr ⟨g, h1, fun j hj => by rw [h3 j (by omega)]; simp [hj]⟩)
      have HD2 := Lib.hid (show i = 0 ∨ ∃ g, A6 = some ⟨g, 0, none⟩ ∧ ∀ j, j < i → ∀ k, k < 4 → w2.cell? ⟨g, j * 4 + k, none⟩ = some (.int .u64 (L j k : Nat)) from by
        rcases hD2 with h | ⟨g, h1, h2, h3⟩
        · exact .inl h
        · exact .inr ⟨g, h1, fun j hj k hk => (hb2.cell (p := ⟨g, j * 4 + k, none⟩) h2).trans (h3 j hj k hk)⟩)
      have cb2 := cb.trans (hb2.mono cb.size)
      have AW := Lib.hid (fun nn => A.out (w2.drewN nn) (below_drewN nn cb2))
      have CB2 := Lib.hid cb2
      clear hq hown2 hD2 hb2 cb2 cb hS CL A HR HD HY HL hi' hlt
      go_wp2
      go_loopw [14, 15, 83, 114] (fun _ _ s83 _ wy => ∃ a : Nat, a ≤ i ∧ s83 = .int .i64 a ∧ ∃ nn, wy = w2.drewN nn) (fun _ _ s83 _ _ => i - (intOf s83).toNat)
      case atStart => exact ⟨0, Nat.zero_le _, rfl, 0, rfl⟩
      case round =>
        obtain ⟨a, ha, rfl, nn, rfl⟩ := hrel
        by_cases hai : a < i
        · obtain ⟨g, rfl, hcc⟩ : ∃ g, A2 = some ⟨g, 0, none⟩ ∧ ∀ j, j < i → w2.cell? ⟨g, j, none⟩ = some (.int .i64 (cl L j : Nat)) := by
            rcases HC2.out with h | h
            · omega
            · exact h
          obtain ⟨g6, rfl, hdd⟩ : ∃ g, A6 = some ⟨g, 0, none⟩ ∧ ∀ j, j < i → ∀ k, k < 4 → w2.cell? ⟨g, j * 4 + k, none⟩ = some (.int .u64 (L j k : Nat)) := by
            rcases HD2.out with h | h
            · omega
            · exact h
          have hle := DB.cl_le L a
          have z1 : w2.cell? ⟨g, a, none⟩ = some (.int .i64 (cl L a : Nat)) := hcc a hai
          have z2 : w2.cell? ⟨g, cl L a, none⟩ = some (.int .i64 (cl L a : Nat)) := by rw [hcc (cl L a) (by omega), DB.cl_cl]
          have z3 : (a : Int) < i := by omega
          have z4 : ((cl L a : Nat) : Int) < i := by omega
          have z5 : IntKind.i64.wrap ((a : Int) + 1) = (a : Int) + 1 := IntWalk.i64_in _ (by omega)
          have z6 : decide (((cl L a : Nat) : Int) < 0) = false := decide_eq_false (by omega)
          have z7 : decide ((a : Int) < (cl L a : Nat)) = false := decide_eq_false (by omega)
          have z8 : decide (a < cl L a) = false := decide_eq_false (by omega)
          have d0 : w2.cell? ⟨g6, a * 4, none⟩ = some (.int .u64 (L a 0 : Nat)) := hdd a hai 0 (by decide)
          have d1 := hdd a hai 1 (by decide)
          have d2 := hdd a hai 2 (by decide)
          have d3 := hdd a hai 3 (by decide)
          have HAI := Lib.hid hai
          have HCC := Lib.hid hcc
          have HDD := Lib.hid hdd
          obtain ⟨ca, hca⟩ : ∃ k, cl L a = k := ⟨_, rfl⟩
          have HCA := Lib.hid hca
          rw [hca] at z1 z2 z4 z6 z7 z8
          clear hle hai ha hcc hdd hca HC2 HD2
          go_upto_region 18 with fail
          go_quiet (fail)
          go_wp2
          go_loopw [15, 114] (fun _ s114 wy => ∃ k : Nat, k ≤ a ∧ s114 = .int .i64 k ∧ ∃ nn, wy = w2.drewN nn) (fun _ s114 _ => a - (intOf s114).toNat)
          case atStart => exact ⟨0, Nat.zero_le _, rfl, nn + nq, by rw [drewN_add]⟩
          case round =>
            obtain ⟨k, hk, rfl, nk, rfl⟩ := hrel
            by_cases hka : k < a
            · have hai := HAI.out
              have hle := DB.cl_le L k
              have y1 : w2.cell? ⟨g, k, none⟩ = some (.int .i64 (cl L k : Nat)) := HCC.out k (by omega)
              have b0 : w2.cell? ⟨g6, k * 4, none⟩ = some (.int .u64 (L k 0 : Nat)) := HDD.out k (by omega) 0 (by decide)
              have b1 := HDD.out k (by omega) 1 (by decide)
              have b2 := HDD.out k (by omega) 2 (by decide)
              have b3 := HDD.out k (by omega) 3 (by decide)
              have y2 : (k : Int) < i := by omega
              have y3 : (k : Int) < a := by omega
              have y5 : IntKind.i64.wrap ((k : Int) + 1) = (k : Int) + 1 := IntWalk.i64_in _ (by omega)
              have hE : ∀ X, (Op.equalIn 10000 39 (.agg #[.int .u64 (L a 0 : Nat), .int .u64 (L a 1 : Nat), .int .u64 (L a 2 : Nat), .int .u64 (L a 3 : Nat)]) (.agg #[.int .u64 (L k 0 : Nat), .int .u64 (L k 1 : Nat), .int .u64 (L k 2 : Nat), .int .u64 (L k 3 : Nat)])).run Tryd.prog X = .ok (((ca : Nat) : Int) == (cl L k : Nat)) X := fun X => by
                rw [eqDl]
                congr 1
                rw [show (((ca : Nat) : Int) == ((cl L k : Nat) : Int)) = decide (((ca : Nat) : Int) = ((cl L k : Nat) : Int)) from rfl, decide_eq_decide, ← HCA.out]
                have := DB.cl_iff L a k
                unfold DB.Same at this
                omega
              have HKA := Lib.hid hka
              obtain ⟨ck, hck⟩ : ∃ t, cl L k = t := ⟨_, rfl⟩
              rw [hck] at y1 hE
              clear hle hka hk hai hck
              go_upto_region 23 with fail
              go_quiet (fail)
              go_wp2
              go_roundw
              case rel => exact ⟨k + 1, HKA.out, by go_num, nk + nq, rfl⟩
              case measure => simp [intOf]; have := HKA.out; omega
            · obtain rfl : k = a := by omega
              go_wp2
              go_roundw
              case rel => exact ⟨k + 1, HAI.out, by go_num, nk, rfl⟩
              case measure => simp [intOf]; have := HAI.out; omega
        · obtain rfl : a = i := by omega
          go_wp2_with (go_at_call 15; refine (AW.out _).mono ?_; rintro e w9 ⟨rfl, hbel⟩; obtain ⟨o7, j7, rfl⟩ := grow_of_below hbel; clear hbel)
          have hbs := CB2.out.size
          refine bodyPost_ret (by simp [results, Tryd.results6, go_sem]) rfl ⟨rfl, ?_⟩
          repeat (first | (with_reducible exact CB2.out) | ((with_reducible refine below_grow ?_ ?_); rotate_left; focus (first | omega | (simp [go_sem]; done) | (simp [go_sem]; omega))) | ((with_reducible refine Below.alloc ?_ ?_ _); rotate_left; focus (first | omega | (simp [go_sem]; done) | (simp [go_sem]; omega))) | ((with_reducible refine Below.setCell ?_ ?_ _); rotate_left; focus (first | omega | (simp [go_sem]; done) | (simp [go_sem]; omega))) | (with_reducible refine Below.drew ?_) | (with_reducible refine below_drewN _ ?_))
end Go.Proofs.YtalklogopepjpaaDoor.Ca
