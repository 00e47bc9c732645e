/- BoardChanges: the walk. -/
import Derived.Test.YtalklogopepjpaaDoorBW0
import Derived.Test.YtalklogopepjpaaDoorYN
import Derived.Deep.RegionHeld3
import Derived.BigQuiet
namespace Go.Proofs.YtalklogopepjpaaDoor.Ca
open Go.RowKit
open Go.Proofs.DB (Rd own chg Same doall stepc cnt wo)
open Go.Proofs.YtalklogopepjpaaDoor.Ha (SlB)

theorem blk_drewN {w : World} {b : Nat} {cs : Array Value} {t : TypeId} (h : blk w b cs t) (n : Nat) : blk (w.drewN n) b cs t := h
theorem own_any {w : World} {B : Nat} {e : TypeId} {n z : Nat} {v : Value} {cs : List Value} (h : w.ownsRow B e z v n cs) : ∃ A cap, v = .slice A n cap ∧ (n = 0 ∨ ∃ g, A = some ⟨g, 0, none⟩ ∧ g < w.heap.size ∧ ∀ j, j < n * z → w.cell? ⟨g, j, none⟩ = cs[j]?) := by
  rcases h.2 with ⟨h1, h2⟩ | ⟨g, cap, cur, h1, h2, h3, h4⟩
  · exact ⟨none, 0, by rw [h1, h2], .inl h2⟩
  · refine ⟨_, cap, h1, .inr ⟨g, rfl, lt_of_block h3, fun j hj => ?_⟩⟩
    subst h1
    exact h.cellAt j hj
set_option maxRecDepth 100000 in
set_option maxHeartbeats 8000000 in
theorem boardChanges_walk (v1 : Value) (xs : List Nat) (v2 : Value) (ys : List Nat) (hx8 : ∀ x ∈ xs, x < 256) (hy8 : ∀ x ∈ ys, x < 256) (w : World) (hS1 : SlB w v1 xs) (hS2 : SlB w v2 ys) (he : EnvB w) :
    Calls Tryd.prog 5 #[v1, v2] w fun e w' => e = .returned (.bool true) ∧ Below w.heap.size w w' := by
  have A := Lib.hid (fun W (hW : Below w.heap.size w W) => awake_calls W (he.below hW))
  have M1 := Lib.hid (fun W (hW : Below w.heap.size w W) => made_calls v1 xs hx8 W (slb_below hS1 hW))
  have M2 := Lib.hid (fun W (hW : Below w.heap.size w W) => made_calls v2 ys hy8 W (slb_below hS2 hW))
  have hp := mD_rd xs
  have hq := mD_rd ys
  obtain ⟨p, hpe⟩ : ∃ p, mD xs = p := ⟨_, rfl⟩
  obtain ⟨q, hqe⟩ : ∃ p, mD ys = p := ⟨_, rfl⟩
  rw [hpe] at hp M1
  rw [hqe] at hq M2
  clear hpe hqe hx8 hy8 hS1 hS2 he
  have C1 := Lib.hid (changes_yes p q hp hq)
  have C2 := Lib.hid (changes_yes q p hq hp)
  have C3 := Lib.hid (changes_yes p p hp hp)
  rw [DB.chg_swap p q] at C2
  rw [DB.chg_self p 52] at C3
  have HP := Lib.hid hp
  have HQ := Lib.hid hq
  clear hp hq
  go_enter Tryd.func5, Tryd.ntmps5
  go_upto_region 2 with (first | (go_at_call_of 16 v1; refine (M1.out _ (by repeat (first | (with_reducible exact Below.refl _ _) | ((with_reducible refine below_grow ?_ ?_); rotate_left; focus (first | omega | (simp [go_sem]; done) | (simp [go_sem]; omega))) | ((with_reducible refine Below.alloc ?_ ?_ _); rotate_left; focus (first | omega | (simp [go_sem]; done) | (simp [go_sem]; omega))) | ((with_reducible refine Below.setCell ?_ ?_ _); rotate_left; focus (first | omega | (simp [go_sem]; done) | (simp [go_sem]; omega))) | (with_reducible refine Below.drew ?_) | (with_reducible refine below_drewN _ ?_)))).mono ?_; rintro e w9 ⟨rfl, hbel⟩; obtain ⟨o1, j1, rfl⟩ := grow_of_below hbel; clear hbel) | (go_at_call_of 16 v2; refine (M2.out _ (by repeat (first | (with_reducible exact Below.refl _ _) | ((with_reducible refine below_grow ?_ ?_); rotate_left; focus (first | omega | (simp [go_sem]; done) | (simp [go_sem]; omega))) | ((with_reducible refine Below.alloc ?_ ?_ _); rotate_left; focus (first | omega | (simp [go_sem]; done) | (simp [go_sem]; omega))) | ((with_reducible refine Below.setCell ?_ ?_ _); rotate_left; focus (first | omega | (simp [go_sem]; done) | (simp [go_sem]; omega))) | (with_reducible refine Below.drew ?_) | (with_reducible refine below_drewN _ ?_)))).mono ?_; rintro e w9 ⟨rfl, hbel⟩; obtain ⟨o2, j2, rfl⟩ := grow_of_below hbel; clear hbel))
  clear M1 M2
  generalize hW : World.alloc (World.alloc (grow w _ j2) _) _ = W
  generalize hpa : w.heap.size + sz (o1 ++ o2) = pa at *
  have b0 : blk W pa (#[.int .u64 (p 0 : Nat), .int .u64 (p 1 : Nat), .int .u64 (p 2 : Nat), .int .u64 (p 3 : Nat)]) 39 := by rw [← hW]; exact blk_alloc (blk_at _ _ _ (by rw [← hpa]; simp [go_sem])) _
  have b1 : blk W (pa + 1) (#[.int .u64 (q 0 : Nat), .int .u64 (q 1 : Nat), .int .u64 (q 2 : Nat), .int .u64 (q 3 : Nat)]) 39 := by rw [← hW]; exact blk_at _ _ _ (by rw [← hpa]; simp [go_sem])
  have bb : Below w.heap.size w W := by rw [← hW]; repeat (first | (with_reducible exact Below.refl _ _) | ((with_reducible refine below_grow ?_ ?_); rotate_left; focus (first | omega | (simp [go_sem]; done) | (simp [go_sem]; omega))) | ((with_reducible refine Below.alloc ?_ ?_ _); rotate_left; focus (first | omega | (simp [go_sem]; done) | (simp [go_sem]; omega))) | ((with_reducible refine Below.setCell ?_ ?_ _); rotate_left; focus (first | omega | (simp [go_sem]; done) | (simp [go_sem]; omega))) | (with_reducible refine Below.drew ?_) | (with_reducible refine below_drewN _ ?_))
  have hwp : w.heap.size ≤ pa := by omega
  clear hW hpa
  have cellsOf : ∀ X, blk X pa (#[.int .u64 (p 0 : Nat), .int .u64 (p 1 : Nat), .int .u64 (p 2 : Nat), .int .u64 (p 3 : Nat)]) 39 → blk X (pa + 1) (#[.int .u64 (q 0 : Nat), .int .u64 (q 1 : Nat), .int .u64 (q 2 : Nat), .int .u64 (q 3 : Nat)]) 39 → X.cell? ⟨pa, 0, none⟩ = some (.int .u64 (p 0 : Nat)) ∧ X.cell? ⟨pa, 1, none⟩ = some (.int .u64 (p 1 : Nat)) ∧ X.cell? ⟨pa, 2, none⟩ = some (.int .u64 (p 2 : Nat)) ∧ X.cell? ⟨pa, 3, none⟩ = some (.int .u64 (p 3 : Nat)) ∧
      X.cell? ⟨pa + 1, 0, none⟩ = some (.int .u64 (q 0 : Nat)) ∧ X.cell? ⟨pa + 1, 1, none⟩ = some (.int .u64 (q 1 : Nat)) ∧ X.cell? ⟨pa + 1, 2, none⟩ = some (.int .u64 (q 2 : Nat)) ∧ X.cell? ⟨pa + 1, 3, none⟩ = some (.int .u64 (q 3 : Nat)) := fun X h g => ⟨blk_cell h 0, blk_cell h 1, blk_cell h 2, blk_cell h 3, blk_cell g 0, blk_cell g 1, blk_cell g 2, blk_cell g 3⟩
  have CO := Lib.hid cellsOf
  clear cellsOf
  obtain ⟨k0, k1, k2, k3, m0, m1, m2, m3⟩ := CO.out W b0 b1
  go_upto_region 3 with (go_at_call 17; refine (C1.out _).mono ?_; rintro e w3 ⟨⟨u1, rfl, hown1⟩, hb1⟩)
  obtain ⟨A1, cap1, rfl, s1⟩ := own_any hown1
  have l0 := blk_lt b1
  have b0 := blk_below b0 hb1 (by omega)
  have b1 := blk_below b1 hb1 (by omega)
  have bb := bb.trans (hb1.mono bb.size)
  clear k0 k1 k2 k3 m0 m1 m2 m3 hown1 C1
  obtain ⟨k0, k1, k2, k3, m0, m1, m2, m3⟩ := CO.out w3 b0 b1
  go_upto_region 4 with (go_at_call 17; refine (C2.out _).mono ?_; rintro e w4 ⟨⟨u2, rfl, hown2⟩, hb2⟩)
  obtain ⟨A2, cap2, rfl, s2⟩ := own_any hown2
  have l0 := blk_lt b1
  have b0 := blk_below b0 hb2 (by omega)
  have b1 := blk_below b1 hb2 (by omega)
  have bb := bb.trans (hb2.mono bb.size)
  clear k0 k1 k2 k3 m0 m1 m2 m3 hown2 C2
  obtain ⟨k0, k1, k2, k3, m0, m1, m2, m3⟩ := CO.out w4 b0 b1
  go_upto_region 5 with (go_at_call 17; refine (C3.out _).mono ?_; rintro e w5 ⟨⟨u3, rfl, hown3⟩, hb3⟩)
  obtain ⟨A3, cap3, rfl, -⟩ := own_any hown3
  have l0 := blk_lt b1
  have b0 := blk_below b0 hb3 (by omega)
  have b1 := blk_below b1 hb3 (by omega)
  have bb := bb.trans (hb3.mono bb.size)
  have s2' : (chg p q 52).length = 0 ∨ ∃ g, A2 = some ⟨g, 0, none⟩ ∧ g < w5.heap.size ∧ ∀ j, j < (chg p q 52).length * 3 → w5.cell? ⟨g, j, none⟩ = (chV q p (chg p q 52))[j]? := by
    rcases s2 with h | ⟨g, h1, h2, h3⟩
    · exact .inl h
    · exact .inr ⟨g, h1, Nat.lt_of_lt_of_le h2 hb3.size, fun j hj => (hb3.cell (p := ⟨g, j, none⟩) h2).trans (h3 j hj)⟩
  have s1' : (chg p q 52).length = 0 ∨ ∃ g, A1 = some ⟨g, 0, none⟩ ∧ g < w5.heap.size ∧ ∀ j, j < (chg p q 52).length * 3 → w5.cell? ⟨g, j, none⟩ = (chV p q (chg p q 52))[j]? := by
    rcases s1 with h | ⟨g, h1, h2, h3⟩
    · exact .inl h
    · have hb := hb2.trans (hb3.mono hb2.size)
      exact .inr ⟨g, h1, Nat.lt_of_lt_of_le h2 hb.size, fun j hj => (hb.cell (p := ⟨g, j, none⟩) h2).trans (h3 j hj)⟩
  clear k0 k1 k2 k3 m0 m1 m2 m3 hown3 C3 hb1 hb2 hb3 s1 s2
  obtain ⟨k0, k1, k2, k3, m0, m1, m2, m3⟩ := CO.out w5 b0 b1
  have hE : ∀ X, (Op.equalIn 10000 39 (.agg #[.int .u64 (p 0 : Nat), .int .u64 (p 1 : Nat), .int .u64 (p 2 : Nat), .int .u64 (p 3 : Nat)]) (.agg #[.int .u64 (q 0 : Nat), .int .u64 (q 1 : Nat), .int .u64 (q 2 : Nat), .int .u64 (q 3 : Nat)])).run Tryd.prog X = .ok (((chg p q 52).length : Int) == 0) X := fun X => by
    rw [eqDl]
    congr 1
    rw [show (((chg p q 52).length : Int) == 0) = decide (((chg p q 52).length : Int) = 0) from rfl, decide_eq_decide]
    have := chg_zero_iff HP.out HQ.out
    omega
  have hlen := DB.chg_len p q 52
  have S1 := Lib.hid s1'
  have S2 := Lib.hid s2'
  clear s1' s2'
  obtain ⟨n, hn⟩ : ∃ n, (chg p q 52).length = n := ⟨_, rfl⟩
  rw [hn] at hE S1 S2 hlen ⊢
  have HN := Lib.hid hn
  clear hn
  go_upto_region 7 with fail
  clear hE
  haveI ia : NeZero (inW pa w5) := inW_mk (blk_lt b0)
  haveI ib : NeZero (inW (pa + 1) w5) := inW_mk (blk_lt b1)
  go_upto_region 9 with fail
  generalize hW6 : World.alloc (World.alloc (World.alloc w5 _) _) _ = W6
  have z0 : ∀ r, cntV r [] = #[.int .i64 0, .int .i64 0, .int .i64 0, .int .i64 0] := fun r => rfl
  have c0 : blk W6 w5.heap.size (cntV q ((chg p q 52).take 0)) 33 := by rw [List.take_zero, z0, ← hW6]; exact blk_alloc (blk_alloc (blk_new _ _ _) _) _
  have c1 : blk W6 (w5.heap.size + 1) (cntV p ((chg p q 52).take 0)) 33 := by rw [List.take_zero, z0, ← hW6]; exact blk_alloc (blk_at _ _ _ (by simp)) _
  have c2 : blk W6 (w5.heap.size + 1 + 1) (#[.int .u64 ((doall p q ((chg p q 52).take 0) p) 0 : Nat), .int .u64 ((doall p q ((chg p q 52).take 0) p) 1 : Nat), .int .u64 ((doall p q ((chg p q 52).take 0) p) 2 : Nat), .int .u64 ((doall p q ((chg p q 52).take 0) p) 3 : Nat)]) 39 := by rw [List.take_zero, ← hW6]; exact blk_at _ _ _ (by simp)
  have cb : Below w5.heap.size w5 W6 := by rw [← hW6]; repeat (first | (with_reducible exact Below.refl _ _) | ((with_reducible refine below_grow ?_ ?_); rotate_left; focus (first | omega | (simp [go_sem]; done) | (simp [go_sem]; omega))) | ((with_reducible refine Below.alloc ?_ ?_ _); rotate_left; focus (first | omega | (simp [go_sem]; done) | (simp [go_sem]; omega))) | ((with_reducible refine Below.setCell ?_ ?_ _); rotate_left; focus (first | omega | (simp [go_sem]; done) | (simp [go_sem]; omega))) | (with_reducible refine Below.drew ?_) | (with_reducible refine below_drewN _ ?_))
  have B5 := Lib.hid bb
  have Q5 := Lib.hid b1
  clear hW6 z0 k0 k1 k2 k3 m0 m1 m2 m3 b0 b1 bb CO
  go_wp2
  go_loopw [16, 17, 74] (fun _ _ s74 wr => ∃ k : Nat, k ≤ n ∧ s74 = .int .i64 k ∧ blk wr w5.heap.size (cntV q ((chg p q 52).take k)) 33 ∧ blk wr (w5.heap.size + 1) (cntV p ((chg p q 52).take k)) 33 ∧ blk wr (w5.heap.size + 1 + 1) (#[.int .u64 ((doall p q ((chg p q 52).take k) p) 0 : Nat), .int .u64 ((doall p q ((chg p q 52).take k) p) 1 : Nat), .int .u64 ((doall p q ((chg p q 52).take k) p) 2 : Nat), .int .u64 ((doall p q ((chg p q 52).take k) p) 3 : Nat)]) 39 ∧ Below w5.heap.size w5 wr) (fun _ _ s74 _ => n - (intOf s74).toNat)
  case atStart => exact ⟨0, Nat.zero_le _, rfl, c0, c1, c2, cb⟩
  case round =>
    obtain ⟨k, hk, rfl, d0, d1, d2, db⟩ := hrel
    clear c0 c1 c2 cb
    by_cases hlt : k < n
    · obtain ⟨c, hc⟩ : ∃ c, (chg p q 52)[k]? = some c := ⟨_, List.getElem?_eq_getElem (by rw [HN.out]; exact hlt)⟩
      obtain ⟨hc52, hab⟩ := DB.chg_lt p q 52 c (List.mem_of_getElem? hc)
      have ha4 := DB.own_lt p c
      have hb4 := DB.own_lt q c
      obtain ⟨g1, rfl, hg1, hd1⟩ : ∃ g, A1 = some ⟨g, 0, none⟩ ∧ g < w5.heap.size ∧ ∀ j, j < n * 3 → w5.cell? ⟨g, j, none⟩ = (chV p q (chg p q 52))[j]? := by
        rcases S1.out with h | h
        · omega
        · exact h
      obtain ⟨g2, rfl, hg2, hd2⟩ : ∃ g, A2 = some ⟨g, 0, none⟩ ∧ g < w5.heap.size ∧ ∀ j, j < n * 3 → w5.cell? ⟨g, j, none⟩ = (chV q p (chg p q 52))[j]? := by
        rcases S2.out with h | h
        · omega
        · exact h
      obtain ⟨y0, y1, y2⟩ := chV_at p q _ k c hc
      obtain ⟨x0, x1, x2⟩ := chV_at q p _ k c hc
      have p0 : wr.cell? ⟨g1, k * 3, none⟩ = some (.int .u8 c) := ((db.cell (p := ⟨g1, k * 3, none⟩) hg1).trans (hd1 _ (by omega))).trans y0
      have p1 : wr.cell? ⟨g1, k * 3 + 1, none⟩ = some (.int .u8 (own p c : Nat)) := ((db.cell (p := ⟨g1, k * 3 + 1, none⟩) hg1).trans (hd1 _ (by omega))).trans y1
      have p2 : wr.cell? ⟨g1, k * 3 + 2, none⟩ = some (.int .u8 (own q c : Nat)) := ((db.cell (p := ⟨g1, k * 3 + 2, none⟩) hg1).trans (hd1 _ (by omega))).trans y2
      have q0 : wr.cell? ⟨g2, k * 3, none⟩ = some (.int .u8 c) := ((db.cell (p := ⟨g2, k * 3, none⟩) hg2).trans (hd2 _ (by omega))).trans x0
      have q1 : wr.cell? ⟨g2, k * 3 + 1, none⟩ = some (.int .u8 (own q c : Nat)) := ((db.cell (p := ⟨g2, k * 3 + 1, none⟩) hg2).trans (hd2 _ (by omega))).trans x1
      have q2 : wr.cell? ⟨g2, k * 3 + 2, none⟩ = some (.int .u8 (own p c : Nat)) := ((db.cell (p := ⟨g2, k * 3 + 2, none⟩) hg2).trans (hd2 _ (by omega))).trans x2
      have hlt2 : (k : Int) < n := by omega
      have t1 : IntKind.i64.wrap ((k : Int) + 1) = (k : Int) + 1 := IntWalk.i64_in _ (by omega)
      have hz := DB.doall_lt (p := p) (q := q) ((chg p q 52).take k) p (fun x hx => (DB.chg_lt p q 52 x (List.mem_of_mem_take hx)).1) (fun i hi => HP.out.lt i hi)
      have htk : (chg p q 52).take (k + 1) = (chg p q 52).take k ++ [c] := by rw [List.take_add_one, hc]; rfl
      have hcn1 := DB.cnt_le p (own p c) ((chg p q 52).take k)
      have hcn2 := DB.cnt_le q (own q c) ((chg p q 52).take k)
      have htl : ((chg p q 52).take k).length ≤ 52 := by rw [List.length_take]; omega
      have n1 : wr.cell? ⟨w5.heap.size + 1, own p c, none⟩ = some (.int .i64 (cnt p (own p c) ((chg p q 52).take k) : Nat)) := by rw [blk_cell d1]; exact cntV_at _ _ _ ha4
      have n2 : wr.cell? ⟨w5.heap.size, own q c, none⟩ = some (.int .i64 (cnt q (own q c) ((chg p q 52).take k) : Nat)) := by rw [blk_cell d0]; exact cntV_at _ _ _ hb4
      have t2 : IntKind.i64.wrap (((cnt p (own p c) ((chg p q 52).take k) : Nat) : Int) + 1) = (cnt p (own p c) ((chg p q 52).take k) : Nat) + 1 := IntWalk.i64_in _ (by omega)
      have t3 : IntKind.i64.wrap (((cnt q (own q c) ((chg p q 52).take k) : Nat) : Int) + 1) = (cnt q (own q c) ((chg p q 52).take k) : Nat) + 1 := IntWalk.i64_in _ (by omega)
      by_cases hk0 : k = 0
      · have u1 : ¬ (0 : Int) < k := by omega
        have u4 : ¬ ((own p c : Nat) : Int) = (own q c : Nat) := by omega
        have u5 : ¬ (3 : Int) < (own p c : Nat) := by omega
        have u6 : ¬ (3 : Int) < (own q c : Nat) := by omega
        have u8 := eqCh
        have HK := Lib.hid hlt
        have D0 := Lib.hid d0
        have D1 := Lib.hid d1
        have D2 := Lib.hid d2
        have DB' := Lib.hid db
        have HT := Lib.hid htk
        have HZ := Lib.hid hz
        have HG1 := Lib.hid hg1
        have HG2 := Lib.hid hg2
        have wz := blk_lt d2
        haveI ig1 : NeZero (inW g1 wr) := inW_mk (by omega)
        haveI ig2 : NeZero (inW g2 wr) := inW_mk (by omega)
        clear hk hlt hc y0 y1 y2 x0 x1 x2 hd1 hd2 hg1 hg2 d0 d1 d2 db htk hz hcn1 hcn2 htl hk0 hab
        obtain ⟨a, hae⟩ : ∃ a, own p c = a := ⟨_, rfl⟩
        obtain ⟨b, hbe⟩ : ∃ a, own q c = a := ⟨_, rfl⟩
        have HA := Lib.hid hae
        have HB := Lib.hid hbe
        simp only [hae, hbe] at p1 p2 q1 q2 n1 n2 t2 t3 u4 u5 u6 ha4 hb4
        clear hae hbe
        go_upto_region 12 with fail
        generalize hX : World.alloc wr _ = X
        have e0 : X.cell? ⟨wr.heap.size, 0, none⟩ = some (.int .u8 c) := by rw [← hX, blk_cell (blk_new _ _ _)]; rfl
        have e1 : X.cell? ⟨wr.heap.size, 1, none⟩ = some (.int .u8 a) := by rw [← hX, blk_cell (blk_new _ _ _)]; rfl
        have e2 : X.cell? ⟨wr.heap.size, 2, none⟩ = some (.int .u8 b) := by rw [← hX, blk_cell (blk_new _ _ _)]; rfl
        have f0 : X.cell? ⟨g2, k * 3, none⟩ = some (.int .u8 c) := by rw [← hX, World.cell?_alloc_old _ _ _ (Nat.ne_of_lt (inW_lt ig2))]; exact q0
        have f1 : X.cell? ⟨g2, k * 3 + 1, none⟩ = some (.int .u8 b) := by rw [← hX, World.cell?_alloc_old _ _ _ (Nat.ne_of_lt (inW_lt ig2))]; exact q1
        have f2 : X.cell? ⟨g2, k * 3 + 2, none⟩ = some (.int .u8 a) := by rw [← hX, World.cell?_alloc_old _ _ _ (Nat.ne_of_lt (inW_lt ig2))]; exact q2
        have x0 : blk X w5.heap.size (cntV q ((chg p q 52).take k)) 33 := by rw [← hX]; exact blk_alloc D0.out _
        have x1 : blk X (w5.heap.size + 1) (cntV p ((chg p q 52).take k)) 33 := by rw [← hX]; exact blk_alloc D1.out _
        have x2 : blk X (w5.heap.size + 1 + 1) (#[.int .u64 ((doall p q ((chg p q 52).take k) p) 0 : Nat), .int .u64 ((doall p q ((chg p q 52).take k) p) 1 : Nat), .int .u64 ((doall p q ((chg p q 52).take k) p) 2 : Nat), .int .u64 ((doall p q ((chg p q 52).take k) p) 3 : Nat)]) 39 := by rw [← hX]; exact blk_alloc D2.out _
        have xb : Below w5.heap.size w5 X := by have hbs := DB'.out.size; rw [← hX]; repeat (first | (with_reducible exact DB'.out) | ((with_reducible refine below_grow ?_ ?_); rotate_left; focus (first | omega | (simp [go_sem]; done) | (simp [go_sem]; omega))) | ((with_reducible refine Below.alloc ?_ ?_ _); rotate_left; focus (first | omega | (simp [go_sem]; done) | (simp [go_sem]; omega))) | ((with_reducible refine Below.setCell ?_ ?_ _); rotate_left; focus (first | omega | (simp [go_sem]; done) | (simp [go_sem]; omega))) | (with_reducible refine Below.drew ?_) | (with_reducible refine below_drewN _ ?_))
        clear hX p0 p1 p2 q0 q1 q2 n1 n2 ig1 ig2 D0 D1 D2 DB'
        have g1' : decide ((0 : Int) < k) = false := decide_eq_false u1
        have j1 : decide (0 < k) = false := decide_eq_false (by omega)
        have j3 : decide (a = b) = false := decide_eq_false (by omega)
        have j4 : (a == b) = false := beq_eq_false_iff_ne.2 (by omega)
        have j5 : decide (3 < a) = false := decide_eq_false (by omega)
        have j6 : decide (3 < b) = false := decide_eq_false (by omega)
        have g3' : decide ((a : Int) = b) = false := decide_eq_false u4
        have g3'' : ((a : Int) == b) = false := beq_eq_false_iff_ne.2 u4
        have g4' : decide ((3 : Int) < a) = false := decide_eq_false u5
        have g5' : decide ((3 : Int) < b) = false := decide_eq_false u6
        go_quiet (fail)
        clear f0 f1 f2 j3 j4 j5 j6 g3' g3'' g4' g5' u5 u6 u8 j1 g1' u1
        have y1 : X.cell? ⟨w5.heap.size + 1, a, none⟩ = some (.int .i64 (cnt p a ((chg p q 52).take k) : Nat)) := by rw [blk_cell x1]; exact cntV_at _ _ _ ha4
        have y2 : X.cell? ⟨w5.heap.size, b, none⟩ = some (.int .i64 (cnt q b ((chg p q 52).take k) : Nat)) := by rw [blk_cell x0]; exact cntV_at _ _ _ hb4
        have y3 := dcell x2 a ha4
        have y4 := dcell x2 b hb4
        have fz1 : ∀ j, X.frozen? ⟨w5.heap.size + 1, j, none⟩ = false := fun j => blk_free x1 j
        have fz0 : ∀ j, X.frozen? ⟨w5.heap.size, j, none⟩ = false := fun j => blk_free x0 j
        have fz2 : ∀ j, X.frozen? ⟨w5.heap.size + 1 + 1, j, none⟩ = false := fun j => blk_free x2 j
        have l1 : ¬ wr.heap.size = w5.heap.size := by omega
        have l2 : ¬ wr.heap.size = w5.heap.size + 1 := by omega
        have l3 : ¬ wr.heap.size = w5.heap.size + 1 + 1 := by omega
        have l4 : ¬ w5.heap.size = wr.heap.size := by omega
        have l5 : ¬ w5.heap.size + 1 = wr.heap.size := by omega
        have l6 : ¬ w5.heap.size + 1 + 1 = wr.heap.size := by omega
        have l7 : ¬ w5.heap.size + 1 = w5.heap.size := by omega
        have l8 : ¬ w5.heap.size = w5.heap.size + 1 := by omega
        have l9 : ¬ w5.heap.size + 1 + 1 = w5.heap.size := by omega
        have l10 : ¬ w5.heap.size = w5.heap.size + 1 + 1 := by omega
        have l11 : ¬ a = b := fun e => u4 (by rw [e])
        have l12 : ¬ b = a := fun e => u4 (by rw [e])
        have hmn : min c 64 = c := by omega
        have sh : IntKind.u64.wrap ((2 : Int) ^ c) = ((2 ^ c : Nat) : Int) := Ha.wrap_pow c (by omega)
        have hz := HZ.out
        have hpc : 2 ^ c < 18446744073709551616 := Nat.lt_of_lt_of_le (Nat.pow_lt_pow_right (by decide) hc52) (by decide)
        have za := hz a ha4
        have zb := hz b hb4
        obtain ⟨z, hze⟩ : ∃ z, doall p q ((chg p q 52).take k) p = z := ⟨_, rfl⟩
        rw [hze] at y3 y4 za zb
        have an := u64_andNot_nat (z a) (2 ^ c) (by omega) hpc
        rw [DB.and_not_wo (by omega) hpc] at an
        have og := u64_or_nat (z b) (2 ^ c) (by omega) hpc
        have HZE := Lib.hid hze
        have X0 := Lib.hid x0
        have X1 := Lib.hid x1
        have X2 := Lib.hid x2
        have XB := Lib.hid xb
        have HC := Lib.hid hc52
        clear hze hz za zb hpc x0 x1 x2 xb hc52 HZ
        obtain ⟨P, hP⟩ : ∃ P, 2 ^ c = P := ⟨_, rfl⟩
        have HP2 := Lib.hid hP
        rw [hP] at sh an og
        clear hP
        go_upto_region 16 with fail
        go_region
        go_upto_region 17 with fail
        go_region
        go_wp2
        go_roundw
        case rel =>
          have hbs := XB.out.size
          refine ⟨k + 1, HK.out, by go_num, ?_, ?_, ?_, ?_⟩
          · rw [HT.out, ← cntV_set q _ c, HB.out]
            repeat (first | (with_reducible exact X0.out) | (with_reducible refine blk_drew ?_) | (with_reducible refine blk_drewN ?_ _) | (with_reducible refine blk_other ?_ (by omega) _) | (with_reducible refine blk_set ?_ _ _))
          · rw [HT.out, ← cntV_set p _ c, HA.out]
            repeat (first | (with_reducible exact X1.out) | (with_reducible refine blk_drew ?_) | (with_reducible refine blk_drewN ?_ _) | (with_reducible refine blk_other ?_ (by omega) _) | (with_reducible refine blk_set ?_ _ _))
          · have hd := dc_step p q z c
            rw [HA.out, HB.out, if_neg l12, HP2.out] at hd
            rw [HT.out, DB.doall_snoc, HZE.out, ← hd, ← HZE.out]
            repeat (first | (with_reducible exact X2.out) | (with_reducible refine blk_drew ?_) | (with_reducible refine blk_drewN ?_ _) | (with_reducible refine blk_other ?_ (by omega) _) | (with_reducible refine blk_set ?_ _ _))
          · repeat (first | (with_reducible exact XB.out) | ((with_reducible refine below_grow ?_ ?_); rotate_left; focus (first | omega | (simp [go_sem]; done) | (simp [go_sem]; omega))) | ((with_reducible refine Below.alloc ?_ ?_ _); rotate_left; focus (first | omega | (simp [go_sem]; done) | (simp [go_sem]; omega))) | ((with_reducible refine Below.setCell ?_ ?_ _); rotate_left; focus (first | omega | (simp [go_sem]; done) | (simp [go_sem]; omega))) | (with_reducible refine Below.drew ?_) | (with_reducible refine below_drewN _ ?_))
        case measure => simp [intOf]; have := HK.out; omega
      · obtain ⟨m, hm⟩ : ∃ m, k = m + 1 := ⟨k - 1, by omega⟩
        obtain ⟨c', hc'⟩ : ∃ c', (chg p q 52)[m]? = some c' := ⟨_, List.getElem?_eq_getElem (by rw [HN.out]; omega)⟩
        have hcc := DB.chg_rises hc' (by rw [← hm]; exact hc)
        obtain ⟨v0, -, -⟩ := chV_at p q _ m c' hc'
        have r0 : wr.cell? ⟨g1, m * 3, none⟩ = some (.int .u8 c') := ((db.cell (p := ⟨g1, m * 3, none⟩) hg1).trans (hd1 _ (by omega))).trans v0
        have u1 : (0 : Int) < k := by omega
        have u2 : IntKind.i64.wrap ((k : Int) - 1) = m := by rw [IntWalk.i64_in _ (by omega)]; omega
        have u3 : ¬ (c : Int) ≤ c' := by omega
        have u4 : ¬ ((own p c : Nat) : Int) = (own q c : Nat) := by omega
        have u5 : ¬ (3 : Int) < (own p c : Nat) := by omega
        have u6 : ¬ (3 : Int) < (own q c : Nat) := by omega
        have u7 : (m : Int) < n := by omega
        have u8 := eqCh
        have HK := Lib.hid hlt
        have D0 := Lib.hid d0
        have D1 := Lib.hid d1
        have D2 := Lib.hid d2
        have DB' := Lib.hid db
        have HT := Lib.hid htk
        have HZ := Lib.hid hz
        have HG1 := Lib.hid hg1
        have HG2 := Lib.hid hg2
        have wz := blk_lt d2
        haveI ig1 : NeZero (inW g1 wr) := inW_mk (by omega)
        haveI ig2 : NeZero (inW g2 wr) := inW_mk (by omega)
        clear hk hlt hc hc' hcc v0 y0 y1 y2 x0 x1 x2 hd1 hd2 hg1 hg2 d0 d1 d2 db htk hz hcn1 hcn2 htl hk0 hab hm
        obtain ⟨a, hae⟩ : ∃ a, own p c = a := ⟨_, rfl⟩
        obtain ⟨b, hbe⟩ : ∃ a, own q c = a := ⟨_, rfl⟩
        have HA := Lib.hid hae
        have HB := Lib.hid hbe
        simp only [hae, hbe] at p1 p2 q1 q2 n1 n2 t2 t3 u4 u5 u6 ha4 hb4
        clear hae hbe
        go_upto_region 12 with fail
        generalize hX : World.alloc wr _ = X
        have e0 : X.cell? ⟨wr.heap.size, 0, none⟩ = some (.int .u8 c) := by rw [← hX, blk_cell (blk_new _ _ _)]; rfl
        have e1 : X.cell? ⟨wr.heap.size, 1, none⟩ = some (.int .u8 a) := by rw [← hX, blk_cell (blk_new _ _ _)]; rfl
        have e2 : X.cell? ⟨wr.heap.size, 2, none⟩ = some (.int .u8 b) := by rw [← hX, blk_cell (blk_new _ _ _)]; rfl
        have f0 : X.cell? ⟨g2, k * 3, none⟩ = some (.int .u8 c) := by rw [← hX, World.cell?_alloc_old _ _ _ (Nat.ne_of_lt (inW_lt ig2))]; exact q0
        have f1 : X.cell? ⟨g2, k * 3 + 1, none⟩ = some (.int .u8 b) := by rw [← hX, World.cell?_alloc_old _ _ _ (Nat.ne_of_lt (inW_lt ig2))]; exact q1
        have f2 : X.cell? ⟨g2, k * 3 + 2, none⟩ = some (.int .u8 a) := by rw [← hX, World.cell?_alloc_old _ _ _ (Nat.ne_of_lt (inW_lt ig2))]; exact q2
        have f3 : X.cell? ⟨g1, m * 3, none⟩ = some (.int .u8 c') := by rw [← hX, World.cell?_alloc_old _ _ _ (Nat.ne_of_lt (inW_lt ig1))]; exact r0
        have x0 : blk X w5.heap.size (cntV q ((chg p q 52).take k)) 33 := by rw [← hX]; exact blk_alloc D0.out _
        have x1 : blk X (w5.heap.size + 1) (cntV p ((chg p q 52).take k)) 33 := by rw [← hX]; exact blk_alloc D1.out _
        have x2 : blk X (w5.heap.size + 1 + 1) (#[.int .u64 ((doall p q ((chg p q 52).take k) p) 0 : Nat), .int .u64 ((doall p q ((chg p q 52).take k) p) 1 : Nat), .int .u64 ((doall p q ((chg p q 52).take k) p) 2 : Nat), .int .u64 ((doall p q ((chg p q 52).take k) p) 3 : Nat)]) 39 := by rw [← hX]; exact blk_alloc D2.out _
        have xb : Below w5.heap.size w5 X := by have hbs := DB'.out.size; rw [← hX]; repeat (first | (with_reducible exact DB'.out) | ((with_reducible refine below_grow ?_ ?_); rotate_left; focus (first | omega | (simp [go_sem]; done) | (simp [go_sem]; omega))) | ((with_reducible refine Below.alloc ?_ ?_ _); rotate_left; focus (first | omega | (simp [go_sem]; done) | (simp [go_sem]; omega))) | ((with_reducible refine Below.setCell ?_ ?_ _); rotate_left; focus (first | omega | (simp [go_sem]; done) | (simp [go_sem]; omega))) | (with_reducible refine Below.drew ?_) | (with_reducible refine below_drewN _ ?_))
        clear hX p0 p1 p2 q0 q1 q2 r0 n1 n2 ig1 ig2 D0 D1 D2 DB'
        have g1' : decide ((0 : Int) < k) = true := decide_eq_true u1
        have g2' : decide ((c : Int) ≤ c') = false := decide_eq_false u3
        have j1 : decide (0 < k) = true := decide_eq_true (by omega)
        have j2 : decide (c ≤ c') = false := decide_eq_false (by omega)
        have j3 : decide (a = b) = false := decide_eq_false (by omega)
        have j4 : (a == b) = false := beq_eq_false_iff_ne.2 (by omega)
        have j5 : decide (3 < a) = false := decide_eq_false (by omega)
        have j6 : decide (3 < b) = false := decide_eq_false (by omega)
        have g3' : decide ((a : Int) = b) = false := decide_eq_false u4
        have g3'' : ((a : Int) == b) = false := beq_eq_false_iff_ne.2 u4
        have g4' : decide ((3 : Int) < a) = false := decide_eq_false u5
        have g5' : decide ((3 : Int) < b) = false := decide_eq_false u6
        go_quiet (fail)
        clear f0 f1 f2 f3 j3 j4 j5 j6 g3' g3'' g4' g5' u5 u6 u8 j1 j2 g1' g2' u1 u2 u3 u7
        have y1 : X.cell? ⟨w5.heap.size + 1, a, none⟩ = some (.int .i64 (cnt p a ((chg p q 52).take k) : Nat)) := by rw [blk_cell x1]; exact cntV_at _ _ _ ha4
        have y2 : X.cell? ⟨w5.heap.size, b, none⟩ = some (.int .i64 (cnt q b ((chg p q 52).take k) : Nat)) := by rw [blk_cell x0]; exact cntV_at _ _ _ hb4
        have y3 := dcell x2 a ha4
        have y4 := dcell x2 b hb4
        have fz1 : ∀ j, X.frozen? ⟨w5.heap.size + 1, j, none⟩ = false := fun j => blk_free x1 j
        have fz0 : ∀ j, X.frozen? ⟨w5.heap.size, j, none⟩ = false := fun j => blk_free x0 j
        have fz2 : ∀ j, X.frozen? ⟨w5.heap.size + 1 + 1, j, none⟩ = false := fun j => blk_free x2 j
        have l1 : ¬ wr.heap.size = w5.heap.size := by omega
        have l2 : ¬ wr.heap.size = w5.heap.size + 1 := by omega
        have l3 : ¬ wr.heap.size = w5.heap.size + 1 + 1 := by omega
        have l4 : ¬ w5.heap.size = wr.heap.size := by omega
        have l5 : ¬ w5.heap.size + 1 = wr.heap.size := by omega
        have l6 : ¬ w5.heap.size + 1 + 1 = wr.heap.size := by omega
        have l7 : ¬ w5.heap.size + 1 = w5.heap.size := by omega
        have l8 : ¬ w5.heap.size = w5.heap.size + 1 := by omega
        have l9 : ¬ w5.heap.size + 1 + 1 = w5.heap.size := by omega
        have l10 : ¬ w5.heap.size = w5.heap.size + 1 + 1 := by omega
        have l11 : ¬ a = b := fun e => u4 (by rw [e])
        have l12 : ¬ b = a := fun e => u4 (by rw [e])
        have hmn : min c 64 = c := by omega
        have sh : IntKind.u64.wrap ((2 : Int) ^ c) = ((2 ^ c : Nat) : Int) := Ha.wrap_pow c (by omega)
        have hz := HZ.out
        have hpc : 2 ^ c < 18446744073709551616 := Nat.lt_of_lt_of_le (Nat.pow_lt_pow_right (by decide) hc52) (by decide)
        have za := hz a ha4
        have zb := hz b hb4
        obtain ⟨z, hze⟩ : ∃ z, doall p q ((chg p q 52).take k) p = z := ⟨_, rfl⟩
        rw [hze] at y3 y4 za zb
        have an := u64_andNot_nat (z a) (2 ^ c) (by omega) hpc
        rw [DB.and_not_wo (by omega) hpc] at an
        have og := u64_or_nat (z b) (2 ^ c) (by omega) hpc
        have HZE := Lib.hid hze
        have X0 := Lib.hid x0
        have X1 := Lib.hid x1
        have X2 := Lib.hid x2
        have XB := Lib.hid xb
        have HC := Lib.hid hc52
        clear hze hz za zb hpc x0 x1 x2 xb hc52 HZ
        obtain ⟨P, hP⟩ : ∃ P, 2 ^ c = P := ⟨_, rfl⟩
        have HP2 := Lib.hid hP
        rw [hP] at sh an og
        clear hP
        go_upto_region 16 with fail
        go_region
        go_upto_region 17 with fail
        go_region
        go_wp2
        go_roundw
        case rel =>
          have hbs := XB.out.size
          refine ⟨k + 1, HK.out, by go_num, ?_, ?_, ?_, ?_⟩
          · rw [HT.out, ← cntV_set q _ c, HB.out]
            repeat (first | (with_reducible exact X0.out) | (with_reducible refine blk_drew ?_) | (with_reducible refine blk_drewN ?_ _) | (with_reducible refine blk_other ?_ (by omega) _) | (with_reducible refine blk_set ?_ _ _))
          · rw [HT.out, ← cntV_set p _ c, HA.out]
            repeat (first | (with_reducible exact X1.out) | (with_reducible refine blk_drew ?_) | (with_reducible refine blk_drewN ?_ _) | (with_reducible refine blk_other ?_ (by omega) _) | (with_reducible refine blk_set ?_ _ _))
          · have hd := dc_step p q z c
            rw [HA.out, HB.out, if_neg l12, HP2.out] at hd
            rw [HT.out, DB.doall_snoc, HZE.out, ← hd, ← HZE.out]
            repeat (first | (with_reducible exact X2.out) | (with_reducible refine blk_drew ?_) | (with_reducible refine blk_drewN ?_ _) | (with_reducible refine blk_other ?_ (by omega) _) | (with_reducible refine blk_set ?_ _ _))
          · repeat (first | (with_reducible exact XB.out) | ((with_reducible refine below_grow ?_ ?_); rotate_left; focus (first | omega | (simp [go_sem]; done) | (simp [go_sem]; omega))) | ((with_reducible refine Below.alloc ?_ ?_ _); rotate_left; focus (first | omega | (simp [go_sem]; done) | (simp [go_sem]; omega))) | ((with_reducible refine Below.setCell ?_ ?_ _); rotate_left; focus (first | omega | (simp [go_sem]; done) | (simp [go_sem]; omega))) | (with_reducible refine Below.drew ?_) | (with_reducible refine below_drewN _ ?_))
        case measure => simp [intOf]; have := HK.out; omega
    · obtain rfl : k = n := by omega
      have htk : (chg p q 52).take k = chg p q 52 := List.take_of_length_le (by rw [HN.out]; exact Nat.le_refl _)
      rw [htk] at d0 d1 d2
      rw [cntV_same HP.out HQ.out] at d1
      rw [dc_same (DB.doall_end HP.out HQ.out)] at d2
      have db2 := (B5.out).trans (db.mono B5.out.size)
      have AW := Lib.hid (A.out wr db2)
      have b1 := blk_below Q5.out db (blk_lt Q5.out)
      have y0 : wr.cell? ⟨w5.heap.size, 0, none⟩ = some (.int .i64 (cnt q 0 (chg p q 52) : Nat)) := blk_cell d0 0
      have y1 : wr.cell? ⟨w5.heap.size, 1, none⟩ = some (.int .i64 (cnt q 1 (chg p q 52) : Nat)) := blk_cell d0 1
      have y2 : wr.cell? ⟨w5.heap.size, 2, none⟩ = some (.int .i64 (cnt q 2 (chg p q 52) : Nat)) := blk_cell d0 2
      have y3 : wr.cell? ⟨w5.heap.size, 3, none⟩ = some (.int .i64 (cnt q 3 (chg p q 52) : Nat)) := blk_cell d0 3
      have x0 : wr.cell? ⟨w5.heap.size + 1, 0, none⟩ = some (.int .i64 (cnt q 0 (chg p q 52) : Nat)) := blk_cell d1 0
      have x1 : wr.cell? ⟨w5.heap.size + 1, 1, none⟩ = some (.int .i64 (cnt q 1 (chg p q 52) : Nat)) := blk_cell d1 1
      have x2 : wr.cell? ⟨w5.heap.size + 1, 2, none⟩ = some (.int .i64 (cnt q 2 (chg p q 52) : Nat)) := blk_cell d1 2
      have x3 : wr.cell? ⟨w5.heap.size + 1, 3, none⟩ = some (.int .i64 (cnt q 3 (chg p q 52) : Nat)) := blk_cell d1 3
      have z0 : wr.cell? ⟨w5.heap.size + 1 + 1, 0, none⟩ = some (.int .u64 (q 0 : Nat)) := blk_cell d2 0
      have z1 : wr.cell? ⟨w5.heap.size + 1 + 1, 1, none⟩ = some (.int .u64 (q 1 : Nat)) := blk_cell d2 1
      have z2 : wr.cell? ⟨w5.heap.size + 1 + 1, 2, none⟩ = some (.int .u64 (q 2 : Nat)) := blk_cell d2 2
      have z3 : wr.cell? ⟨w5.heap.size + 1 + 1, 3, none⟩ = some (.int .u64 (q 3 : Nat)) := blk_cell d2 3
      have m0 : wr.cell? ⟨pa + 1, 0, none⟩ = some (.int .u64 (q 0 : Nat)) := blk_cell b1 0
      have m1 : wr.cell? ⟨pa + 1, 1, none⟩ = some (.int .u64 (q 1 : Nat)) := blk_cell b1 1
      have m2 : wr.cell? ⟨pa + 1, 2, none⟩ = some (.int .u64 (q 2 : Nat)) := blk_cell b1 2
      have m3 : wr.cell? ⟨pa + 1, 3, none⟩ = some (.int .u64 (q 3 : Nat)) := blk_cell b1 3
      have E1 := eqI4
      have E2 := eqDl
      have CB := Lib.hid db2
      clear d0 d1 d2 db db2 b1 A hk hlt htk
      go_wp2_with (go_at_call 15; refine AW.out.mono ?_; rintro e w9 ⟨rfl, hbel⟩; obtain ⟨o7, j7, rfl⟩ := grow_of_below hbel; clear hbel)
      have hbs := CB.out.size
      refine bodyPost_ret (by simp [results, Tryd.results5, go_sem]) rfl ⟨rfl, ?_⟩
      repeat (first | (with_reducible exact CB.out) | ((with_reducible refine below_grow ?_ ?_); rotate_left; focus (first | omega | (simp [go_sem]; done) | (simp [go_sem]; omega))) | ((with_reducible refine Below.alloc ?_ ?_ _); rotate_left; focus (first | omega | (simp [go_sem]; done) | (simp [go_sem]; omega))) | ((with_reducible refine Below.setCell ?_ ?_ _); rotate_left; focus (first | omega | (simp [go_sem]; done) | (simp [go_sem]; omega))) | (with_reducible refine Below.drew ?_) | (with_reducible refine below_drewN _ ?_))
end Go.Proofs.YtalklogopepjpaaDoor.Ca
