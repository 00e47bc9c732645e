/- Auctions: Legal, Last, declarer, Contract, Leader. -/
import Derived.Test.YtacgikhedhiaaaaDoorLF
import Derived.Test.YtacgikhedhiaaaaDoorLB
namespace Go.Proofs.YtacgikhedhiaaaaDoor
open Go.RowKit

theorem legal_no (d : Nat) (v : Value) (xs : List Nat) (h : Wg d xs) (b : Bts d xs) (w : World) (hS : SlB w v xs) :
    Calls Tryd.prog 14 #[.int .u8 d, v] w fun e w' => e = .returned (.tuple #[.slice none 0 0, .int .i64 2]) ∧ Below w.heap.size w w' := by
  have F := Lib.hid (fun W (hb : Below w.heap.size w W) => open_no d v xs h b W (slb_below hS hb))
  clear h hS b
  go_enter Tryd.func14, Tryd.ntmps14
  go_wp2_with (go_at_call 41; refine (F.out _ (by repeat (first | (with_reducible exact Below.refl _ _) | ((with_reducible refine below_grow ?_ ?_); rotate_left; focus (first | omega | (simp [go_sem]; done) | (simp [go_sem]; omega))) | ((with_reducible refine Below.alloc ?_ ?_ _); rotate_left; focus (first | omega | (simp [go_sem]; done) | (simp [go_sem]; omega))) | ((with_reducible refine Below.setCell ?_ ?_ _); rotate_left; focus (first | omega | (simp [go_sem]; done) | (simp [go_sem]; omega))) | (with_reducible refine Below.drew ?_) | (with_reducible refine below_drewN _ ?_)))).mono ?_; rintro e w9 ⟨rfl, hbel⟩; obtain ⟨o1, j1, rfl⟩ := grow_of_below hbel; clear hbel)
  refine bodyPost_ret (by simp [results, Tryd.results14, go_sem]) rfl ⟨rfl, ?_⟩
  repeat (first | (with_reducible exact Below.refl _ _) | ((with_reducible refine below_grow ?_ ?_); rotate_left; focus (first | omega | (simp [go_sem]; done) | (simp [go_sem]; omega))) | ((with_reducible refine Below.alloc ?_ ?_ _); rotate_left; focus (first | omega | (simp [go_sem]; done) | (simp [go_sem]; omega))) | ((with_reducible refine Below.setCell ?_ ?_ _); rotate_left; focus (first | omega | (simp [go_sem]; done) | (simp [go_sem]; omega))) | (with_reducible refine Below.drew ?_) | (with_reducible refine below_drewN _ ?_))
theorem legal_over (d : Nat) (v : Value) (xs : List Nat) (s : St) (h : Rt d xs s) (ho : s.over = true) (w : World) (hS : SlB w v xs) :
    Calls Tryd.prog 14 #[.int .u8 d, v] w fun e w' => e = .returned (.tuple #[.slice none 0 0, .int .i64 90]) ∧ Below w.heap.size w w' := by
  have F := Lib.hid (fun W (hb : Below w.heap.size w W) => open_yes d v xs s h W (slb_below hS hb))
  rw [ho, if_pos rfl] at F
  clear h hS ho
  go_enter Tryd.func14, Tryd.ntmps14
  go_wp2_with (go_at_call 41; refine (F.out _ (by repeat (first | (with_reducible exact Below.refl _ _) | ((with_reducible refine below_grow ?_ ?_); rotate_left; focus (first | omega | (simp [go_sem]; done) | (simp [go_sem]; omega))) | ((with_reducible refine Below.alloc ?_ ?_ _); rotate_left; focus (first | omega | (simp [go_sem]; done) | (simp [go_sem]; omega))) | ((with_reducible refine Below.setCell ?_ ?_ _); rotate_left; focus (first | omega | (simp [go_sem]; done) | (simp [go_sem]; omega))) | (with_reducible refine Below.drew ?_) | (with_reducible refine below_drewN _ ?_)))).mono ?_; rintro e w9 ⟨rfl, hbel⟩; obtain ⟨o1, j1, rfl⟩ := grow_of_below hbel; clear hbel)
  refine bodyPost_ret (by simp [results, Tryd.results14, go_sem]) rfl ⟨rfl, ?_⟩
  repeat (first | (with_reducible exact Below.refl _ _) | ((with_reducible refine below_grow ?_ ?_); rotate_left; focus (first | omega | (simp [go_sem]; done) | (simp [go_sem]; omega))) | ((with_reducible refine Below.alloc ?_ ?_ _); rotate_left; focus (first | omega | (simp [go_sem]; done) | (simp [go_sem]; omega))) | ((with_reducible refine Below.setCell ?_ ?_ _); rotate_left; focus (first | omega | (simp [go_sem]; done) | (simp [go_sem]; omega))) | (with_reducible refine Below.drew ?_) | (with_reducible refine below_drewN _ ?_))
set_option maxRecDepth 100000 in
set_option maxHeartbeats 8000000 in
theorem legal_open (d : Nat) (v : Value) (xs : List Nat) (s : St) (h : Rt d xs s) (ho : s.over = false) (w : World) (hS : SlB w v xs) :
    Calls Tryd.prog 14 #[.int .u8 d, v] w fun e w' => (∃ v', e = .returned (.tuple #[v', .int .i64 0]) ∧ w'.ownsRow w.heap.size 5 1 v' s.lgl.length (s.lgl.map u8v)) ∧ Below w.heap.size w w' := by
  obtain ⟨i0, hi, hz0, hz1, hz2⟩ := info_parts Tryd.infoU
  have F := Lib.hid (fun W (hb : Below w.heap.size w W) => open_yes d v xs s h W (slb_below hS hb))
  rw [ho, if_neg (by decide)] at F
  have by' := h.ok.by
  have AL := Lib.hid (fun c (hc : c < 256) => allows_calls s by' c hc)
  clear h hS ho by'
  go_enter Tryd.func14, Tryd.ntmps14
  go_upto_region 1 with fail
  go_upto_region 2 with (go_at_call 41; refine (F.out _ (by repeat (first | (with_reducible exact Below.refl _ _) | ((with_reducible refine below_grow ?_ ?_); rotate_left; focus (first | omega | (simp [go_sem]; done) | (simp [go_sem]; omega))) | ((with_reducible refine Below.alloc ?_ ?_ _); rotate_left; focus (first | omega | (simp [go_sem]; done) | (simp [go_sem]; omega))) | ((with_reducible refine Below.setCell ?_ ?_ _); rotate_left; focus (first | omega | (simp [go_sem]; done) | (simp [go_sem]; omega))) | (with_reducible refine Below.drew ?_) | (with_reducible refine below_drewN _ ?_)))).mono ?_; rintro e w9 ⟨rfl, hbel⟩; obtain ⟨o1, j1, rfl⟩ := grow_of_below hbel; clear hbel)
  have bS : blk ((grow w o1 j1).alloc (.cells (stC s) 79)) (grow w o1 j1).heap.size (stC s) 79 := blk_new _ _ _
  have cb : Below w.heap.size w ((grow w o1 j1).alloc (.cells (stC s) 79)) := by repeat (first | (with_reducible exact Below.refl _ _) | ((with_reducible refine below_grow ?_ ?_); rotate_left; focus (first | omega | (simp [go_sem]; done) | (simp [go_sem]; omega))) | ((with_reducible refine Below.alloc ?_ ?_ _); rotate_left; focus (first | omega | (simp [go_sem]; done) | (simp [go_sem]; omega))) | ((with_reducible refine Below.setCell ?_ ?_ _); rotate_left; focus (first | omega | (simp [go_sem]; done) | (simp [go_sem]; omega))) | (with_reducible refine Below.drew ?_) | (with_reducible refine below_drewN _ ?_))
  have hbs := cb.size
  have hq : (grow w o1 j1).heap.size = w.heap.size + sz o1 := grow_size _ _ _
  rw [hq] at bS
  generalize (grow w o1 j1).alloc (.cells (stC s) 79) = W0 at *
  obtain ⟨q, hq2⟩ : ∃ q, w.heap.size + sz o1 = q := ⟨_, rfl⟩
  have hwq : w.heap.size ≤ q := by omega
  rw [hq2] at bS ⊢
  have hlt0 := blk_lt bS
  clear hq hq2 F
  go_wp2
  go_loopw [8, 9, 19] (fun s8 _ s19 wr => ∃ k : Nat, s19 = .int .u8 k ∧ k ≤ 38 ∧ wr.ownsRow (q + 1) 5 1 s8 ((List.range k).filter s.alw).length (((List.range k).filter s.alw).map u8v) ∧ blk wr q (stC s) 79 ∧ Below w.heap.size w wr) (fun _ _ s19 _ => 38 - (intOf s19).toNat)
  case atStart => exact ⟨0, rfl, by decide, World.ownsRow_nil _ _ _ _, bS, cb⟩
  case round =>
    obtain ⟨k, rfl, hk, hrow, bS, cb⟩ := hrel
    by_cases hlt : k < 38
    · have hlt2 : (k : Int) < 38 := by omega
      have e1 : IntKind.u8.wrap ((k : Int) + 1) = (k : Int) + 1 := u8_wrap (by omega) (by omega)
      have A := Lib.hid (AL.out k (by omega))
      obtain ⟨m0, m1, m2, m3, m4⟩ := st_cells bS
      have hlen : ((List.range k).filter s.alw).length ≤ k := by
        have := List.length_filter_le s.alw (List.range k)
        rwa [List.length_range] at this
      have hsucc : (List.range (k + 1)).filter s.alw = (List.range k).filter s.alw ++ (if s.alw k then [k] else []) := by
        rw [List.range_succ, List.filter_append]
        congr 1
        simp only [List.filter_cons, List.filter_nil]
      obtain ⟨L, hL⟩ : ∃ L, (List.range k).filter s.alw = L := ⟨_, rfl⟩
      rw [hL] at hrow hlen hsucc
      have HR := Lib.hid hrow
      have BS := Lib.hid bS
      have CB := Lib.hid cb
      have HN := Lib.hid hsucc
      have HL := Lib.hid hlen
      have hbs := cb.size
      have hbl := blk_lt bS
      clear hrow bS cb hL hlen hsucc
      cases ha : s.alw k with
      | true =>
        have HA := Lib.hid ha
        rw [ha] at A
        clear ha
        go_wp2_with (first | (go_at_call 42; refine (A.out _).mono ?_; rintro e w9 ⟨rfl, hbel⟩; obtain ⟨o2, j2, rfl⟩ := grow_of_below hbel; clear hbel) | (at_builtin; refine wpList_append_own _ rfl _ _ 22 rfl (q + 1) 5 i0 (.int .u8 0) 1 1 Tryd.underlying22 hi hz0 hz1 hz2 rfl (by decide) _ _ _ rfl ((own_grow HR.out _ _).alloc _) ⟨wr.heap.size + sz o2, 0, none⟩ 1 1 [u8v k] rfl rfl (news1 _ _ _ _ (by simp [go_sem]) rfl) (fun u hu => by simp only [List.mem_singleton] at hu; subst hu; rfl) (by have := HL.out; unfold maxLen; omega) (by have := HL.out; omega) (by simp [go_sem]; omega) ?_; intro v' w1 hown' hgrow _))
        go_roundw
        case rel =>
          refine ⟨k + 1, by go_num, by omega, ?_, blk_grown (by repeat (first | (with_reducible exact BS.out) | (with_reducible exact set4 BS.out _ _ _ _) | (with_reducible refine blk_grow ?_ _ _) | (with_reducible refine blk_alloc ?_ _) | (with_reducible refine blk_drew ?_) | (with_reducible refine blk_other ?_ (by (first | omega | (simp [go_sem]; done) | (simp [go_sem]; omega))) _))) hgrow (not_row HR.out (by omega)), Below.grown (by repeat (first | (with_reducible exact CB.out) | ((with_reducible refine below_grow ?_ ?_); rotate_left; focus (first | omega | (simp [go_sem]; done) | (simp [go_sem]; omega))) | ((with_reducible refine Below.alloc ?_ ?_ _); rotate_left; focus (first | omega | (simp [go_sem]; done) | (simp [go_sem]; omega))) | ((with_reducible refine Below.setCell ?_ ?_ _); rotate_left; focus (first | omega | (simp [go_sem]; done) | (simp [go_sem]; omega))) | (with_reducible refine Below.drew ?_) | (with_reducible refine below_drewN _ ?_))) hgrow (by simp [go_sem]; omega) (fun k e => by have := own_block_ge HR.out e; omega)⟩
          rw [HN.out, HA.out, if_pos rfl, List.map_append, List.length_append]
          exact hown'
        case measure => simp [intOf]; omega
      | false =>
        have HA := Lib.hid ha
        rw [ha] at A
        clear ha
        go_wp2_with (first | (go_at_call 42; refine (A.out _).mono ?_; rintro e w9 ⟨rfl, hbel⟩; obtain ⟨o2, j2, rfl⟩ := grow_of_below hbel; clear hbel))
        go_roundw
        case rel =>
          refine ⟨k + 1, by go_num, by omega, ?_, by repeat (first | (with_reducible exact BS.out) | (with_reducible exact set4 BS.out _ _ _ _) | (with_reducible refine blk_grow ?_ _ _) | (with_reducible refine blk_alloc ?_ _) | (with_reducible refine blk_drew ?_) | (with_reducible refine blk_other ?_ (by (first | omega | (simp [go_sem]; done) | (simp [go_sem]; omega))) _)), by repeat (first | (with_reducible exact CB.out) | ((with_reducible refine below_grow ?_ ?_); rotate_left; focus (first | omega | (simp [go_sem]; done) | (simp [go_sem]; omega))) | ((with_reducible refine Below.alloc ?_ ?_ _); rotate_left; focus (first | omega | (simp [go_sem]; done) | (simp [go_sem]; omega))) | ((with_reducible refine Below.setCell ?_ ?_ _); rotate_left; focus (first | omega | (simp [go_sem]; done) | (simp [go_sem]; omega))) | (with_reducible refine Below.drew ?_) | (with_reducible refine below_drewN _ ?_))⟩
          rw [HN.out, HA.out, if_neg (by decide), List.append_nil]
          exact own_grow HR.out _ _
        case measure => simp [intOf]; omega
    · obtain rfl : k = 38 := by omega
      go_wp2
      refine bodyPost_ret (by simp [results, Tryd.results14, go_sem]; rfl) rfl ⟨⟨_, rfl, ?_⟩, cb⟩
      exact own_base (B := w.heap.size) (C := q + 1 - w.heap.size) (by rw [show w.heap.size + (q + 1 - w.heap.size) = q + 1 by omega]; exact hrow)
/-- What Last returns. -/
def laV : Option Nat → Value
  | none => .tuple #[.int .i64 0, .bool false]
  | some k => .tuple #[.int .i64 k, .bool true]
set_option maxRecDepth 100000 in
set_option maxHeartbeats 8000000 in
theorem last_calls (v : Value) (xs : List Nat) (h8 : ∀ x ∈ xs, x < 256) (hn : xs.length ≤ 1000000) (w : World) (hS : SlB w v xs) :
    Calls Tryd.prog 20 #[v] w fun e w' => e = .returned (laV (la xs)) ∧ w = w' := by
  obtain ⟨p, c, rfl, hc, hxc⟩ := hS
  obtain ⟨T, hT⟩ : ∃ T, la xs = T := ⟨_, rfl⟩
  have hT2 : laF xs xs.length = T := hT
  rw [hT]
  clear hT
  obtain ⟨n, hxn⟩ : ∃ n, xs.length = n := ⟨_, rfl⟩
  rw [hxn] at hc hn hT2 ⊢
  have HT := Lib.hid hT2
  have HX := Lib.hid hxc
  have e0 : IntKind.i64.wrap ((n : Int) - 1) = (n : Int) - 1 := IntWalk.i64_in _ (by omega)
  clear hT2 hxc
  go_enter Tryd.func20, Tryd.ntmps20
  go_wp2
  go_loopw [4] (fun s4 wr => ∃ k : Nat, s4 = .int .i64 ((k : Int) - 1) ∧ k ≤ n ∧ laF xs k = T ∧ w = wr) (fun s4 _ => ((intOf s4) + 1).toNat)
  case atStart => exact ⟨n, rfl, Nat.le_refl _, HT.out, rfl⟩
  case round =>
    obtain ⟨k, rfl, hk, hT, rfl⟩ := hrel
    cases k with
    | zero =>
      unfold laF at hT
      subst hT
      go_wp2
      refine bodyPost_ret (by simp [results, Tryd.results20, go_sem, laV]) rfl ⟨rfl, ?_⟩
      rfl
    | succ k =>
      have e2 : ((k + 1 : Nat) : Int) - 1 = k := by omega
      rw [e2]
      have hlt2 : ¬ (k : Int) < 0 := by omega
      have hne : xs ≠ [] := by rintro rfl; simp at hxn; omega
      obtain ⟨b1, o1, rfl, hb1, hx⟩ := HX.out hne
      obtain ⟨a, ha⟩ : ∃ a, xs[k]? = some a := ⟨_, List.getElem?_eq_getElem (by omega)⟩
      have k1 := hx k a ha
      have hD : xs.getD k 0 = a := by rw [List.getD_eq_getElem?_getD, ha]; rfl
      have hkn : (k : Int) < n := by omega
      have e1 : IntKind.i64.wrap ((k : Int) - 1) = (k : Int) - 1 := IntWalk.i64_in _ (by omega)
      have IB := Lib.hid (aisBid_calls a)
      unfold laF at hT
      rw [hD] at hT
      clear hD ha hx hne
      cases hb : isb a with
      | true =>
        rw [hb] at IB
        rw [hb, if_pos rfl] at hT
        subst hT
        go_wp2_with (go_at_call 48; refine (IB.out _).mono ?_; rintro e w9 ⟨rfl, rfl⟩)
        refine bodyPost_ret (by simp [results, Tryd.results20, go_sem, laV]) rfl ⟨rfl, ?_⟩
        rfl
      | false =>
        rw [hb] at IB
        rw [hb, if_neg (by decide)] at hT
        go_wp2_with (go_at_call 48; refine (IB.out _).mono ?_; rintro e w9 ⟨rfl, rfl⟩)
        go_roundw
        case rel => exact ⟨k, by go_num, by omega, hT, trivial⟩
        case measure => simp [intOf]
set_option maxRecDepth 100000 in
set_option maxHeartbeats 8000000 in
theorem declarer_calls (d : Nat) (hd : d < 4) (v : Value) (xs : List Nat) (h8 : ∀ x ∈ xs, x < 256) (hn : xs.length ≤ 1000000) (seat den : Nat) (hs : seat < 4) (hd8 : den < 256) (w : World) (hS : SlB w v xs) :
    Calls Tryd.prog 47 #[.int .u8 d, v, .int .u8 seat, .int .u8 den] w fun e w' => e = .returned (.int .u8 (dcl seat den d xs : Nat)) ∧ w = w' := by
  obtain ⟨p, c, rfl, hc, hxc⟩ := hS
  obtain ⟨n, hxn⟩ : ∃ n, xs.length = n := ⟨_, rfl⟩
  obtain ⟨T, hT⟩ : ∃ T, dcl seat den d xs = T := ⟨_, rfl⟩
  rw [hT]
  rw [hxn] at hc hn ⊢
  have HT := Lib.hid hT
  have HX := Lib.hid hxc
  clear hT hxc
  go_enter Tryd.func47, Tryd.ntmps47
  go_wp2
  go_loopw [9, 11, 12, 13, 14, 18] (fun s9 _ _ _ _ s18 wr => ∃ i t : Nat, s18 = .int .i64 i ∧ s9 = .int .u8 t ∧ i ≤ n ∧ t < 4 ∧ dcl seat den t (xs.drop i) = T ∧ w = wr) (fun _ _ _ _ _ s18 _ => n - (intOf s18).toNat)
  case atStart => exact ⟨0, d, rfl, rfl, Nat.zero_le _, hd, HT.out, rfl⟩
  case round =>
    obtain ⟨i, t, rfl, rfl, hi, ht, hT, rfl⟩ := hrel
    by_cases hlt : i < n
    · have hlt2 : (i : Int) < n := by omega
      have hne : xs ≠ [] := by rintro rfl; simp at hxn; omega
      obtain ⟨b1, o1, rfl, hb1, hx⟩ := HX.out hne
      obtain ⟨a, ha⟩ : ∃ a, xs[i]? = some a := ⟨_, List.getElem?_eq_getElem (by omega)⟩
      have k1 : w.cell? ⟨b1, o1 + i, none⟩ = some (.int .u8 a) := hx i a ha
      have e1 : IntKind.i64.wrap ((i : Int) + 1) = (i : Int) + 1 := IntWalk.i64_in _ (by omega)
      have hdrop : xs.drop i = a :: xs.drop (i + 1) := by
        obtain ⟨hl, rfl⟩ := List.getElem?_eq_some_iff.1 ha
        exact List.drop_eq_getElem_cons hl
      rw [hdrop, dcl] at hT
      have P := Lib.hid (parts_calls a)
      have SS := Lib.hid (sameSide_calls t seat (by omega) (by omega))
      have L := Lib.hid (left_calls t ht)
      obtain ⟨t1, ht1⟩ : ∃ t1, (t + 1) % 4 = t1 := ⟨_, rfl⟩
      have h14 : t1 < 4 := by omega
      rw [ht1] at L hT
      obtain ⟨y, hy⟩ : ∃ y, prL a = y := ⟨_, rfl⟩
      obtain ⟨z, hz⟩ : ∃ y, prD a = y := ⟨_, rfl⟩
      rw [hy, hz] at P
      rw [hz] at hT
      clear ha hx hne hdrop hy hz ht1
      cases hb : isb a with
      | false =>
        rw [hb] at P
        rw [hb] at hT
        simp only [Bool.false_and, Bool.false_eq_true, if_false] at hT
        go_wp2_with (first | (go_at_call 21; refine (P.out _).mono ?_; rintro e w9 ⟨rfl, rfl⟩) | (go_at_call 68; refine (SS.out _).mono ?_; rintro e w9 ⟨rfl, rfl⟩) | (go_at_call 50; refine (L.out _).mono ?_; rintro e w9 ⟨rfl, rfl⟩))
        go_roundw
        case rel => exact ⟨i + 1, t1, by go_num, rfl, by omega, h14, hT, by trivial⟩
        case measure => simp [intOf]; omega
      | true =>
        rw [hb] at P
        rw [hb] at hT
        by_cases hzd : z = den
        · subst hzd
          cases hsd : sd t seat with
          | true =>
            rw [hsd] at SS hT
            simp only [decide_true, Bool.true_and, if_true] at hT
            subst hT
            go_wp2_with (first | (go_at_call 21; refine (P.out _).mono ?_; rintro e w9 ⟨rfl, rfl⟩) | (go_at_call 68; refine (SS.out _).mono ?_; rintro e w9 ⟨rfl, rfl⟩) | (go_at_call 50; refine (L.out _).mono ?_; rintro e w9 ⟨rfl, rfl⟩))
            refine bodyPost_ret (by simp [results, Tryd.results47, go_sem]) rfl ⟨rfl, ?_⟩
            rfl
          | false =>
            rw [hsd] at SS hT
            simp only [decide_true, Bool.true_and, Bool.false_eq_true, if_false] at hT
            go_wp2_with (first | (go_at_call 21; refine (P.out _).mono ?_; rintro e w9 ⟨rfl, rfl⟩) | (go_at_call 68; refine (SS.out _).mono ?_; rintro e w9 ⟨rfl, rfl⟩) | (go_at_call 50; refine (L.out _).mono ?_; rintro e w9 ⟨rfl, rfl⟩))
            go_roundw
            case rel => exact ⟨i + 1, t1, by go_num, rfl, by omega, h14, hT, by trivial⟩
            case measure => simp [intOf]; omega
        · have hzd2 : ¬ (z : Int) = den := by omega
          rw [decide_eq_false hzd] at hT
          simp only [Bool.and_false, Bool.false_and, Bool.false_eq_true, if_false] at hT
          go_wp2_with (first | (go_at_call 21; refine (P.out _).mono ?_; rintro e w9 ⟨rfl, rfl⟩) | (go_at_call 68; refine (SS.out _).mono ?_; rintro e w9 ⟨rfl, rfl⟩) | (go_at_call 50; refine (L.out _).mono ?_; rintro e w9 ⟨rfl, rfl⟩))
          go_roundw
          case rel => exact ⟨i + 1, t1, by go_num, rfl, by omega, h14, hT, by trivial⟩
          case measure => simp [intOf]; omega
    · obtain rfl : i = n := by omega
      rw [List.drop_of_length_le (by omega), dcl] at hT
      subst hT
      go_wp2
      refine bodyPost_ret (by simp [results, Tryd.results47, go_sem]) rfl ⟨rfl, ?_⟩
      rfl
def ctV (c : Nat × Nat × Nat × Nat) : Value := .agg #[.int .u8 c.1, .int .u8 c.2.1, .int .u8 c.2.2.1, .int .u8 c.2.2.2]
theorem contract_no (d : Nat) (v : Value) (xs : List Nat) (h : Wg d xs) (b : Bts d xs) (w : World) (hS : SlB w v xs) :
    Calls Tryd.prog 19 #[.int .u8 d, v] w fun e w' => e = .returned (.tuple #[ctV (0, 0, 0, 0), .int .i64 2]) ∧ Below w.heap.size w w' := by
  have F := Lib.hid (fun W (hb : Below w.heap.size w W) => aright_no d v xs h b W (slb_below hS hb))
  clear h hS b
  go_enter Tryd.func19, Tryd.ntmps19
  go_wp2_with (go_at_call 45; refine (F.out _ (by repeat (first | (with_reducible exact Below.refl _ _) | ((with_reducible refine below_grow ?_ ?_); rotate_left; focus (first | omega | (simp [go_sem]; done) | (simp [go_sem]; omega))) | ((with_reducible refine Below.alloc ?_ ?_ _); rotate_left; focus (first | omega | (simp [go_sem]; done) | (simp [go_sem]; omega))) | ((with_reducible refine Below.setCell ?_ ?_ _); rotate_left; focus (first | omega | (simp [go_sem]; done) | (simp [go_sem]; omega))) | (with_reducible refine Below.drew ?_) | (with_reducible refine below_drewN _ ?_)))).mono ?_; rintro e w9 ⟨rfl, hbel⟩; obtain ⟨o1, j1, rfl⟩ := grow_of_below hbel; clear hbel)
  refine bodyPost_ret (by simp [results, Tryd.results19, go_sem, ctV]) rfl ⟨rfl, ?_⟩
  repeat (first | (with_reducible exact Below.refl _ _) | ((with_reducible refine below_grow ?_ ?_); rotate_left; focus (first | omega | (simp [go_sem]; done) | (simp [go_sem]; omega))) | ((with_reducible refine Below.alloc ?_ ?_ _); rotate_left; focus (first | omega | (simp [go_sem]; done) | (simp [go_sem]; omega))) | ((with_reducible refine Below.setCell ?_ ?_ _); rotate_left; focus (first | omega | (simp [go_sem]; done) | (simp [go_sem]; omega))) | (with_reducible refine Below.drew ?_) | (with_reducible refine below_drewN _ ?_))
theorem contract_open (d : Nat) (v : Value) (xs : List Nat) (s : St) (h : Rt d xs s) (ho : s.over = false) (w : World) (hS : SlB w v xs) :
    Calls Tryd.prog 19 #[.int .u8 d, v] w fun e w' => e = .returned (.tuple #[ctV (0, 0, 0, 0), .int .i64 91]) ∧ Below w.heap.size w w' := by
  have F := Lib.hid (fun W (hb : Below w.heap.size w W) => aright_yes d v xs s h W (slb_below hS hb))
  have O := Lib.hid (over_calls s)
  rw [ho] at O
  clear h hS ho
  go_enter Tryd.func19, Tryd.ntmps19
  go_wp2_with (first | (go_at_call 45; refine (F.out _ (by repeat (first | (with_reducible exact Below.refl _ _) | ((with_reducible refine below_grow ?_ ?_); rotate_left; focus (first | omega | (simp [go_sem]; done) | (simp [go_sem]; omega))) | ((with_reducible refine Below.alloc ?_ ?_ _); rotate_left; focus (first | omega | (simp [go_sem]; done) | (simp [go_sem]; omega))) | ((with_reducible refine Below.setCell ?_ ?_ _); rotate_left; focus (first | omega | (simp [go_sem]; done) | (simp [go_sem]; omega))) | (with_reducible refine Below.drew ?_) | (with_reducible refine below_drewN _ ?_)))).mono ?_; rintro e w9 ⟨rfl, hbel⟩; obtain ⟨o1, j1, rfl⟩ := grow_of_below hbel; clear hbel) | (go_at_call 46; refine (O.out _).mono ?_; rintro e w9 ⟨rfl, hbel⟩; obtain ⟨o2, j2, rfl⟩ := grow_of_below hbel; clear hbel))
  refine bodyPost_ret (by simp [results, Tryd.results19, go_sem, ctV]) rfl ⟨rfl, ?_⟩
  repeat (first | (with_reducible exact Below.refl _ _) | ((with_reducible refine below_grow ?_ ?_); rotate_left; focus (first | omega | (simp [go_sem]; done) | (simp [go_sem]; omega))) | ((with_reducible refine Below.alloc ?_ ?_ _); rotate_left; focus (first | omega | (simp [go_sem]; done) | (simp [go_sem]; omega))) | ((with_reducible refine Below.setCell ?_ ?_ _); rotate_left; focus (first | omega | (simp [go_sem]; done) | (simp [go_sem]; omega))) | (with_reducible refine Below.drew ?_) | (with_reducible refine below_drewN _ ?_))
set_option maxRecDepth 100000 in
set_option maxHeartbeats 8000000 in
theorem contract_over (d : Nat) (v : Value) (xs : List Nat) (s : St) (h : Rt d xs s) (ho : s.over = true) (w : World) (hS : SlB w v xs) :
    Calls Tryd.prog 19 #[.int .u8 d, v] w fun e w' => e = .returned (.tuple #[ctV (s.ctr d xs), .int .i64 0]) ∧ Below w.heap.size w w' := by
  have F := Lib.hid (fun W (hb : Below w.heap.size w W) => aright_yes d v xs s h W (slb_below hS hb))
  have O := Lib.hid (over_calls s)
  have P := Lib.hid (parts_calls s.bid)
  have D := Lib.hid (fun W (hb : Below w.heap.size w W) => declarer_calls d h.hd v xs h.lt (by have := h.len; omega) s.seat (prD s.bid) h.ok.seat (by have := prD_lt s.bid; omega) W (slb_below hS hb))
  rw [ho] at O
  clear h hS ho
  unfold St.ctr
  cases hb : isb s.bid with
  | false =>
    rw [hb] at P
    rw [if_neg (by decide)]
    go_enter Tryd.func19, Tryd.ntmps19
    go_wp2_with (first | (go_at_call 45; refine (F.out _ (by repeat (first | (with_reducible exact Below.refl _ _) | ((with_reducible refine below_grow ?_ ?_); rotate_left; focus (first | omega | (simp [go_sem]; done) | (simp [go_sem]; omega))) | ((with_reducible refine Below.alloc ?_ ?_ _); rotate_left; focus (first | omega | (simp [go_sem]; done) | (simp [go_sem]; omega))) | ((with_reducible refine Below.setCell ?_ ?_ _); rotate_left; focus (first | omega | (simp [go_sem]; done) | (simp [go_sem]; omega))) | (with_reducible refine Below.drew ?_) | (with_reducible refine below_drewN _ ?_)))).mono ?_; rintro e w9 ⟨rfl, hbel⟩; obtain ⟨o1, j1, rfl⟩ := grow_of_below hbel; clear hbel) | (go_at_call 46; refine (O.out _).mono ?_; rintro e w9 ⟨rfl, hbel⟩; obtain ⟨o2, j2, rfl⟩ := grow_of_below hbel; clear hbel) | (go_at_call 21; refine (P.out _).mono ?_; rintro e w9 ⟨rfl, rfl⟩))
    refine bodyPost_ret (by simp [results, Tryd.results19, go_sem, ctV]) rfl ⟨rfl, ?_⟩
    repeat (first | (with_reducible exact Below.refl _ _) | ((with_reducible refine below_grow ?_ ?_); rotate_left; focus (first | omega | (simp [go_sem]; done) | (simp [go_sem]; omega))) | ((with_reducible refine Below.alloc ?_ ?_ _); rotate_left; focus (first | omega | (simp [go_sem]; done) | (simp [go_sem]; omega))) | ((with_reducible refine Below.setCell ?_ ?_ _); rotate_left; focus (first | omega | (simp [go_sem]; done) | (simp [go_sem]; omega))) | (with_reducible refine Below.drew ?_) | (with_reducible refine below_drewN _ ?_))
  | true =>
    rw [hb] at P
    rw [if_pos rfl]
    go_enter Tryd.func19, Tryd.ntmps19
    go_upto_region 9 with (first | (go_at_call 45; refine (F.out _ (by repeat (first | (with_reducible exact Below.refl _ _) | ((with_reducible refine below_grow ?_ ?_); rotate_left; focus (first | omega | (simp [go_sem]; done) | (simp [go_sem]; omega))) | ((with_reducible refine Below.alloc ?_ ?_ _); rotate_left; focus (first | omega | (simp [go_sem]; done) | (simp [go_sem]; omega))) | ((with_reducible refine Below.setCell ?_ ?_ _); rotate_left; focus (first | omega | (simp [go_sem]; done) | (simp [go_sem]; omega))) | (with_reducible refine Below.drew ?_) | (with_reducible refine below_drewN _ ?_)))).mono ?_; rintro e w9 ⟨rfl, hbel⟩; obtain ⟨o1, j1, rfl⟩ := grow_of_below hbel; clear hbel) | (go_at_call 46; refine (O.out _).mono ?_; rintro e w9 ⟨rfl, hbel⟩; obtain ⟨o2, j2, rfl⟩ := grow_of_below hbel; clear hbel) | (go_at_call 21; refine (P.out _).mono ?_; rintro e w9 ⟨rfl, rfl⟩))
    go_region_with (first | (go_at_call 47; refine (D.out _ (by repeat (first | (with_reducible exact Below.refl _ _) | ((with_reducible refine below_grow ?_ ?_); rotate_left; focus (first | omega | (simp [go_sem]; done) | (simp [go_sem]; omega))) | ((with_reducible refine Below.alloc ?_ ?_ _); rotate_left; focus (first | omega | (simp [go_sem]; done) | (simp [go_sem]; omega))) | ((with_reducible refine Below.setCell ?_ ?_ _); rotate_left; focus (first | omega | (simp [go_sem]; done) | (simp [go_sem]; omega))) | (with_reducible refine Below.drew ?_) | (with_reducible refine below_drewN _ ?_)))).mono ?_; rintro e w8 ⟨rfl, rfl⟩))
    all_goals go_wp2
    all_goals (refine bodyPost_ret (by simp [results, Tryd.results19, go_sem, ctV]) rfl ⟨rfl, ?_⟩)
    all_goals (repeat (first | (with_reducible exact Below.refl _ _) | ((with_reducible refine below_grow ?_ ?_); rotate_left; focus (first | omega | (simp [go_sem]; done) | (simp [go_sem]; omega))) | ((with_reducible refine Below.alloc ?_ ?_ _); rotate_left; focus (first | omega | (simp [go_sem]; done) | (simp [go_sem]; omega))) | ((with_reducible refine Below.setCell ?_ ?_ _); rotate_left; focus (first | omega | (simp [go_sem]; done) | (simp [go_sem]; omega))) | (with_reducible refine Below.drew ?_) | (with_reducible refine below_drewN _ ?_)))
theorem leader_calls (l d r e : Nat) (w : World) (h4 : e < 256) :
    Calls Tryd.prog 22 #[ctV (l, d, r, e)] w fun x w' => x = .returned (if l = 0 then .tuple #[.int .u8 0, .int .i64 6] else if l ≤ 7 ∧ d ≤ 4 ∧ r ≤ 2 ∧ e ≤ 3 then .tuple #[.int .u8 ((e + 1) % 4 : Nat), .int .i64 0] else .tuple #[.int .u8 0, .int .i64 2]) ∧ Below w.heap.size w w' := by
  unfold ctV
  simp only
  by_cases h0 : l = 0
  · subst h0
    rw [if_pos rfl]
    go_enter Tryd.func22, Tryd.ntmps22
    go_wp2
    refine bodyPost_ret (by simp [results, Tryd.results22, go_sem]) rfl ⟨rfl, ?_⟩
    repeat (first | (with_reducible exact Below.refl _ _) | ((with_reducible refine below_grow ?_ ?_); rotate_left; focus (first | omega | (simp [go_sem]; done) | (simp [go_sem]; omega))) | ((with_reducible refine Below.alloc ?_ ?_ _); rotate_left; focus (first | omega | (simp [go_sem]; done) | (simp [go_sem]; omega))) | ((with_reducible refine Below.setCell ?_ ?_ _); rotate_left; focus (first | omega | (simp [go_sem]; done) | (simp [go_sem]; omega))) | (with_reducible refine Below.drew ?_) | (with_reducible refine below_drewN _ ?_))
  · rw [if_neg h0]
    have h0' : ¬ (l : Int) = 0 := by omega
    by_cases h1 : l ≤ 7
    · have h1' : ¬ (7 : Int) < l := by omega
      by_cases h2 : d ≤ 4
      · have h2' : ¬ (4 : Int) < d := by omega
        by_cases h3 : r ≤ 2
        · have h3' : ¬ (2 : Int) < r := by omega
          by_cases h5 : e ≤ 3
          · have h5' : ¬ (3 : Int) < e := by omega
            rw [if_pos ⟨h1, h2, h3, h5⟩]
            have L := Lib.hid (left_calls e (by omega))
            go_enter Tryd.func22, Tryd.ntmps22
            go_wp2_with (go_at_call 50; refine (L.out _).mono ?_; rintro e w9 ⟨rfl, rfl⟩)
            refine bodyPost_ret (by simp [results, Tryd.results22, go_sem]) rfl ⟨rfl, ?_⟩
            repeat (first | (with_reducible exact Below.refl _ _) | ((with_reducible refine below_grow ?_ ?_); rotate_left; focus (first | omega | (simp [go_sem]; done) | (simp [go_sem]; omega))) | ((with_reducible refine Below.alloc ?_ ?_ _); rotate_left; focus (first | omega | (simp [go_sem]; done) | (simp [go_sem]; omega))) | ((with_reducible refine Below.setCell ?_ ?_ _); rotate_left; focus (first | omega | (simp [go_sem]; done) | (simp [go_sem]; omega))) | (with_reducible refine Below.drew ?_) | (with_reducible refine below_drewN _ ?_))
          · have h5' : (3 : Int) < e := by omega
            rw [if_neg (by omega)]
            go_enter Tryd.func22, Tryd.ntmps22
            go_wp2
            refine bodyPost_ret (by simp [results, Tryd.results22, go_sem]) rfl ⟨rfl, ?_⟩
            repeat (first | (with_reducible exact Below.refl _ _) | ((with_reducible refine below_grow ?_ ?_); rotate_left; focus (first | omega | (simp [go_sem]; done) | (simp [go_sem]; omega))) | ((with_reducible refine Below.alloc ?_ ?_ _); rotate_left; focus (first | omega | (simp [go_sem]; done) | (simp [go_sem]; omega))) | ((with_reducible refine Below.setCell ?_ ?_ _); rotate_left; focus (first | omega | (simp [go_sem]; done) | (simp [go_sem]; omega))) | (with_reducible refine Below.drew ?_) | (with_reducible refine below_drewN _ ?_))
        · have h3' : (2 : Int) < r := by omega
          rw [if_neg (by omega)]
          go_enter Tryd.func22, Tryd.ntmps22
          go_wp2
          refine bodyPost_ret (by simp [results, Tryd.results22, go_sem]) rfl ⟨rfl, ?_⟩
          repeat (first | (with_reducible exact Below.refl _ _) | ((with_reducible refine below_grow ?_ ?_); rotate_left; focus (first | omega | (simp [go_sem]; done) | (simp [go_sem]; omega))) | ((with_reducible refine Below.alloc ?_ ?_ _); rotate_left; focus (first | omega | (simp [go_sem]; done) | (simp [go_sem]; omega))) | ((with_reducible refine Below.setCell ?_ ?_ _); rotate_left; focus (first | omega | (simp [go_sem]; done) | (simp [go_sem]; omega))) | (with_reducible refine Below.drew ?_) | (with_reducible refine below_drewN _ ?_))
      · have h2' : (4 : Int) < d := by omega
        rw [if_neg (by omega)]
        go_enter Tryd.func22, Tryd.ntmps22
        go_wp2
        refine bodyPost_ret (by simp [results, Tryd.results22, go_sem]) rfl ⟨rfl, ?_⟩
        repeat (first | (with_reducible exact Below.refl _ _) | ((with_reducible refine below_grow ?_ ?_); rotate_left; focus (first | omega | (simp [go_sem]; done) | (simp [go_sem]; omega))) | ((with_reducible refine Below.alloc ?_ ?_ _); rotate_left; focus (first | omega | (simp [go_sem]; done) | (simp [go_sem]; omega))) | ((with_reducible refine Below.setCell ?_ ?_ _); rotate_left; focus (first | omega | (simp [go_sem]; done) | (simp [go_sem]; omega))) | (with_reducible refine Below.drew ?_) | (with_reducible refine below_drewN _ ?_))
    · have h1' : (7 : Int) < l := by omega
      rw [if_neg (by omega)]
      go_enter Tryd.func22, Tryd.ntmps22
      go_wp2
      refine bodyPost_ret (by simp [results, Tryd.results22, go_sem]) rfl ⟨rfl, ?_⟩
      repeat (first | (with_reducible exact Below.refl _ _) | ((with_reducible refine below_grow ?_ ?_); rotate_left; focus (first | omega | (simp [go_sem]; done) | (simp [go_sem]; omega))) | ((with_reducible refine Below.alloc ?_ ?_ _); rotate_left; focus (first | omega | (simp [go_sem]; done) | (simp [go_sem]; omega))) | ((with_reducible refine Below.setCell ?_ ?_ _); rotate_left; focus (first | omega | (simp [go_sem]; done) | (simp [go_sem]; omega))) | (with_reducible refine Below.drew ?_) | (with_reducible refine below_drewN _ ?_))
end Go.Proofs.YtacgikhedhiaaaaDoor
