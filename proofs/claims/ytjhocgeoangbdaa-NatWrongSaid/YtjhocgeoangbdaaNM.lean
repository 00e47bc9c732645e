/- Walks of nat: Text. -/
import Derived.Test.YtjhocgeoangbdaaNK
namespace Go.Proofs.Ytjhocgeoangbdaa
open Go.RowKit Go.Shelf Go.Sort

theorem blk_new (w : World) (cs : Array Value) (t : TypeId) : blk (w.alloc (.cells cs t)) w.heap.size cs t := by
  show (w.heap.push _)[w.heap.size]? = _
  simp
theorem set4 {w : World} {b : Nat} {c0 c1 c2 c3 : Value} {t : TypeId} (h : blk w b #[c0, c1, c2, c3] t) (x0 x1 x2 x3 : Value) :
    blk ((((w.setCell ⟨b, 0, none⟩ x0).setCell ⟨b, 1, none⟩ x1).setCell ⟨b, 2, none⟩ x2).setCell ⟨b, 3, none⟩ x3) b #[x0, x1, x2, x3] t :=
  blk_set (blk_set (blk_set (blk_set h 0 x0) 1 x1) 2 x2) 3 x3
theorem own4 {w : World} {b base : Nat} {e : TypeId} {size : Nat} {v : Value} {n : Nat} {xs : List Value} (h : w.ownsRow base e size v n xs) (hb : b < base) (x0 x1 x2 x3 : Value) :
    ((((w.setCell ⟨b, 0, none⟩ x0).setCell ⟨b, 1, none⟩ x1).setCell ⟨b, 2, none⟩ x2).setCell ⟨b, 3, none⟩ x3).ownsRow base e size v n xs :=
  ownsRow_setCell_below (ownsRow_setCell_below (ownsRow_setCell_below (ownsRow_setCell_below h hb _) hb _) hb _) hb _
theorem news1 (W : World) (t : TypeId) (x y : Value) {n : Nat} (hn : n = W.heap.size) (hxy : y = x) : ∀ (j : Nat) (u : Value), [y][j]? = some u → (W.alloc (.cells #[x] t)).cell? ((⟨n, 0, none⟩ : Addr).add j) = some u := by
  intro j u hj
  match j, hj with
  | 0, hj =>
    simp only [List.getElem?_cons_zero, Option.some.injEq] at hj
    subst hj hxy
    have : (⟨n, 0, none⟩ : Addr).add 0 = ⟨n, 0, none⟩ := rfl
    rw [this, World.cell?_alloc_at _ _ _ 0 hn]
    rfl
theorem enc_dig (n : Nat) : enc (dig (n % 10)) = .int .u8 (48 + (n : Int) % 10) := by
  unfold enc
  rw [dig_nat (Nat.mod_lt _ (by decide))]
  congr 1
theorem own_holds {w : World} {base g n cap : Nat} {e : TypeId} {l : List UInt8} (h : w.ownsRow base e 1 (.slice (some ⟨g, 0, none⟩) n cap) n (l.map enc)) (hl : l.length = n) : Holds enc w g 0 l.toArray := by
  intro j hj
  have hj' : j < l.length := by simpa using hj
  rw [Nat.zero_add]
  refine ⟨?_, h.frozenAt j⟩
  rw [h.cellAt j (by omega), List.getElem?_map, List.getElem?_eq_getElem hj']
  simp [hj']
theorem below_put {B : Nat} {a w : World} (h : Below B a w) (n g : Nat) (d : Array UInt8) (hg : B ≤ g) : Below B a (putRow enc (Sort.ahead w n) g 0 d) :=
  h.trans ⟨rfl, rfl, rfl, by simp [Sort.ahead], fun k hk => by
    show ((Sort.ahead w n).heap.modify g _)[k]? = _
    rw [Array.getElem?_modify, if_neg (by omega)]
    rfl⟩
theorem put_string (a : Nat) (w : World) (n g cap : Nat) (ds : List UInt8) (hH : Holds enc w g 0 ds.toArray) (he : decD a = ds.reverse) :
    (convert 53 9 (.slice (some ⟨g, 0, none⟩) ds.length cap)).run Try.prog (putRow enc (Sort.ahead w n) g 0 ds.reverse.toArray) = .ok (.string ⟨(decD a).toArray⟩) (putRow enc (Sort.ahead w n) g 0 ds.reverse.toArray) := by
  have hlen : ds.length = ds.reverse.length := by simp
  rw [he, hlen]
  refine run_convert_bytes_back _ 53 9 5 ⟨g, 0, none⟩ cap ds.reverse Try.underlying53 Try.underlying5 Try.underlying9 fun j hj => ?_
  have hp : (⟨g, 0, none⟩ : Addr).add j = ⟨g, 0 + j, none⟩ := by unfold Addr.add; split <;> simp_all
  rw [hp, cell?_putRow enc _ g 0 ds.toArray ds.reverse.toArray (holds_ahead enc w n g 0 _ hH) (by simp) j (by simpa using hj)]
  simp only [List.length_reverse] at hj
  simp [hj]
set_option maxRecDepth 100000 in
set_option maxHeartbeats 8000000 in
theorem text_calls (a : Nat) (ha : isN a) (w : World) :
    Calls Try.prog 25 #[.agg #[.int .u32 (pt a 0), .int .u32 (pt a 1), .int .u32 (pt a 2), .int .u32 (pt a 3)]] w fun e w' => e = .returned (.string ⟨(decD a).toArray⟩) ∧ Below w.heap.size w w' := by
  obtain ⟨i0, hi, hz0, hz1, hz2⟩ := info_parts Try.infoB
  go_enter Try.func25, Try.ntmps25
  go_wp2
  go_loopg [3] 41 (fun gk s3 wr => ∃ (cur n : Nat) (ds : List UInt8), True ∧ n + gk = 41 ∧ ds.length = n ∧ isN cur ∧ Hid (n ≤ 40 ∧ cur < 10 ^ (40 - n)) ∧ Hid (tinv a cur ds) ∧ (ds = [] → s3 = .slice none 0 0) ∧ wr.ownsRow (w.heap.size + 1) 5 1 s3 n (ds.map enc) ∧ blk wr w.heap.size #[.int .u32 (pt cur 0), .int .u32 (pt cur 1), .int .u32 (pt cur 2), .int .u32 (pt cur 3)] 24 ∧ Below w.heap.size w wr)
  case atStart => exact ⟨a, 0, [], trivial, rfl, rfl, ha, Lib.hid ⟨by decide, by unfold isN at ha; omega⟩, Lib.hid (.inl ⟨rfl, rfl⟩), fun _ => rfl, World.ownsRow_nil _ _ _ _, blk_new _ _ _, by repeat (first | (with_reducible exact Below.refl _ _) | ((with_reducible refine below_grow ?_ ?_); rotate_left; focus (first | omega | (simp [go_sem]; done) | (simp [go_sem]; omega))) | ((with_reducible refine Below.alloc ?_ ?_ _); rotate_left; focus (first | omega | (simp [go_sem]; done) | (simp [go_sem]; omega))) | ((with_reducible refine Below.setCell ?_ ?_ _); rotate_left; focus (first | omega | (simp [go_sem]; done) | (simp [go_sem]; omega))) | (with_reducible refine Below.drew ?_) | (with_reducible refine below_drewN _ ?_))⟩
  case round =>
    obtain ⟨cur, n, ds, -, hn, hl, hcur, hpow, hinv, hnil, hown, hb, hbel⟩ := hrel
    have hc0 := blk_cell hb 0
    have hc1 := blk_cell hb 1
    have hc2 := blk_cell hb 2
    have hc3 := blk_cell hb 3
    have hf0 := blk_free hb 0
    have hf1 := blk_free hb 1
    have hf2 := blk_free hb 2
    have hf3 := blk_free hb 3
    simp only [List.getElem?_toArray, List.getElem?_cons_zero, List.getElem?_cons_succ] at hc0 hc1 hc2 hc3
    have hlt := blk_lt hb
    have iB : NeZero (inW w.heap.size wr) := inW_mk hlt
    have hm : 0 ≤ (cur : Int) % 10 ∧ (cur : Int) % 10 ≤ 9 := by omega
    by_cases hds : ds = []
    · subst hds
      obtain rfl := hnil rfl
      have hl0 : n = 0 := by simpa using hl.symm
      subst hl0
      clear hnil
      have hpow2 : Hid (0 + 1 ≤ 40 ∧ cur / 10 < 10 ^ (40 - (0 + 1))) := Lib.hid ⟨by decide, by have := hpow.out.2; omega⟩
      have hinv2 := Lib.hid (tinv_step a cur [] hcur hinv.out (.inl rfl))
      clear hpow hinv
      go_wp2_with (first | (at_builtin; refine wpList_append_own _ rfl _ _ 53 rfl (w.heap.size + 1) 5 i0 (.int .u8 0) 1 1 Try.underlying53 hi hz0 hz1 hz2 rfl (by decide) (.slice none 0 0) 0 _ rfl ((own_grow (own4 hown (by omega) _ _ _ _) _ _).alloc _) ⟨wr.heap.size + sz o1, 0, none⟩ 1 1 [enc (dig (cur % 10))] rfl rfl (news1 _ _ _ _ (by simp [grow_size, World.size_setCell]) (by rw [enc_dig])) (fun u hu => by simp only [List.mem_singleton] at hu; subst hu; rfl) (by unfold maxLen; omega) (by omega) (by simp [grow_size, World.size_setCell]; omega) ?_; intro v' w2 hown' hgrow _) | (go_at_call 47; refine (tenth_calls cur hcur _).mono ?_; rintro e w1 ⟨rfl, hbel1⟩; obtain ⟨o1, j1, rfl⟩ := grow_of_below hbel1; clear hbel1))
      go_roundg (gk - 1)
      case measure => omega
      case rel => exact ⟨cur / 10, 0 + 1, [] ++ [dig (cur % 10)], trivial, by omega, by simp [hl], div_isN hcur, hpow2, hinv2, fun h => absurd h (by simp), by rw [List.map_append]; exact hown', blk_grown (blk_alloc (blk_grow (set4 hb _ _ _ _) _ _) _) hgrow (by simp [Value.ownBlock]), Below.grown (by repeat (first | (with_reducible exact hbel) | ((with_reducible refine below_grow ?_ ?_); rotate_left; focus (first | omega | (simp [go_sem]; done) | (simp [go_sem]; omega))) | ((with_reducible refine Below.alloc ?_ ?_ _); rotate_left; focus (first | omega | (simp [go_sem]; done) | (simp [go_sem]; omega))) | ((with_reducible refine Below.setCell ?_ ?_ _); rotate_left; focus (first | omega | (simp [go_sem]; done) | (simp [go_sem]; omega))) | (with_reducible refine Below.drew ?_) | (with_reducible refine below_drewN _ ?_))) hgrow (by simp [grow_size, World.size_setCell]; omega) (fun k h => by simp [Value.ownBlock] at h)⟩
    · have hpos : 0 < ds.length := List.length_pos_iff.2 hds
      obtain ⟨g, cap, rfl, hg⟩ : ∃ g cap, u3 = .slice (some ⟨g, 0, none⟩) n cap ∧ w.heap.size + 1 ≤ g := by
        rcases hown.2 with ⟨_, h0⟩ | ⟨g, cap, cu, h1, h2, _⟩
        · omega
        · exact ⟨g, cap, h1, h2⟩
      subst hl
      clear hnil
      by_cases hz : cur = 0
      · subst hz
        have he := tinv_end a ds hinv.out hds
        have hH := own_holds hown rfl
        have hcv := Lib.hid (fun k => put_string a wr k g cap ds hH he)
        have hbl := Lib.hid (fun k => below_put hbel k g ds.reverse.toArray (by omega))
        have hd : decide ((0 : Nat) = 0) = true := rfl
        have hp1 : ((ds.length : Int) == 0) = false := by simp; exact hds
        have hlen := hpow.out.1
        have hH' := Lib.hid hH
        clear he hinv hpow hown hH hds
        go_wp2_with (first | (go_at_call 48; go_loud (refine (reverse_calls g cap ds wr hH'.out (by omega)).mono ?_; rintro e w3 ⟨rfl, k, hw3⟩; have hcv1 : (convert 53 9 (.slice (some ⟨g, 0, none⟩) ds.length cap)).run Try.prog w3 = .ok (.string ⟨(decD a).toArray⟩) w3 := (by rw [hw3]; exact hcv.out k); have hb3 : Below w.heap.size w w3 := (by rw [hw3]; exact hbl.out k); clear hw3)))
        go_ret
        exact ⟨rfl, hb3⟩
      · have hd : decide (cur = 0) = false := by simp [hz]
        have hpow2 : Hid (ds.length + 1 ≤ 40 ∧ cur / 10 < 10 ^ (40 - (ds.length + 1))) := Lib.hid (by
          obtain ⟨h1, h2⟩ := hpow.out
          have h3 : ds.length ≠ 40 := fun h => by rw [h] at h2; simp at h2; exact hz h2
          refine ⟨by omega, ?_⟩
          rw [Nat.div_lt_iff_lt_mul (by decide), ← Nat.pow_succ]
          have e : 40 - (ds.length + 1) + 1 = 40 - ds.length := by omega
          rw [Nat.succ_eq_add_one, e]; exact h2)
        have hinv2 := Lib.hid (tinv_step a cur ds hcur hinv.out (.inr hz))
        have hlen := hpow.out.1
        clear hpow hinv
        have hl : ds.length = ds.length := rfl
        go_wp2_with (first | (at_builtin; refine wpList_append_own _ rfl _ _ 53 rfl (w.heap.size + 1) 5 i0 (.int .u8 0) 1 1 Try.underlying53 hi hz0 hz1 hz2 rfl (by decide) (.slice (some ⟨g, 0, none⟩) ds.length cap) ds.length _ rfl ((own_grow (own4 hown (by omega) _ _ _ _) _ _).alloc _) ⟨wr.heap.size + sz o1, 0, none⟩ 1 1 [enc (dig (cur % 10))] rfl rfl (news1 _ _ _ _ (by simp [grow_size, World.size_setCell]) (by rw [enc_dig])) (fun u hu => by simp only [List.mem_singleton] at hu; subst hu; rfl) (by unfold maxLen; omega) (by omega) (by simp [grow_size, World.size_setCell]; omega) ?_; intro v' w2 hown' hgrow _) | (go_at_call 47; refine (tenth_calls cur hcur _).mono ?_; rintro e w1 ⟨rfl, hbel1⟩; obtain ⟨o1, j1, rfl⟩ := grow_of_below hbel1; clear hbel1))
        go_roundg (gk - 1)
        case measure => omega
        case rel => exact ⟨cur / 10, ds.length + 1, ds ++ [dig (cur % 10)], trivial, by omega, by simp, div_isN hcur, hpow2, hinv2, fun h => absurd h (by simp), by rw [List.map_append]; exact hown', blk_grown (blk_alloc (blk_grow (set4 hb _ _ _ _) _ _) _) hgrow (by simp [Value.ownBlock]; omega), Below.grown (by repeat (first | (with_reducible exact hbel) | ((with_reducible refine below_grow ?_ ?_); rotate_left; focus (first | omega | (simp [go_sem]; done) | (simp [go_sem]; omega))) | ((with_reducible refine Below.alloc ?_ ?_ _); rotate_left; focus (first | omega | (simp [go_sem]; done) | (simp [go_sem]; omega))) | ((with_reducible refine Below.setCell ?_ ?_ _); rotate_left; focus (first | omega | (simp [go_sem]; done) | (simp [go_sem]; omega))) | (with_reducible refine Below.drew ?_) | (with_reducible refine below_drewN _ ?_))) hgrow (by simp [grow_size, World.size_setCell]; omega) (fun k h => by simp [Value.ownBlock] at h; omega)⟩
end Go.Proofs.Ytjhocgeoangbdaa
