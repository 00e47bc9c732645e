/- SameBytes; an own row as a slice of bytes; append of a row to a row. -/
import Derived.Test.YtacgikhedhiaaaaDoorKG
import Derived.BigQuiet
namespace Go.Proofs.YtacgikhedhiaaaaDoor
open Go.RowKit

theorem slb_own {W : World} {base n : Nat} {v : Value} {xs : List Nat} (h : W.ownsRow base 5 1 v n (xs.map u8v)) : SlB W v xs ∧ xs.length = n := by
  have hn : xs.length = n := by have := h.1; rw [List.length_map] at this; omega
  refine ⟨?_, hn⟩
  rcases h.2 with ⟨rfl, h0⟩ | ⟨g, cap, cur, rfl, hbg, hg, h1, h2, h3, h4⟩
  · have h00 : xs = [] := List.length_eq_zero_iff.1 (by omega)
    subst h00
    exact ⟨none, 0, rfl, Nat.le_refl _, fun h => absurd rfl h⟩
  · refine ⟨some ⟨g, 0, none⟩, cap, by rw [hn], by omega, fun _ => ⟨g, 0, rfl, lt_of_block hg, fun j x hj => ?_⟩⟩
    have hc := h.cells (g := g) rfl j (u8v x) (by rw [List.getElem?_map, hj]; rfl)
    rw [show (⟨g, 0 + j, none⟩ : Addr) = (⟨g, 0, none⟩ : Addr).add j by unfold Addr.add; split <;> simp_all]
    exact hc
theorem run_append_row (W : World) (base : Nat) (ty : TypeId) (i : TypeInfo) (hi : Tryd.prog.info? 5 = some i) (hz : i.zero = some (.int .u8 0)) (h4 : i.size = 1) (h5 : i.bytes = 1) (v : Value) (n : Nat) (xs : List Value) (hown : W.ownsRow base 5 1 v n xs)
    (x : Value) (b2 : Nat) (ys : List Nat) (hx : W.ownsRow b2 5 1 x ys.length (ys.map u8v)) (hb1 : n + ys.length ≤ 140737488355328) (hb : base ≤ W.heap.size) :
    ∃ v' w', (Builtin.append_ #[22, 22] ty #[v, x]).run Tryd.prog W = .ok v' w' ∧ w'.ownsRow base 5 1 v' (n + ys.length) (xs ++ ys.map u8v) ∧ Below base W w' := by
  rcases hx.2 with ⟨rfl, h0⟩ | ⟨g, cap, cur, rfl, hbg, hg, g1, g2, g3, g4⟩
  · have h00 : ys = [] := List.length_eq_zero_iff.1 h0
    subst h00
    exact ⟨v, W, run_append_owned_none (P := Tryd.prog) W base 22 ty 5 i 1 Tryd.underlying22 hi v n xs hown, by simpa using hown, Below.refl _ _⟩
  · obtain ⟨v', w', r1, r2, r3, _⟩ := run_append_own (P := Tryd.prog) W base 22 ty 5 i (.int .u8 0) 1 1 Tryd.underlying22 hi hz h4 h5 rfl (by decide) v n xs hown ⟨g, 0, none⟩ ys.length cap (ys.map u8v) (by simp) (fun j u hj => hx.cells (g := g) rfl j u hj) (fun u hu => by obtain ⟨x, _, rfl⟩ := List.mem_map.1 hu; rfl) (by unfold maxLen; omega) (by omega) hb
    exact ⟨v', w', r1, r2, Below.grown (Below.refl _ _) r3 hb (fun k hk => own_block_ge hown hk)⟩
theorem wpList_append_row {ops : Array Oper} {rest : List Oper} {o : Oper} {a : Act} {Q : Exit → Act → World → Prop} {W : World} (hw : Region.wanted o (yielded ops a.tmps) = true) (s x : Operand)
    (ho : o.op = .call { callee := .builtin .append, args := #[s, x], argTypes := #[22, 22] })
    (base : Nat) (i : TypeInfo) (hi : Tryd.prog.info? 5 = some i) (hz : i.zero = some (.int .u8 0)) (h4 : i.size = 1) (h5 : i.bytes = 1)
    (v : Value) (n : Nat) (xs : List Value) (hs : a.eval s = v) (hown : W.ownsRow base 5 1 v n xs) (y : Value) (b2 : Nat) (ys : List Nat) (hy : a.eval x = y) (hx : W.ownsRow b2 5 1 y ys.length (ys.map u8v)) (hb1 : n + ys.length ≤ 140737488355328) (hb : base ≤ W.heap.size)
    (h : ∀ v' w', w'.ownsRow base 5 1 v' (n + ys.length) (xs ++ ys.map u8v) → Below base W w' → wpList Tryd.prog ops Q rest (a.put o.dst v') w') : wpList Tryd.prog ops Q (o :: rest) a W :=
  wpList_step fun K hK => by
    rw [if_pos hw]
    obtain ⟨v', w', hr, h2, h3⟩ := run_append_row W base o.type i hi hz h4 h5 v n xs hown y b2 ys hx hb1 hb
    unfold Oper.wp execOp
    simp only [ho, resolve, invoke, builtin, Sem.run_bind, Sem.run_pure, Result.andThen_ok, List.map_toArray, List.map_cons, List.map_nil, hs, hy, hr]
    exact hK _ _ (h v' w' h2 h3)
theorem own_below {w w' : World} {base B : Nat} {e : TypeId} {size n : Nat} {v : Value} {xs : List Value} (h : w.ownsRow base e size v n xs) (hb : Below B w w') (hB : B = w.heap.size) : w'.ownsRow base e size v n xs := by
  subst hB
  refine ⟨h.1, ?_⟩
  rcases h.2 with h1 | ⟨g, cap, cur, h1, h2, h3, h4⟩
  · exact .inl h1
  · exact .inr ⟨g, cap, cur, h1, h2, (hb.block _ (lt_of_block h3)).trans h3, h4⟩
theorem take_succ_eq {xs ys : List Nat} {i : Nat} (h : xs.take i = ys.take i) {a b : Nat} (ha : xs[i]? = some a) (hb : ys[i]? = some b) (he : a = b) : xs.take (i + 1) = ys.take (i + 1) := by
  rw [List.take_add_one, List.take_add_one, h, ha, hb, he]
set_option maxRecDepth 100000 in
set_option maxHeartbeats 8000000 in
theorem same_calls (v1 v2 : Value) (xs ys : List Nat) (hx8 : ∀ x ∈ xs, x < 256) (hy8 : ∀ x ∈ ys, x < 256) (hn : xs.length ≤ 1000) (w : World) (h1 : SlB w v1 xs) (h2 : SlB w v2 ys) :
    Calls Tryd.prog 27 #[v1, v2] w fun e w' => e = .returned (.bool (decide (xs = ys))) ∧ Below w.heap.size w w' := by
  obtain ⟨p, c, rfl, hc, hxc⟩ := h1
  obtain ⟨q, d, rfl, hd, hyc⟩ := h2
  by_cases hlen : xs.length = ys.length
  · obtain ⟨n, hxn⟩ : ∃ n, xs.length = n := ⟨_, rfl⟩
    have hyn : ys.length = n := by omega
    rw [hxn] at hc hn ⊢
    rw [hyn] at hd ⊢
    clear hlen
    obtain ⟨T, hT⟩ : ∃ T, decide (xs = ys) = T := ⟨_, rfl⟩
    rw [hT]
    have HT := Lib.hid hT
    have HX := Lib.hid hxc
    have HY := Lib.hid hyc
    clear hT hxc hyc
    go_enter Tryd.func27, Tryd.ntmps27
    go_wp2
    go_loopw [5] (fun s5 wr => ∃ i : Nat, s5 = .int .i64 i ∧ i ≤ n ∧ xs.take i = ys.take i ∧ Below w.heap.size w wr) (fun s5 _ => n - (intOf s5).toNat)
    case atStart => exact ⟨0, rfl, Nat.zero_le _, rfl, Below.refl _ _⟩
    case round =>
      obtain ⟨i, rfl, hi, ht, cb⟩ := hrel
      by_cases hlt : i < n
      · have hlt2 : (i : Int) < n := by omega
        have hne : xs ≠ [] := by rintro rfl; simp at hxn; omega
        have hne2 : ys ≠ [] := by rintro rfl; simp at hyn; omega
        obtain ⟨b1, o1, rfl, hb1, hx⟩ := HX.out hne
        obtain ⟨b2, o2, rfl, hb2, hy⟩ := HY.out hne2
        obtain ⟨a, ha⟩ : ∃ a, xs[i]? = some a := ⟨_, List.getElem?_eq_getElem (by omega)⟩
        obtain ⟨b, hb⟩ : ∃ a, ys[i]? = some a := ⟨_, List.getElem?_eq_getElem (by omega)⟩
        have k1 : wr.cell? ⟨b1, o1 + i, none⟩ = some (.int .u8 a) := (cb.cell (p := ⟨b1, o1 + i, none⟩) hb1).trans (hx i a ha)
        have k2 : wr.cell? ⟨b2, o2 + i, none⟩ = some (.int .u8 b) := (cb.cell (p := ⟨b2, o2 + i, none⟩) hb2).trans (hy i b hb)
        have e1 : IntKind.i64.wrap ((i : Int) + 1) = (i : Int) + 1 := IntWalk.i64_in _ (by omega)
        have CB := Lib.hid cb
        have hbs := cb.size
        by_cases hab : a = b
        · have HN := Lib.hid (take_succ_eq ht ha hb hab)
          subst hab
          clear ha hb hx hy hne hne2 ht cb
          go_upto_region 6 with fail
          go_quiet (fail)
          go_wp2
          go_roundw
          case rel => exact ⟨i + 1, by go_num, by omega, HN.out, by repeat (first | (with_reducible exact CB.out) | ((with_reducible refine below_grow ?_ ?_); rotate_left; focus (first | omega | (simp [go_sem]; done) | (simp [go_sem]; omega))) | ((with_reducible refine Below.alloc ?_ ?_ _); rotate_left; focus (first | omega | (simp [go_sem]; done) | (simp [go_sem]; omega))) | ((with_reducible refine Below.setCell ?_ ?_ _); rotate_left; focus (first | omega | (simp [go_sem]; done) | (simp [go_sem]; omega))) | (with_reducible refine Below.drew ?_) | (with_reducible refine below_drewN _ ?_))⟩
          case measure => simp [intOf]; omega
        · have hF : T = false := by
            rw [← HT.out]
            refine decide_eq_false fun e => hab ?_
            rw [e, hb] at ha
            cases ha; rfl
          have hab2 : ¬ (a : Int) = b := by omega
          subst hF
          clear ha hb hx hy hne hne2 ht cb hab
          go_upto_region 6 with fail
          go_quiet (fail)
          go_wp2
          refine bodyPost_ret (by simp [results, Tryd.results27, go_sem]) rfl ⟨rfl, ?_⟩
          repeat (first | (with_reducible exact CB.out) | ((with_reducible refine below_grow ?_ ?_); rotate_left; focus (first | omega | (simp [go_sem]; done) | (simp [go_sem]; omega))) | ((with_reducible refine Below.alloc ?_ ?_ _); rotate_left; focus (first | omega | (simp [go_sem]; done) | (simp [go_sem]; omega))) | ((with_reducible refine Below.setCell ?_ ?_ _); rotate_left; focus (first | omega | (simp [go_sem]; done) | (simp [go_sem]; omega))) | (with_reducible refine Below.drew ?_) | (with_reducible refine below_drewN _ ?_))
      · obtain rfl : i = n := by omega
        have hF : T = true := by
          rw [← HT.out]
          refine decide_eq_true ?_
          rw [List.take_of_length_le (by omega), List.take_of_length_le (by omega)] at ht
          exact ht
        subst hF
        go_wp2
        refine bodyPost_ret (by simp [results, Tryd.results27, go_sem]) rfl ⟨rfl, ?_⟩
        exact cb
  · have hne : ¬ xs = ys := fun e => hlen (by rw [e])
    rw [decide_eq_false hne]
    have hl : ¬ (xs.length : Int) = ys.length := by omega
    clear hne hlen hxc hyc
    go_enter Tryd.func27, Tryd.ntmps27
    go_wp2
    refine bodyPost_ret (by simp [results, Tryd.results27, go_sem]) rfl ⟨rfl, ?_⟩
    exact Below.refl _ _
end Go.Proofs.YtacgikhedhiaaaaDoor
