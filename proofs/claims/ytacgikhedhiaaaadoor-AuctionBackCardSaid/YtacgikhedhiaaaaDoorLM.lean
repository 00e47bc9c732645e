/- Auctions: lists of strings that are the same; contracts that are; a string's calls. -/
import Derived.Test.YtacgikhedhiaaaaDoorLK
namespace Go.Proofs.YtacgikhedhiaaaaDoor
open Go.RowKit

theorem take_succ_eqT {α : Type} {xs ys : List α} {i : Nat} (h : xs.take i = ys.take i) {a b : α} (ha : xs[i]? = some a) (hb : ys[i]? = some b) (he : a = b) : xs.take (i + 1) = ys.take (i + 1) := by
  rw [List.take_add_one, List.take_add_one, h, ha, hb, he]
set_option maxRecDepth 100000 in
set_option maxHeartbeats 8000000 in
theorem sameT_calls (v1 v2 : Value) (xs ys : List (List UInt8)) (hn : xs.length ≤ 1000) (w : World) (h1 : SlT w v1 xs) (h2 : SlT w v2 ys) :
    Calls Tryd.prog 36 #[v1, v2] w fun e w' => e = .returned (.bool (decide (xs = ys))) ∧ Below w.heap.size w w' := by
  obtain ⟨p, c, rfl, hc, hxc⟩ := h1
  obtain ⟨q, d, rfl, hd, hyc⟩ := h2
  by_cases hlen : xs.length = ys.length
  · obtain ⟨n, hxn⟩ : ∃ n, xs.length = n := ⟨_, rfl⟩
    have hyn : ys.length = n := by omega
    rw [hxn] at hc hn ⊢
    rw [hyn] at hd ⊢
    clear hlen
    obtain ⟨T, hT⟩ : ∃ T, decide (xs = ys) = T := ⟨_, rfl⟩
    rw [hT]
    have HT := Lib.hid hT
    have HX := Lib.hid hxc
    have HY := Lib.hid hyc
    clear hT hxc hyc
    go_enter Tryd.func36, Tryd.ntmps36
    go_wp2
    go_loopw [5] (fun s5 wr => ∃ i : Nat, s5 = .int .i64 i ∧ i ≤ n ∧ xs.take i = ys.take i ∧ Below w.heap.size w wr) (fun s5 _ => n - (intOf s5).toNat)
    case atStart => exact ⟨0, rfl, Nat.zero_le _, rfl, Below.refl _ _⟩
    case round =>
      obtain ⟨i, rfl, hi, ht, cb⟩ := hrel
      by_cases hlt : i < n
      · have hlt2 : (i : Int) < n := by omega
        have hne : xs ≠ [] := by rintro rfl; simp at hxn; omega
        have hne2 : ys ≠ [] := by rintro rfl; simp at hyn; omega
        obtain ⟨b1, o1, rfl, hb1, hx⟩ := HX.out hne
        obtain ⟨b2, o2, rfl, hb2, hy⟩ := HY.out hne2
        obtain ⟨a, ha⟩ : ∃ a, xs[i]? = some a := ⟨_, List.getElem?_eq_getElem (by omega)⟩
        obtain ⟨b, hb⟩ : ∃ a, ys[i]? = some a := ⟨_, List.getElem?_eq_getElem (by omega)⟩
        have k1 : wr.cell? ⟨b1, o1 + i, none⟩ = some (strv a) := (cb.cell (p := ⟨b1, o1 + i, none⟩) hb1).trans (hx i a ha)
        have k2 : wr.cell? ⟨b2, o2 + i, none⟩ = some (strv b) := (cb.cell (p := ⟨b2, o2 + i, none⟩) hb2).trans (hy i b hb)
        have e1 : IntKind.i64.wrap ((i : Int) + 1) = (i : Int) + 1 := IntWalk.i64_in _ (by omega)
        have CB := Lib.hid cb
        have hbs := cb.size
        by_cases hab : a = b
        · have HN := Lib.hid (take_succ_eqT ht ha hb hab)
          subst hab
          have hab2 : (a == a) = true := by simp
          clear ha hb hx hy hne hne2 ht cb
          go_upto_region 6 with fail
          go_quiet (fail)
          go_wp2
          go_roundw
          case rel => exact ⟨i + 1, by go_num, by omega, HN.out, by repeat (first | (with_reducible exact CB.out) | ((with_reducible refine below_grow ?_ ?_); rotate_left; focus (first | omega | (simp [go_sem]; done) | (simp [go_sem]; omega))) | ((with_reducible refine Below.alloc ?_ ?_ _); rotate_left; focus (first | omega | (simp [go_sem]; done) | (simp [go_sem]; omega))) | ((with_reducible refine Below.setCell ?_ ?_ _); rotate_left; focus (first | omega | (simp [go_sem]; done) | (simp [go_sem]; omega))) | (with_reducible refine Below.drew ?_) | (with_reducible refine below_drewN _ ?_))⟩
          case measure => simp [intOf]; omega
        · have hF : T = false := by
            rw [← HT.out]
            refine decide_eq_false fun e => hab ?_
            rw [e, hb] at ha
            cases ha; rfl
          have hab2 : (a == b) = false := by simpa using hab
          subst hF
          clear ha hb hx hy hne hne2 ht cb hab
          go_upto_region 6 with fail
          go_quiet (fail)
          go_wp2
          refine bodyPost_ret (by simp [results, Tryd.results36, go_sem]) rfl ⟨rfl, ?_⟩
          repeat (first | (with_reducible exact CB.out) | ((with_reducible refine below_grow ?_ ?_); rotate_left; focus (first | omega | (simp [go_sem]; done) | (simp [go_sem]; omega))) | ((with_reducible refine Below.alloc ?_ ?_ _); rotate_left; focus (first | omega | (simp [go_sem]; done) | (simp [go_sem]; omega))) | ((with_reducible refine Below.setCell ?_ ?_ _); rotate_left; focus (first | omega | (simp [go_sem]; done) | (simp [go_sem]; omega))) | (with_reducible refine Below.drew ?_) | (with_reducible refine below_drewN _ ?_))
      · obtain rfl : i = n := by omega
        have hF : T = true := by
          rw [← HT.out]
          refine decide_eq_true ?_
          rw [List.take_of_length_le (by omega), List.take_of_length_le (by omega)] at ht
          exact ht
        subst hF
        go_wp2
        refine bodyPost_ret (by simp [results, Tryd.results36, go_sem]) rfl ⟨rfl, ?_⟩
        exact cb
  · have hne : ¬ xs = ys := fun e => hlen (by rw [e])
    rw [decide_eq_false hne]
    have hl : ¬ (xs.length : Int) = ys.length := by omega
    clear hne hlen hxc hyc
    go_enter Tryd.func36, Tryd.ntmps36
    go_wp2
    refine bodyPost_ret (by simp [results, Tryd.results36, go_sem]) rfl ⟨rfl, ?_⟩
    exact Below.refl _ _
theorem eqCt (a0 a1 a2 a3 b0 b1 b2 b3 : Int) (w : World) : (Op.equalIn 10000 26 (.agg #[.int .u8 a0, .int .u8 a1, .int .u8 a2, .int .u8 a3]) (.agg #[.int .u8 b0, .int .u8 b1, .int .u8 b2, .int .u8 b3])).run Tryd.prog w = .ok (decide (a0 = b0 ∧ a1 = b1 ∧ a2 = b2 ∧ a3 = b3)) w := by
  have u3 := Tryd.underlying5
  have a3' := Tryd.isAgg5
  have z3 := Tryd.sizeOf5
  rw [show (10000 : Nat) = 9999 + 1 from rfl, Op.equalIn]
  simp only [Sem.run_bind, run_underlying Tryd.underlying26, Result.andThen_ok]
  go_simp
  by_cases h1 : a0 = b0 <;> by_cases h2 : a1 = b1 <;> by_cases h3 : a2 = b2 <;> by_cases h4 : a3 = b3 <;> simp [h1, h2, h3, h4]
theorem calls_calls (s : List UInt8) (hs : s.length < 4294967281) (w : World) (he : Env w) :
    Calls Tryd.prog 39 #[strv s] w fun e w' => (∃ v, e = .returned v ∧ w'.ownsRow w.heap.size 5 1 v (raL s).length ((raL s).map u8v)) ∧ Below w.heap.size w w' := by
  have R := Lib.hid (readAll_calls ⟨s.toArray⟩ hs w he)
  clear he
  go_enter Tryd.func39, Tryd.ntmps39
  go_wp2_with (go_at_call 67; refine R.out.mono ?_; rintro e w1 ⟨⟨v, rfl, hrow⟩, hb⟩)
  refine bodyPost_ret (by simp [results, Tryd.results39, go_sem]) rfl ⟨⟨_, rfl, hrow⟩, hb⟩
end Go.Proofs.YtacgikhedhiaaaaDoor
