/- Auctions: the words of a table in lines; a line's text. -/
import Derived.Test.YtacgikhedhiaaaaDoorLG
import Derived.Test.YtacgikhedhiaaaaDoorLC
import Derived.Test.YtacgikhedhiaaaaDoorKY
import Derived.Test.YtacgikhedhiaaaaDoorShelf
namespace Go.Proofs.YtacgikhedhiaaaaDoor
open Go.RowKit

theorem writeString_calls (B b : Nat) (l : List UInt8) (s : List UInt8) (w : World) (h : Lib.IsBuilder 113 5 B b (Lib.byteCells l) w) (hlen : l.length + s.length ≤ 1000000) (hBw : B ≤ w.heap.size) :
    Calls Tryd.prog 74 #[.pointer (some ⟨b, 0, none⟩), strv s] w fun e w' => (∃ v, e = .returned v) ∧ Lib.IsBuilder 113 5 B b (Lib.byteCells (l ++ s)) w' ∧ Below B w w' := by
  refine (Any.Builder_WriteString (ρ := Tryd.lays105_ren) { Tryd.lays105 with } Tryd.Builder_Extra_105 B b (Lib.byteCells l) ⟨s.toArray⟩ w h (by rw [Lib.byteCells_length]; show l.length + s.length ≤ _; omega) hBw).mono ?_
  rintro e w' ⟨rfl, h1, h2⟩
  refine ⟨⟨_, rfl⟩, .inr ?_, h2⟩
  have : Lib.byteCells (l ++ s) = Lib.byteCells l ++ Lib.strCells ⟨s.toArray⟩ := by simp [Lib.byteCells, Lib.strCells]
  rw [this]
  exact h1
theorem repeat_calls (n : Nat) (hn : n ≤ 5) (w : World) : Calls Tryd.prog 75 #[.string ⟨#[32]⟩, .int .i64 n] w fun e w' => e = .returned (strv (List.replicate n 32)) ∧ Below w.heap.size w w' := by
  refine (Tryd.strings_Repeat ⟨#[32]⟩ n w (by omega) (by show 1 * n ≤ _; omega)).mono ?_
  rintro e w' ⟨rfl, h⟩
  refine ⟨?_, h⟩
  have : n = 0 ∨ n = 1 ∨ n = 2 ∨ n = 3 ∨ n = 4 ∨ n = 5 := by omega
  rcases this with rfl | rfl | rfl | rfl | rfl | rfl <;> rfl
theorem index_row (a b c d : List UInt8) (W : World) : (Instr.index 95 (.agg #[strv a, strv b, strv c, strv d]) (.int .i64 0)).run Tryd.prog W = .ok (strv a) W ∧ (Instr.index 95 (.agg #[strv a, strv b, strv c, strv d]) (.int .i64 1)).run Tryd.prog W = .ok (strv b) W ∧ (Instr.index 95 (.agg #[strv a, strv b, strv c, strv d]) (.int .i64 2)).run Tryd.prog W = .ok (strv c) W ∧ (Instr.index 95 (.agg #[strv a, strv b, strv c, strv d]) (.int .i64 3)).run Tryd.prog W = .ok (strv d) W := by
  have u := run_underlying Tryd.underlying95 W
  have z := Tryd.sizeOf9 W
  have a := Tryd.isAgg9 W
  refine ⟨?_, ?_, ?_, ?_⟩ <;> simp [Instr.index, Sem.run_bind, u, z, go_sem]
/-- The first k of four words, each padded. -/
def acc (z : Nat → List UInt8) : Nat → List UInt8
  | 0 => []
  | k + 1 => acc z k ++ pad (z k)
theorem acc_len (z : Nat → List UInt8) (hz : ∀ k, (z k).length ≤ 3) : ∀ k, (acc z k).length = 5 * k
  | 0 => rfl
  | k + 1 => by unfold acc; rw [List.length_append, acc_len z hz k, pad_len (by have := hz k; omega)]; omega
theorem acc_4 (z : Nat → List UInt8) : acc z 4 = pad (z 0) ++ (pad (z 1) ++ (pad (z 2) ++ pad (z 3))) := by simp [acc, List.append_assoc]
theorem acc_succ (z : Nat → List UInt8) (k : Nat) : acc z k ++ z k ++ List.replicate (5 - (z k).length) 32 = acc z (k + 1) := by
  show _ = acc z k ++ pad (z k)
  unfold pad
  rw [List.append_assoc]
theorem builder_below {T e : TypeId} {B b : Nat} {bs : List Value} {w w' : World} (h : Lib.IsBuilder T e B b bs w) (hb : Below w.heap.size w w') : Lib.IsBuilder T e B b bs w' := by
  have one : ∀ p, Lib.BuilderAt T e B b p bs w → Lib.BuilderAt T e B b p bs w' := by
    rintro p ⟨h1, v, h2, h3, h4⟩
    exact ⟨h1, v, (hb.block _ (Array.getElem?_eq_some_iff.1 h2).1).trans h2, own_below h3 hb rfl, h4⟩
  exact h.imp (one _) (one _)
theorem builder_new (w : World) (q : Nat) (hq : q = w.heap.size) : Lib.IsBuilder 113 5 q q (Lib.byteCells []) (w.alloc (.cells #[.pointer none, .slice none 0 0] 113)) := by
  subst hq
  exact .inl ⟨Nat.le_refl _, _, blk_new _ _ _, World.ownsRow_nil _ _ _ _, by simp [Value.ownBlock]⟩
set_option maxRecDepth 100000 in
set_option maxHeartbeats 8000000 in
theorem text_row (z : Nat → List UInt8) (hz : ∀ k, (z k).length ≤ 3) (w : World) :
    Calls Tryd.prog 55 #[.agg #[strv (z 0), strv (z 1), strv (z 2), strv (z 3)]] w fun e w' => e = .returned (strv (pad (z 0) ++ (pad (z 1) ++ (pad (z 2) ++ pad (z 3))))) ∧ Below w.heap.size w w' := by
  rw [← acc_4]
  have AL := Lib.hid (acc_len z hz)
  have HZ := Lib.hid hz
  have IX := index_row (z 0) (z 1) (z 2) (z 3) 
  have ix0 := fun W => (IX W).1
  have ix1 := fun W => (IX W).2.1
  have ix2 := fun W => (IX W).2.2.1
  have ix3 := fun W => (IX W).2.2.2
  clear hz IX
  go_enter Tryd.func55, Tryd.ntmps55
  go_wp2
  go_loopw [5, 7] (fun _ s7 wr => ∃ k : Nat, s7 = .int .i64 k ∧ k ≤ 4 ∧ Lib.IsBuilder 113 5 (w.heap.size + 1) (w.heap.size + 1) (Lib.byteCells (acc z k)) wr ∧ w.heap.size + 1 ≤ wr.heap.size ∧ Below w.heap.size w wr) (fun _ s7 _ => 4 - (intOf s7).toNat)
  case atStart => exact ⟨0, rfl, by decide, builder_new _ _ (by simp), by simp, by repeat (first | (with_reducible exact Below.refl _ _) | ((with_reducible refine below_grow ?_ ?_); rotate_left; focus (first | omega | (simp [go_sem]; done) | (simp [go_sem]; omega))) | ((with_reducible refine Below.alloc ?_ ?_ _); rotate_left; focus (first | omega | (simp [go_sem]; done) | (simp [go_sem]; omega))) | ((with_reducible refine Below.setCell ?_ ?_ _); rotate_left; focus (first | omega | (simp [go_sem]; done) | (simp [go_sem]; omega))) | (with_reducible refine Below.drew ?_) | (with_reducible refine below_drewN _ ?_))⟩
  case round =>
    obtain ⟨k, rfl, hk, hB, hsz, cb⟩ := hrel
    have hk5 : k = 0 ∨ k = 1 ∨ k = 2 ∨ k = 3 ∨ k = 4 := by omega
    rcases hk5 with rfl | rfl | rfl | rfl | rfl
    · have hl := HZ.out 0
      have hal := AL.out 0
      obtain ⟨m, hm⟩ : ∃ m, 5 - (z 0).length = m := ⟨_, rfl⟩
      have hm5 : m ≤ 5 := by omega
      have e1 : IntKind.i64.wrap (5 - ((z 0).length : Int)) = (m : Int) := by rw [IntWalk.i64_in _ (by omega)]; omega
      have W1 := Lib.hid (fun (W : World) (h : Lib.IsBuilder 113 5 (w.heap.size + 1) (w.heap.size + 1) (Lib.byteCells (acc z 0)) W) hB => writeString_calls _ _ (acc z 0) (z 0) W h (by omega) hB)
      have W2 := Lib.hid (fun (W : World) (h : Lib.IsBuilder 113 5 (w.heap.size + 1) (w.heap.size + 1) (Lib.byteCells (acc z 0 ++ z 0)) W) hB => writeString_calls _ _ (acc z 0 ++ z 0) (List.replicate m 32) W h (by rw [List.length_append, List.length_replicate]; omega) hB)
      have RP := Lib.hid (repeat_calls m hm5)
      have HS : acc z 0 ++ z 0 ++ List.replicate m 32 = acc z 1 := by rw [← hm]; exact acc_succ z 0
      rw [HS] at W2
      clear hl hal hm HS hm5
      go_upto_region 6 with (go_at_call 74; refine (W1.out _ hB hsz).mono ?_; rintro e w1 ⟨⟨v1, rfl⟩, hB1, hb1⟩)
      have cb1 : Below w.heap.size w w1 := cb.trans (hb1.mono (by omega))
      have hsz1 : w.heap.size + 1 ≤ w1.heap.size := by have := hb1.size; omega
      clear hb1 hB cb hsz W1
      go_wp2_with (first | (go_at_call 75; refine (RP.out _).mono ?_; rintro e w2 ⟨rfl, hb2⟩) | (go_at_call 74; refine (W2.out _ (builder_below hB1 hb2) (by have := hb2.size; omega)).mono ?_; rintro e w3 ⟨⟨v1, rfl⟩, hB3, hb3⟩))
      have hs2 := hb2.size
      have hs3 := hb3.size
      go_roundw
      case rel => exact ⟨1, by go_num, by decide, hB3, by omega, (cb1.trans (hb2.mono (by omega))).trans (hb3.mono (by omega))⟩
      case measure => simp [intOf]
    · have hl := HZ.out 1
      have hal := AL.out 1
      obtain ⟨m, hm⟩ : ∃ m, 5 - (z 1).length = m := ⟨_, rfl⟩
      have hm5 : m ≤ 5 := by omega
      have e1 : IntKind.i64.wrap (5 - ((z 1).length : Int)) = (m : Int) := by rw [IntWalk.i64_in _ (by omega)]; omega
      have W1 := Lib.hid (fun (W : World) (h : Lib.IsBuilder 113 5 (w.heap.size + 1) (w.heap.size + 1) (Lib.byteCells (acc z 1)) W) hB => writeString_calls _ _ (acc z 1) (z 1) W h (by omega) hB)
      have W2 := Lib.hid (fun (W : World) (h : Lib.IsBuilder 113 5 (w.heap.size + 1) (w.heap.size + 1) (Lib.byteCells (acc z 1 ++ z 1)) W) hB => writeString_calls _ _ (acc z 1 ++ z 1) (List.replicate m 32) W h (by rw [List.length_append, List.length_replicate]; omega) hB)
      have RP := Lib.hid (repeat_calls m hm5)
      have HS : acc z 1 ++ z 1 ++ List.replicate m 32 = acc z 2 := by rw [← hm]; exact acc_succ z 1
      rw [HS] at W2
      clear hl hal hm HS hm5
      go_upto_region 6 with (go_at_call 74; refine (W1.out _ hB hsz).mono ?_; rintro e w1 ⟨⟨v1, rfl⟩, hB1, hb1⟩)
      have cb1 : Below w.heap.size w w1 := cb.trans (hb1.mono (by omega))
      have hsz1 : w.heap.size + 1 ≤ w1.heap.size := by have := hb1.size; omega
      clear hb1 hB cb hsz W1
      go_wp2_with (first | (go_at_call 75; refine (RP.out _).mono ?_; rintro e w2 ⟨rfl, hb2⟩) | (go_at_call 74; refine (W2.out _ (builder_below hB1 hb2) (by have := hb2.size; omega)).mono ?_; rintro e w3 ⟨⟨v1, rfl⟩, hB3, hb3⟩))
      have hs2 := hb2.size
      have hs3 := hb3.size
      go_roundw
      case rel => exact ⟨2, by go_num, by decide, hB3, by omega, (cb1.trans (hb2.mono (by omega))).trans (hb3.mono (by omega))⟩
      case measure => simp [intOf]
    · have hl := HZ.out 2
      have hal := AL.out 2
      obtain ⟨m, hm⟩ : ∃ m, 5 - (z 2).length = m := ⟨_, rfl⟩
      have hm5 : m ≤ 5 := by omega
      have e1 : IntKind.i64.wrap (5 - ((z 2).length : Int)) = (m : Int) := by rw [IntWalk.i64_in _ (by omega)]; omega
      have W1 := Lib.hid (fun (W : World) (h : Lib.IsBuilder 113 5 (w.heap.size + 1) (w.heap.size + 1) (Lib.byteCells (acc z 2)) W) hB => writeString_calls _ _ (acc z 2) (z 2) W h (by omega) hB)
      have W2 := Lib.hid (fun (W : World) (h : Lib.IsBuilder 113 5 (w.heap.size + 1) (w.heap.size + 1) (Lib.byteCells (acc z 2 ++ z 2)) W) hB => writeString_calls _ _ (acc z 2 ++ z 2) (List.replicate m 32) W h (by rw [List.length_append, List.length_replicate]; omega) hB)
      have RP := Lib.hid (repeat_calls m hm5)
      have HS : acc z 2 ++ z 2 ++ List.replicate m 32 = acc z 3 := by rw [← hm]; exact acc_succ z 2
      rw [HS] at W2
      clear hl hal hm HS hm5
      go_upto_region 6 with (go_at_call 74; refine (W1.out _ hB hsz).mono ?_; rintro e w1 ⟨⟨v1, rfl⟩, hB1, hb1⟩)
      have cb1 : Below w.heap.size w w1 := cb.trans (hb1.mono (by omega))
      have hsz1 : w.heap.size + 1 ≤ w1.heap.size := by have := hb1.size; omega
      clear hb1 hB cb hsz W1
      go_wp2_with (first | (go_at_call 75; refine (RP.out _).mono ?_; rintro e w2 ⟨rfl, hb2⟩) | (go_at_call 74; refine (W2.out _ (builder_below hB1 hb2) (by have := hb2.size; omega)).mono ?_; rintro e w3 ⟨⟨v1, rfl⟩, hB3, hb3⟩))
      have hs2 := hb2.size
      have hs3 := hb3.size
      go_roundw
      case rel => exact ⟨3, by go_num, by decide, hB3, by omega, (cb1.trans (hb2.mono (by omega))).trans (hb3.mono (by omega))⟩
      case measure => simp [intOf]
    · have hl := HZ.out 3
      have hal := AL.out 3
      obtain ⟨m, hm⟩ : ∃ m, 5 - (z 3).length = m := ⟨_, rfl⟩
      have hm5 : m ≤ 5 := by omega
      have e1 : IntKind.i64.wrap (5 - ((z 3).length : Int)) = (m : Int) := by rw [IntWalk.i64_in _ (by omega)]; omega
      have W1 := Lib.hid (fun (W : World) (h : Lib.IsBuilder 113 5 (w.heap.size + 1) (w.heap.size + 1) (Lib.byteCells (acc z 3)) W) hB => writeString_calls _ _ (acc z 3) (z 3) W h (by omega) hB)
      have W2 := Lib.hid (fun (W : World) (h : Lib.IsBuilder 113 5 (w.heap.size + 1) (w.heap.size + 1) (Lib.byteCells (acc z 3 ++ z 3)) W) hB => writeString_calls _ _ (acc z 3 ++ z 3) (List.replicate m 32) W h (by rw [List.length_append, List.length_replicate]; omega) hB)
      have RP := Lib.hid (repeat_calls m hm5)
      have HS : acc z 3 ++ z 3 ++ List.replicate m 32 = acc z 4 := by rw [← hm]; exact acc_succ z 3
      rw [HS] at W2
      clear hl hal hm HS hm5
      go_upto_region 6 with (go_at_call 74; refine (W1.out _ hB hsz).mono ?_; rintro e w1 ⟨⟨v1, rfl⟩, hB1, hb1⟩)
      have cb1 : Below w.heap.size w w1 := cb.trans (hb1.mono (by omega))
      have hsz1 : w.heap.size + 1 ≤ w1.heap.size := by have := hb1.size; omega
      clear hb1 hB cb hsz W1
      go_wp2_with (first | (go_at_call 75; refine (RP.out _).mono ?_; rintro e w2 ⟨rfl, hb2⟩) | (go_at_call 74; refine (W2.out _ (builder_below hB1 hb2) (by have := hb2.size; omega)).mono ?_; rintro e w3 ⟨⟨v1, rfl⟩, hB3, hb3⟩))
      have hs2 := hb2.size
      have hs3 := hb3.size
      go_roundw
      case rel => exact ⟨4, by go_num, by decide, hB3, by omega, (cb1.trans (hb2.mono (by omega))).trans (hb3.mono (by omega))⟩
      case measure => simp [intOf]
    · have ST := Lib.hid (fun (W : World) h hB => Tryd.Builder_String_any (w.heap.size + 1) (w.heap.size + 1) (acc z 4) W h hB)
      go_wp2_with (go_at_call 76; refine (ST.out _ hB hsz).mono ?_; rintro e w2 ⟨rfl, hb2⟩)
      refine bodyPost_ret (by simp [results, Tryd.results55, go_sem]) rfl ⟨rfl, ?_⟩
      exact cb.trans (hb2.mono (by omega))
end Go.Proofs.YtacgikhedhiaaaaDoor
