/- strings.SplitN at a space, however long the string is. -/
import Derived.Test.YtalklogopepjpaaDoorBK2
import Derived.Deep.OwnRows
import Derived.Lib.MinMax
namespace Go.Proofs.YtalklogopepjpaaDoor.Ca
open Go.RowKit

theorem idx_range (c : UInt8) : ∀ l : List UInt8, Lib.indexByte l c = -1 ∨ (0 ≤ Lib.indexByte l c ∧ Lib.indexByte l c < l.length)
  | [] => .inl rfl
  | b :: l => by
    have ih := idx_range c l
    unfold Lib.indexByte
    by_cases h : (b == c) = true
    · rw [if_pos h]; right; simp
    · rw [if_neg h]
      rcases ih with e | ⟨h1, h2⟩
      · rw [e]; left; rfl
      · right
        have : (Lib.indexByte l c == -1) = false := by rw [beq_eq_false_iff_ne]; omega
        simp [this]
        omega
theorem splitK_none {l : List UInt8} {k : Nat} (h : Lib.indexByte l 32 = -1) : Lib.splitK [32] 0 k l = [l] := by
  cases k with
  | zero => rfl
  | succ k => unfold Lib.splitK; rw [Lib.index_one, h]; rfl
theorem splitK_hit {l : List UInt8} {k m : Nat} (h : Lib.indexByte l 32 = m) : Lib.splitK [32] 0 (k + 1) l = l.take m :: Lib.splitK [32] 0 k (l.drop (m + 1)) := by
  rw [Lib.splitK, Lib.index_one, h]
  have : (((m : Nat) : Int) == -1) = false := by rw [beq_eq_false_iff_ne]; omega
  simp [this]
theorem splitN_K (l : List UInt8) (n : Nat) : Lib.splitN l [32] n = Lib.splitK [32] 0 (min n (l.length + 1) - 1) l := rfl
set_option maxRecDepth 100000 in
set_option maxHeartbeats 4000000 in
theorem genSplit_sp (l : List UInt8) (hl : l.length ≤ 140737488355328) (n : Nat) (hn : 1 ≤ n) (hn63 : n ≤ 100) (w : World) :
    Calls Tryd.prog 45 #[strv l, .string ⟨#[32]⟩, .int .i64 0, .int .i64 n] w fun e w' =>
      (∃ c, e = .returned (.slice (some ⟨w.heap.size, 0, none⟩) (Lib.splitN l [32] n).length c)) ∧ (∀ (j : Nat) (x : List UInt8), (Lib.splitN l [32] n)[j]? = some x → w'.cell? ⟨w.heap.size, j, none⟩ = some (strv x)) ∧ Below w.heap.size w w' ∧ w'.heap.size = w.heap.size + 1 := by
  rw [splitN_K]
  have IX := Lib.hid (fun (s : List UInt8) W => (Tryd.strings_Index_one ⟨s.toArray⟩ 32 W))
  obtain ⟨K, hK⟩ : ∃ K, min n (l.length + 1) = K := ⟨_, rfl⟩
  have hK1 : 1 ≤ K := by omega
  have hK2 : K ≤ 100 := by omega
  rw [hK]
  obtain ⟨k, hk⟩ : ∃ k, K = k + 1 := ⟨K - 1, by omega⟩
  have mn : min (n : Int) ((l.length : Int) + 1) = (K : Int) := by omega
  have l1 : IntKind.i64.wrap ((l.length : Int) + 1) = (l.length : Int) + 1 := IntWalk.i64_in _ (by omega)
  have n0 : ¬ (n : Int) = 0 := by omega
  have n1 : ¬ (n : Int) < 0 := by omega
  have k1 : IntKind.i64.wrap ((K : Int) - 1) = (k : Int) := by rw [IntWalk.i64_in _ (by omega)]; omega
  have hmk := run_make_row' (P := Tryd.prog) 77 9 (.string ByteArray.empty) 16 Tryd.underlying77 Tryd.infoStr rfl .i64 .i64 K (by omega) (by omega)
  rw [← Lib.cellsOf_nil K] at hmk
  rw [show K - 1 = k by omega]
  have HK := Lib.hid hk
  have l1w : wrap64 ((l.length : Int) + 1) = (l.length : Int) + 1 := by rw [← IntWalk.i64_left]; exact l1
  have HLB := Lib.hid hl
  clear hK hk hn hn63 hl
  go_enter Tryd.func45, Tryd.ntmps45
  go_wp2
  generalize hW : World.alloc w _ = W
  have b0 : blk W w.heap.size (Lib.cellsOf [] K) 9 := by rw [← hW]; exact blk_new _ _ _
  have bb : Below w.heap.size w W := by rw [← hW]; repeat (first | (with_reducible exact Below.refl _ _) | ((with_reducible refine below_grow ?_ ?_); rotate_left; focus (first | omega | (simp [go_sem]; done) | (simp [go_sem]; omega))) | ((with_reducible refine Below.alloc ?_ ?_ _); rotate_left; focus (first | omega | (simp [go_sem]; done) | (simp [go_sem]; omega))) | ((with_reducible refine Below.setCell ?_ ?_ _); rotate_left; focus (first | omega | (simp [go_sem]; done) | (simp [go_sem]; omega))) | (with_reducible refine Below.drew ?_) | (with_reducible refine below_drewN _ ?_))
  have bs : W.heap.size = w.heap.size + 1 := by rw [← hW]; simp
  clear hW
  go_loopw [0, 10, 11] (fun s0 s10 _ wr => ∃ (done : List ByteArray) (rest : List UInt8) (i : Nat), s0 = strv rest ∧ s10 = .int .i64 i ∧ i = done.length ∧ i ≤ k ∧ rest.length ≤ l.length ∧ done.map (·.data.toList) ++ Lib.splitK [32] 0 (k - i) rest = Lib.splitK [32] 0 k l ∧ blk wr w.heap.size (Lib.cellsOf done K) 9 ∧ Below w.heap.size w wr ∧ wr.heap.size = w.heap.size + 1) (fun _ s10 _ _ => k - (intOf s10).toNat)
  case atStart => exact ⟨[], l, 0, rfl, rfl, rfl, Nat.zero_le _, Nat.le_refl _, rfl, b0, bb, bs⟩
  case round =>
    obtain ⟨done, rest, i, rfl, rfl, hid, hi, hrl, hsp, c0, cb, cs⟩ := hrel
    clear b0 bb bs
    have C := Lib.hid (IX.out rest)
    have hlt : i < K := by have := HK.out; omega
    have kc : wr.cell? ⟨w.heap.size, i, none⟩ = some (.string ByteArray.empty) := by rw [blk_cell c0, hid]; exact Lib.cellsOf_next (by omega)
    have fc := blk_free c0 i
    have hlt2 : (i : Int) < K := by omega
    have e1 : IntKind.i64.wrap ((i : Int) + 1) = (i : Int) + 1 := IntWalk.i64_in _ (by omega)
    have hle2 : (i : Int) + 1 ≤ K := by omega
    have fin : Lib.splitK [32] 0 (k - i) rest = [rest] → (Lib.splitK [32] 0 k l).length = i + 1 ∧ ∀ (j : Nat) (x : List UInt8), (Lib.splitK [32] 0 k l)[j]? = some x → (wr.setCell ⟨w.heap.size, i, none⟩ (strv rest)).cell? ⟨w.heap.size, j, none⟩ = some (strv x) := fun h => by
      rw [h] at hsp
      refine ⟨by rw [← hsp]; simp [hid], fun j x hj => ?_⟩
      have h2 := blk_set c0 i (strv rest)
      rw [hid, Lib.cellsOf_set (by omega) (ByteArray.mk rest.toArray)] at h2
      rw [hid, blk_cell h2]
      rw [← hsp] at hj
      have hj' : ((done ++ [ByteArray.mk rest.toArray]).map (·.data.toList))[j]? = some x := by simpa using hj
      rw [List.getElem?_map] at hj'
      obtain ⟨y, hy, rfl⟩ := Option.map_eq_some_iff.1 hj'
      have hlt := (List.getElem?_eq_some_iff.1 hy).1
      simp only [Lib.cellsOf, List.getElem?_toArray]
      rw [List.getElem?_append_left (by simpa using hlt), List.getElem?_map, hy]
      rfl
    have FIN := Lib.hid fin
    have CB := Lib.hid cb
    have CS := Lib.hid cs
    have hsz : w.heap.size < wr.heap.size := by omega
    by_cases hik : i < k
    · have hik2 : (i : Int) < k := by omega
      rcases idx_range 32 rest with hx | ⟨hx0, hx1⟩
      · have H := Lib.hid (FIN.out (splitK_none hx))
        simp only [hx] at C
        clear fin hsp hx hik hi hid hrl c0 cb cs FIN hlt
        go_wp2_with (go_at_call 61; refine (C.out _).mono ?_; rintro e w9 ⟨rfl, rfl⟩)
        refine bodyPost_ret (v := .slice (some ⟨w.heap.size, 0, none⟩) (i + 1) K) (by simp [results, Tryd.results45, go_sem]) rfl ⟨⟨K, by rw [H.out.1]⟩, H.out.2, CB.out.setCell (p := ⟨w.heap.size, i, none⟩) (Nat.le_refl _) _, by simp [World.size_setCell, CS.out]⟩
      · obtain ⟨m, hm⟩ : ∃ m : Nat, Lib.indexByte rest 32 = m := ⟨(Lib.indexByte rest 32).toNat, by omega⟩
        have hl := HLB.out
        have tk := slice_take rest m (by omega)
        have dr : ∀ W, (Instr.slice 9 (strv rest) (some (.int .i64 ((m : Int) + 1))) none none).run Tryd.prog W = .ok (strv (rest.drop (m + 1))) W := fun W => by
          have := slice_drop rest (m + 1) (by omega) W
          simpa using this
        have m0 : ¬ (m : Int) < 0 := by omega
        have m1 : IntKind.i64.wrap (m : Int) = m := IntWalk.i64_in _ (by omega)
        have m2 : IntKind.i64.wrap ((m : Int) + 1) = (m : Int) + 1 := IntWalk.i64_in _ (by omega)
        have hsp2 : (done ++ [ByteArray.mk (rest.take m).toArray]).map (·.data.toList) ++ Lib.splitK [32] 0 (k - (i + 1)) (rest.drop (m + 1)) = Lib.splitK [32] 0 k l := by
          rw [← hsp, show k - i = (k - (i + 1)) + 1 by omega, splitK_hit hm]
          simp
        have h2 := blk_set c0 i (strv (rest.take m))
        rw [hid, Lib.cellsOf_set (by omega) (ByteArray.mk (rest.take m).toArray), ← hid] at h2
        have H2 := Lib.hid h2
        have HS := Lib.hid hsp2
        have HI := Lib.hid hik
        have HD := Lib.hid hid
        have HR := Lib.hid hrl
        simp only [hm] at C
        clear fin hsp hsp2 h2 hx0 hx1 hm hik hi hid hrl c0 cb cs FIN hlt hl
        go_wp2_with (go_at_call 61; refine (C.out _).mono ?_; rintro e w9 ⟨rfl, rfl⟩)
        go_roundw
        case rel => exact ⟨done ++ [ByteArray.mk (rest.take m).toArray], rest.drop (m + 1), i + 1, rfl, by go_num, by simp [HD.out], HI.out, by have := HR.out; simp; omega, HS.out, H2.out, CB.out.setCell (p := ⟨w.heap.size, i, none⟩) (Nat.le_refl _) _, by simp [World.size_setCell, CS.out]⟩
        case measure => simp [intOf]; have := HI.out; omega
    · have hik2 : ¬ (i : Int) < k := by omega
      have H := Lib.hid (FIN.out (by rw [show k - i = 0 by omega]; rfl))
      clear fin hsp hik hi hid hrl c0 cb cs FIN hlt
      go_wp2
      refine bodyPost_ret (v := .slice (some ⟨w.heap.size, 0, none⟩) (i + 1) K) (by simp [results, Tryd.results45, go_sem]) rfl ⟨⟨K, by rw [H.out.1]⟩, H.out.2, CB.out.setCell (p := ⟨w.heap.size, i, none⟩) (Nat.le_refl _) _, by simp [World.size_setCell, CS.out]⟩
/-- SplitN at a space: the parts, and where they lie. -/
theorem splitn_calls (l : List UInt8) (hl : l.length ≤ 140737488355328) (n : Nat) (hn : 1 ≤ n) (hn63 : n ≤ 100) (w : World) :
    Calls Tryd.prog 34 #[strv l, .string ⟨#[32]⟩, .int .i64 n] w fun e w' =>
      (∃ c, e = .returned (.slice (some ⟨w.heap.size, 0, none⟩) (Lib.splitN l [32] n).length c)) ∧ (∀ (j : Nat) (x : List UInt8), (Lib.splitN l [32] n)[j]? = some x → w'.cell? ⟨w.heap.size, j, none⟩ = some (strv x)) ∧ Below w.heap.size w w' ∧ w'.heap.size = w.heap.size + 1 := by
  have G := Lib.hid (genSplit_sp l hl n hn hn63)
  clear hl hn hn63
  go_enter Tryd.func34, Tryd.ntmps34
  go_wp2_with (go_at_call 45; refine (G.out _).mono ?_; rintro e w1 ⟨⟨c, rfl⟩, h1, h2, h3⟩)
  refine bodyPost_ret (by simp [results, Tryd.results34, go_sem]) rfl ⟨⟨c, rfl⟩, h1, h2, h3⟩
end Go.Proofs.YtalklogopepjpaaDoor.Ca
