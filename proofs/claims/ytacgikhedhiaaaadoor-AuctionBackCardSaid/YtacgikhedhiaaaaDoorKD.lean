/- Text and Read: the array of the strings. -/
import Derived.Test.YtacgikhedhiaaaaDoorKC
import Derived.Deep.RegionHeld3
import Derived.Laws.Rows
namespace Go.Proofs.YtacgikhedhiaaaaDoor
open Go.RowKit

def txA : Array Value := (nms.map fun s => strv s).toArray
theorem txA_size : txA.size = 38 := by decide
theorem txA_get (i : Nat) (h : i < 38) : txA[i]? = some (strv (nm i)) := by
  have hl : i < nms.length := h
  unfold txA nm
  rw [List.getElem?_toArray, List.getElem?_map, List.getElem?_eq_getElem hl, List.getD_eq_getElem?_getD, List.getElem?_eq_getElem hl]
  rfl
/-- What the calls' functions ask of a world: the strings' array, and a length. -/
structure Env (w : World) : Prop where
  tx : ∃ t fr, w.heap[0]? = some (.cells txA t fr)
  ml : ∃ m, w.cell? ⟨1, 0, none⟩ = some (.int .i64 m)
theorem Env.below {w w' : World} (h : Env w) (hb : Below w.heap.size w w') : Env w' :=
  ⟨let ⟨t, fr, e⟩ := h.tx; ⟨t, fr, (hb.block _ (Array.getElem?_eq_some_iff.1 e).1).trans e⟩, let ⟨m, hm⟩ := h.ml; ⟨m, (hb.cell (World.block_lt_of_cell? w _ hm)).trans hm⟩⟩
theorem Env.cell {w : World} (h : Env w) (i : Nat) (hi : i < 38) : w.cell? ⟨0, i, none⟩ = some (strv (nm i)) := by
  obtain ⟨t, fr, e⟩ := h.tx
  rw [cell_of_row w _ i _ _ _ e, txA_get i hi]
theorem Tryd.info38 : (Tryd.prog.info? 110).map (·.size) = some 38 := by kernel_rfl
theorem index_txA (i : Nat) (hi : i < 38) (W : World) : (Instr.index 110 (.agg txA) (.int .i64 i)).run Tryd.prog W = .ok (strv (nm i)) W := by
  have u := run_underlying Tryd.underlying110 W
  have z := Tryd.sizeOf9 W
  have a := Tryd.isAgg9 W
  have hi2 : (i : Int) < 38 := by omega
  have g := txA_get i hi
  simp [Instr.index, Sem.run_bind, u, z, g, go_sem]
  intro h
  omega
def txt (c : Nat) : List UInt8 := if c < 38 then nm c else []
def txE (c : Nat) : Int := if c < 38 then 0 else 80
theorem text_calls (c : Nat) (hc : c < 256) (w : World) (he : Env w) : Calls Tryd.prog 53 #[.int .u8 c] w fun e w' => e = .returned (.tuple #[strv (txt c), .int .i64 (txE c)]) ∧ w = w' := by
  unfold txt txE
  by_cases h : c < 38
  · have R := Lib.hid (right_yes c h)
    have k := he.cell c h
    have hlt : (c : Int) < 38 := by omega
    rw [if_pos h, if_pos h]
    clear hc h he
    go_enter Tryd.func53, Tryd.ntmps53
    go_wp2_with (go_at_call 70; refine (R.out _).mono ?_; rintro e w9 ⟨rfl, rfl⟩)
    refine bodyPost_ret (by simp [results, Tryd.results53, go_sem]) rfl ⟨rfl, rfl⟩
  · have R := Lib.hid (right_no c h)
    rw [if_neg h, if_neg h]
    go_enter Tryd.func53, Tryd.ntmps53
    go_wp2_with (go_at_call 70; refine (R.out _).mono ?_; rintro e w9 ⟨rfl, rfl⟩)
    refine bodyPost_ret (by simp [results, Tryd.results53, go_sem]) rfl ⟨rfl, rfl⟩
def rdV (s : List UInt8) : Nat := (rd s).getD 0
def rdE (s : List UInt8) : Int := if (rd s).isSome then 0 else 81
theorem rdV_lt (s : List UInt8) : rdV s < 38 := by
  unfold rdV
  cases h : rd s with
  | none => decide
  | some c => exact (rd_some h).1
set_option maxRecDepth 100000 in
set_option maxHeartbeats 4000000 in
theorem read_calls (s : ByteArray) (w : World) (he : Env w) : Calls Tryd.prog 78 #[.string s] w fun e w' => e = .returned (.tuple #[.int .u8 (rdV s.data.toList : Nat), .int .i64 (rdE s.data.toList)]) ∧ w = w' := by
  obtain ⟨t, fr, hg⟩ := he.tx
  have i38 := Tryd.info38
  obtain ⟨l, hl⟩ : ∃ l, s.data.toList = l := ⟨_, rfl⟩
  have IX := Lib.hid index_txA
  have hs : s = ⟨l.toArray⟩ := by rw [← hl]
  rw [hl]
  obtain ⟨T, hT⟩ : ∃ T, rd l = T := ⟨_, rfl⟩
  unfold rdV rdE
  rw [hT]
  have hT0 : rdF l 38 0 = T := hT
  clear hT he hl
  go_enter Tryd.func78, Tryd.ntmps78
  go_upto_region 1 with fail
  refine wp_region_lit ?_
  refine wpList_load_row rfl _ _ rfl 0 rfl t txA fr _ hg Tryd.underlying110 rfl (by rw [i38, txA_size]) ?_
  clear hg i38
  go_upto_region 2 with fail
  generalize (.agg txA : Value) = A at *
  go_wp2
  go_loopw [4, 5, 7] (fun _ _ s7 wr => ∃ i : Nat, s7 = .int .i64 i ∧ i ≤ 38 ∧ rdF l (38 - i) i = T ∧ w = wr) (fun _ _ s7 _ => 38 - (intOf s7).toNat)
  case atStart => exact ⟨0, rfl, by decide, hT0, rfl⟩
  case round =>
    obtain ⟨i, rfl, hi, hTr, rfl⟩ := hrel
    by_cases hlt : i < 38
    · have hlt2 : (i : Int) < 38 := by omega
      have ix := IX.out i hlt
      have e1 : IntKind.i64.wrap ((i : Int) + 1) = (i : Int) + 1 := IntWalk.i64_in _ (by omega)
      have e2 : IntKind.u8.wrap (i : Int) = i := u8_wrap (by omega) (by omega)
      rw [show 38 - i = (38 - (i + 1)) + 1 by omega] at hTr
      unfold rdF at hTr
      obtain ⟨n, hn⟩ : ∃ n, nm i = n := ⟨_, rfl⟩
      rw [hn] at ix hTr
      by_cases hq : n = l
      · rw [if_pos hq] at hTr
        have hb : (n == l) = true := by rw [hq]; simp
        subst hTr
        subst hq
        clear hn hT0 hi
        go_wp2
        refine bodyPost_ret (by simp [results, Tryd.results78, go_sem]) rfl ⟨rfl, rfl⟩
      · rw [if_neg hq] at hTr
        have hb : (n == l) = false := by simpa using hq
        have H := Lib.hid hTr
        clear hq hn hT0 hTr
        go_wp2
        go_roundw
        case rel => exact ⟨i + 1, by go_num, by omega, H.out, by trivial⟩
        case measure => simp [intOf]; omega
    · obtain rfl : i = 38 := by omega
      simp only [Nat.sub_self, rdF] at hTr
      subst hTr
      clear hT0
      go_wp2
      refine bodyPost_ret (by simp [results, Tryd.results78, go_sem]) rfl ⟨rfl, rfl⟩
end Go.Proofs.YtacgikhedhiaaaaDoor
