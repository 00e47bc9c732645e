/- ReadAll. -/
import Derived.Test.YtacgikhedhiaaaaDoorKF
namespace Go.Proofs.YtacgikhedhiaaaaDoor
open Go.RowKit

theorem count_calls (s : ByteArray) (w : World) : Calls Tryd.prog 84 #[.string s, .string ⟨#[32]⟩] w fun e w' => e = .returned (.int .i64 (s.data.toList.count 32 : Nat)) ∧ w = w' :=
  (Tryd.strings_Count_one s 32 w).mono fun _ _ h => ⟨h.1, h.2.symm⟩
theorem split_calls (s : ByteArray) (hs : s.size < 4294967281) (w : World) (he : Env w) : Calls Tryd.prog 85 #[.string s, .string ⟨#[32]⟩] w fun e w' =>
    e = .returned (.slice (some ⟨w.heap.size, 0, none⟩) (wds s.data.toList).length (wds s.data.toList).length) ∧ w' = w.alloc (.cells ((wds s.data.toList).map strv).toArray 9) := by
  obtain ⟨m, hm⟩ := he.ml
  refine (Tryd.strings_Split s ⟨#[32]⟩ m w hs hm (by decide)).mono fun e w' h => ?_
  have hc : Lib.countB s ⟨#[32]⟩ = s.data.toList.count 32 := by
    show Lib.count s.data.toList [32] = _
    rw [Lib.count_one]
  have hl := wds_length s.data.toList
  have hw : (Lib.splitB ⟨#[32]⟩ 0 (Lib.countB s ⟨#[32]⟩) s).map Value.string = (wds s.data.toList).map strv := by
    have h1 := Lib.splitB_data ⟨#[32]⟩ 0 (Lib.countB s ⟨#[32]⟩) s
    have h2 : Lib.splitK (ByteArray.mk #[32]).data.toList 0 (Lib.countB s ⟨#[32]⟩) s.data.toList = wds s.data.toList := split_wds _ _ hc.symm
    rw [h2] at h1
    rw [← h1, List.map_map]
    refine List.map_congr_left fun x _ => ?_
    show Value.string x = .string ⟨x.data.toList.toArray⟩
    rfl
  refine ⟨?_, ?_⟩
  · rw [h.1, hc, hl]
  · rw [h.2, hw]
def raL (s : List UInt8) : List Nat := (rda s).getD []
def raE (s : List UInt8) : Int := if (rda s).isSome then 0 else 81
theorem raL_lt (s : List UInt8) : ∀ c ∈ raL s, c < 38 := by
  unfold raL
  cases h : rda s with
  | none => simp
  | some l => exact (rda_some h).2.1
theorem raL_len (s : List UInt8) : (raL s).length ≤ 319 := by
  unfold raL
  cases h : rda s with
  | none => simp
  | some l => exact (rda_some h).2.2
theorem readAll_nil (w : World) : Calls Tryd.prog 67 #[.string ⟨#[]⟩] w fun e w' => e = .returned (.tuple #[.slice none 0 0, .int .i64 0]) ∧ w = w' := by
  go_enter Tryd.func67, Tryd.ntmps67
  go_wp2
  refine bodyPost_ret (by simp [results, Tryd.results67, go_sem]) rfl ⟨rfl, rfl⟩
theorem readAll_many (l : List UInt8) (h : 319 ≤ l.count 32) (w : World) : Calls Tryd.prog 67 #[strv l] w fun e w' => e = .returned (.tuple #[.slice none 0 0, .int .i64 81]) ∧ w = w' := by
  have C := Lib.hid (count_calls ⟨l.toArray⟩)
  have h1 : (319 : Int) ≤ (l.count 32 : Nat) := by omega
  have hn0 : l ≠ [] := by
    rintro rfl
    simp at h
  have hne : (l == []) = false := by simpa using hn0
  have hne2 : l.isEmpty = false := by simpa using hn0
  simp only [] at C
  obtain ⟨n, hn⟩ : ∃ n, l.count 32 = n := ⟨_, rfl⟩
  rw [hn] at C h1
  clear h hn
  go_enter Tryd.func67, Tryd.ntmps67
  go_wp2_with (go_at_call 84; refine (C.out _).mono ?_; rintro e w9 ⟨rfl, rfl⟩)
  refine bodyPost_ret (by simp [results, Tryd.results67, go_sem]) rfl ⟨rfl, rfl⟩
set_option maxRecDepth 100000 in
set_option maxHeartbeats 8000000 in
theorem readAll_words (l : List UInt8) (hs : l.length < 4294967281) (hne : l ≠ []) (h : l.count 32 < 319) (w : World) (he : Env w) :
    Calls Tryd.prog 67 #[strv l] w fun e w' => (∃ v, e = .returned (.tuple #[v, .int .i64 (raE l)]) ∧ w'.ownsRow w.heap.size 5 1 v (raL l).length ((raL l).map u8v)) ∧ Below w.heap.size w w' := by
  obtain ⟨i0, hi, hz0, hz1, hz2⟩ := info_parts Tryd.infoU
  have C := Lib.hid (count_calls ⟨l.toArray⟩)
  have SP := Lib.hid (split_calls ⟨l.toArray⟩ hs w he)
  have hl := wds_length l
  have hra : rda l = rds (wds l) := by unfold rda; rw [if_neg hne, if_neg (by omega)]
  unfold raL raE
  rw [hra]
  have h1 : ¬ (319 : Int) ≤ (l.count 32 : Nat) := by omega
  have hne' : (l == []) = false := by simpa using hne
  have hne2 : l.isEmpty = false := by simpa using hne
  simp only [] at C SP
  obtain ⟨n, hn⟩ : ∃ n, l.count 32 = n := ⟨_, rfl⟩
  obtain ⟨ws, hws⟩ : ∃ ws, wds l = ws := ⟨_, rfl⟩
  rw [hn] at C h1 hl h
  have hd1 : decide ((319 : Int) ≤ (n : Int)) = false := decide_eq_false h1
  rw [hws] at SP hl ⊢
  obtain ⟨T, hT⟩ : ∃ T, rds ws = T := ⟨_, rfl⟩
  rw [hT]
  have z0 : blk (w.alloc (.cells (ws.map strv).toArray 9)) w.heap.size (ws.map strv).toArray 9 := blk_new _ _ _
  have zb : Below w.heap.size w (w.alloc (.cells (ws.map strv).toArray 9)) := by repeat (first | (with_reducible exact Below.refl _ _) | ((with_reducible refine below_grow ?_ ?_); rotate_left; focus (first | omega | (simp [go_sem]; done) | (simp [go_sem]; omega))) | ((with_reducible refine Below.alloc ?_ ?_ _); rotate_left; focus (first | omega | (simp [go_sem]; done) | (simp [go_sem]; omega))) | ((with_reducible refine Below.setCell ?_ ?_ _); rotate_left; focus (first | omega | (simp [go_sem]; done) | (simp [go_sem]; omega))) | (with_reducible refine Below.drew ?_) | (with_reducible refine below_drewN _ ?_))
  have HL := Lib.hid (And.intro hl h)
  have HE := Lib.hid he
  clear hn hws hra hne hs hl h he
  go_enter Tryd.func67, Tryd.ntmps67
  go_upto_region 5 with (go_at_call 84; refine (C.out _).mono ?_; rintro e w9 ⟨rfl, rfl⟩)
  go_wp2_with (go_at_call 85; refine SP.out.mono ?_; rintro e w1 ⟨rfl, rfl⟩)
  clear SP C h1 hne' hne2
  generalize (w.alloc (.cells (ws.map strv).toArray 9)) = W at *
  go_loopw [4, 6, 7, 8, 17, 21] (fun s4 _ _ _ s17 _ wr => ∃ (i : Nat) (acc : List Nat), s17 = .int .i64 i ∧ i ≤ ws.length ∧ acc.length = i ∧ (rds (ws.drop i)).map (acc ++ ·) = T ∧ wr.ownsRow (w.heap.size + 1) 5 1 s4 i (acc.map u8v) ∧ blk wr w.heap.size (ws.map strv).toArray 9 ∧ Below w.heap.size w wr) (fun _ _ _ _ s17 _ _ => ws.length - (intOf s17).toNat)
  case atStart => exact ⟨0, [], rfl, Nat.zero_le _, rfl, by rw [← hT]; simp, World.ownsRow_nil _ _ _ _, z0, zb⟩
  case round =>
    obtain ⟨i, acc, rfl, hi17, hacc, hTr, hrow, hb0, hb⟩ := hrel
    clear z0 zb hT
    by_cases hlt : i < ws.length
    · have hlt2 : (i : Int) < ws.length := by omega
      have hd : ws.drop i = ws[i] :: ws.drop (i + 1) := List.drop_eq_getElem_cons hlt
      rw [hd] at hTr
      obtain ⟨a, ha⟩ : ∃ a, ws[i] = a := ⟨_, rfl⟩
      have k0 : wr.cell? ⟨w.heap.size, i, none⟩ = some (strv a) := by
        rw [blk_cell hb0, List.getElem?_toArray, List.getElem?_map, List.getElem?_eq_getElem hlt, ha]; rfl
      rw [ha] at hTr
      have e1 : IntKind.i64.wrap ((i : Int) + 1) = (i : Int) + 1 := IntWalk.i64_in _ (by have := HL.out; omega)
      have R := Lib.hid (read_calls ⟨a.toArray⟩ wr (HE.out.below hb))
      simp only [rdV, rdE] at R
      obtain ⟨A, cap, rfl, hA⟩ := own_slice hrow
      cases hr : rd a with
      | none =>
        rw [rds, hr] at hTr
        rw [hr] at R
        simp only [Option.map_none] at hTr
        subst hTr
        clear ha hd hA
        go_wp2_with (go_at_call 78; refine R.out.mono ?_; rintro e w1 ⟨rfl, rfl⟩)
        refine bodyPost_ret (by simp [results, Tryd.results67, go_sem]) rfl ⟨⟨_, rfl, World.ownsRow_nil _ _ _ _⟩, hb⟩
      | some d =>
        rw [rds, hr] at hTr
        rw [hr] at R
        simp only [Option.map_map] at hTr
        have hT2 : (rds (ws.drop (i + 1))).map ((acc ++ [d]) ++ ·) = T := by
          rw [← hTr]
          congr 1
          funext x
          simp
        have HT := Lib.hid hT2
        simp only [Option.getD_some, Option.isSome_some, if_true] at R
        have HR := Lib.hid hrow
        have HB := Lib.hid hb
        have H0 := Lib.hid hb0
        have hsz := hb.size
        have h0lt := blk_lt hb0
        have hL2 : ws.length ≤ 319 := by have := HL.out; omega
        clear ha hd hT2 hTr hr
        go_wp2_with (first | (go_at_call 78; refine R.out.mono ?_; rintro e w1 ⟨rfl, rfl⟩) | (at_builtin; refine wpList_append_own _ rfl _ _ 22 rfl (w.heap.size + 1) 5 i0 (.int .u8 0) 1 1 Tryd.underlying22 hi hz0 hz1 hz2 rfl (by decide) _ _ _ rfl (HR.out.alloc _) ⟨wr.heap.size, 0, none⟩ 1 1 [u8v d] rfl rfl (news1 _ _ _ _ rfl rfl) (fun u hu => by simp only [List.mem_singleton] at hu; subst hu; rfl) (by unfold maxLen; omega) (by omega) (by simp; omega) ?_; intro v' w1 hown' hgrow _))
        go_roundw
        case rel =>
          refine ⟨i + 1, acc ++ [d], by go_num, by omega, by simp [hacc], HT.out, ?_, blk_grown (blk_alloc H0.out _) hgrow (not_row HR.out (by omega)), Below.grown (by repeat (first | (with_reducible exact HB.out) | ((with_reducible refine below_grow ?_ ?_); rotate_left; focus (first | omega | (simp [go_sem]; done) | (simp [go_sem]; omega))) | ((with_reducible refine Below.alloc ?_ ?_ _); rotate_left; focus (first | omega | (simp [go_sem]; done) | (simp [go_sem]; omega))) | ((with_reducible refine Below.setCell ?_ ?_ _); rotate_left; focus (first | omega | (simp [go_sem]; done) | (simp [go_sem]; omega))) | (with_reducible refine Below.drew ?_) | (with_reducible refine below_drewN _ ?_))) hgrow (by simp; omega) (fun k e => by have := own_block_ge HR.out e; omega)⟩
          rw [List.map_append]
          exact hown'
        case measure => simp [intOf]; omega
    · obtain rfl : i = ws.length := by omega
      rw [List.drop_length, rds] at hTr
      simp only [Option.map_some, List.append_nil] at hTr
      subst hTr
      clear HL
      go_wp2
      refine bodyPost_ret (by simp [results, Tryd.results67, go_sem]; rfl) rfl ⟨⟨_, rfl, ?_⟩, hb⟩
      try rw [hacc]
      exact own_base hrow
theorem readAll_calls (s : ByteArray) (hs : s.size < 4294967281) (w : World) (he : Env w) :
    Calls Tryd.prog 67 #[.string s] w fun e w' => (∃ v, e = .returned (.tuple #[v, .int .i64 (raE s.data.toList)]) ∧ w'.ownsRow w.heap.size 5 1 v (raL s.data.toList).length ((raL s.data.toList).map u8v)) ∧ Below w.heap.size w w' := by
  by_cases h0 : s.data.toList = []
  · have hs0 : s = ⟨#[]⟩ := by
      have : s = ⟨s.data.toList.toArray⟩ := by simp
      rw [this, h0]
    have hr : rda s.data.toList = some [] := by unfold rda; rw [if_pos h0]
    unfold raL raE
    rw [hr]
    subst hs0
    exact (readAll_nil w).mono fun e w' h => ⟨⟨_, h.1, World.ownsRow_nil _ _ _ _⟩, h.2 ▸ Below.refl _ _⟩
  · by_cases hc : 319 ≤ s.data.toList.count 32
    · have hr : rda s.data.toList = none := by unfold rda; rw [if_neg h0, if_pos hc]
      unfold raL raE
      rw [hr]
      exact (readAll_many s.data.toList hc w).mono fun e w' h => ⟨⟨_, h.1, World.ownsRow_nil _ _ _ _⟩, h.2 ▸ Below.refl _ _⟩
    · exact readAll_words s.data.toList hs h0 (by omega) w he
end Go.Proofs.YtacgikhedhiaaaaDoor
