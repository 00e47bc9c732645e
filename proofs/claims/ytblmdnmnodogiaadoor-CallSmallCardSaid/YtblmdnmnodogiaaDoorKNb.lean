/- The reference's ReadAll, word by word. -/
import Derived.Test.YtblmdnmnodogiaaDoorKV
import Derived.Test.YtblmdnmnodogiaaDoorKY
import Derived.BigQuiet
namespace Go.Proofs.YtblmdnmnodogiaaDoor
open Go.RowKit

/-- The calls behind a word. -/
def fin (out : List Nat) (word : List UInt8) : Option (List Nat) :=
  match rd word with
  | none => none
  | some c => if out.length = 319 then none else some (out ++ [c])
theorem fin_no {out : List Nat} {word : List UInt8} (h : rd word = none) : fin out word = none := by unfold fin; rw [h]
theorem fin_full {out : List Nat} {word : List UInt8} (h : out.length = 319) : fin out word = none := by
  unfold fin
  cases rd word with
  | none => rfl
  | some c => exact if_pos h
theorem fin_some {out : List Nat} {word : List UInt8} {c : Nat} (h : rd word = some c) (hl : ¬ out.length = 319) : fin out word = some (out ++ [c]) := by
  unfold fin
  rw [h]
  exact if_neg hl
/-- What is read from here: the calls so far, the word so far, the bytes left. -/
def ra (out : List Nat) (word : List UInt8) : List UInt8 → Option (List Nat)
  | [] => fin out word
  | b :: r => if b = 32 then (fin out word).bind (fun o => ra o [] r) else ra out (word ++ [b]) r
def glue (word : List UInt8) : List (List UInt8) → List (List UInt8)
  | [] => [word]
  | w :: ws => (word ++ w) :: ws
theorem glue_nil {ws : List (List UInt8)} (h : ws ≠ []) : glue [] ws = ws := by
  cases ws with
  | nil => exact absurd rfl h
  | cons w ws => rfl
theorem glue_cons {b : UInt8} {r : List UInt8} (hb : ¬ b = 32) (word : List UInt8) : glue word (wds (b :: r)) = glue (word ++ [b]) (wds r) := by
  have h1 : wds (b :: r) = (match wds r with | [] => [[b]] | w :: ws => (b :: w) :: ws) := by rw [wds, if_neg hb]; rfl
  have h2 := wds_ne r
  rw [h1]
  generalize wds r = q at *
  cases q with
  | nil => exact absurd rfl h2
  | cons w ws => simp [glue]
theorem ra_eq : ∀ (r : List UInt8) (out : List Nat) (word : List UInt8), out.length ≤ 319 →
    ra out word r = if out.length + r.count 32 < 319 then (rds (glue word (wds r))).map (out ++ ·) else none
  | [], out, word, h => by
    have hg : glue word (wds []) = [word] := by simp [wds, glue]
    have hc : ([] : List UInt8).count 32 = 0 := rfl
    rw [hg, hc, Nat.add_zero, ra]
    by_cases hl : out.length = 319
    · rw [fin_full hl, if_neg (by omega)]
    · rw [if_pos (by omega)]
      cases e : rd word with
      | none => rw [fin_no e, rds, e]; rfl
      | some c => rw [fin_some e hl, rds, e]; rfl
  | b :: r, out, word, h => by
    rw [ra]
    by_cases hb : b = 32
    · subst hb
      have hg : glue word (wds (32 :: r)) = word :: wds r := by simp [wds, glue]
      rw [if_pos rfl, hg, List.count_cons_self]
      by_cases hl : out.length = 319
      · rw [fin_full hl, if_neg (by omega)]; rfl
      · cases e : rd word with
        | none =>
          rw [fin_no e, rds, e]
          by_cases hc : out.length + (r.count 32 + 1) < 319
          · rw [if_pos hc]; rfl
          · rw [if_neg hc]; rfl
        | some c =>
          have ih := ra_eq r (out ++ [c]) [] (by simp; omega)
          rw [List.length_append, List.length_singleton, glue_nil (wds_ne r)] at ih
          rw [fin_some e hl, rds, e, Option.bind_some, ih]
          by_cases hc : out.length + 1 + r.count 32 < 319
          · rw [if_pos hc, if_pos (by omega), Option.map_map]
            congr 1
            funext x
            simp
          · rw [if_neg hc, if_neg (by omega)]
    · have ih := ra_eq r out (word ++ [b]) h
      rw [if_neg hb, ih, List.count_cons_of_ne (by simpa using hb), glue_cons hb]
theorem ra_rda {l : List UInt8} (h : l ≠ []) : ra [] [] l = rda l := by
  rw [ra_eq l [] [] (by simp), glue_nil (wds_ne l)]
  unfold rda
  rw [if_neg h, List.length_nil, Nat.zero_add]
  by_cases hc : l.count 32 < 319
  · rw [if_pos hc, if_neg (by omega)]
    cases rds (wds l) <;> rfl
  · rw [if_neg hc, if_pos (by omega)]
theorem conv_one (W : World) (b : UInt8) (g : Nat) (hg : g = W.heap.size) : (convert 24 9 (.slice (some ⟨g, 0, none⟩) 1 1)).run Tryd.prog (W.alloc (.cells #[.int .u8 b.toNat] 5)) = .ok (strv [b]) (W.alloc (.cells #[.int .u8 b.toNat] 5)) := by
  subst hg
  refine run_convert_bytes_back _ 24 9 5 ⟨W.heap.size, 0, none⟩ 1 [b] Tryd.underlying24 Tryd.underlying5 Tryd.underlying9 fun j hj => ?_
  obtain rfl : j = 0 := by simpa using hj
  have : (⟨W.heap.size, 0, none⟩ : Addr).add 0 = ⟨W.heap.size, 0, none⟩ := rfl
  rw [this, blk_cell (blk_new _ _ _)]
  rfl
theorem refAll_nil (w : World) : Calls Tryd.prog 34 #[.string ⟨#[]⟩] w fun e w' => e = .returned (.tuple #[.slice none 0 0, .int .i64 0]) ∧ w = w' := by
  go_enter Tryd.func34, Tryd.ntmps34
  go_wp2
  refine bodyPost_ret (by simp [results, Tryd.results34, go_sem]) rfl ⟨rfl, rfl⟩
set_option maxRecDepth 100000 in
set_option maxHeartbeats 8000000 in
theorem refAll_some (l : List UInt8) (hn : l.length ≤ 100000) (hne : l ≠ []) (w : World) :
    Calls Tryd.prog 34 #[strv l] w fun e w' => (∃ v, e = .returned (.tuple #[v, .int .i64 (raE l)]) ∧ w'.ownsRow w.heap.size 5 1 v (raL l).length ((raL l).map u8v)) ∧ Below w.heap.size w w' := by
  obtain ⟨i0, hi, hz0, hz1, hz2⟩ := info_parts Tryd.infoU
  have hne1 : (l == []) = false := by simpa using hne
  have hne2 : l.isEmpty = false := by simpa using hne
  have hra := ra_rda hne
  unfold raL raE
  rw [← hra]
  obtain ⟨T, hT⟩ : ∃ T, ra [] [] l = T := ⟨_, rfl⟩
  rw [hT]
  have RD := Lib.hid ref_read
  clear hra hne
  go_enter Tryd.func34, Tryd.ntmps34
  go_wp2
  go_loopw [4, 5, 6, 7, 8] (fun s4 s5 s6 _ _ wr => ∃ (i : Nat) (out : List Nat) (word : List UInt8), s6 = .int .i64 i ∧ s5 = strv word ∧ wr.ownsRow w.heap.size 5 1 s4 out.length (out.map u8v) ∧ out.length ≤ 319 ∧ word.length ≤ l.length ∧ Below w.heap.size w wr ∧ ((i ≤ l.length ∧ word.length ≤ i ∧ ra out word (l.drop i) = T) ∨ (i = l.length + 1 ∧ T = some out))) (fun _ _ s6 _ _ _ => l.length + 1 - (intOf s6).toNat)
  case atStart => exact ⟨0, [], [], rfl, rfl, World.ownsRow_nil _ _ _ _, by simp, by simp, Below.refl _ _, .inl ⟨Nat.zero_le _, Nat.le_refl _, hT⟩⟩
  case round =>
    obtain ⟨i, out, word, rfl, rfl, hrow, h319, hwl, cb, hcase⟩ := hrel
    clear hT
    obtain ⟨A, cap, rfl, hA⟩ := own_slice hrow
    rcases hcase with ⟨hin, hwi, hTr⟩ | ⟨rfl, rfl⟩
    · have hin2 : (i : Int) ≤ l.length := by omega
      have u1 : IntKind.i64.wrap ((i : Int) + 1) = (i : Int) + 1 := IntWalk.i64_in _ (by omega)
      have HR := Lib.hid hrow
      have CB := Lib.hid cb
      have hbs := cb.size
      by_cases hlt : i < l.length
      · have hlt2 : (i : Int) < l.length := by omega
        have hd : l.drop i = l[i] :: l.drop (i + 1) := List.drop_eq_getElem_cons hlt
        obtain ⟨b, hb⟩ : ∃ b, l[i] = b := ⟨_, rfl⟩
        rw [hb] at hd
        rw [hd, ra] at hTr
        have IX := index_str l .i64 i b (by rw [List.getElem?_eq_getElem hlt, hb])
        have hgb : (ByteArray.mk l.toArray)[i]? = some b := by
          have hs : i < (ByteArray.mk l.toArray).size := hlt
          rw [getElem?_pos _ i hs, ← hb]
          rfl
        by_cases h32 : b = 32
        · subst h32
          rw [if_pos rfl] at hTr
          have h32' : (((32 : UInt8).toNat : Nat) : Int) = 32 := rfl
          clear hd hb
          cases e : rd word with
          | none =>
            rw [fin_no e] at hTr
            have hTr : none = T := hTr; subst hTr
            have R1 := Lib.hid (RD.out word wr)
            unfold rdV rdE at R1
            rw [e] at R1
            clear e hrow cb
            go_wp2_with (go_at_call 35; refine R1.out.mono ?_; rintro e w9 ⟨rfl, hb9⟩)
            refine bodyPost_ret (by simp [results, Tryd.results34, go_sem]) rfl ⟨⟨_, rfl, World.ownsRow_nil _ _ _ _⟩, CB.out.trans (hb9.mono hbs)⟩
          | some c =>
            have R1 := Lib.hid (RD.out word wr)
            unfold rdV rdE at R1
            rw [e] at R1
            simp only [Option.getD_some, Option.isSome_some, if_true] at R1
            by_cases hl : out.length = 319
            · rw [fin_full hl] at hTr
              have hTr : none = T := hTr; subst hTr
              have hl2 : ((out.length : Nat) : Int) = 319 := by omega
              clear e hrow cb hA
              go_wp2_with (go_at_call 35; refine R1.out.mono ?_; rintro e w9 ⟨rfl, hb9⟩)
              refine bodyPost_ret (by simp [results, Tryd.results34, go_sem]) rfl ⟨⟨_, rfl, World.ownsRow_nil _ _ _ _⟩, CB.out.trans (hb9.mono hbs)⟩
            · rw [fin_some e hl] at hTr
              have hl2 : ¬ ((out.length : Nat) : Int) = 319 := by omega
              have hl3 : out.length ≤ 318 := by omega
              have HT := Lib.hid hTr
              clear e hrow cb hA hTr
              go_upto_region 13 with (go_at_call 35; refine R1.out.mono ?_; rintro e w9 ⟨rfl, hb9⟩)
              have hr9 := own_below HR.out hb9 rfl
              have z9 := CB.out.trans (hb9.mono hbs)
              have hz9 := z9.size
              go_wp2_with (at_builtin; refine wpList_append_own _ rfl _ _ 24 rfl w.heap.size 5 i0 (.int .u8 0) 1 1 Tryd.underlying24 hi hz0 hz1 hz2 rfl (by decide) _ _ _ rfl (hr9.alloc _) ⟨w9.heap.size, 0, none⟩ 1 1 [u8v c] rfl rfl (news1 _ _ _ _ rfl rfl) (fun u hu => by simp only [List.mem_singleton] at hu; subst hu; rfl) (by unfold maxLen; omega) (by omega) (by simp; omega) ?_; intro v' w10 hown' hgrow _)
              go_roundw
              case rel => exact ⟨i + 1, out ++ [c], [], by go_num, rfl, by rw [List.length_append, List.length_singleton, List.map_append]; exact hown', by simp; omega, by simp, Below.grown (by repeat (first | (with_reducible exact z9) | ((with_reducible refine below_grow ?_ ?_); rotate_left; focus (first | omega | (simp [go_sem]; done) | (simp [go_sem]; omega))) | ((with_reducible refine Below.alloc ?_ ?_ _); rotate_left; focus (first | omega | (simp [go_sem]; done) | (simp [go_sem]; omega))) | ((with_reducible refine Below.setCell ?_ ?_ _); rotate_left; focus (first | omega | (simp [go_sem]; done) | (simp [go_sem]; omega))) | (with_reducible refine Below.drew ?_) | (with_reducible refine below_drewN _ ?_))) hgrow (by simp; omega) (fun k hk => own_block_ge hr9 hk), .inl ⟨by omega, by simp, HT.out⟩⟩
              case measure => simp [intOf]; omega
        · rw [if_neg h32] at hTr
          have h32' : ¬ (b.toNat : Int) = 32 := fun e => h32 (UInt8.toNat_inj.1 (by simpa using (by omega : b.toNat = 32)))
          have HT := Lib.hid hTr
          have CV := conv_one wr b wr.heap.size rfl
          have S1 := add_strv word [b] (by omega) (by simp)
          have S2 := add_op word [b] (by omega) (by simp)
          clear hd hb hTr h32 hrow cb
          go_wp2
          exact ⟨⟨i + 1, out, word ++ [b], by go_num, rfl, HR.out.alloc _, h319, by simp; omega, by repeat (first | (with_reducible exact CB.out) | ((with_reducible refine below_grow ?_ ?_); rotate_left; focus (first | omega | (simp [go_sem]; done) | (simp [go_sem]; omega))) | ((with_reducible refine Below.alloc ?_ ?_ _); rotate_left; focus (first | omega | (simp [go_sem]; done) | (simp [go_sem]; omega))) | ((with_reducible refine Below.setCell ?_ ?_ _); rotate_left; focus (first | omega | (simp [go_sem]; done) | (simp [go_sem]; omega))) | (with_reducible refine Below.drew ?_) | (with_reducible refine below_drewN _ ?_)), .inl ⟨by omega, by simp; omega, HT.out⟩⟩, by simp [intOf]; omega⟩
      · obtain rfl : i = l.length := by omega
        rw [List.drop_length, ra] at hTr
        have hge : ¬ (l.length : Int) < l.length := by omega
        cases e : rd word with
        | none =>
          rw [fin_no e] at hTr
          subst hTr
          have R1 := Lib.hid (RD.out word wr)
          unfold rdV rdE at R1
          rw [e] at R1
          clear e hrow cb
          go_wp2_with (go_at_call 35; refine R1.out.mono ?_; rintro e w9 ⟨rfl, hb9⟩)
          refine bodyPost_ret (by simp [results, Tryd.results34, go_sem]) rfl ⟨⟨_, rfl, World.ownsRow_nil _ _ _ _⟩, CB.out.trans (hb9.mono hbs)⟩
        | some c =>
          have R1 := Lib.hid (RD.out word wr)
          unfold rdV rdE at R1
          rw [e] at R1
          simp only [Option.getD_some, Option.isSome_some, if_true] at R1
          by_cases hl : out.length = 319
          · rw [fin_full hl] at hTr
            subst hTr
            have hl2 : ((out.length : Nat) : Int) = 319 := by omega
            clear e hrow cb hA
            go_wp2_with (go_at_call 35; refine R1.out.mono ?_; rintro e w9 ⟨rfl, hb9⟩)
            refine bodyPost_ret (by simp [results, Tryd.results34, go_sem]) rfl ⟨⟨_, rfl, World.ownsRow_nil _ _ _ _⟩, CB.out.trans (hb9.mono hbs)⟩
          · rw [fin_some e hl] at hTr
            have hl2 : ¬ ((out.length : Nat) : Int) = 319 := by omega
            have hl3 : out.length ≤ 318 := by omega
            have HT := Lib.hid hTr
            clear e hrow cb hA hTr
            go_upto_region 13 with (go_at_call 35; refine R1.out.mono ?_; rintro e w9 ⟨rfl, hb9⟩)
            have hr9 := own_below HR.out hb9 rfl
            have z9 := CB.out.trans (hb9.mono hbs)
            have hz9 := z9.size
            go_wp2_with (at_builtin; refine wpList_append_own _ rfl _ _ 24 rfl w.heap.size 5 i0 (.int .u8 0) 1 1 Tryd.underlying24 hi hz0 hz1 hz2 rfl (by decide) _ _ _ rfl (hr9.alloc _) ⟨w9.heap.size, 0, none⟩ 1 1 [u8v c] rfl rfl (news1 _ _ _ _ rfl rfl) (fun u hu => by simp only [List.mem_singleton] at hu; subst hu; rfl) (by unfold maxLen; omega) (by omega) (by simp; omega) ?_; intro v' w10 hown' hgrow _)
            go_roundw
            case rel => exact ⟨l.length + 1, out ++ [c], [], by go_num, rfl, by rw [List.length_append, List.length_singleton, List.map_append]; exact hown', by simp; omega, by simp, Below.grown (by repeat (first | (with_reducible exact z9) | ((with_reducible refine below_grow ?_ ?_); rotate_left; focus (first | omega | (simp [go_sem]; done) | (simp [go_sem]; omega))) | ((with_reducible refine Below.alloc ?_ ?_ _); rotate_left; focus (first | omega | (simp [go_sem]; done) | (simp [go_sem]; omega))) | ((with_reducible refine Below.setCell ?_ ?_ _); rotate_left; focus (first | omega | (simp [go_sem]; done) | (simp [go_sem]; omega))) | (with_reducible refine Below.drew ?_) | (with_reducible refine below_drewN _ ?_))) hgrow (by simp; omega) (fun k hk => own_block_ge hr9 hk), .inr ⟨rfl, HT.out.symm⟩⟩
            case measure => simp [intOf]
    · have b1 : ¬ ((l.length + 1 : Nat) : Int) ≤ l.length := by omega
      have b2 : ¬ (l.length : Int) + 1 ≤ l.length := by omega
      clear hne1 hne2
      go_wp2
      refine bodyPost_ret (by simp [results, Tryd.results34, go_sem]) rfl ⟨⟨_, rfl, hrow⟩, cb⟩
theorem refAll_calls (l : List UInt8) (hn : l.length ≤ 100000) (w : World) :
    Calls Tryd.prog 34 #[strv l] w fun e w' => (∃ v, e = .returned (.tuple #[v, .int .i64 (raE l)]) ∧ w'.ownsRow w.heap.size 5 1 v (raL l).length ((raL l).map u8v)) ∧ Below w.heap.size w w' := by
  by_cases h0 : l = []
  · subst h0
    have hr : rda [] = some [] := by unfold rda; rw [if_pos rfl]
    unfold raL raE
    rw [hr]
    exact (refAll_nil w).mono fun e w' h => ⟨⟨_, h.1, World.ownsRow_nil _ _ _ _⟩, h.2 ▸ Below.refl _ _⟩
  · exact refAll_some l hn h0 w
end Go.Proofs.YtblmdnmnodogiaaDoor
