/- Auctions: what is taken of words. -/
import Derived.Test.YtacgikhedhiaaaaDoorLY
namespace Go.Proofs.YtacgikhedhiaaaaDoor
open Go.RowKit

theorem slt_from {p : Option Addr} {n c : Nat} {ws : List (List UInt8)} {w : World} (hS : SlT w (.slice p n c) ws) (d : Nat) (hd : d ≤ n) : ∃ p', (∀ W, (Instr.slice 51 (.slice p n c) (some (.int .u8 d)) none none).run Tryd.prog W = .ok (.slice p' (n - d) (c - d)) W) ∧ SlT w (.slice p' (n - d) (c - d)) (ws.drop d) := by
  obtain ⟨p0, c0, e, h2, h3⟩ := id hS
  simp only [Value.slice.injEq] at e
  obtain ⟨rfl, rfl, rfl⟩ := e
  have z := Tryd.sizeOf9
  have u := Tryd.underlying51
  have hdi : (d : Int) ≤ ws.length := by omega
  have hdc : (ws.length : Int) ≤ c := by omega
  refine ⟨if c = d then p else p.map (·.add d), fun W => by simp [go_sem, *], ?_⟩
  refine ⟨_, _, by rw [List.length_drop], by rw [List.length_drop]; omega, fun hne => ?_⟩
  have hlt : d < ws.length := by
    rcases Nat.lt_or_ge d ws.length with h | h
    · exact h
    · exact absurd (List.drop_of_length_le h) hne
  obtain ⟨b, off, rfl, hb, hc⟩ := h3 (by rintro rfl; simp at hlt)
  refine ⟨b, off + d, by rw [if_neg (by omega)]; simp [Addr.add], hb, fun j x hj => ?_⟩
  rw [List.getElem?_drop] at hj
  have := hc (d + j) x hj
  rwa [← Nat.add_assoc] at this
theorem hyp_lt : ∀ (k : Nat) (ws : List (List UInt8)), hyp k ws ≤ k
  | 0, _ => by unfold hyp; exact Nat.le_refl _
  | k + 1, [] => by unfold hyp; omega
  | k + 1, w :: r => by unfold hyp; have := hyp_lt k r; split <;> omega
set_option maxRecDepth 100000 in
set_option maxHeartbeats 16000000 in
theorem taken_calls (v : Value) (ws : List (List UInt8)) (hn : ws.length ≤ 1000) (w : World) (hS : SlT w v ws) (he : Env w) :
    Calls Tryd.prog 57 #[v] w fun e w' => (∃ v', e = .returned (.tuple #[.int .u8 (hyp 4 ws : Nat), v']) ∧ w'.ownsRow w.heap.size 5 1 v' (tkn (ws.drop (hyp 4 ws))).length ((tkn (ws.drop (hyp 4 ws))).map u8v)) ∧ Below w.heap.size w w' := by
  obtain ⟨i0, hi, hz0, hz1, hz2⟩ := info_parts Tryd.infoU
  obtain ⟨p, c, rfl, hc, hx⟩ := id hS
  obtain ⟨n, hxn⟩ : ∃ n, ws.length = n := ⟨_, rfl⟩
  have HS := Lib.hid hS
  rw [hxn] at hc hn HS ⊢
  have HN := Lib.hid hxn
  obtain ⟨T, hT⟩ : ∃ T, hyp 4 ws = T := ⟨_, rfl⟩
  rw [hT]
  have hT4 : T ≤ 4 := by rw [← hT]; exact hyp_lt 4 ws
  obtain ⟨q, hq⟩ : ∃ q, min n 4 = q := ⟨_, rfl⟩
  have e1 : min (n : Int) 4 = q := by omega
  have HX := Lib.hid hx
  have HE := Lib.hid (fun W (hb : Below w.heap.size w W) => he.below hb)
  clear hx hS he
  go_enter Tryd.func57, Tryd.ntmps57
  go_wp2
  go_loopw [4] (fun s4 wr => ∃ d : Nat, s4 = .int .u8 d ∧ d ≤ q ∧ T = d + hyp (4 - d) (ws.drop d) ∧ Below w.heap.size w wr) (fun s4 _ => 4 - (intOf s4).toNat)
  case atStart => exact ⟨0, rfl, Nat.zero_le _, by rw [← hT]; simp, Below.refl _ _⟩
  case round =>
    clear hT
    obtain ⟨d, rfl, hdq, hT, cb⟩ := hrel
    have g1 : IntKind.i64.wrap (d : Int) = d := IntWalk.i64_in _ (by omega)
    by_cases hlt : d < q
    · have hlt2 : (d : Int) < q := by omega
      have hdn2 : (d : Int) < n := by omega
      obtain ⟨b1, o1, rfl, hb1, hx⟩ := HX.out (by rintro rfl; simp at hxn; omega)
      obtain ⟨a, ha⟩ : ∃ a, ws[d]? = some a := ⟨_, List.getElem?_eq_getElem (by omega)⟩
      have k1 : wr.cell? ⟨b1, o1 + d, none⟩ = some (strv a) := (cb.cell (p := ⟨b1, o1 + d, none⟩) hb1).trans (hx d a ha)
      have g2 : IntKind.u8.wrap ((d : Int) + 1) = (d : Int) + 1 := u8_wrap (by omega) (by omega)
      have hdrop : ws.drop d = a :: ws.drop (d + 1) := by
        obtain ⟨hl, rfl⟩ := List.getElem?_eq_some_iff.1 ha
        exact List.drop_eq_getElem_cons hl
      rw [hdrop, show 4 - d = (4 - (d + 1)) + 1 by omega, hyp] at hT
      by_cases h45 : a = [45]
      · rw [if_pos h45] at hT
        subst h45
        have HT := Lib.hid hT
        clear hT hdrop ha hx
        go_wp2
        go_roundw
        case rel => exact ⟨d + 1, by go_num, by omega, by rw [HT.out]; omega, cb⟩
        case measure => simp [intOf]; omega
      · rw [if_neg h45] at hT
        have h45b : (a == [45]) = false := by simpa using h45
        obtain rfl : T = d := by omega
        clear hdrop ha hx HX hT
        go_upto_region 4 with fail
        clear k1 g2 h45 h45b hlt2 hdn2 hb1
        obtain ⟨p2, hsl, hS2⟩ := slt_from HS.out T (by omega)
        obtain ⟨us, hus⟩ : ∃ us, ws.drop T = us := ⟨_, rfl⟩
        rw [hus] at hS2
        have hul : us.length = n - T := by rw [← hus, List.length_drop]; have := HN.out; omega
        obtain ⟨m, hm⟩ : ∃ m, n - T = m := ⟨_, rfl⟩
        rw [hm] at hsl hS2 hul
        have hmn : m ≤ 1000 := by omega
        obtain ⟨_, _, e, hcm, hx⟩ := id hS2
        simp only [Value.slice.injEq] at e
        obtain ⟨rfl, -, rfl⟩ := e
        have HX := Lib.hid hx
        have HUS := Lib.hid hus
        clear hx hus hm e1
        go_wp2
        go_loopw [5, 7, 8, 9, 29] (fun s5 _ _ _ s29 wr => ∃ (i : Nat) (L : List Nat), s29 = .int .i64 i ∧ i ≤ m ∧ wr.ownsRow w.heap.size 5 1 s5 L.length (L.map u8v) ∧ tkn us = L ++ tkn (us.drop i) ∧ L.length ≤ i ∧ Below w.heap.size w wr) (fun _ _ _ _ s29 _ => m - (intOf s29).toNat)
        case atStart => exact ⟨0, [], rfl, Nat.zero_le _, World.ownsRow_nil _ _ _ _, by simp, Nat.le_refl _, cb⟩
        case round =>
          clear cb
          obtain ⟨i, L, rfl, him, hrow, htk, hLi, cb⟩ := hrel
          have hsr := cb.size
          by_cases hlt : i < m
          · have hlt2 : (i : Int) < m := by omega
            obtain ⟨b1, o1, rfl, hb1, hx⟩ := HX.out (by rintro rfl; simp at hul; omega)
            obtain ⟨a, ha⟩ : ∃ a, us[i]? = some a := ⟨_, List.getElem?_eq_getElem (by omega)⟩
            have k1 : wr.cell? ⟨b1, o1 + i, none⟩ = some (strv a) := (cb.cell (p := ⟨b1, o1 + i, none⟩) hb1).trans (hx i a ha)
            have f1 : IntKind.i64.wrap ((i : Int) + 1) = (i : Int) + 1 := IntWalk.i64_in _ (by omega)
            have hdrop : us.drop i = a :: us.drop (i + 1) := by
              obtain ⟨hl, rfl⟩ := List.getElem?_eq_some_iff.1 ha
              exact List.drop_eq_getElem_cons hl
            rw [hdrop, tkn] at htk
            have RD := Lib.hid (read_calls ⟨a.toArray⟩ wr (HE.out wr cb))
            simp only [rdV, rdE] at RD
            have HR := Lib.hid hrow
            have CB := Lib.hid cb
            cases hrd : rd a with
            | none =>
              rw [hrd] at RD htk
              simp only [Option.getD_none, Option.isSome_none, Bool.false_eq_true, if_false, List.append_nil] at RD htk
              have HTK := Lib.hid htk
              clear hdrop ha hx hrow cb htk
              go_wp2_with (go_at_call 78; refine RD.out.mono ?_; rintro e w9 ⟨rfl, rfl⟩)
              refine bodyPost_ret (by simp [results, Tryd.results57, go_sem]; rfl) rfl ⟨⟨_, rfl, ?_⟩, CB.out⟩
              rw [HUS.out, HTK.out]
              exact HR.out
            | some c =>
              rw [hrd] at RD htk
              simp only [Option.getD_some, Option.isSome_some, if_true] at RD htk
              have HTK := Lib.hid htk
              clear hdrop ha hx hrow cb htk
              go_wp2_with (first | (go_at_call 78; refine RD.out.mono ?_; rintro e w9 ⟨rfl, rfl⟩) | (at_builtin; refine wpList_append_own _ rfl _ _ 22 rfl w.heap.size 5 i0 (.int .u8 0) 1 1 Tryd.underlying22 hi hz0 hz1 hz2 rfl (by decide) _ _ _ rfl (HR.out.alloc _) ⟨_, 0, none⟩ 1 1 [u8v c] rfl rfl (news1 _ _ _ _ rfl rfl) (fun u hu => by simp only [List.mem_singleton] at hu; subst hu; rfl) (by unfold maxLen; omega) (by omega) (by simp; omega) ?_; intro v' w2 hown' hgrow _))
              go_roundw
              case rel =>
                refine ⟨i + 1, L ++ [c], by go_num, by omega, ?_, by rw [HTK.out]; simp, by simp; omega, Below.grown (by repeat (first | (with_reducible exact CB.out) | ((with_reducible refine below_grow ?_ ?_); rotate_left; focus (first | omega | (simp [go_sem]; done) | (simp [go_sem]; omega))) | ((with_reducible refine Below.alloc ?_ ?_ _); rotate_left; focus (first | omega | (simp [go_sem]; done) | (simp [go_sem]; omega))) | ((with_reducible refine Below.setCell ?_ ?_ _); rotate_left; focus (first | omega | (simp [go_sem]; done) | (simp [go_sem]; omega))) | (with_reducible refine Below.drew ?_) | (with_reducible refine below_drewN _ ?_))) hgrow (by simp; omega) (fun k e => own_block_ge HR.out e)⟩
                rw [List.length_append, List.map_append]
                exact hown'
              case measure => simp [intOf]; omega
          · obtain rfl : m = i := by omega
            have htk' : tkn us = L := by rw [htk, List.drop_of_length_le (by omega)]; simp [tkn]
            go_wp2
            refine bodyPost_ret (by simp [results, Tryd.results57, go_sem]; rfl) rfl ⟨⟨_, rfl, ?_⟩, cb⟩
            rw [HUS.out, htk']
            exact hrow
    · have hlt2 : ¬ (d : Int) < q := by omega
      have hTd : T = d := by
        have h0 : hyp (4 - d) (ws.drop d) = 0 := by
          by_cases h4 : d = 4
          · rw [h4]; unfold hyp; rfl
          · rw [List.drop_of_length_le (by omega), show 4 - d = (3 - d) + 1 by omega]; unfold hyp; rfl
        omega
      subst hTd
      clear HX hT
      go_upto_region 4 with fail
      clear hlt2
      obtain ⟨p2, hsl, hS2⟩ := slt_from HS.out T (by omega)
      obtain ⟨us, hus⟩ : ∃ us, ws.drop T = us := ⟨_, rfl⟩
      rw [hus] at hS2
      have hul : us.length = n - T := by rw [← hus, List.length_drop]; have := HN.out; omega
      obtain ⟨m, hm⟩ : ∃ m, n - T = m := ⟨_, rfl⟩
      rw [hm] at hsl hS2 hul
      have hmn : m ≤ 1000 := by omega
      obtain ⟨_, _, e, hcm, hx⟩ := id hS2
      simp only [Value.slice.injEq] at e
      obtain ⟨rfl, -, rfl⟩ := e
      have HX := Lib.hid hx
      have HUS := Lib.hid hus
      clear hx hus hm e1
      go_wp2
      go_loopw [5, 7, 8, 9, 29] (fun s5 _ _ _ s29 wr => ∃ (i : Nat) (L : List Nat), s29 = .int .i64 i ∧ i ≤ m ∧ wr.ownsRow w.heap.size 5 1 s5 L.length (L.map u8v) ∧ tkn us = L ++ tkn (us.drop i) ∧ L.length ≤ i ∧ Below w.heap.size w wr) (fun _ _ _ _ s29 _ => m - (intOf s29).toNat)
      case atStart => exact ⟨0, [], rfl, Nat.zero_le _, World.ownsRow_nil _ _ _ _, by simp, Nat.le_refl _, cb⟩
      case round =>
        clear cb
        obtain ⟨i, L, rfl, him, hrow, htk, hLi, cb⟩ := hrel
        have hsr := cb.size
        by_cases hlt : i < m
        · have hlt2 : (i : Int) < m := by omega
          obtain ⟨b1, o1, rfl, hb1, hx⟩ := HX.out (by rintro rfl; simp at hul; omega)
          obtain ⟨a, ha⟩ : ∃ a, us[i]? = some a := ⟨_, List.getElem?_eq_getElem (by omega)⟩
          have k1 : wr.cell? ⟨b1, o1 + i, none⟩ = some (strv a) := (cb.cell (p := ⟨b1, o1 + i, none⟩) hb1).trans (hx i a ha)
          have f1 : IntKind.i64.wrap ((i : Int) + 1) = (i : Int) + 1 := IntWalk.i64_in _ (by omega)
          have hdrop : us.drop i = a :: us.drop (i + 1) := by
            obtain ⟨hl, rfl⟩ := List.getElem?_eq_some_iff.1 ha
            exact List.drop_eq_getElem_cons hl
          rw [hdrop, tkn] at htk
          have RD := Lib.hid (read_calls ⟨a.toArray⟩ wr (HE.out wr cb))
          simp only [rdV, rdE] at RD
          have HR := Lib.hid hrow
          have CB := Lib.hid cb
          cases hrd : rd a with
          | none =>
            rw [hrd] at RD htk
            simp only [Option.getD_none, Option.isSome_none, Bool.false_eq_true, if_false, List.append_nil] at RD htk
            have HTK := Lib.hid htk
            clear hdrop ha hx hrow cb htk
            go_wp2_with (go_at_call 78; refine RD.out.mono ?_; rintro e w9 ⟨rfl, rfl⟩)
            refine bodyPost_ret (by simp [results, Tryd.results57, go_sem]; rfl) rfl ⟨⟨_, rfl, ?_⟩, CB.out⟩
            rw [HUS.out, HTK.out]
            exact HR.out
          | some c =>
            rw [hrd] at RD htk
            simp only [Option.getD_some, Option.isSome_some, if_true] at RD htk
            have HTK := Lib.hid htk
            clear hdrop ha hx hrow cb htk
            go_wp2_with (first | (go_at_call 78; refine RD.out.mono ?_; rintro e w9 ⟨rfl, rfl⟩) | (at_builtin; refine wpList_append_own _ rfl _ _ 22 rfl w.heap.size 5 i0 (.int .u8 0) 1 1 Tryd.underlying22 hi hz0 hz1 hz2 rfl (by decide) _ _ _ rfl (HR.out.alloc _) ⟨_, 0, none⟩ 1 1 [u8v c] rfl rfl (news1 _ _ _ _ rfl rfl) (fun u hu => by simp only [List.mem_singleton] at hu; subst hu; rfl) (by unfold maxLen; omega) (by omega) (by simp; omega) ?_; intro v' w2 hown' hgrow _))
            go_roundw
            case rel =>
              refine ⟨i + 1, L ++ [c], by go_num, by omega, ?_, by rw [HTK.out]; simp, by simp; omega, Below.grown (by repeat (first | (with_reducible exact CB.out) | ((with_reducible refine below_grow ?_ ?_); rotate_left; focus (first | omega | (simp [go_sem]; done) | (simp [go_sem]; omega))) | ((with_reducible refine Below.alloc ?_ ?_ _); rotate_left; focus (first | omega | (simp [go_sem]; done) | (simp [go_sem]; omega))) | ((with_reducible refine Below.setCell ?_ ?_ _); rotate_left; focus (first | omega | (simp [go_sem]; done) | (simp [go_sem]; omega))) | (with_reducible refine Below.drew ?_) | (with_reducible refine below_drewN _ ?_))) hgrow (by simp; omega) (fun k e => own_block_ge HR.out e)⟩
              rw [List.length_append, List.map_append]
              exact hown'
            case measure => simp [intOf]; omega
        · obtain rfl : m = i := by omega
          have htk' : tkn us = L := by rw [htk, List.drop_of_length_le (by omega)]; simp [tkn]
          go_wp2
          refine bodyPost_ret (by simp [results, Tryd.results57, go_sem]; rfl) rfl ⟨⟨_, rfl, ?_⟩, cb⟩
          rw [HUS.out, htk']
          exact hrow
end Go.Proofs.YtacgikhedhiaaaaDoor
