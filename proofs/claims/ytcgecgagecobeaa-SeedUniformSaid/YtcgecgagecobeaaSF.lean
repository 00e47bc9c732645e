/- Shuffle. -/
import Derived.Test.YtcgecgagecobeaaSE
namespace Go.Proofs.Ytcgecgagecobeaa
open Go.RowKit Go.Shelf

def swp (ys : List Int) (i j : Nat) : List Int := (ys.set i (ys[j]?.getD 0)).set j (ys[i]?.getD 0)
theorem swp_length (ys : List Int) (i j : Nat) : (swp ys i j).length = ys.length := by simp [swp]
/-- The rounds of Shuffle from index k down to 1. -/
def shuf : Nat → Nat → List Int → Nat × List Int
  | 0, s, ys => (s, ys)
  | k + 1, s, ys => shuf k (blwS s (k + 2)) (swp ys (k + 1) ((blwS s (k + 2) - 1) % (k + 2)))
theorem shuf_length : ∀ (k s : Nat) (ys : List Int), (shuf k s ys).2.length = ys.length
  | 0, _, _ => rfl
  | k + 1, s, ys => by unfold shuf; rw [shuf_length k, swp_length]
theorem shuf_St : ∀ (k s : Nat) (ys : List Int), St s → St (shuf k s ys).1
  | 0, _, _, h => h
  | k + 1, s, ys, h => by unfold shuf; exact shuf_St k _ _ (blwS_St h _)
abbrev cel (x : Int) : Value := .int .i64 x
def clone_ren : Go.Shelf.Ren := ⟨fun | 41 => 53 | n => n, fun | 4 => 4 | 22 => 28 | 23 => 3 | n => n, fun | n => n⟩
theorem lays_clone : SlLaysE0.n41 Try.prog clone_ren := {
  mixed := by kernel_rfl
  f41 := ⟨Try.f53.name, by decide, Try.func53.trans (congrArg some (by kernel_rfl))⟩
  t4 := Try.underlying4
  a4 := Try.isAgg4
  z4 := Try.sizeOf4
  v4 := Try.zeroValue4
  t22 := Try.underlying28
  a22 := Try.isAgg28
  z22 := Try.sizeOf28
  v22 := Try.zeroValue28 }
theorem Try.infoI : (Try.prog.info? 3).map (fun i => (i.zero, i.size, i.bytes)) = some (some (.int .i64 0), 1, 8) := by kernel_rfl
theorem add_pl (b o j : Nat) : (⟨b, o, none⟩ : Addr).add j = ⟨b, o + j, none⟩ := by unfold Addr.add; split <;> simp_all
set_option maxRecDepth 100000 in
set_option maxHeartbeats 1000000 in
theorem clone_calls (ad : Addr) (c : Nat) (xs : List Int) (w : World) (hn : xs.length ≤ 10000) (hc : ∀ (j : Nat) (x : Int), xs[j]? = some x → w.cell? (ad.add j) = some (cel x)) :
    Calls Try.prog 53 #[.slice (some ad) xs.length c] w fun e w' => ∃ v', e = .returned v' ∧ w'.ownsRow w.heap.size 3 1 v' xs.length (xs.map cel) ∧ Below w.heap.size w w' := by
  obtain ⟨i0, hi, hz0, hz1, hz2⟩ := info_parts Try.infoI
  have HN : ∀ (j : Nat) (u : Value), (xs.map cel)[j]? = some u → (w.alloc (.cells #[] 3)).cell? (ad.add j) = some u := by
    intro j u hu
    rw [List.getElem?_map] at hu
    cases h : xs[j]? with
    | none => rw [h] at hu; cases hu
    | some x =>
      rw [h] at hu
      have hj := hc j x h
      rw [World.cell?_of_block (w := w) (Below.heap_alloc _ _ _ (World.block_lt_of_cell? w _ hj)), hj]
      exact hu
  have HO : ∀ u ∈ xs.map cel, u.oneCell' = true := by
    intro u hu
    obtain ⟨x, _, rfl⟩ := List.mem_map.1 hu
    rfl
  have HM : 0 + xs.length ≤ maxLen := by unfold maxLen; omega
  have HB : (0 + xs.length) * 8 ≤ 140737488355328 := by omega
  have q22 : ∀ (w : World) (a : Option Addr) (n c n' c' : Nat), (binOp .eql 28 (.slice a n c) (.slice none n' c')).run Try.prog w = .ok (.bool a.isNone) w := fun w a n c n' c' => Lib.run_eql_slice_nil w _ _ a n c n' c' Try.underlying28
  have hN := Lib.hid HN
  clear hc HN
  go_enter Try.func53, Try.ntmps53
  go_wp2_with (at_builtin; go_loud (refine wpList_append_own _ rfl _ _ 28 rfl w.heap.size 3 i0 (.int .i64 0) 1 8 Try.underlying28 hi hz0 hz1 hz2 rfl (by decide) _ _ _ rfl (World.ownsRow_made w #[] 0 (Nat.le_refl _) (Nat.zero_le _) (by simp)) ad xs.length c (xs.map cel) rfl (by simp) hN.out HO HM HB (by simp) ?_; intro v' w1 hown hgrow hnil))
  go_ret
  exact ⟨v', rfl, by simpa using hown, ((Below.refl _ w).alloc (Nat.le_refl _) _).grown hgrow (by simp) (fun k hk => by cases hk; exact Nat.le_refl _)⟩
theorem get_some {ys : List Int} {i : Nat} (h : i < ys.length) : ys[i]? = some (ys[i]?.getD 0) := by
  rw [List.getElem?_eq_getElem h]
  rfl
theorem swp_cells (ys : List Int) (i j : Nat) :
    ((ys.map cel).set i (cel (ys[j]?.getD 0))).set j (cel (ys[i]?.getD 0)) = (swp ys i j).map cel := by
  unfold swp
  rw [List.map_set, List.map_set]
theorem own_slice {w : World} {B : Nat} {e : TypeId} {n : Nat} {v : Value} {cs : List Value} (h : w.ownsRow B e 1 v n cs) : ∃ A cap, v = .slice A n cap ∧ (n = 0 ∨ ∃ g, A = some ⟨g, 0, none⟩) := by
  rcases h.2 with ⟨h1, h2⟩ | ⟨g, cap, cur, h1, _⟩
  · subst h2
    exact ⟨none, 0, h1, .inl rfl⟩
  · exact ⟨_, cap, h1, .inr ⟨g, rfl⟩⟩
set_option maxRecDepth 100000 in
set_option maxHeartbeats 4000000 in
theorem shuffle_calls (s : Nat) (hs : St s) (ad : Addr) (c : Nat) (xs : List Int) (w : World) (hn : xs.length ≤ 10000) (hc : ∀ (j : Nat) (x : Int), xs[j]? = some x → w.cell? (ad.add j) = some (cel x)) :
    Calls Try.prog 25 #[.int .i64 s, .slice (some ad) xs.length c] w fun e w' => ∃ v', e = .returned (.tuple #[.int .i64 (shuf (xs.length - 1) s xs).1, v', .int .i64 0]) ∧ w'.ownsRow w.heap.size 3 1 v' xs.length ((shuf (xs.length - 1) s xs).2.map cel) ∧ Below w.heap.size w w' := by
  have R1 := Lib.hid (right_yes s hs)
  have R2 := Lib.hid (clone_calls ad c xs w hn hc)
  have hn1 : ¬ (10000 : Int) < xs.length := by omega
  obtain ⟨T, hT⟩ : ∃ T, shuf (xs.length - 1) s xs = T := ⟨_, rfl⟩
  rw [hT]
  go_enter Try.func25, Try.ntmps25
  go_wp2_with (first | (go_at_call 16; refine (R1.out _).mono ?_; rintro e w1 ⟨rfl, rfl⟩) | (go_at_call 53; refine R2.out.mono ?_; rintro e w2 ⟨v', rfl, hown, hbel⟩; obtain ⟨A, cap, rfl, hA⟩ := own_slice hown))
  clear R1 R2
  have hbs := hbel.size
  have e0 : IntKind.i64.wrap ((xs.length : Int) - 1) = (xs.length : Int) - 1 := IntWalk.i64_in _ (by omega)
  go_loopw [8, 0] (fun s8 s0 wr => ∃ (i : Int) (k t : Nat) (ys : List Int), s8 = .int .i64 i ∧ s0 = .int .i64 t ∧ i.toNat = k ∧ -1 ≤ i ∧ i < xs.length ∧ St t ∧ ys.length = xs.length ∧ shuf k t ys = T ∧ wr.ownsRow w.heap.size 3 1 (.slice A xs.length cap) xs.length (ys.map cel) ∧ Below w.heap.size w wr) (fun s8 _ _ => (intOf s8).toNat)
  case atStart => exact ⟨(xs.length : Int) - 1, xs.length - 1, s, xs, by go_num, rfl, by omega, by omega, by omega, hs, rfl, hT, hown, hbel⟩
  case round =>
    obtain ⟨i, k, t, ys, rfl, rfl, hik, hi1, hi2, ht, hl, hTT, hownr, hbr⟩ := hrel
    by_cases hpos : 0 < i
    · obtain ⟨m, hm⟩ : ∃ m, k = m + 1 := ⟨k - 1, by omega⟩
      obtain ⟨g, rfl⟩ : ∃ g, A = some ⟨g, 0, none⟩ := by rcases hA with h | h; (· omega); (· exact h)
      obtain ⟨n2, hn2⟩ : ∃ n2, m + 2 = n2 := ⟨_, rfl⟩
      have R := Lib.hid (below_yes t n2 ht (by omega) (by omega))
      obtain ⟨t', ht'⟩ : ∃ t', blwS t n2 = t' := ⟨_, rfl⟩
      have hSt : St t' := by rw [← ht']; exact blwS_St ht _
      obtain ⟨q, hq⟩ : ∃ q, (t' - 1) % n2 = q := ⟨_, rfl⟩
      have hq2 : q < n2 := by rw [← hq]; exact Nat.mod_lt _ (by omega)
      rw [ht', hq] at R
      have hT2 : shuf m t' (swp ys k q) = T := by
        rw [← hTT, hm]
        show _ = shuf m (blwS t (m + 2)) (swp ys (m + 1) ((blwS t (m + 2) - 1) % (m + 2)))
        rw [hn2, ht', hq]
      have e1 : IntKind.i64.wrap (i + 1) = (n2 : Int) := by rw [IntWalk.i64_in _ (by omega)]; omega
      have e2 : IntKind.i64.wrap (i - 1) = i - 1 := IntWalk.i64_in _ (by omega)
      have hgl := hownr.lt g rfl
      have iG : NeZero (inW g wr) := inW_mk hgl.2
      have gk := get_some (ys := ys) (i := k) (by omega)
      have gq := get_some (ys := ys) (i := q) (by omega)
      obtain ⟨yk, hyk⟩ : ∃ y, ys[k]?.getD 0 = y := ⟨_, rfl⟩
      obtain ⟨yq, hyq⟩ : ∃ y, ys[q]?.getD 0 = y := ⟨_, rfl⟩
      rw [hyk] at gk
      rw [hyq] at gq
      have c1 : wr.cell? ⟨g, k, none⟩ = some (.int .i64 yk) := by rw [hownr.cellAt k (by omega), List.getElem?_map, gk]; rfl
      have c2 : wr.cell? ⟨g, q, none⟩ = some (.int .i64 yq) := by rw [hownr.cellAt q (by omega), List.getElem?_map, gq]; rfl
      have f1 := hownr.frozenAt k
      have f2 := hownr.frozenAt q
      have hsw := swp_cells ys k q
      rw [hyk, hyq] at hsw
      have hown2 := ((hownr.stored k (cel yq)).1.stored q (cel yk)).1
      rw [hsw] at hown2
      have b1 : (0 : Int) ≤ i := by omega
      have b2 : k < xs.length := by omega
      have b3 : q < xs.length := by omega
      have b4 : (q : Int) < xs.length := by omega
      have c3 : (wr.setCell ⟨g, k, none⟩ (.int .i64 yq)).cell? ⟨g, q, none⟩ = some (.int .i64 yq) := by
        rw [(hownr.stored k (cel yq)).1.cellAt q (by omega), List.getElem?_set]
        by_cases e : k = q
        · rw [if_pos e, if_pos (by simp; omega)]
        · rw [if_neg e, List.getElem?_map, gq]; rfl
      have HM := Lib.hid hm
      clear hm
      go_wp2_with (first | (go_at_call 18; refine (R.out _).mono ?_; rintro e w5 ⟨rfl, hb5⟩; obtain ⟨o5, j5, rfl⟩ := grow_of_below hb5; clear hb5))
      go_region
      all_goals go_wp2
      have hm := HM.out
      go_roundw
      case rel => exact ⟨i - 1, m, t', swp ys k q, by go_num, rfl, by omega, by omega, by omega, hSt, by rw [swp_length]; exact hl, hT2, own_grow hown2 _ _, by repeat (first | (with_reducible exact hbr) | ((with_reducible refine below_grow ?_ ?_); rotate_left; focus (first | omega | (simp [go_sem]; done) | (simp [go_sem]; omega))) | ((with_reducible refine Below.alloc ?_ ?_ _); rotate_left; focus (first | omega | (simp [go_sem]; done) | (simp [go_sem]; omega))) | ((with_reducible refine Below.setCell ?_ ?_ _); rotate_left; focus (first | omega | (simp [go_sem]; done) | (simp [go_sem]; omega))) | (with_reducible refine Below.drew ?_) | (with_reducible refine below_drewN _ ?_))⟩
      case measure => simp [intOf]; omega
    · obtain rfl : k = 0 := by omega
      have hT2 : (t, ys) = T := hTT
      subst hT2
      go_wp2
      refine bodyPost_ret (by simp [results, Try.results25, go_sem]) rfl ⟨.slice A xs.length cap, rfl, hownr, hbr⟩
end Go.Proofs.Ytcgecgagecobeaa
