/- SeedShuffled: the walk. -/
import Derived.Test.YtcgecgagecobeaaSSm
import Derived.OwnWalk
import Derived.BigQuiet
namespace Go.Proofs.Ytcgecgagecobeaa
open Go.RowKit Go.Shelf

/-- The cells of a list from an address on. -/
def Rd (w : World) (b off : Nat) (xs : List Int) : Prop := ∀ (j : Nat) (x : Int), xs[j]? = some x → w.cell? ⟨b, off + j, none⟩ = some (cel x)
theorem Rd.below {w w' : World} {b off B : Nat} {xs : List Int} (h : Rd w b off xs) (hb : Below B w w') (hlt : b < B) : Rd w' b off xs :=
  fun j x hj => (hb.cell (p := ⟨b, off + j, none⟩) hlt).trans (h j x hj)
theorem rd_own {w : World} {B g n cap : Nat} {xs : List Int} (h : w.ownsRow B 3 1 (.slice (some ⟨g, 0, none⟩) n cap) n (xs.map cel)) : Rd w g 0 xs := by
  intro j x hj
  have hl := h.1
  rw [List.length_map] at hl
  have := (List.getElem?_eq_some_iff.1 hj).1
  rw [Nat.zero_add, h.cellAt j (by omega), List.getElem?_map, hj]
  rfl
theorem shuffle_rd (s : Nat) (hs : St s) (b off c n t : Nat) (xs ys : List Int) (w : World) (hn : xs.length = n) (hn1 : 1 ≤ n) (hn2 : n ≤ 10000) (hr : Rd w b off xs) (he : shuf (n - 1) s xs = (t, ys)) :
    Calls Try.prog 25 #[.int .i64 s, .slice (some ⟨b, off, none⟩) n c] w fun e w' => ∃ g cap, e = .returned (.tuple #[.int .i64 t, .slice (some ⟨g, 0, none⟩) n cap, .int .i64 0]) ∧ Rd w' g 0 ys ∧ w.heap.size ≤ g ∧ g < w'.heap.size ∧ Below w.heap.size w w' := by
  subst hn
  have h := shuffle_calls s hs ⟨b, off, none⟩ c xs w hn2 (fun j x hj => by rw [add_pl]; exact hr j x hj)
  rw [he] at h
  refine h.mono ?_
  rintro e w' ⟨v', rfl, hown, hb⟩
  obtain ⟨k, hk⟩ : ∃ k, xs.length = k + 1 := ⟨xs.length - 1, by omega⟩
  rw [hk] at hown ⊢
  obtain ⟨g, cap, rfl⟩ := ownsRow_succ hown
  have hlt := hown.lt g rfl
  exact ⟨g, cap, rfl, rd_own hown, hlt.1, hlt.2, hb⟩
theorem news1 (W : World) (t : TypeId) (x y : Value) {n : Nat} (hn : n = W.heap.size) (hxy : y = x) : ∀ (j : Nat) (u : Value), [y][j]? = some u → (W.alloc (.cells #[x] t)).cell? ((⟨n, 0, none⟩ : Addr).add j) = some u := by
  intro j u hj
  match j, hj with
  | 0, hj =>
    simp only [List.getElem?_cons_zero, Option.some.injEq] at hj
    subst hj hxy
    have : (⟨n, 0, none⟩ : Addr).add 0 = ⟨n, 0, none⟩ := rfl
    rw [this, World.cell?_alloc_at _ _ _ 0 hn]
    rfl
theorem own_any {w : World} {B : Nat} {e : TypeId} {z : Nat} {v : Value} {n : Nat} {cs : List Value} {k : Nat} (h : w.ownsRow B e z v n cs) : (w.drewN k).ownsRow B e z v n cs := h
theorem met_made (n : Nat) : (madeCells (Value.int IntKind.i64 0).cells (n * 1)).toList = (metL n []).map cel := by
  rw [metL_nil, List.map_replicate, Nat.mul_one]
  unfold madeCells
  rw [Array.toList_map, Array.toList_range]
  apply List.ext_getElem?
  intro i
  rw [List.getElem?_map]
  by_cases h : i < n
  · rw [List.getElem?_range h, List.getElem?_replicate, if_pos h]
    simp [Value.cells, Nat.mod_one]
  · rw [List.getElem?_eq_none (by simp; omega), List.getElem?_eq_none (by simp; omega)]
    rfl
set_option maxRecDepth 100000 in
set_option maxHeartbeats 8000000 in
theorem shuffled_pos (v0 : Int) (b off len cap n : Nat) (xs : List Int) (hmin : min len 60 = n) (h1 : 1 ≤ n) (hx : xs.length = n) (hlc : len ≤ cap) (hcm : cap ≤ maxLen) (w : World) (hr : Rd w b off xs) (hbl : b < w.heap.size) :
    Calls Try.prog 8 #[.int .i64 v0, .slice (some ⟨b, off, none⟩) len cap] w fun e w' => e = .returned (.bool true) ∧ Below w.heap.size w w' := by
  obtain ⟨s, hs⟩ : ∃ s, stp v0 + 1 = s := ⟨_, rfl⟩
  have hS : St s := by rw [← hs]; exact stp_St v0
  have H0 := Lib.hid (of_hyp v0 s hs)
  obtain ⟨t, out, ord, s1, s2, l1, l2, hsame, hone, hlow, htop⟩ := shuf_facts s n xs hx h1
  have hn60 : n ≤ 60 := by omega
  have hm : min (len : Int) 60 = (n : Int) := by omega
  have c1 : (n : Int) ≤ cap := by omega
  have c2 : n ≤ cap := by omega
  have H1 := Lib.hid (fun w hr => shuffle_rd s hS b off cap n t xs out w hx h1 (by omega) hr s1)
  have H2 := Lib.hid (fun w g c hr => shuffle_rd s hS g 0 c n t (rngI n) ord w (rngI_length n) h1 (by omega) hr s2)
  have K1 := Lib.hid hsame
  have K2 := Lib.hid hone
  have K3 := Lib.hid hlow
  have K4 := Lib.hid htop
  have HR := Lib.hid hr
  clear hs s1 s2 hsame hone hlow htop hr hmin
  go_enter Try.func8, Try.ntmps8
  go_upto_region 3 with (first | (go_at_call 11; refine (awake_calls _).mono ?_; rintro e w1 ⟨rfl, hbel⟩; obtain ⟨o1, j1, rfl⟩ := grow_of_below hbel; clear hbel))
  go_upto_region 5 with (first | (go_at_call 13; refine (H0.out _).mono ?_; rintro e w2 ⟨rfl, hbel⟩; obtain ⟨o2, j2, rfl⟩ := grow_of_below hbel; clear hbel))
  go_cut [6, 7, 8] (fun s6 s7 s8 wx => ∃ g c : Nat, s6 = .int .i64 t ∧ s7 = .slice (some ⟨g, 0, none⟩) n c ∧ s8 = .int .i64 0 ∧ Rd wx g 0 out ∧ Rd wx b off xs ∧ b < wx.heap.size ∧ g < wx.heap.size ∧ Below w.heap.size w wx)
  case first =>
    have hb0 : Below w.heap.size w (grow w (o1 ++ o2) j2) := by repeat (first | (with_reducible exact Below.refl _ _) | ((with_reducible refine below_grow ?_ ?_); rotate_left; focus (first | omega | (simp [go_sem]; done) | (simp [go_sem]; omega))) | ((with_reducible refine Below.alloc ?_ ?_ _); rotate_left; focus (first | omega | (simp [go_sem]; done) | (simp [go_sem]; omega))) | ((with_reducible refine Below.setCell ?_ ?_ _); rotate_left; focus (first | omega | (simp [go_sem]; done) | (simp [go_sem]; omega))) | (with_reducible refine Below.drew ?_) | (with_reducible refine below_drewN _ ?_))
    have hr0 := HR.out.below hb0 hbl
    have hs0 : (grow w (o1 ++ o2) j2).heap.size = w.heap.size + sz (o1 ++ o2) := grow_size _ _ _
    generalize grow w (o1 ++ o2) j2 = W0 at *
    go_wp2_with (first | (go_at_call 25; refine (H1.out _ hr0).mono ?_; rintro e w3 ⟨g, c, rfl, hg1, hg2, hg3, hb3⟩))
    go_meet
    exact ⟨g, c, rfl, rfl, rfl, hg1, hr0.below hb3 (by omega), by have := hb3.size; omega, hg3, hb0.trans (hb3.mono (by omega))⟩
  case rest =>
    obtain ⟨g, c, rfl, rfl, rfl, hro, hrx, hbx, hgx, hb⟩ := hcut
    clear H0 H1 HR
    have hbs := hb.size
    have hbw := hbl
    obtain ⟨i0, hi, hz0, hz1, hz2⟩ := info_parts Try.infoI
    have HO := Lib.hid hro
    have HX := Lib.hid hrx
    clear hro hrx
    go_upto_region 8 with fail
    go_loopw [40, 9] (fun s40 s9 wr => ∃ i : Nat, s40 = .int .i64 i ∧ i ≤ n ∧ wr.ownsRow wc.heap.size 3 1 s9 i ((rngI i).map cel) ∧ Below wc.heap.size wc wr) (fun s40 _ _ => n - (intOf s40).toNat)
    case atStart => exact ⟨0, rfl, Nat.zero_le _, World.ownsRow_nil _ _ _ _, Below.refl _ _⟩
    case round =>
      obtain ⟨i, rfl, hin, hown, hbr⟩ := hrel
      have hrs := hbr.size
      by_cases hlt : i < n
      · have h2 : (i : Int) < n := by omega
        go_wp2_with (first | (at_builtin; refine wpList_append_own _ rfl _ _ 28 rfl wc.heap.size 3 i0 (.int .i64 0) 1 8 Try.underlying28 hi hz0 hz1 hz2 rfl (by decide) u9 i _ rfl (hown.alloc _) ⟨wr.heap.size, 0, none⟩ 1 1 [cel i] rfl rfl (news1 _ _ _ _ rfl rfl) (fun u hu => by simp only [List.mem_singleton] at hu; subst hu; rfl) (by unfold maxLen; omega) (by omega) (by simp; omega) ?_; intro v' w2 hown' hgrow _))
        go_roundw
        case rel => exact ⟨i + 1, by go_num, by omega, by rw [rngI_succ, List.map_append]; exact hown', Below.grown (by repeat (first | (with_reducible exact hbr) | ((with_reducible refine below_grow ?_ ?_); rotate_left; focus (first | omega | (simp [go_sem]; done) | (simp [go_sem]; omega))) | ((with_reducible refine Below.alloc ?_ ?_ _); rotate_left; focus (first | omega | (simp [go_sem]; done) | (simp [go_sem]; omega))) | ((with_reducible refine Below.setCell ?_ ?_ _); rotate_left; focus (first | omega | (simp [go_sem]; done) | (simp [go_sem]; omega))) | (with_reducible refine Below.drew ?_) | (with_reducible refine below_drewN _ ?_))) hgrow (by simp; omega) (fun k hk => (hown.lt k hk).1)⟩
        case measure => simp [intOf]; omega
      · obtain rfl : i = n := by omega
        obtain ⟨k, hk⟩ : ∃ k, i = k + 1 := ⟨i - 1, by omega⟩
        obtain ⟨g2, c2', rfl⟩ : ∃ g2 c2', u9 = .slice (some ⟨g2, 0, none⟩) i c2' := by rw [hk] at hown ⊢; exact ownsRow_succ hown
        have hr2 := rd_own hown
        have HO2 := Lib.hid (HO.out.below hbr hgx)
        have HX2 := Lib.hid (HX.out.below hbr hbx)
        have hbw2 := hb.trans (hbr.mono (by omega))
        clear HO HX hk hlt hown
        go_upto_region 12 with fail
        go_cut [11, 12, 13] (fun s11 s12 s13 wx => ∃ g3 c3 : Nat, s11 = .int .i64 t ∧ s12 = .slice (some ⟨g3, 0, none⟩) i c3 ∧ s13 = .int .i64 0 ∧ Rd wx g3 0 ord ∧ Rd wx g 0 out ∧ Rd wx b off xs ∧ b < wx.heap.size ∧ g < wx.heap.size ∧ g3 < wx.heap.size ∧ Below w.heap.size w wx)
        case first =>
          go_wp2_with (first | (go_at_call 25; refine (H2.out _ _ _ hr2).mono ?_; rintro e w4 ⟨g3, c3, rfl, hg1, hg2, hg3, hb4⟩))
          go_meet
          have hb4s := hb4.size
          exact ⟨g3, c3, rfl, rfl, rfl, hg1, HO2.out.below hb4 (by omega), HX2.out.below hb4 (by omega), by omega, by omega, hg3, hbw2.trans (hb4.mono (by omega))⟩
        case rest =>
          clear HO2 HX2 hbw2 hr2 hbr hrs hb hbs hbx hgx H2
          obtain ⟨g3, c3, rfl, rfl, rfl, ho3, ho, hx3, hb1, hb2, hb3, hb⟩ := hcut
          generalize wc = W2 at *
          have HO := Lib.hid ho
          have HX := Lib.hid hx3
          have HD := Lib.hid ho3
          have hbs := hb.size
          clear ho hx3 ho3
          go_upto_region 15 with fail
          go_cut [14] (fun s14 wx => ∃ gm : Nat, s14 = .slice (some ⟨gm, 0, none⟩) i i ∧ wx.ownsRow W2.heap.size 3 1 (.slice (some ⟨gm, 0, none⟩) i i) i ((metL i []).map cel) ∧ Below W2.heap.size W2 wx)
          case first =>
            go_wp2_with (first | (at_make; refine wpList_make_full _ rfl _ _ 28 rfl W2.heap.size 3 i0 _ 1 Try.underlying28 hi hz0 hz1 _ _ _ _ i rfl rfl (by simp) (by simp) (by rw [hz2]; omega) (by unfold maxLen; omega) (Nat.le_refl _) ?_; intro w1 hown hgrow; rw [met_made] at hown))
            go_meet
            exact ⟨_, rfl, hown, (Below.refl _ W2).grown hgrow (Nat.le_refl _) (fun k e => by cases e)⟩
          case rest =>
          obtain ⟨gm, rfl, hown, hbm⟩ := hcut
          go_upto_region 17 with fail
          go_loopw [83] (fun s83 wr => ∃ k : Nat, s83 = .int .i64 k ∧ k ≤ i ∧ wr.ownsRow W2.heap.size 3 1 (.slice (some ⟨gm, 0, none⟩) i i) i ((metL i (ord.take k)).map cel) ∧ Below W2.heap.size W2 wr) (fun s83 _ => i - (intOf s83).toNat)
          case atStart => exact ⟨0, rfl, Nat.zero_le _, hown, hbm⟩
          case round =>
            obtain ⟨k, rfl, hk, hownr, hbr⟩ := hrel
            have hgl := hownr.lt gm rfl
            by_cases hlt : k < i
            · obtain ⟨p, hp, hop, hout⟩ := K1.out k hlt
              have hy : out[k]? = some (out[k]?.getD 0) := get_some (by omega)
              obtain ⟨y, hyy⟩ : ∃ y, out[k]?.getD 0 = y := ⟨_, rfl⟩
              rw [hyy] at hy
              have d1 : wr.cell? ⟨g3, k, none⟩ = some (.int .i64 p) := by have := (HD.out.below hbr hb3) k _ hop; rw [Nat.zero_add] at this; exact this
              have d2 : wr.cell? ⟨g, k, none⟩ = some (.int .i64 y) := by have := (HO.out.below hbr hb2) k _ hy; rw [Nat.zero_add] at this; exact this
              have d3 : wr.cell? ⟨b, off + p, none⟩ = some (.int .i64 y) := (HX.out.below hbr hb1) p _ (hout ▸ hy)
              obtain ⟨m, hmm⟩ : ∃ m, (ord.take k).count (p : Int) = m := ⟨_, rfl⟩
              have hm60 : m ≤ 60 := by
                have h1 := List.count_le_length (a := (p : Int)) (l := ord.take k)
                rw [List.length_take] at h1
                omega
              have d4 : wr.cell? ⟨gm, p, none⟩ = some (.int .i64 m) := by rw [hownr.cellAt p (by omega), List.getElem?_map, metL_at i _ p hp, hmm]; rfl
              have f4 := hownr.frozenAt p
              have e1 : IntKind.i64.wrap ((m : Int) + 1) = (m : Int) + 1 := IntWalk.i64_in _ (by omega)
              have b1 : (k : Int) < i := by omega
              have b2 : (p : Int) < i := by omega
              have hst : (wr.setCell ⟨gm, p, none⟩ (.int .i64 ((m : Int) + 1))).ownsRow W2.heap.size 3 1 (.slice (some ⟨gm, 0, none⟩) i i) i ((metL i (ord.take (k + 1))).map cel) := by
                have h := (hownr.stored p (cel ((m : Int) + 1))).1
                rw [← List.map_set, ← hmm, metL_step i _ p hp] at h
                have e : ord.take (k + 1) = ord.take k ++ [(p : Int)] := by rw [List.take_add_one, hop]; rfl
                rw [e, ← hmm]
                exact h
              have HS := Lib.hid hst
              clear hst hmm hyy hy hout hop
              have g1 : decide ((p : Int) < 0) = false := decide_eq_false (by omega)
              have g2 : decide ((i : Int) ≤ p) = false := decide_eq_false (by omega)
              go_upto_region 19 with fail
              go_quiet (fail)
              go_wp2
              go_roundw
              case rel => exact ⟨k + 1, by go_num, by omega, own_any HS.out, by repeat (first | (with_reducible exact hbr) | ((with_reducible refine below_grow ?_ ?_); rotate_left; focus (first | omega | (simp [go_sem]; done) | (simp [go_sem]; omega))) | ((with_reducible refine Below.alloc ?_ ?_ _); rotate_left; focus (first | omega | (simp [go_sem]; done) | (simp [go_sem]; omega))) | ((with_reducible refine Below.setCell ?_ ?_ _); rotate_left; focus (first | omega | (simp [go_sem]; done) | (simp [go_sem]; omega))) | (with_reducible refine Below.drew ?_) | (with_reducible refine below_drewN _ ?_))⟩
              case measure => simp [intOf]; omega
            · obtain rfl : k = i := by omega
              rw [List.take_of_length_le (by omega)] at hownr
              clear hlt hown hbm
              go_upto_region 24 with fail
              go_loopw [116] (fun s116 wr => ∃ q : Nat, s116 = .int .i64 q ∧ q ≤ k ∧ wr.ownsRow W2.heap.size 3 1 (.slice (some ⟨gm, 0, none⟩) k k) k ((metL k ord).map cel) ∧ Below W2.heap.size W2 wr) (fun s116 _ => k - (intOf s116).toNat)
              case atStart => exact ⟨0, rfl, Nat.zero_le _, hownr, hbr⟩
              case round =>
                obtain ⟨q, rfl, hq, hownq, hbq⟩ := hrel
                have hqs := hbq.size
                by_cases hlt : q < k
                · have d1 : wr.cell? ⟨gm, q, none⟩ = some (.int .i64 1) := by rw [hownq.cellAt q (by omega), List.getElem?_map, metL_at k _ q hlt, K2.out q hlt]; rfl
                  have b1 : (q : Int) < k := by omega
                  go_wp2
                  go_roundw
                  case rel => exact ⟨q + 1, by go_num, by omega, hownq, hbq⟩
                  case measure => simp [intOf]; omega
                · obtain rfl : q = k := by omega
                  have hbf := hb.trans (hbq.mono hbs)
                  have hbfs := hbf.size
                  by_cases h2 : q < 2
                  · have h3 : (q : Int) < 2 := by omega
                    have hts := K3.out h2
                    subst hts
                    go_wp2
                    go_ret
                    exact ⟨rfl, hbf⟩
                  · have h3 : ¬ (q : Int) < 2 := by omega
                    have htop := K4.out (by omega)
                    obtain ⟨f, hf⟩ : ∃ f, (blwS s q - 1) % q = f := ⟨_, rfl⟩
                    have hfl : f < q := by rw [← hf]; exact Nat.mod_lt _ (by omega)
                    have H5 := Lib.hid (below_yes s q hS (by omega) (by omega))
                    rw [hf] at H5 htop
                    obtain ⟨u, hu⟩ : ∃ u, blwS s q = u := ⟨_, rfl⟩
                    rw [hu] at H5
                    obtain ⟨q1, hq1⟩ : ∃ q1, q - 1 = q1 := ⟨_, rfl⟩
                    rw [hq1] at htop
                    have hy : out[q1]? = some (out[q1]?.getD 0) := get_some (by omega)
                    obtain ⟨y, hyy⟩ : ∃ y, out[q1]?.getD 0 = y := ⟨_, rfl⟩
                    rw [hyy] at hy
                    have d2 : wr.cell? ⟨g, q1, none⟩ = some (.int .i64 y) := by have := (HO.out.below hbq hb2) q1 _ hy; rw [Nat.zero_add] at this; exact this
                    have d3 : wr.cell? ⟨b, off + f, none⟩ = some (.int .i64 y) := (HX.out.below hbq hb1) f _ (htop ▸ hy)
                    have iG : NeZero (inW g wr) := inW_mk (by omega)
                    have iB : NeZero (inW b wr) := inW_mk (by omega)
                    have e1 : IntKind.i64.wrap ((q : Int) - 1) = (q1 : Int) := by rw [IntWalk.i64_in _ (by omega)]; omega
                    have b1 : (q1 : Int) < q := by omega
                    have b2 : (f : Int) < q := by omega
                    have b3 : q1 < q := by omega
                    clear hf hu hq1 htop hy hyy
                    go_wp2_with (first | (go_at_call 18; refine (H5.out _).mono ?_; rintro e w8 ⟨rfl, hbel⟩; obtain ⟨o8, j8, rfl⟩ := grow_of_below hbel; clear hbel))
                    go_quiet (fail)
                    go_wp2
                    go_ret
                    exact ⟨rfl, by repeat (first | (with_reducible exact hbf) | ((with_reducible refine below_grow ?_ ?_); rotate_left; focus (first | omega | (simp [go_sem]; done) | (simp [go_sem]; omega))) | ((with_reducible refine Below.alloc ?_ ?_ _); rotate_left; focus (first | omega | (simp [go_sem]; done) | (simp [go_sem]; omega))) | ((with_reducible refine Below.setCell ?_ ?_ _); rotate_left; focus (first | omega | (simp [go_sem]; done) | (simp [go_sem]; omega))) | (with_reducible refine Below.drew ?_) | (with_reducible refine below_drewN _ ?_))⟩
end Go.Proofs.Ytcgecgagecobeaa
