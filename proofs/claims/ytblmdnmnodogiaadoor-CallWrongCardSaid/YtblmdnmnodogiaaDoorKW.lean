/- CallWrong: numbers that are no calls, levels and denominations that there are not, and strings with a byte that no call has, are rejected. -/
import Derived.Test.YtblmdnmnodogiaaDoorKH
namespace Go.Proofs.YtblmdnmnodogiaaDoor
open Go.RowKit

theorem jn_mem : ∀ {ws : List (List UInt8)} {x : UInt8}, x ∈ jn ws → x = 32 ∨ ∃ a ∈ ws, x ∈ a
  | [], x, h => by cases h
  | [a], x, h => .inr ⟨a, by simp, h⟩
  | a :: b :: r, x, h => by
    rw [jn_cons, List.mem_append, List.mem_cons] at h
    rcases h with h | h | h
    · exact .inr ⟨a, by simp, h⟩
    · exact .inl h
    · rcases jn_mem h with h | ⟨c, hc, hx⟩
      · exact .inl h
      · exact .inr ⟨c, List.mem_cons_of_mem _ hc, hx⟩
theorem wds_snoc (s : List UInt8) : wds (s ++ [32]) = wds s ++ [[]] := by
  induction s with
  | nil => rfl
  | cons b r ih =>
    rw [List.cons_append]
    unfold wds
    split
    · rw [ih]; rfl
    · rw [ih]
      cases e : wds r with
      | nil => exact absurd e (wds_ne r)
      | cons w ws => rfl
theorem rda_none {s : List UInt8} (h0 : s ≠ []) (h : rds (wds s) = none) : rda s = none := by
  unfold rda
  rw [if_neg h0]
  split
  · rfl
  · exact h
theorem rda_hash {s : List UInt8} (h : 35 ∈ s) : rda s = none := by
  cases e : rda s with
  | none => rfl
  | some l =>
    obtain ⟨h1, h2, h3⟩ := rda_some e
    rw [← h1] at h
    rcases jn_mem h with h | ⟨a, ha, hx⟩
    · cases h
    · obtain ⟨c, hc, rfl⟩ := List.mem_map.1 ha
      exact absurd (nm_byte c (h2 c hc) 35 hx) (by decide)
theorem rda_lead (s : List UInt8) : rda (32 :: s) = none := by
  refine rda_none (by simp) ?_
  have : wds (32 :: s) = [] :: wds s := by simp [wds]
  rw [this, rds, rd_nil]
theorem rda_trail (s : List UInt8) : rda (s ++ [32]) = none := by
  refine rda_none (by simp) ?_
  rw [wds_snoc]
  exact rds_append_none _ [] _ rd_nil
/-- The four strings that are wrong. -/
def wr4 (s : List UInt8) : List (List UInt8) := [s ++ [35], 35 :: s, s ++ [32], 32 :: s]
theorem wr4_bad (s : List UInt8) : ∀ a ∈ wr4 s, rd a = none ∧ rda a = none ∧ a.length ≤ s.length + 1 := by
  intro a ha
  simp only [wr4, List.mem_cons, List.not_mem_nil, or_false] at ha
  rcases ha with rfl | rfl | rfl | rfl
  · exact ⟨rd_hash (by simp), rda_hash (by simp), by simp⟩
  · exact ⟨rd_hash (by simp), rda_hash (by simp), by simp⟩
  · exact ⟨rd_blank (by simp), rda_trail s, by simp⟩
  · exact ⟨rd_blank (by simp), rda_lead s, by simp⟩
theorem wr_text (g : Nat) (h1 : 38 ≤ g) (h2 : g < 256) (W : World) (q : Nat) (hq : q = W.heap.size) (he : Env W) :
    Calls Tryd.prog 15 #[.slice (some ⟨q, 0, none⟩) 2 2] (W.alloc (.cells #[.int .u8 0, .int .u8 g] 5)) fun e w' => e = .returned (.tuple #[.string ⟨#[]⟩, .int .i64 80]) ∧ Below W.heap.size W w' := by
  have hok : okA [0, g] = false := by
    unfold okA
    simp
    omega
  have h := textAll_few _ [0, g] (by simp; omega) (by simp) _ (slb_new W [0, g] q hq) (he.below (by repeat (first | (with_reducible exact Below.refl _ _) | ((with_reducible refine below_grow ?_ ?_); rotate_left; focus (first | omega | (simp [go_sem]; done) | (simp [go_sem]; omega))) | ((with_reducible refine Below.alloc ?_ ?_ _); rotate_left; focus (first | omega | (simp [go_sem]; done) | (simp [go_sem]; omega))) | ((with_reducible refine Below.setCell ?_ ?_ _); rotate_left; focus (first | omega | (simp [go_sem]; done) | (simp [go_sem]; omega))) | (with_reducible refine Below.drew ?_) | (with_reducible refine below_drewN _ ?_))))
  rw [hok, if_neg (by decide), if_neg (by decide)] at h
  refine h.mono fun e w' h => ⟨h.1, ?_⟩
  exact (show Below W.heap.size W _ by repeat (first | (with_reducible exact Below.refl _ _) | ((with_reducible refine below_grow ?_ ?_); rotate_left; focus (first | omega | (simp [go_sem]; done) | (simp [go_sem]; omega))) | ((with_reducible refine Below.alloc ?_ ?_ _); rotate_left; focus (first | omega | (simp [go_sem]; done) | (simp [go_sem]; omega))) | ((with_reducible refine Below.setCell ?_ ?_ _); rotate_left; focus (first | omega | (simp [go_sem]; done) | (simp [go_sem]; omega))) | (with_reducible refine Below.drew ?_) | (with_reducible refine below_drewN _ ?_))).trans (h.2.mono (by simp))
theorem wr_all (a : List UInt8) (hr : rda a = none) (hl : a.length ≤ 1001) (w : World) (he : Env w) : Calls Tryd.prog 16 #[strv a] w fun e w' => (∃ p c, e = .returned (.tuple #[.slice p 0 c, .int .i64 81])) ∧ Below w.heap.size w w' := by
  have R := readAll_calls ⟨a.toArray⟩ (show a.length < _ by omega) w he
  have hr' : rda (ByteArray.mk a.toArray).data.toList = none := hr
  unfold raL raE at R
  rw [hr'] at R
  refine R.mono fun e w' h => ⟨?_, h.2⟩
  obtain ⟨⟨v, h1, h2⟩, _⟩ := h
  obtain ⟨p, c, rfl, _⟩ := own_slice h2
  exact ⟨p, c, h1⟩
set_option maxRecDepth 100000 in
set_option maxHeartbeats 8000000 in
theorem wrong_nat (n v : Nat) (hn : n < 256) (hv : v < 256) (l : List UInt8) (w : World) (he : Env w) : Calls Tryd.prog 9 #[.int .u8 n, .int .u8 v, strv l] w fun e w' => e = .returned (.bool true) ∧ Below w.heap.size w w' := by
  have AW := Lib.hid (awake_calls w he)
  obtain ⟨g, hg⟩ : ∃ g, 38 + n % 218 = g := ⟨_, rfl⟩
  have hg1 : 38 ≤ g := by omega
  have hg2 : g < 256 := by omega
  have e1 : (n : Int).tmod 218 = ((n % 218 : Nat) : Int) := by rw [Int.tmod_eq_emod_of_nonneg (by omega)]; omega
  have e1' : (n : Int) % 218 = ((n % 218 : Nat) : Int) := by omega
  have e2 : IntKind.u8.wrap ((n % 218 : Nat) : Int) = ((n % 218 : Nat) : Int) := u8_wrap (by omega) (by omega)
  have e3 : IntKind.u8.wrap (38 + ((n % 218 : Nat) : Int)) = g := by rw [u8_wrap (by omega) (by omega)]; omega
  have TX := Lib.hid (fun W (hb : Below w.heap.size w W) => text_calls g hg2 W (he.below hb))
  have TA := Lib.hid (fun W q hq (hb : Below w.heap.size w W) => wr_text g hg1 hg2 W q hq (he.below hb))
  have CH := Lib.hid (cheapest_calls g 0 hg2 (by decide))
  have J1 := Lib.hid (jump_calls g 20 hg2 (by decide))
  have J2 := Lib.hid (jump_calls 20 g (by decide) hg2)
  have P := Lib.hid (parts_calls g)
  have R := Lib.hid (right_no g (by omega))
  have hb0 : isb g = false := by unfold isb; simp; omega
  rw [show txt g = [] from by unfold txt; rw [if_neg (by omega)], show txE g = 80 from by unfold txE; rw [if_neg (by omega)]] at TX
  rw [show chB g 0 = 0 from by unfold chB; rw [if_neg (by omega)], show chE g 0 = 80 from by unfold chE; rw [if_neg (by omega)]] at CH
  rw [show jmN g 20 = 0 from by unfold jmN; rw [if_neg (by omega)], show jmE g 20 = 80 from by unfold jmE; rw [if_neg (by omega)]] at J1
  rw [show jmN 20 g = 0 from by unfold jmN; rw [hb0, if_neg (by simp)], show jmE 20 g = 80 from by unfold jmE; rw [hb0, if_neg (by simp)]] at J2
  rw [show prL g = 0 from by unfold prL; rw [hb0]; rfl, show prD g = 0 from by unfold prD; rw [hb0]; rfl, hb0] at P
  have HE := Lib.hid he
  have HV := Lib.hid hv
  obtain ⟨k, hk⟩ : ∃ k, n % 218 = k := ⟨_, rfl⟩
  rw [hk] at e1 e1' e2 e3
  clear he hg hk hb0 hn hv
  go_enter Tryd.func9, Tryd.ntmps9
  go_upto_region 3 with (go_at_call 11; refine AW.out.mono ?_; rintro e w9 ⟨rfl, hb1⟩)
  rename_i w9
  clear AW
  go_upto_region 5 with (go_at_call 23; refine (TX.out _ hb1).mono ?_; rintro e w8 ⟨rfl, rfl⟩)
  have hs1 := hb1.size
  go_upto_region 7 with (first | (go_at_call 15; refine (TA.out _ _ rfl hb1).mono ?_; rintro e w8 ⟨rfl, hb2⟩) | (go_at_call 21; refine (CH.out _).mono ?_; rintro e w9 ⟨rfl, rfl⟩))
  have hb3 := hb1.trans (hb2.mono hb1.size)
  clear hb1 hb2 hs1 TX TA CH
  rename_i w8
  go_upto_region 8 with (go_at_call 22; refine (J1.out _).mono ?_; rintro e w9 ⟨rfl, rfl⟩)
  go_upto_region 12 with (first | (go_at_call 22; refine (J2.out _).mono ?_; rintro e w9 ⟨rfl, rfl⟩) | (go_at_call 19; refine (P.out _).mono ?_; rintro e w9 ⟨rfl, rfl⟩) | (go_at_call 24; refine (R.out _).mono ?_; rintro e w9 ⟨rfl, rfl⟩))
  clear J1 J2 P R e1 e1' e2 e3
  have hv := HV.out
  have f1 : (v : Int).tmod 249 = ((v % 249 : Nat) : Int) := by rw [Int.tmod_eq_emod_of_nonneg (by omega)]; omega
  have f1' : (v : Int) % 249 = ((v % 249 : Nat) : Int) := by omega
  have f2 : IntKind.u8.wrap ((v % 249 : Nat) : Int) = ((v % 249 : Nat) : Int) := u8_wrap (by omega) (by omega)
  have f3 : IntKind.u8.wrap (((v % 249 : Nat) : Int) + 8) = (((v % 249 + 8) % 256 : Nat) : Int) := by rw [IntKind.wrap_u8']; omega
  have g1 : (v : Int).tmod 251 = ((v % 251 : Nat) : Int) := by rw [Int.tmod_eq_emod_of_nonneg (by omega)]; omega
  have g1' : (v : Int) % 251 = ((v % 251 : Nat) : Int) := by omega
  have g2 : IntKind.u8.wrap ((v % 251 : Nat) : Int) = ((v % 251 : Nat) : Int) := u8_wrap (by omega) (by omega)
  have g3 : IntKind.u8.wrap (5 + ((v % 251 : Nat) : Int)) = ((5 + v % 251 : Nat) : Int) := by rw [u8_wrap (by omega) (by omega)]; omega
  have h1 : (v : Int).tmod 5 = ((v % 5 : Nat) : Int) := by rw [Int.tmod_eq_emod_of_nonneg (by omega)]; omega
  have h1' : (v : Int) % 5 = ((v % 5 : Nat) : Int) := by omega
  have h2 : IntKind.u8.wrap ((v % 5 : Nat) : Int) = ((v % 5 : Nat) : Int) := u8_wrap (by omega) (by omega)
  have B1 := Lib.hid (bid_calls ((v % 249 + 8) % 256) 0 (by omega) (by decide))
  have B2 := Lib.hid (bid_calls 1 (5 + v % 251) (by decide) (by omega))
  have B3 := Lib.hid (bid_calls 0 (v % 5) (by decide) (by omega))
  have k1 : bdOk ((v % 249 + 8) % 256) 0 = false := by unfold bdOk; exact decide_eq_false (by omega)
  have k2 : bdOk 1 (5 + v % 251) = false := by unfold bdOk; simp
  have k3 : bdOk 0 (v % 5) = false := by unfold bdOk; simp
  unfold bdV bdE at B1 B2 B3
  rw [k1, if_neg (by decide), if_neg (by decide)] at B1
  rw [k2, if_neg (by decide), if_neg (by decide)] at B2
  rw [k3, if_neg (by decide), if_neg (by decide)] at B3
  obtain ⟨x1, hx1⟩ : ∃ x, v % 249 = x := ⟨_, rfl⟩
  obtain ⟨x2, hx2⟩ : ∃ x, v % 251 = x := ⟨_, rfl⟩
  obtain ⟨x3, hx3⟩ : ∃ x, v % 5 = x := ⟨_, rfl⟩
  rw [hx1] at f1 f1' f2 f3 B1
  rw [hx2] at g1 g1' g2 g3 B2
  rw [hx3] at h1 h1' h2 B3
  obtain ⟨y1, hy1⟩ : ∃ x, (x1 + 8) % 256 = x := ⟨_, rfl⟩
  obtain ⟨y2, hy2⟩ : ∃ x, 5 + x2 = x := ⟨_, rfl⟩
  rw [hy1] at f3 B1
  rw [hy2] at g3 B2
  clear k1 k2 k3 hx1 hx2 hx3 hy1 hy2 hv
  go_upto_region 13 with (go_at_call 20; refine (B1.out _).mono ?_; rintro e w9 ⟨rfl, rfl⟩)
  go_upto_region 14 with (go_at_call 20; refine (B2.out _).mono ?_; rintro e w9 ⟨rfl, rfl⟩)
  go_upto_region 17 with (go_at_call 20; refine (B3.out _).mono ?_; rintro e w9 ⟨rfl, rfl⟩)
  clear f1 f1' f2 f3 g1 g1' g2 g3 h1 h1' h2 B1 B2 B3
  by_cases hl : 1000 < l.length
  · have hl' : (1000 : Int) < l.length := by omega
    go_wp2
    refine bodyPost_ret (by simp [results, Tryd.results9, go_sem]) rfl ⟨rfl, ?_⟩
    exact hb3
  · have hl' : ¬ (1000 : Int) < l.length := by omega
    have S1 := add_strv l [35] (by omega) (by decide)
    have S2 := add_strv [35] l (by decide) (by omega)
    have S3 := add_strv l [32] (by omega) (by decide)
    have S4 := add_strv [32] l (by decide) (by omega)
    have T1 := add_op l [35] (by omega) (by decide)
    have T2 := add_op [35] l (by decide) (by omega)
    have T3 := add_op l [32] (by omega) (by decide)
    have T4 := add_op [32] l (by decide) (by omega)
    have HL := Lib.hid hl
    clear hl
    go_upto_region 20 with fail
    have z0 : blk (w8.alloc (.cells #[strv (l ++ [35]), strv (35 :: l), strv (l ++ [32]), strv (32 :: l)] 9)) w8.heap.size #[strv (l ++ [35]), strv (35 :: l), strv (l ++ [32]), strv (32 :: l)] 9 := blk_new _ _ _
    have hs3 := hb3.size
    have zb : Below w.heap.size w (w8.alloc (.cells #[strv (l ++ [35]), strv (35 :: l), strv (l ++ [32]), strv (32 :: l)] 9)) := by repeat (first | (with_reducible exact hb3) | ((with_reducible refine below_grow ?_ ?_); rotate_left; focus (first | omega | (simp [go_sem]; done) | (simp [go_sem]; omega))) | ((with_reducible refine Below.alloc ?_ ?_ _); rotate_left; focus (first | omega | (simp [go_sem]; done) | (simp [go_sem]; omega))) | ((with_reducible refine Below.setCell ?_ ?_ _); rotate_left; focus (first | omega | (simp [go_sem]; done) | (simp [go_sem]; omega))) | (with_reducible refine Below.drew ?_) | (with_reducible refine below_drewN _ ?_))
    generalize (w8.alloc (.cells #[strv (l ++ [35]), strv (35 :: l), strv (l ++ [32]), strv (32 :: l)] 9)) = W at *
    generalize w8.heap.size = q at *
    have hz : blk W q ((wr4 l).map strv).toArray 9 := z0
    have RD := Lib.hid (fun a W (ha : a ∈ wr4 l) (hb : Below w.heap.size w W) => ex_read a (wr4_bad l a ha).1 W (HE.out.below hb))
    have RA := Lib.hid (fun a W (ha : a ∈ wr4 l) (hb : Below w.heap.size w W) => wr_all a (wr4_bad l a ha).2.1 (by have := (wr4_bad l a ha).2.2; have := HL.out; omega) W (HE.out.below hb))
    have hlen : (wr4 l).length = 4 := rfl
    clear z0 S1 S2 S3 S4 T1 T2 T3 T4 hb3 hs3 HE HV HL
    go_wp2
    go_loopw [25, 26, 27, 28, 29, 169] (fun _ _ _ _ _ s169 wr => ∃ i : Nat, s169 = .int .i64 i ∧ i ≤ 4 ∧ blk wr q ((wr4 l).map strv).toArray 9 ∧ Below w.heap.size w wr) (fun _ _ _ _ _ s169 _ => 4 - (intOf s169).toNat)
    case atStart => exact ⟨0, rfl, by decide, hz, zb⟩
    case round =>
      obtain ⟨i, rfl, hi4, b0, cb⟩ := hrel
      clear hz zb
      by_cases hlt : i < 4
      · have hlt2 : (i : Int) < 4 := by omega
        have hlt3 : i < (wr4 l).length := hlt
        obtain ⟨a, ha⟩ : ∃ a, (wr4 l)[i] = a := ⟨_, rfl⟩
        have hm : a ∈ wr4 l := by rw [← ha]; exact List.getElem_mem hlt3
        have k0 : wr.cell? ⟨q, i, none⟩ = some (strv a) := by
          rw [blk_cell b0, List.getElem?_toArray, List.getElem?_map, List.getElem?_eq_getElem hlt3, ha]; rfl
        have e1 : IntKind.i64.wrap ((i : Int) + 1) = (i : Int) + 1 := IntWalk.i64_in _ (by omega)
        have R1 := Lib.hid (RD.out a wr hm cb)
        have R2 := Lib.hid (RA.out a wr hm cb)
        have B0 := Lib.hid b0
        have CB := Lib.hid cb
        have hq := blk_lt b0
        clear ha hm RD RA b0 cb hlen hlt3
        go_wp2_with (first | (go_at_call 25; refine R1.out.mono ?_; rintro e w7 ⟨rfl, rfl⟩) | (go_at_call 16; refine R2.out.mono ?_; rintro e w7 ⟨⟨p, c, rfl⟩, hb7⟩))
        go_roundw
        case rel => exact ⟨i + 1, by go_num, by omega, blk_below B0.out hb7 hq, CB.out.trans (hb7.mono CB.out.size)⟩
        case measure => simp [intOf]; omega
      · obtain rfl : i = 4 := by omega
        go_wp2
        refine bodyPost_ret (by simp [results, Tryd.results9, go_sem]) rfl ⟨rfl, ?_⟩
        exact cb
theorem callWrong_walk (n v : Int) (s : ByteArray) (hn : 0 ≤ n ∧ n ≤ 255) (hv : 0 ≤ v ∧ v ≤ 255) (_hs : s.size ≤ 140737488355328) (w : World) (he : Env w) : Calls Tryd.prog 9 #[.int .u8 n, .int .u8 v, .string s] w fun e w' => e = .returned (.bool true) ∧ Below w.heap.size w w' := by
  obtain ⟨n, rfl⟩ : ∃ k : Nat, n = k := ⟨n.toNat, by omega⟩
  obtain ⟨v, rfl⟩ : ∃ k : Nat, v = k := ⟨v.toNat, by omega⟩
  exact wrong_nat n v (by omega) (by omega) s.data.toList w he
end Go.Proofs.YtblmdnmnodogiaaDoor
