/- CallReads: calls are read from their string as they were, and different lists have different strings. -/
import Derived.Test.YtblmdnmnodogiaaDoorKYb
import Derived.Lib.Space
namespace Go.Proofs.YtblmdnmnodogiaaDoor
open Go.RowKit

theorem dw_id {l : List UInt8} (h : ∀ a, l.head? = some a → Lib.isSp a = false) : l.dropWhile Lib.isSp = l := by
  cases l with
  | nil => rfl
  | cons a r =>
    have := h a rfl
    simp [List.dropWhile, this]
/-- Neither the first byte nor the last one is a space. -/
def noSp (l : List UInt8) : Prop := (∀ a, l.head? = some a → Lib.isSp a = false) ∧ (∀ a, l.reverse.head? = some a → Lib.isSp a = false)
theorem trim_id {l : List UInt8} (h : noSp l) : Lib.trimSpace l = l := by
  unfold Lib.trimSpace
  rw [dw_id h.1, dw_id h.2, List.reverse_reverse]
theorem trim_lead {l : List UInt8} (h : noSp l) : Lib.trimSpace (32 :: l) = l := by
  have e : (32 :: l).dropWhile Lib.isSp = l.dropWhile Lib.isSp := by simp [List.dropWhile, show Lib.isSp 32 = true from rfl]
  unfold Lib.trimSpace
  rw [e, dw_id h.1, dw_id h.2, List.reverse_reverse]
theorem trim_trail {l : List UInt8} (h : noSp l) : Lib.trimSpace (l ++ [32]) = l := by
  by_cases h0 : l = []
  · subst h0; decide
  · have e1 : (l ++ [32]).dropWhile Lib.isSp = l ++ [32] := dw_id fun a ha => h.1 a (by
      cases l with
      | nil => exact absurd rfl h0
      | cons b r => simpa using ha)
    have e2 : (32 :: l.reverse).dropWhile Lib.isSp = l.reverse.dropWhile Lib.isSp := by simp [List.dropWhile, show Lib.isSp 32 = true from rfl]
    unfold Lib.trimSpace
    rw [e1, List.reverse_append]
    show ((32 :: l.reverse).dropWhile Lib.isSp).reverse = l
    rw [e2, dw_id h.2, List.reverse_reverse]
theorem nm_sp : ∀ i, i < 38 → ∀ x ∈ nm i, Lib.isSp x = false ∧ x.toNat < 128 := by decide +kernel
theorem nosp_word {l : List UInt8} (h : ∀ x ∈ l, Lib.isSp x = false) : noSp l :=
  ⟨fun a ha => h a (List.mem_of_head? ha), fun a ha => h a (List.mem_reverse.1 (List.mem_of_head? ha))⟩
theorem nosp_cat {a b : List UInt8} (ha : noSp a) (hb : noSp b) (h0 : a ≠ []) (h1 : b ≠ []) (m : List UInt8) : noSp (a ++ m ++ b) := by
  refine ⟨fun x hx => ha.1 x ?_, fun x hx => hb.2 x ?_⟩
  · cases a with
    | nil => exact absurd rfl h0
    | cons y r => simpa using hx
  · have h1' : b.reverse ≠ [] := by simpa using h1
    rw [List.reverse_append] at hx
    cases e : b.reverse with
    | nil => exact absurd e h1'
    | cons y r => rw [e] at hx; simpa using hx
theorem jn_ne : ∀ {ws : List (List UInt8)}, ws ≠ [] → (∀ a ∈ ws, a ≠ []) → jn ws ≠ []
  | [], h, _ => absurd rfl h
  | [a], _, h => h a (by simp)
  | a :: b :: r, _, _ => by rw [jn_cons]; simp
theorem jn_nosp : ∀ {ws : List (List UInt8)}, (∀ a ∈ ws, a ≠ [] ∧ noSp a) → noSp (jn ws)
  | [], _ => ⟨fun a h => by simp [jn] at h, fun a h => by simp [jn] at h⟩
  | [a], h => (h a (by simp)).2
  | a :: b :: r, h => by
    have ih := jn_nosp (ws := b :: r) (fun x hx => h x (List.mem_cons_of_mem _ hx))
    have hne := jn_ne (ws := b :: r) (by simp) (fun x hx => (h x (List.mem_cons_of_mem _ hx)).1)
    have := nosp_cat (h a (by simp)).2 ih (h a (by simp)).1 hne [32]
    rw [jn_cons]
    simpa using this
theorem tx_nosp {l : List Nat} (h : ∀ c ∈ l, c < 38) : noSp (tx l) := jn_nosp fun a ha => by
  obtain ⟨c, hc, rfl⟩ := List.mem_map.1 ha
  exact ⟨nm_ne (h c hc), nosp_word fun x hx => (nm_sp c (h c hc) x hx).1⟩
theorem tx_trim {x y : List Nat} (hx : ∀ c ∈ x, c < 38) (hy : ∀ c ∈ y, c < 38) : Lib.trimSpace (tx x ++ [32] ++ tx y) = tx (x ++ y) := by
  by_cases h1 : x = []
  · subst h1
    show Lib.trimSpace (32 :: tx y) = tx y
    exact trim_lead (tx_nosp hy)
  · by_cases h2 : y = []
    · subst h2
      rw [List.append_nil, show tx [] = [] from rfl, List.append_nil]
      exact trim_trail (tx_nosp hx)
    · have hne1 : tx x ≠ [] := fun e => h1 (tx_eq_nil hx e)
      have hne2 : tx y ≠ [] := fun e => h2 (tx_eq_nil hy e)
      rw [trim_id (nosp_cat (tx_nosp hx) (tx_nosp hy) hne1 hne2 [32]), tx_append h1 h2]
      simp
theorem jn_mem' : ∀ {ws : List (List UInt8)} {x : UInt8}, x ∈ jn ws → x = 32 ∨ ∃ a ∈ ws, x ∈ a
  | [], x, h => by cases h
  | [a], x, h => .inr ⟨a, by simp, h⟩
  | a :: b :: r, x, h => by
    rw [jn_cons, List.mem_append, List.mem_cons] at h
    rcases h with h | h | h
    · exact .inr ⟨a, by simp, h⟩
    · exact .inl h
    · rcases jn_mem' h with h | ⟨c, hc, hx⟩
      · exact .inl h
      · exact .inr ⟨c, List.mem_cons_of_mem _ hc, hx⟩
theorem tx_ascii {l : List Nat} (h : ∀ c ∈ l, c < 38) : ∀ b ∈ tx l, b.toNat < 128 := fun b hb => by
  rcases jn_mem' hb with rfl | ⟨a, ha, hx⟩
  · decide
  · obtain ⟨c, hc, rfl⟩ := List.mem_map.1 ha
    exact (nm_sp c (h c hc) b hx).2
theorem tabIs_below {P : Program} {w w' : World} {name : String} {k : IntKind} {zs : List Int} (h : Lib.TabIs P w name k zs) (hb : Below w.heap.size w w') : Lib.TabIs P w' name k zs := by
  unfold Lib.TabIs World.var? at *
  cases hg : P.globalNamed name with
  | none => simp [hg] at h
  | some g =>
    simp only [hg, Option.bind_some] at h ⊢
    have hlt : g < w.heap.size := by
      rcases Nat.lt_or_ge g w.heap.size with h' | h'
      · exact h'
      · rw [Array.getElem?_eq_none h'] at h; simp at h
    rw [hb.block g hlt]
    exact h
/-- What CallReads asks of a world. -/
structure EnvR (w : World) : Prop where
  env : Env w
  sp : Lib.TabIs Tryd.prog w "strings.asciiSpace" .u8 Lib.asciiSpaceTab
theorem trim_any (l : List UInt8) (hl : l.length ≤ 100000) (ha : ∀ b ∈ l, b.toNat < 128) (w : World) (ht : Lib.TabIs Tryd.prog w "strings.asciiSpace" .u8 Lib.asciiSpaceTab) :
    Calls Tryd.prog 18 #[strv l] w fun e w' => e = .returned (strv (Lib.trimSpace l)) ∧ Below w.heap.size w w' := by
  have h := Tryd.strings_TrimSpace ⟨l.toArray⟩ w (by show l.length ≤ 9223372036854775807; omega) (fun j b hj => ha b (List.mem_of_getElem? hj)) ht
  exact h.mono fun e w' h => ⟨h.1, h.2 ▸ ⟨rfl, rfl, rfl, by rw [Lib.bytesWorld_size]; omega, fun k hk => Lib.bytesWorld_at_old w _ _ k hk⟩⟩
theorem trim_calls (x y : List Nat) (hx : ∀ c ∈ x, c < 38) (hy : ∀ c ∈ y, c < 38) (w : World) (ht : Lib.TabIs Tryd.prog w "strings.asciiSpace" .u8 Lib.asciiSpaceTab) (hl : (tx x ++ [32] ++ tx y).length ≤ 100000) :
    Calls Tryd.prog 18 #[strv (tx x ++ [32] ++ tx y)] w fun e w' => e = .returned (strv (tx (x ++ y))) ∧ Below w.heap.size w w' := by
  have h := trim_any _ hl (fun b hm => by
    rw [List.mem_append, List.mem_append] at hm
    rcases hm with (hm | hm) | hm
    · exact tx_ascii hx b hm
    · simp only [List.mem_singleton] at hm; subst hm; decide
    · exact tx_ascii hy b hm) w ht
  rwa [tx_trim hx hy] at h
theorem below_tail {W W' : World} {o : Obj} (h : Below W.heap.size (W.alloc o) W') : Below W.heap.size W W' := (show Below W.heap.size W (W.alloc o) by repeat (first | (with_reducible exact Below.refl _ _) | ((with_reducible refine below_grow ?_ ?_); rotate_left; focus (first | omega | (simp [go_sem]; done) | (simp [go_sem]; omega))) | ((with_reducible refine Below.alloc ?_ ?_ _); rotate_left; focus (first | omega | (simp [go_sem]; done) | (simp [go_sem]; omega))) | ((with_reducible refine Below.setCell ?_ ?_ _); rotate_left; focus (first | omega | (simp [go_sem]; done) | (simp [go_sem]; omega))) | (with_reducible refine Below.drew ?_) | (with_reducible refine below_drewN _ ?_))).trans h
theorem own_empty (W : World) (q : Nat) (hq : q = W.heap.size) : (W.alloc (.cells #[] 5)).ownsRow q 5 1 (.slice (some ⟨q, 0, none⟩) 0 0) 0 (([] : List Nat).map u8v) := by
  subst hq
  exact ⟨rfl, .inr ⟨_, 0, #[], rfl, Nat.le_refl _, blk_new _ _ _, Nat.le_refl _, Nat.zero_le _, rfl, rfl⟩⟩
theorem okA_of {l : List Nat} (h : ∀ c ∈ l, c < 38) : okA l = true := okA_iff.2 h
theorem text_own {W : World} {base n : Nat} {v : Value} {l : List Nat} (h : W.ownsRow base 5 1 v n (l.map u8v)) (h38 : ∀ c ∈ l, c < 38) (hn : l.length ≤ 319) (he : Env W) :
    Calls Tryd.prog 15 #[v] W fun e w' => e = .returned (.tuple #[strv (tx l), .int .i64 0]) ∧ Below W.heap.size W w' := by
  have := textAll_few v l (fun c hc => by have := h38 c hc; omega) hn W (slb_own h).1 he
  rwa [okA_of h38, if_pos rfl, if_pos rfl] at this
theorem read_own (l : List Nat) (h38 : ∀ c ∈ l, c < 38) (hn : l.length ≤ 319) (w : World) (he : Env w) :
    Calls Tryd.prog 16 #[strv (tx l)] w fun e w' => (∃ v, e = .returned (.tuple #[v, .int .i64 0]) ∧ w'.ownsRow w.heap.size 5 1 v l.length (l.map u8v)) ∧ Below w.heap.size w w' := by
  have hl := tx_length h38
  have := readAll_calls ⟨(tx l).toArray⟩ (by show (tx l).length < 4294967281; omega) w he
  have hr : rda (ByteArray.mk (tx l).toArray).data.toList = some l := rda_tx h38 hn
  unfold raL raE at this
  rw [hr] at this
  exact this
set_option maxRecDepth 100000 in
set_option maxHeartbeats 8000000 in
theorem callReads_walk (v1 : Value) (xs : List Nat) (v2 : Value) (ys : List Nat) (hx8 : ∀ x ∈ xs, x < 256) (hy8 : ∀ x ∈ ys, x < 256) (w : World) (hS1 : SlB w v1 xs) (hS2 : SlB w v2 ys) (hr : EnvR w) :
    Calls Tryd.prog 6 #[v1, v2] w fun e w' => e = .returned (.bool true) ∧ Below w.heap.size w w' := by
  have AW := Lib.hid (awake_calls w hr.env)
  have M1 := Lib.hid (fun W (hb : Below w.heap.size w W) => made_calls v1 xs hx8 W (slb_below hS1 hb))
  have M2 := Lib.hid (fun W (hb : Below w.heap.size w W) => made_calls v2 ys hy8 W (slb_below hS2 hb))
  have hx := mk_lt xs
  have hy := mk_lt ys
  have lx := mk_len xs
  have ly := mk_len ys
  obtain ⟨x, ex⟩ : ∃ x, mk xs = x := ⟨_, rfl⟩
  obtain ⟨y, ey⟩ : ∃ x, mk ys = x := ⟨_, rfl⟩
  rw [ex] at M1 hx lx
  rw [ey] at M2 hy ly
  have HR := Lib.hid hr
  clear ex ey hS1 hS2 hr hx8 hy8
  go_enter Tryd.func6, Tryd.ntmps6
  go_upto_region 3 with (go_at_call 11; refine AW.out.mono ?_; rintro e w1 ⟨rfl, hb1⟩)
  go_upto_region 4 with (first | (go_at_call_of 14 v1; refine (M1.out _ hb1).mono ?_; rintro e w2 ⟨⟨vx, rfl, hvx⟩, hb2⟩) | (go_at_call_of 14 v2; refine (M2.out _ (hb1.trans (hb2.mono hb1.size))).mono ?_; rintro e w3 ⟨⟨vy, rfl, hvy⟩, hb3⟩))
  have z2 := hb1.trans (hb2.mono hb1.size)
  have z3 := z2.trans (hb3.mono z2.size)
  have hvx3 := own_below hvx hb3 rfl
  obtain ⟨sx, nx⟩ := slb_own hvx3
  obtain ⟨sy, ny⟩ := slb_own hvy
  obtain ⟨p1, c1, rfl, k1, k2⟩ := id sx
  obtain ⟨p2, c2, rfl, k3, k4⟩ := id sy
  have T1 := Lib.hid (text_own hvx3 hx lx (HR.out.env.below z3))
  clear hb1 hb2 hb3 hvx k1 k2 k3 k4 nx ny z2 M1 M2 AW
  go_upto_region 5 with (go_at_call 15; refine T1.out.mono ?_; rintro e w4 ⟨rfl, hb4⟩)
  have z4 := z3.trans (hb4.mono z3.size)
  have hvx4 := own_below hvx3 hb4 rfl
  have hvy4 := own_below hvy hb4 rfl
  have T2 := Lib.hid (text_own hvy4 hy ly (HR.out.env.below z4))
  clear z3 hb4 hvx3 hvy T1 sx sy
  go_upto_region 6 with (go_at_call 15; refine T2.out.mono ?_; rintro e w5 ⟨rfl, hb5⟩)
  have z5 := z4.trans (hb5.mono z4.size)
  have hvx5 := own_below hvx4 hb5 rfl
  have hvy5 := own_below hvy4 hb5 rfl
  have R1 := Lib.hid (read_own x hx lx w5 (HR.out.env.below z5))
  clear z4 hb5 hvx4 hvy4 T2
  go_upto_region 7 with (go_at_call 16; refine R1.out.mono ?_; rintro e w6 ⟨⟨u1, rfl, hu1⟩, hb6⟩)
  have z6 := z5.trans (hb6.mono z5.size)
  have hvx6 := own_below hvx5 hb6 rfl
  have hvy6 := own_below hvy5 hb6 rfl
  have R2 := Lib.hid (read_own y hy ly w6 (HR.out.env.below z6))
  clear z5 hb6 hvx5 hvy5 R1
  go_upto_region 8 with (go_at_call 16; refine R2.out.mono ?_; rintro e w7 ⟨⟨u2, rfl, hu2⟩, hb7⟩)
  have z7 := z6.trans (hb7.mono z6.size)
  have hvx7 := own_below hvx6 hb7 rfl
  have hvy7 := own_below hvy6 hb7 rfl
  have hu7 := own_below hu1 hb7 rfl
  clear z6 hb7 hvx6 hvy6 hu1 R2
  have x8 : ∀ c ∈ x, c < 256 := fun c hc => by have := hx c hc; omega
  have y8 : ∀ c ∈ y, c < 256 := fun c hc => by have := hy c hc; omega
  have S1 := Lib.hid (fun W (hb : Below w7.heap.size w7 W) => same_calls u1 _ x x x8 x8 (by omega) W (slb_below (slb_own hu7).1 hb) (slb_below (slb_own hvx7).1 hb))
  have S2 := Lib.hid (fun W (hb : Below w7.heap.size w7 W) => same_calls u2 _ y y y8 y8 (by omega) W (slb_below (slb_own hu2).1 hb) (slb_below (slb_own hvy7).1 hb))
  have S3 := Lib.hid (fun W (hb : Below w7.heap.size w7 W) => same_calls _ _ x y x8 y8 (by omega) W (slb_below (slb_own hvx7).1 hb) (slb_below (slb_own hvy7).1 hb))
  rw [decide_eq_true (rfl : x = x)] at S1
  rw [decide_eq_true (rfl : y = y)] at S2
  have heq : (tx x == tx y) = decide (x = y) := by
    by_cases h : x = y
    · subst h; simp
    · rw [decide_eq_false h, beq_eq_false_iff_ne]
      exact fun e => h (tx_inj hx hy e)
  have HX := Lib.hid hx
  have HY := Lib.hid hy
  have HVX := Lib.hid hvx7
  have HVY := Lib.hid hvy7
  have LN := Lib.hid (And.intro lx ly)
  obtain ⟨s, hs⟩ : ∃ s, tx x = s := ⟨_, rfl⟩
  obtain ⟨t, ht⟩ : ∃ s, tx y = s := ⟨_, rfl⟩
  obtain ⟨bq, hbq⟩ : ∃ b, decide (x = y) = b := ⟨_, rfl⟩
  rw [hs, ht, hbq] at heq
  rw [hbq] at S3
  rw [hs, ht]
  clear hbq hx hy hvx7 hvy7 hu7 hu2 x8 y8 lx ly
  go_upto_region 10 with (first | (go_at_call_of 17 u1; refine (S1.out _ (Below.refl _ _)).mono ?_; rintro e w8 ⟨rfl, hb8⟩) | (go_at_call_of 17 u2; refine (S2.out _ hb8).mono ?_; rintro e w9 ⟨rfl, hb9⟩) | (go_at_call 17; refine (S3.out _ (hb8.trans (hb9.mono hb8.size))).mono ?_; rintro e w10 ⟨rfl, hb10⟩))
  obtain ⟨i0, hi, hz0, hz1, hz2⟩ := info_parts Tryd.infoU
  have b10 := (hb8.trans (hb9.mono hb8.size)).trans (hb10.mono (hb8.trans (hb9.mono hb8.size)).size)
  have z10 := z7.trans (b10.mono z7.size)
  have hvx := own_below HVX.out b10 rfl
  have hvy := own_below HVY.out b10 rfl
  have hzs := z10.size
  clear hb8 hb9 hb10 S1 S2 S3 z7 HVX HVY b10
  have hlx : x.length ≤ 319 := LN.out.1
  have hly : y.length ≤ 319 := LN.out.2
  have VX := Lib.hid hvx
  have VY := Lib.hid hvy
  have TB := Lib.hid (fun W (B : Nat) v n (h : World.ownsRow W B 5 1 v n ((x ++ y).map u8v)) (h319 : (x ++ y).length ≤ 319) (hb : Below w.heap.size w W) => text_own h (fun c hc => by
    rcases List.mem_append.1 hc with h | h
    · exact HX.out c h
    · exact HY.out c h) h319 (HR.out.env.below hb))
  have TM := Lib.hid (fun W (B : Nat) v n (h : World.ownsRow W B 5 1 v n ((x ++ y).map u8v)) (h319 : 319 < (x ++ y).length) => textAll_many v (x ++ y) h319 W (slb_own h).1)
  have ZB := Lib.hid z10
  clear hvx hvy
  have hcat : x.map u8v ++ y.map u8v = (x ++ y).map u8v := (List.map_append).symm
  have e1 : IntKind.i64.wrap ((x.length : Int) + y.length) = (x.length : Int) + y.length := IntWalk.i64_in _ (by omega)
  by_cases h319 : 319 < (x ++ y).length
  · have h319' : (319 : Int) < (x.length : Int) + y.length := by rw [List.length_append] at h319; omega
    go_upto_region 11 with (first
      | (go_at_call 15; refine (TM.out _ _ _ _ (by rw [← hcat]; exact hown9) h319).mono ?_; rintro e w13 ⟨rfl, hb13⟩)
      | (at_builtin; refine wpList_append_row rfl _ _ rfl w10.heap.size i0 hi hz0 hz1 hz2 _ _ _ rfl (own_empty w10 _ rfl) _ _ x rfl (VX.out.alloc _) (by omega) (by simp) ?_; intro v8 w11 hown8 hb11)
      | (at_builtin; refine wpList_append_row rfl _ _ rfl w10.heap.size i0 hi hz0 hz1 hz2 v8 _ _ rfl hown8 _ _ y rfl (own_below VY.out (below_tail hb11) rfl) (by omega) (by have := (below_tail hb11).size; omega) ?_; intro v9 w12 hown9 hb12))
    have z13 := ZB.out.trans ((((below_tail hb11).trans hb12).mono hzs))
    have z14 := z13.trans (hb13.mono z13.size)
    clear hown8 hown9 hb11 hb12 hb13 TM TB VX VY h319 hcat hzs z13
    go_wp2
    refine bodyPost_ret (by simp [results, Tryd.results6, go_sem]) rfl ⟨rfl, ?_⟩
    exact z14
  · have h319' : ¬ (319 : Int) < (x.length : Int) + y.length := by rw [List.length_append] at h319; omega
    have hlen1 := tx_length HX.out
    have hlen2 := tx_length HY.out
    have TR := Lib.hid (fun W (hb : Below w.heap.size w W) => trim_calls x y HX.out HY.out W (tabIs_below HR.out.sp hb) (by simp only [List.length_append, List.length_singleton]; omega))
    rw [hs] at hlen1
    rw [ht] at hlen2
    have hcs : s ++ [32] ++ t = s ++ 32 :: t := by simp
    rw [hs, ht, hcs] at TR
    have S1 := add_strv s [32] (by omega) (by decide)
    have S2 := add_strv (s ++ [32]) t (by rw [List.length_append, List.length_singleton]; omega) (by omega)
    have S3 := add_op s [32] (by omega) (by decide)
    have S4 := add_op (s ++ [32]) t (by rw [List.length_append, List.length_singleton]; omega) (by omega)
    rw [hcs] at S2 S4
    go_upto_region 11 with (first
      | (go_at_call 15; refine (TB.out _ _ _ _ (by rw [← hcat]; exact hown9) (by omega) (ZB.out.trans (((below_tail hb11).trans hb12).mono hzs))).mono ?_; rintro e w13 ⟨rfl, hb13⟩)
      | (at_builtin; refine wpList_append_row rfl _ _ rfl w10.heap.size i0 hi hz0 hz1 hz2 _ _ _ rfl (own_empty w10 _ rfl) _ _ x rfl (VX.out.alloc _) (by omega) (by simp) ?_; intro v8 w11 hown8 hb11)
      | (at_builtin; refine wpList_append_row rfl _ _ rfl w10.heap.size i0 hi hz0 hz1 hz2 v8 _ _ rfl hown8 _ _ y rfl (own_below VY.out (below_tail hb11) rfl) (by omega) (by have := (below_tail hb11).size; omega) ?_; intro v9 w12 hown9 hb12))
    have z13 := ZB.out.trans ((((below_tail hb11).trans hb12).mono hzs))
    have z14 := z13.trans (hb13.mono z13.size)
    clear hown8 hown9 hb11 hb12 hb13 TM TB VX VY h319 hcat hzs z13 hlen1 hlen2
    obtain ⟨q, hq⟩ : ∃ q, tx (x ++ y) = q := ⟨_, rfl⟩
    rw [hq] at TR ⊢
    clear hq hs ht
    have Z := Lib.hid z14
    clear z14
    go_wp2_with (go_at_call 18; refine (TR.out _ Z.out).mono ?_; rintro e w15 ⟨rfl, hb15⟩)
    refine bodyPost_ret (by simp [results, Tryd.results6, go_sem]) rfl ⟨rfl, ?_⟩
    exact Z.out.trans (hb15.mono Z.out.size)
end Go.Proofs.YtblmdnmnodogiaaDoor
