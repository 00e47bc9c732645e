/- texts: strings of calls, and calls of strings, as the reference has them; nothing is modified, nothing shared. -/
import Derived.Test.YtblmdnmnodogiaaDoorKN
import Derived.Test.YtblmdnmnodogiaaDoorKNb
import Derived.Test.YtblmdnmnodogiaaDoorKMc
import Derived.Test.YtblmdnmnodogiaaDoorKH
namespace Go.Proofs.YtblmdnmnodogiaaDoor
open Go.RowKit

def taS (xs : List Nat) : List UInt8 := if xs.length ≤ 319 then (if okA xs then tx xs else []) else []
def taE (xs : List Nat) : Int := if xs.length ≤ 319 then (if okA xs then 0 else 80) else 5
theorem textAll_all (v : Value) (xs : List Nat) (h8 : ∀ x ∈ xs, x < 256) (w : World) (hS : SlB w v xs) (he : Env w) :
    Calls Tryd.prog 15 #[v] w fun e w' => e = .returned (.tuple #[strv (taS xs), .int .i64 (taE xs)]) ∧ Below w.heap.size w w' := by
  unfold taS taE
  by_cases h : xs.length ≤ 319
  · rw [if_pos h, if_pos h]; exact textAll_few v xs h8 h w hS he
  · rw [if_neg h, if_neg h]; exact textAll_many v xs (by omega) w hS
theorem refText_all (v : Value) (xs : List Nat) (h8 : ∀ x ∈ xs, x < 256) (w : World) (hS : SlB w v xs) :
    Calls Tryd.prog 33 #[v] w fun e w' => e = .returned (.tuple #[strv (taS xs), .int .i64 (taE xs)]) ∧ Below w.heap.size w w' := by
  unfold taS taE
  by_cases h : xs.length ≤ 319
  · rw [if_pos h, if_pos h]; exact ref_few v xs h8 h w hS
  · rw [if_neg h, if_neg h]; exact ref_many v xs (by omega) w hS
/-- A list that was lent. -/
structure Lent (W : World) (g cap : Nat) (xs : List Nat) : Prop where
  cap : xs.length + 12 ≤ cap
  lt : g < W.heap.size
  cell : ∀ (j : Nat) (x : Nat), (xs ++ mbs 1 12)[j]? = some x → W.cell? ⟨g, j, none⟩ = some (u8v x)
theorem Lent.slb {W : World} {g cap : Nat} {xs : List Nat} (h : Lent W g cap xs) : SlB W (.slice (some ⟨g, 0, none⟩) xs.length cap) xs := by
  refine ⟨_, _, rfl, by have := h.cap; omega, fun _ => ⟨g, 0, rfl, h.lt, fun j x hj => ?_⟩⟩
  rw [Nat.zero_add]
  exact h.cell j x (by rw [List.getElem?_append_left (List.getElem?_eq_some_iff.1 hj).1]; exact hj)
theorem Lent.below {W W' : World} {g cap : Nat} {xs : List Nat} (h : Lent W g cap xs) (hb : Below W.heap.size W W') : Lent W' g cap xs :=
  ⟨h.cap, Nat.lt_of_lt_of_le h.lt hb.size, fun j x hj => (hb.cell (p := ⟨g, j, none⟩) h.lt).trans (h.cell j x hj)⟩
theorem lent_of {W : World} {B g cap n : Nat} {xs : List Nat} (hn : xs.length = n) (h : W.ownsRow B 5 1 (.slice (some ⟨g, 0, none⟩) (n + 12) cap) (n + 12) ((xs ++ mbs 1 12).map u8v)) : Lent W g cap xs := by
  refine ⟨by rw [hn]; exact own_cap h, ?_, fun j x hj => ?_⟩
  · rcases h.2 with ⟨h1, _⟩ | ⟨g', cap', cur, h1, _, hg, _⟩
    · cases h1
    · simp only [Value.slice.injEq, Option.some.injEq, Addr.mk.injEq] at h1
      obtain ⟨⟨rfl, -⟩, -⟩ := h1
      exact lt_of_block hg
  · have hc := h.cells (g := g) rfl j (u8v x) (by rw [List.getElem?_map, hj]; rfl)
    rw [show (⟨g, j, none⟩ : Addr) = (⟨g, 0, none⟩ : Addr).add j by unfold Addr.add; split <;> simp_all]
    exact hc
set_option maxRecDepth 100000 in
set_option maxHeartbeats 8000000 in
theorem texts_calls (v : Value) (xs : List Nat) (l : List UInt8) (h8 : ∀ x ∈ xs, x < 256) (hn : xs.length ≤ 1000) (hl : l.length ≤ 100000) (w : World) (hS : SlB w v xs) (he : Env w) :
    Calls Tryd.prog 12 #[v, strv l] w fun e w' => e = .returned (.bool true) ∧ Below w.heap.size w w' := by
  have LE := Lib.hid (lent_calls v xs w (by omega) hS)
  have TA := Lib.hid (fun v W (hs : SlB W v xs) (hb : Below w.heap.size w W) => textAll_all v xs h8 W hs (he.below hb))
  have rTA := Lib.hid (fun W (hb : Below w.heap.size w W) => refText_all v xs h8 W (slb_below hS hb))
  have RA := Lib.hid (fun W (hb : Below w.heap.size w W) => readAll_calls ⟨l.toArray⟩ (show l.length < 4294967281 by omega) W (he.below hb))
  have rRA := Lib.hid (refAll_calls l hl)
  have RD := Lib.hid (fun W (hb : Below w.heap.size w W) => read_calls ⟨l.toArray⟩ W (he.below hb))
  have rRD := Lib.hid (ref_read l)
  have KP := Lib.hid (fun g cap W (hL : Lent W g cap xs) (hb : Below w.heap.size w W) => kept_calls g cap v xs W (by omega) hL.cap hL.cell (slb_below hS hb))
  have hL8 : ∀ x ∈ raL l, x < 256 := fun x hx => by have := raL_lt l x hx; omega
  have hLn := raL_len l
  have SM := Lib.hid (fun a b W (ha : SlB W a (raL l)) (hb : SlB W b (raL l)) => same_calls a b (raL l) (raL l) hL8 hL8 (by omega) W ha hb)
  rw [decide_eq_true (rfl : raL l = raL l)] at SM
  simp only [] at RA RD
  obtain ⟨t, h⟩ : ∃ x, taS xs = x := ⟨_, rfl⟩
  rw [h] at TA rTA
  clear h
  obtain ⟨te, h⟩ : ∃ x, taE xs = x := ⟨_, rfl⟩
  rw [h] at TA rTA
  clear h
  obtain ⟨L, h⟩ : ∃ x, raL l = x := ⟨_, rfl⟩
  rw [h] at RA rRA SM hLn
  clear h hL8
  obtain ⟨Le, h⟩ : ∃ x, raE l = x := ⟨_, rfl⟩
  rw [h] at RA rRA
  clear h
  obtain ⟨c, h⟩ : ∃ x, rdV l = x := ⟨_, rfl⟩
  rw [h] at RD rRD
  clear h
  obtain ⟨ce, h⟩ : ∃ x, rdE l = x := ⟨_, rfl⟩
  rw [h] at RD rRD
  clear h he h8 hS
  go_enter Tryd.func12, Tryd.ntmps12
  go_upto_region 2 with (go_at_call 32; refine LE.out.mono ?_; rintro e w1 ⟨g, cap, rfl, hown, hb1⟩)
  have hL1 := lent_of rfl hown
  clear hown LE
  go_upto_region 3 with (go_at_call 15; refine (TA.out _ w1 hL1.slb hb1).mono ?_; rintro e w2 ⟨rfl, hb2⟩)
  have z2 := hb1.trans (hb2.mono hb1.size)
  have hL2 := hL1.below hb2
  clear hb1 hb2 hL1 TA
  go_upto_region 4 with (go_at_call 33; refine (rTA.out w2 z2).mono ?_; rintro e w3 ⟨rfl, hb3⟩)
  have z3 := z2.trans (hb3.mono z2.size)
  have hL3 := hL2.below hb3
  clear z2 hb3 hL2 rTA
  go_upto_region 5 with (go_at_call 16; refine (RA.out w3 z3).mono ?_; rintro e w4 ⟨⟨x, rfl, hx⟩, hb4⟩)
  have z4 := z3.trans (hb4.mono z3.size)
  have hL4 := hL3.below hb4
  have sx := (slb_own hx).1
  clear z3 hb4 hL3 hx
  go_upto_region 6 with (go_at_call 34; refine (rRA.out w4).mono ?_; rintro e w5 ⟨⟨y, rfl, hy⟩, hb5⟩)
  have z5 := z4.trans (hb5.mono z4.size)
  have hL5 := hL4.below hb5
  have sx5 := slb_below sx hb5
  have sy := (slb_own hy).1
  clear z4 hb5 hL4 sx hy rRA
  go_upto_region 7 with (go_at_call 25; refine (RD.out w5 z5).mono ?_; rintro e w6 ⟨rfl, rfl⟩)
  go_upto_region 8 with (go_at_call 35; refine (rRD.out w5).mono ?_; rintro e w6 ⟨rfl, hb6⟩)
  have z6 := z5.trans (hb6.mono z5.size)
  have hL6 := hL5.below hb6
  have sx6 := slb_below sx5 hb6
  have sy6 := slb_below sy hb6
  clear z5 hb6 hL5 sx5 sy RD rRD
  go_upto_region 10 with (go_at_call 17; refine (SM.out _ _ w6 sx6 sy6).mono ?_; rintro e w7 ⟨rfl, hb7⟩)
  have z7 := z6.trans (hb7.mono z6.size)
  have hL7 := hL6.below hb7
  have sx7 := slb_below sx6 hb7
  have sy7 := slb_below sy6 hb7
  clear z6 hb7 hL6 sx6 sy6
  go_upto_region 11 with (go_at_call 16; refine (RA.out w7 z7).mono ?_; rintro e w8 ⟨⟨o, rfl, ho⟩, hb8⟩)
  go_upto_region 12 with (go_at_call 36; refine (over_calls o w7.heap.size L.length _ w8 (by omega) ho).mono ?_; rintro e w9 ⟨⟨u, rfl⟩, hb9⟩)
  have b79 := hb8.trans hb9
  have z9 := z7.trans (b79.mono z7.size)
  have hL9 := hL7.below b79
  have sx9 := slb_below sx7 b79
  have sy9 := slb_below sy7 b79
  clear z7 hb8 hb9 hL7 sx7 sy7 ho b79 RA
  go_wp2_with (first | (go_at_call 17; refine (SM.out _ _ w9 sx9 sy9).mono ?_; rintro e w10 ⟨rfl, hb10⟩) | (go_at_call 37; refine (KP.out _ _ w10 (hL9.below hb10) (z9.trans (hb10.mono z9.size))).mono ?_; rintro e w11 ⟨rfl, hb11⟩))
  refine bodyPost_ret (by simp [results, Tryd.results12, go_sem]) rfl ⟨rfl, ?_⟩
  exact (z9.trans (hb10.mono z9.size)).trans (hb11.mono (z9.trans (hb10.mono z9.size)).size)
end Go.Proofs.YtblmdnmnodogiaaDoor
