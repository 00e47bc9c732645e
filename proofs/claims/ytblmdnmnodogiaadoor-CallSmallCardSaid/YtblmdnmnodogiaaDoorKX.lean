/- CallTells: everything about a call, or two, is as the reference says. -/
import Derived.Test.YtblmdnmnodogiaaDoorKV
import Derived.Test.YtblmdnmnodogiaaDoorKH
namespace Go.Proofs.YtblmdnmnodogiaaDoor
open Go.RowKit

theorem wrap_small {e : Int} (h0 : 0 ≤ e) (h1 : e ≤ 100) : IntKind.i64.wrap e = e := IntWalk.i64_in _ (by omega)
set_option maxRecDepth 100000 in
set_option maxHeartbeats 8000000 in
theorem tells_calls (c d : Nat) (hc : c < 256) (hd : d < 256) (w : World) (he : Env w) : Calls Tryd.prog 10 #[.int .u8 c, .int .u8 d] w fun e w' => e = .returned (.bool true) ∧ Below w.heap.size w w' := by
  have B := Lib.hid (bid_calls c d hc hd)
  have P := Lib.hid (parts_calls c)
  have TX := Lib.hid (fun W (hb : Below w.heap.size w W) => text_calls c hc W (he.below hb))
  have C := Lib.hid (cheapest_calls c d hc hd)
  have J := Lib.hid (jump_calls c d hc hd)
  have R := Lib.hid (right_calls c)
  have rB := Lib.hid (ref_bid c d hc hd)
  have rP := Lib.hid (ref_parts c hc)
  have rTX := Lib.hid (ref_text c hc)
  have rC := Lib.hid (ref_cheapest c d hc hd)
  have rJ := Lib.hid (ref_jump c d hc hd)
  have rR := Lib.hid (ref_right c hc)
  have w1 : IntKind.i64.wrap (bdE c d) = bdE c d := by unfold bdE; split <;> exact wrap_small (by decide) (by decide)
  have w2 : IntKind.i64.wrap (txE c) = txE c := by unfold txE; split <;> exact wrap_small (by decide) (by decide)
  have w3 : IntKind.i64.wrap (chE c d) = chE c d := by unfold chE; split <;> (try split) <;> (try split) <;> exact wrap_small (by decide) (by decide)
  have w4 : IntKind.i64.wrap (jmE c d) = jmE c d := by unfold jmE; split <;> (try split) <;> exact wrap_small (by decide) (by decide)
  obtain ⟨b1, h⟩ : ∃ x, bdV c d = x := ⟨_, rfl⟩
  rw [h] at B rB
  clear h
  obtain ⟨b2, h⟩ : ∃ x, bdE c d = x := ⟨_, rfl⟩
  rw [h] at B rB w1
  clear h
  obtain ⟨p1, h⟩ : ∃ x, prL c = x := ⟨_, rfl⟩
  rw [h] at P rP
  clear h
  obtain ⟨p2, h⟩ : ∃ x, prD c = x := ⟨_, rfl⟩
  rw [h] at P rP
  clear h
  obtain ⟨p3, h⟩ : ∃ x, isb c = x := ⟨_, rfl⟩
  rw [h] at P rP
  clear h
  obtain ⟨t1, h⟩ : ∃ x, txt c = x := ⟨_, rfl⟩
  rw [h] at TX rTX
  clear h
  obtain ⟨t2, h⟩ : ∃ x, txE c = x := ⟨_, rfl⟩
  rw [h] at TX rTX w2
  clear h
  obtain ⟨c1, h⟩ : ∃ x, chB c d = x := ⟨_, rfl⟩
  rw [h] at C rC
  clear h
  obtain ⟨c2, h⟩ : ∃ x, chE c d = x := ⟨_, rfl⟩
  rw [h] at C rC w3
  clear h
  obtain ⟨j1, h⟩ : ∃ x, jmN c d = x := ⟨_, rfl⟩
  rw [h] at J rJ
  clear h
  obtain ⟨j2, h⟩ : ∃ x, jmE c d = x := ⟨_, rfl⟩
  rw [h] at J rJ w4
  clear h
  obtain ⟨r1, h⟩ : ∃ x, decide (c < 38) = x := ⟨_, rfl⟩
  rw [h] at R rR
  clear h he hc hd
  go_enter Tryd.func10, Tryd.ntmps10
  go_upto_region 5 with (first | (go_at_call 20; refine (B.out _).mono ?_; rintro e w9 ⟨rfl, rfl⟩) | (go_at_call 19; refine (P.out _).mono ?_; rintro e w9 ⟨rfl, rfl⟩) | (go_at_call 26; refine (rB.out _).mono ?_; rintro e w9 ⟨rfl, hb1⟩) | (go_at_call 27; refine (rP.out _).mono ?_; rintro e w8 ⟨rfl, hb2⟩))
  have zb := hb1.trans (hb2.mono hb1.size)
  clear hb1 hb2
  go_upto_region 6 with (go_at_call 23; refine (TX.out _ zb).mono ?_; rintro e w7 ⟨rfl, rfl⟩)
  go_upto_region 9 with (first | (go_at_call 21; refine (C.out _).mono ?_; rintro e w9 ⟨rfl, rfl⟩) | (go_at_call 28; refine (rTX.out _).mono ?_; rintro e w7 ⟨rfl, hb3⟩) | (go_at_call 29; refine (rC.out _).mono ?_; rintro e w6 ⟨rfl, hb4⟩))
  go_upto_region 11 with (first | (go_at_call 22; refine (J.out _).mono ?_; rintro e w9 ⟨rfl, rfl⟩) | (go_at_call 30; refine (rJ.out _).mono ?_; rintro e w5 ⟨rfl, hb5⟩))
  have zb4 := ((zb.trans (hb3.mono zb.size)))
  have zb5 := zb4.trans (hb4.mono zb4.size)
  have zb6 := zb5.trans (hb5.mono zb5.size)
  clear zb hb3 hb4 hb5 zb4 zb5 B P TX C J rB rP rTX rC rJ
  clear w1 w2 w3 w4
  go_wp2_with (first | (go_at_call 24; refine (R.out _).mono ?_; rintro e w9 ⟨rfl, rfl⟩) | (go_at_call 31; refine (rR.out _).mono ?_; rintro e w4 ⟨rfl, hb6⟩))
  refine bodyPost_ret (by simp [results, Tryd.results10, go_sem]) rfl ⟨rfl, ?_⟩
  exact zb6.trans (hb6.mono zb6.size)
theorem callTells_walk (c d : Int) (hc : 0 ≤ c ∧ c ≤ 255) (hd : 0 ≤ d ∧ d ≤ 255) (w : World) (he : Env w) : Calls Tryd.prog 3 #[.int .u8 c, .int .u8 d] w fun e w' => e = .returned (.bool true) ∧ Below w.heap.size w w' := by
  obtain ⟨c, rfl⟩ : ∃ n : Nat, c = n := ⟨c.toNat, by omega⟩
  obtain ⟨d, rfl⟩ : ∃ n : Nat, d = n := ⟨d.toNat, by omega⟩
  have T := Lib.hid (tells_calls c d (by omega) (by omega) w he)
  have A := Lib.hid (fun W (hb : Below w.heap.size w W) => awake_calls W (he.below hb))
  clear he
  go_enter Tryd.func3, Tryd.ntmps3
  go_wp2_with (first | (go_at_call 10; refine T.out.mono ?_; rintro e w9 ⟨rfl, hb⟩) | (go_at_call 11; refine (A.out _ hb).mono ?_; rintro e w8 ⟨rfl, hb2⟩))
  refine bodyPost_ret (by simp [results, Tryd.results3, go_sem]) rfl ⟨rfl, ?_⟩
  exact hb.trans (hb2.mono hb.size)
end Go.Proofs.YtblmdnmnodogiaaDoor
