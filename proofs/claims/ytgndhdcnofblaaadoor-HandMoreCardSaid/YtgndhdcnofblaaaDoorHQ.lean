/- HandMore: the walk. -/
import Derived.Test.YtgndhdcnofblaaaDoorHQ0
import Derived.Deep.RegionWith
namespace Go.Proofs.YtgndhdcnofblaaaDoor
open Go.RowKit

set_option maxRecDepth 100000 in
set_option maxHeartbeats 8000000 in
theorem handMore_0 (a0 a1 : Int) (M c : Nat) (hM : M < 4503599627370496) (hc : c < 52) (hs : c / 13 = 0) (h0 : a0.tmod 4503599627370496 = (M : Int)) (h1 : a1.tmod 52 = (c : Int)) (w : World) :
    Calls Tryd.prog 7 #[.int .u64 a0, .int .u8 a1] w fun e w' => e = .returned (.bool true) ∧ Below w.heap.size w w' := by
  have hML := clr_le M c
  have hMM := mor_lt hM hc
  have k1 := clr_num M c (by omega) (by omega)
  have k2 : bits .or .u64 (clr M c : Int) ((2 ^ c : Nat) : Int) = (mor M c : Int) := u64_or_nat (clr M c) (2 ^ c) (by omega) (by have : 2 ^ c < 2 ^ 64 := Nat.pow_lt_pow_right (by decide) (by omega); omega)
  have hmn : min c 64 = c := by omega
  have S1 := shape_calls (clr M c) (by omega)
  have S2 := shape_calls (mor M c) (by omega)
  have P1 := points_calls (mor M c) (by omega)
  have P2 := points_calls (clr M c) (by omega)
  have C1 := controls_calls (mor M c) (by omega)
  have C2 := controls_calls (clr M c) (by omega)
  have Q1 := quickT (mor M c) (by omega)
  have Q2 := quickT (clr M c) (by omega)
  have H1 : ∀ w, Calls Tryd.prog 12 #[.int .u64 (mor M c : Nat), .int .u8 0] w fun e w' => e = .returned (.int .u16 (hol (mor M c) 0)) ∧ w = w' := holding_yes (mor M c) 0 (by omega) (by decide)
  have H2 : ∀ w, Calls Tryd.prog 12 #[.int .u64 (clr M c : Nat), .int .u8 0] w fun e w' => e = .returned (.int .u16 (hol (clr M c) 0)) ∧ w = w' := holding_yes (clr M c) 0 (by omega) (by decide)
  have AW := Lib.hid awake_calls
  have om := one_more (hol (clr M c) (c / 13)) (c % 13) (Nat.mod_lt _ (by decide)) (clr_bit0 M c hM hc)
  rw [← hol_mine hM hc] at om
  have tp := tot_more pts hM hc _ om.1
  have tc := tot_more ctl hM hc _ om.2.1
  have tq := tot_le qck hM hc om.2.2.2
  have tl := om.2.2.1
  have hm := hol_mine hM hc
  have ho := fun s (hs : s ≠ c / 13) => hol_other (s := s) hM hc hs
  rw [hs] at tl hm ho
  have lp : ∀ m, tot pts m ≤ 40 := fun m => by unfold tot; have := pts_le (hol m 0); have := pts_le (hol m 1); have := pts_le (hol m 2); have := pts_le (hol m 3); omega
  have lc : ∀ m, tot ctl m ≤ 12 := fun m => by unfold tot; have := ctl_le (hol m 0); have := ctl_le (hol m 1); have := ctl_le (hol m 2); have := ctl_le (hol m 3); omega
  have lp := lp (clr M c)
  have lc := lc (clr M c)
  have ll := len_le (hol (clr M c) 0)
  have lh := hol_lt (clr M c) 0
  have hr : c % 13 < 13 := Nat.mod_lt _ (by decide)
  have hcr : (c : Int).tmod 13 = ((c % 13 : Nat) : Int) := by rw [Int.tmod_eq_emod_of_nonneg (by omega)]; omega
  have hcs : (c : Int).tdiv 13 = 0 := by rw [Int.tdiv_eq_ediv_of_nonneg (by omega)]; omega
  unfold shp at S1 S2
  rw [ho 1 (by decide), ho 2 (by decide), ho 3 (by decide), tl] at S2
  clear ho om tl hs
  obtain ⟨n0, hn0⟩ : ∃ n, len (hol (clr M c) 0) = n := ⟨_, rfl⟩
  obtain ⟨n1, hn1⟩ : ∃ n, len (hol (clr M c) 1) = n := ⟨_, rfl⟩
  obtain ⟨n2, hn2⟩ : ∃ n, len (hol (clr M c) 2) = n := ⟨_, rfl⟩
  obtain ⟨n3, hn3⟩ : ∃ n, len (hol (clr M c) 3) = n := ⟨_, rfl⟩
  rw [hn0, hn1, hn2, hn3] at S1 S2
  rw [hn0] at ll
  clear hn0 hn1 hn2 hn3
  obtain ⟨q, hq⟩ : ∃ q, n0 + 1 = q := ⟨_, rfl⟩
  rw [hq] at S2
  have e1 : IntKind.i64.wrap ((n0 : Int) + 1) = (q : Int) := by rw [IntWalk.i64_in _ (by omega)]; omega
  obtain ⟨r, hr2⟩ : ∃ r, c % 13 = r := ⟨_, rfl⟩
  rw [hr2] at hcr hr hm tp tc
  have e2 : IntKind.u8.wrap (r : Int) = r := by rw [IntKind.wrap_u8', Int.emod_eq_of_lt (by omega) (by omega)]
  have e3 : IntKind.i64.wrap ((r : Int) - 8) = (r : Int) - 8 := IntWalk.i64_in _ (by omega)
  have e4 : max ((r : Int) - 8) 0 = ((r - 8 : Nat) : Int) := by omega
  have e5 : IntKind.i64.wrap ((r : Int) - 10) = (r : Int) - 10 := IntWalk.i64_in _ (by omega)
  have e6 : max ((r : Int) - 10) 0 = ((r - 10 : Nat) : Int) := by omega
  obtain ⟨x8, hx8⟩ : ∃ x, (r : Int) - 8 = x := ⟨_, rfl⟩
  obtain ⟨x10, hx10⟩ : ∃ x, (r : Int) - 10 = x := ⟨_, rfl⟩
  obtain ⟨y8, hy8⟩ : ∃ x, r - 8 = x := ⟨_, rfl⟩
  obtain ⟨y10, hy10⟩ : ∃ x, r - 10 = x := ⟨_, rfl⟩
  rw [hx8] at e3 e4
  rw [hx10] at e5 e6
  rw [hy8] at e4 tp
  rw [hy10] at e6 tc
  have hr13 := hr
  have f1 : IntKind.u16.wrap ((2 : Int) ^ r) = ((2 ^ r : Nat) : Int) := by
    have h2 : 2 ^ r < 2 ^ 13 := Nat.pow_lt_pow_right (by decide) hr
    have e : ((2 : Int) ^ r) = ((2 ^ r : Nat) : Int) := by simp
    rw [e, IntKind.wrap_u16]
    generalize 2 ^ r = p at h2
    omega
  have f2 : bits .or .u16 (hol (clr M c) 0 : Int) ((2 ^ r : Nat) : Int) = (hol (mor M c) 0 : Int) := by
    have h2 : 2 ^ r < 2 ^ 13 := Nat.pow_lt_pow_right (by decide) hr
    rw [hm]
    exact u16_or_nat _ _ (by omega) (by omega)
  have hmn2 : min r 16 = r := by omega
  clear hr2 hq hm hr13 hc hM lh ll
  obtain ⟨u, hu⟩ : ∃ u, 2 ^ r = u := ⟨_, rfl⟩
  rw [hu] at f1 f2
  obtain ⟨v, hv⟩ : ∃ u, 2 ^ c = u := ⟨_, rfl⟩
  rw [hv] at k1 k2
  obtain ⟨k0, k1⟩ := k1
  obtain ⟨L, hL⟩ : ∃ L, clr M c = L := ⟨_, rfl⟩
  obtain ⟨MO, hMO⟩ : ∃ L, mor M c = L := ⟨_, rfl⟩
  rw [hL] at k1 k2 P2 C2 Q2 S1 H2 tp tc tq lp lc f2
  rw [hMO] at k2 P1 C1 Q1 S2 H1 tp tc tq f2
  obtain ⟨ph, hph⟩ : ∃ x, hol L 0 = x := ⟨_, rfl⟩
  obtain ⟨pg, hpg⟩ : ∃ x, hol MO 0 = x := ⟨_, rfl⟩
  rw [hph] at H2 f2
  rw [hpg] at H1 f2
  rw [tp] at P1
  rw [tc] at C1
  obtain ⟨pl, hpl⟩ : ∃ x, tot pts L = x := ⟨_, rfl⟩
  obtain ⟨cl, hcl⟩ : ∃ x, tot ctl L = x := ⟨_, rfl⟩
  obtain ⟨ql, hql⟩ : ∃ x, tot qck L = x := ⟨_, rfl⟩
  obtain ⟨qm, hqm⟩ : ∃ x, tot qck MO = x := ⟨_, rfl⟩
  rw [hpl] at P1 P2 lp
  rw [hcl] at C1 C2 lc
  rw [hql] at Q2 tq
  rw [hqm] at Q1 tq
  have g1 : IntKind.i64.wrap ((pl : Int) + y8) = ((pl + y8 : Nat) : Int) := by rw [IntWalk.i64_in _ (by omega)]; omega
  have g2 : IntKind.i64.wrap ((cl : Int) + y10) = ((cl + y10 : Nat) : Int) := by rw [IntWalk.i64_in _ (by omega)]; omega
  have g3n : ql ≤ qm := tq
  have g3 : decide ((qm : Int) ≥ (ql : Int)) = true := decide_eq_true (by omega)
  obtain ⟨pm, hpm⟩ : ∃ x, pl + y8 = x := ⟨_, rfl⟩
  obtain ⟨cm, hcm⟩ : ∃ x, cl + y10 = x := ⟨_, rfl⟩
  rw [hpm] at P1 g1
  rw [hcm] at C1 g2
  have S1 := Lib.hid S1
  have S2 := Lib.hid S2
  have P1 := Lib.hid P1
  have P2 := Lib.hid P2
  have C1 := Lib.hid C1
  have C2 := Lib.hid C2
  have Q1 := Lib.hid Q1
  have Q2 := Lib.hid Q2
  have H1 := Lib.hid H1
  have H2 := Lib.hid H2
  have eqa := eqI4 q n1 n2 n3 q n1 n2 n3
  simp only [and_self, decide_true] at eqa
  clear hML hMM tp tc tq lp lc hu hv hL hMO hph hpg hpl hcl hql hqm hpm hcm hy8 hy10 hr
  go_enter Tryd.func7, Tryd.ntmps7
  go_upto_region 7 with (first | (go_at_call_of 26 (Value.int .u64 L); refine (S1.out _).mono ?_; rintro e w1 ⟨rfl, hbel⟩; obtain ⟨o1, j1, rfl⟩ := grow_of_below hbel; clear hbel) | (go_at_call_of 26 (Value.int .u64 MO); refine (S2.out _).mono ?_; rintro e w1 ⟨rfl, hbel⟩; obtain ⟨o2, j2, rfl⟩ := grow_of_below hbel; clear hbel))
  generalize hW : World.alloc (World.alloc _ _) _ = W
  have bel : Below w.heap.size w W := by rw [← hW]; repeat (first | (with_reducible exact Below.refl _ _) | ((with_reducible refine below_grow ?_ ?_); rotate_left; focus (first | omega | (simp [go_sem]; done) | (simp [go_sem]; omega))) | ((with_reducible refine Below.alloc ?_ ?_ _); rotate_left; focus (first | omega | (simp [go_sem]; done) | (simp [go_sem]; omega))) | ((with_reducible refine Below.setCell ?_ ?_ _); rotate_left; focus (first | omega | (simp [go_sem]; done) | (simp [go_sem]; omega))) | (with_reducible refine Below.drew ?_) | (with_reducible refine below_drewN _ ?_))
  have hlt : w.heap.size + sz (o1 ++ o2) + 1 < W.heap.size := by rw [← hW]; simp [go_sem]
  have ca0 : W.cell? ⟨w.heap.size + sz (o1 ++ o2), 0, none⟩ = some (.int .i64 q) := by rw [← hW]; simp [go_sem]
  have ca1 : W.cell? ⟨w.heap.size + sz (o1 ++ o2), 1, none⟩ = some (.int .i64 n1) := by rw [← hW]; simp [go_sem]
  have ca2 : W.cell? ⟨w.heap.size + sz (o1 ++ o2), 2, none⟩ = some (.int .i64 n2) := by rw [← hW]; simp [go_sem]
  have ca3 : W.cell? ⟨w.heap.size + sz (o1 ++ o2), 3, none⟩ = some (.int .i64 n3) := by rw [← hW]; simp [go_sem]
  have cb0 : W.cell? ⟨w.heap.size + sz (o1 ++ o2) + 1, 0, none⟩ = some (.int .i64 q) := by rw [← hW]; simp [go_sem]
  have cb1 : W.cell? ⟨w.heap.size + sz (o1 ++ o2) + 1, 1, none⟩ = some (.int .i64 n1) := by rw [← hW]; simp [go_sem]
  have cb2 : W.cell? ⟨w.heap.size + sz (o1 ++ o2) + 1, 2, none⟩ = some (.int .i64 n2) := by rw [← hW]; simp [go_sem]
  have cb3 : W.cell? ⟨w.heap.size + sz (o1 ++ o2) + 1, 3, none⟩ = some (.int .i64 n3) := by rw [← hW]; simp [go_sem]
  clear hW
  generalize hA : w.heap.size + sz (o1 ++ o2) = A at *
  clear S1 S2 k0 k1 k2 hcr hcs e1 h0 h1 hmn lp lc
  haveI i1 : NeZero (inW A W) := inW_mk (by omega)
  haveI i2 : NeZero (inW (A + 1) W) := inW_mk hlt
  refine wp_region_any (by kernel_rfl) ?_
  change wpAny _ _ _ _ _ _ _ (World.drew _)
  refine wpAny_take (i := 0) (v := ?v0k1) rfl (by kernel_rfl) (by kernel_rfl) (by kernel_rfl) (fun _ _ _ h => h) (Or.inl ⟨by rfl, ?y0k1⟩) ?r0k1
  case y0k1 => intro W; go_simp; try with_reducible rfl
  go_simp
  refine wpAny_take (i := 2) (v := ?v2k2) rfl (by kernel_rfl) (by kernel_rfl) (by kernel_rfl) (fun _ _ _ h => h) (Or.inl ⟨by rfl, ?y2k2⟩) ?r2k2
  case y2k2 => intro W; go_simp; try with_reducible rfl
  go_simp
  refine wpAny_take (i := 4) (v := ?v4k3) rfl (by kernel_rfl) (by kernel_rfl) (by kernel_rfl) (fun _ _ _ h => h) (Or.inl ⟨by rfl, ?y4k3⟩) ?r4k3
  case y4k3 => intro W; go_simp; try with_reducible rfl
  go_simp
  refine wpAny_take (i := 5) (v := ?v5k4) rfl (by kernel_rfl) (by kernel_rfl) (by kernel_rfl) (fun _ _ _ h => h) (Or.inl ⟨by rfl, ?y5k4⟩) ?r5k4
  case y5k4 => intro W; go_simp; try with_reducible rfl
  go_simp
  refine wpAny_take (i := 6) (v := ?v6k5) rfl (by kernel_rfl) (by kernel_rfl) (by kernel_rfl) (fun _ _ _ h => h) (Or.inl ⟨by rfl, ?y6k5⟩) ?r6k5
  case y6k5 => intro W; go_simp; try with_reducible rfl
  go_simp
  refine wpAny_ready (rs := [1]) (by kernel_rfl) (by simp) ?_
  refine AllReady.cons rfl (fun K hK => ?_) AllReady.nil
  go_simp
  go_at_call 19; refine (P1.out _).mono ?_; rintro e w1 ⟨rfl, hbel⟩; obtain ⟨o3, j3, rfl⟩ := grow_of_below hbel; clear hbel
  refine hK _ _ ?_; clear hK K
  refine wpAny_ready (rs := [3]) (by kernel_rfl) (by simp) ?_
  refine AllReady.cons rfl (fun K hK => ?_) AllReady.nil
  go_simp
  go_at_call 19; refine (P2.out _).mono ?_; rintro e w1 ⟨rfl, hbel⟩; obtain ⟨o4, j4, rfl⟩ := grow_of_below hbel; clear hbel
  refine hK _ _ ?_; clear hK K
  refine wpAny_take (i := 7) (v := ?v7k6) rfl (by kernel_rfl) (by kernel_rfl) (by kernel_rfl) (fun _ _ _ h => h) (Or.inl ⟨by rfl, ?y7k6⟩) ?r7k6
  case y7k6 => intro W; go_simp; try with_reducible rfl
  go_simp
  refine wpAny_take (i := 8) (v := ?v8k7) rfl (by kernel_rfl) (by kernel_rfl) (by kernel_rfl) (fun _ _ _ h => h) (Or.inl ⟨by rfl, ?y8k7⟩) ?r8k7
  case y8k7 => intro W; go_simp; try with_reducible rfl
  go_simp
  refine wpAny_take (i := 9) (v := ?v9k8) rfl (by kernel_rfl) (by kernel_rfl) (by kernel_rfl) (fun _ _ _ h => h) (Or.inl ⟨by rfl, ?y9k8⟩) ?r9k8
  case y9k8 => intro W; go_simp; try with_reducible rfl
  go_simp
  refine wpAny_take (i := 10) (v := ?v10k9) rfl (by kernel_rfl) (by kernel_rfl) (by kernel_rfl) (fun _ _ _ h => h) (Or.inl ⟨by rfl, ?y10k9⟩) ?r10k9
  case y10k9 => intro W; go_simp; try with_reducible rfl
  go_simp
  refine wpAny_take (i := 12) (v := ?v12k10) rfl (by kernel_rfl) (by kernel_rfl) (by kernel_rfl) (fun _ _ _ h => h) (Or.inl ⟨by rfl, ?y12k10⟩) ?r12k10
  case y12k10 => intro W; go_simp; try with_reducible rfl
  go_simp
  refine wpAny_take (i := 14) (v := ?v14k11) rfl (by kernel_rfl) (by kernel_rfl) (by kernel_rfl) (fun _ _ _ h => h) (Or.inl ⟨by rfl, ?y14k11⟩) ?r14k11
  case y14k11 => intro W; go_simp; try with_reducible rfl
  go_simp
  refine wpAny_take (i := 15) (v := ?v15k12) rfl (by kernel_rfl) (by kernel_rfl) (by kernel_rfl) (fun _ _ _ h => h) (Or.inl ⟨by rfl, ?y15k12⟩) ?r15k12
  case y15k12 => intro W; go_simp; try with_reducible rfl
  go_simp
  refine wpAny_take (i := 16) (v := ?v16k13) rfl (by kernel_rfl) (by kernel_rfl) (by kernel_rfl) (fun _ _ _ h => h) (Or.inl ⟨by rfl, ?y16k13⟩) ?r16k13
  case y16k13 => intro W; go_simp; try with_reducible rfl
  go_simp
  refine wpAny_ready (rs := [11]) (by kernel_rfl) (by simp) ?_
  refine AllReady.cons rfl (fun K hK => ?_) AllReady.nil
  go_simp
  go_at_call 20; refine (C1.out _).mono ?_; rintro e w1 ⟨rfl, hbel⟩; obtain ⟨o5, j5, rfl⟩ := grow_of_below hbel; clear hbel
  refine hK _ _ ?_; clear hK K
  refine wpAny_ready (rs := [13]) (by kernel_rfl) (by simp) ?_
  refine AllReady.cons rfl (fun K hK => ?_) AllReady.nil
  go_simp
  go_at_call 20; refine (C2.out _).mono ?_; rintro e w1 ⟨rfl, hbel⟩; obtain ⟨o6, j6, rfl⟩ := grow_of_below hbel; clear hbel
  refine hK _ _ ?_; clear hK K
  refine wpAny_take (i := 17) (v := ?v17k14) rfl (by kernel_rfl) (by kernel_rfl) (by kernel_rfl) (fun _ _ _ h => h) (Or.inl ⟨by rfl, ?y17k14⟩) ?r17k14
  case y17k14 => intro W; go_simp; try with_reducible rfl
  go_simp
  refine wpAny_take (i := 18) (v := ?v18k15) rfl (by kernel_rfl) (by kernel_rfl) (by kernel_rfl) (fun _ _ _ h => h) (Or.inl ⟨by rfl, ?y18k15⟩) ?r18k15
  case y18k15 => intro W; go_simp; try with_reducible rfl
  go_simp
  refine wpAny_take (i := 19) (v := ?v19k16) rfl (by kernel_rfl) (by kernel_rfl) (by kernel_rfl) (fun _ _ _ h => h) (Or.inl ⟨by rfl, ?y19k16⟩) ?r19k16
  case y19k16 => intro W; go_simp; try with_reducible rfl
  go_simp
  refine wpAny_take (i := 20) (v := ?v20k17) rfl (by kernel_rfl) (by kernel_rfl) (by kernel_rfl) (fun _ _ _ h => h) (Or.inl ⟨by rfl, ?y20k17⟩) ?r20k17
  case y20k17 => intro W; go_simp; try with_reducible rfl
  go_simp
  refine wpAny_take (i := 21) (v := ?v21k18) rfl (by kernel_rfl) (by kernel_rfl) (by kernel_rfl) (fun _ _ _ h => h) (Or.inl ⟨by rfl, ?y21k18⟩) ?r21k18
  case y21k18 => intro W; go_simp; try with_reducible rfl
  go_simp
  refine wpAny_take (i := 23) (v := ?v23k19) rfl (by kernel_rfl) (by kernel_rfl) (by kernel_rfl) (fun _ _ _ h => h) (Or.inl ⟨by rfl, ?y23k19⟩) ?r23k19
  case y23k19 => intro W; go_simp; try with_reducible rfl
  go_simp
  refine wpAny_ready (rs := [22]) (by kernel_rfl) (by simp) ?_
  refine AllReady.cons rfl (fun K hK => ?_) AllReady.nil
  go_simp
  go_at_call 22; refine (Q1.out _).mono ?_; rintro e w1 ⟨rfl, hbel⟩; obtain ⟨o7, j7, rfl⟩ := grow_of_below hbel; clear hbel
  refine hK _ _ ?_; clear hK K
  refine wpAny_ready (rs := [24]) (by kernel_rfl) (by simp) ?_
  refine AllReady.cons rfl (fun K hK => ?_) AllReady.nil
  go_simp
  go_at_call 22; refine (Q2.out _).mono ?_; rintro e w1 ⟨rfl, hbel⟩; obtain ⟨o8, j8, rfl⟩ := grow_of_below hbel; clear hbel
  refine hK _ _ ?_; clear hK K
  refine wpAny_take (i := 25) (v := ?v25k20) rfl (by kernel_rfl) (by kernel_rfl) (by kernel_rfl) (fun _ _ _ h => h) (Or.inl ⟨by rfl, ?y25k20⟩) ?r25k20
  case y25k20 => intro W; go_simp; try with_reducible rfl
  go_simp
  refine wpAny_take (i := 26) (v := ?v26k21) rfl (by kernel_rfl) (by kernel_rfl) (by kernel_rfl) (fun _ _ _ h => h) (Or.inl ⟨by rfl, ?y26k21⟩) ?r26k21
  case y26k21 => intro W; go_simp; try with_reducible rfl
  go_simp
  refine wpAny_take (i := 27) (v := ?v27k22) rfl (by kernel_rfl) (by kernel_rfl) (by kernel_rfl) (fun _ _ _ h => h) (Or.inl ⟨by rfl, ?y27k22⟩) ?r27k22
  case y27k22 => intro W; go_simp; try with_reducible rfl
  go_simp
  refine wpAny_ready (rs := [28, 29]) (by kernel_rfl) (by simp) ?_
  refine AllReady.cons rfl (fun K hK => ?_) ?_
  · skip
    go_simp
    refine hK _ _ ?_; clear hK K
    refine wpAny_ready (rs := [29]) (by kernel_rfl) (by simp) ?_
    refine AllReady.cons rfl (fun K hK => ?_) AllReady.nil
    go_simp
    refine hK _ _ ?_; clear hK K
    refine wpAny_take (i := 30) (v := ?v30k23) rfl (by kernel_rfl) (by kernel_rfl) (by kernel_rfl) (fun _ _ _ h => h) (Or.inl ⟨by rfl, ?y30k23⟩) ?r30k23
    case y30k23 => intro W; go_simp; try with_reducible rfl
    go_simp
    refine wpAny_take (i := 31) (v := ?v31k24) rfl (by kernel_rfl) (by kernel_rfl) (by kernel_rfl) (fun _ _ _ h => h) (Or.inl ⟨by rfl, ?y31k24⟩) ?r31k24
    case y31k24 => intro W; go_simp; try with_reducible rfl
    go_simp
    refine wpAny_take (i := 32) (v := ?v32k25) rfl (by kernel_rfl) (by kernel_rfl) (by kernel_rfl) (fun _ _ _ h => h) (Or.inl ⟨by rfl, ?y32k25⟩) ?r32k25
    case y32k25 => intro W; go_simp; try with_reducible rfl
    go_simp
    refine wpAny_take (i := 33) (v := ?v33k26) rfl (by kernel_rfl) (by kernel_rfl) (by kernel_rfl) (fun _ _ _ h => h) (Or.inl ⟨by rfl, ?y33k26⟩) ?r33k26
    case y33k26 => intro W; go_simp; try with_reducible rfl
    go_simp
    refine wpAny_take (i := 34) (v := ?v34k27) rfl (by kernel_rfl) (by kernel_rfl) (by kernel_rfl) (fun _ _ _ h => h) (Or.inl ⟨by rfl, ?y34k27⟩) ?r34k27
    case y34k27 => intro W; go_simp; try with_reducible rfl
    go_simp
    refine wpAny_take (i := 36) (v := ?v36k28) rfl (by kernel_rfl) (by kernel_rfl) (by kernel_rfl) (fun _ _ _ h => h) (Or.inl ⟨by rfl, ?y36k28⟩) ?r36k28
    case y36k28 => intro W; go_simp; try with_reducible rfl
    go_simp
    refine wpAny_take (i := 37) (v := ?v37k29) rfl (by kernel_rfl) (by kernel_rfl) (by kernel_rfl) (fun _ _ _ h => h) (Or.inl ⟨by rfl, ?y37k29⟩) ?r37k29
    case y37k29 => intro W; go_simp; try with_reducible rfl
    go_simp
    refine wpAny_take (i := 39) (v := ?v39k30) rfl (by kernel_rfl) (by kernel_rfl) (by kernel_rfl) (fun _ _ _ h => h) (Or.inl ⟨by rfl, ?y39k30⟩) ?r39k30
    case y39k30 => intro W; go_simp; try with_reducible rfl
    go_simp
    refine wpAny_take (i := 40) (v := ?v40k31) rfl (by kernel_rfl) (by kernel_rfl) (by kernel_rfl) (fun _ _ _ h => h) (Or.inl ⟨by rfl, ?y40k31⟩) ?r40k31
    case y40k31 => intro W; go_simp; try with_reducible rfl
    go_simp
    refine wpAny_ready (rs := [35]) (by kernel_rfl) (by simp) ?_
    refine AllReady.cons rfl (fun K hK => ?_) AllReady.nil
    go_simp
    go_at_call 12; refine (H1.out _).mono ?_; rintro e w1 ⟨rfl, rfl⟩
    refine hK _ _ ?_; clear hK K
    refine wpAny_ready (rs := [38]) (by kernel_rfl) (by simp) ?_
    refine AllReady.cons rfl (fun K hK => ?_) AllReady.nil
    go_simp
    go_at_call 12; refine (H2.out _).mono ?_; rintro e w1 ⟨rfl, rfl⟩
    refine hK _ _ ?_; clear hK K
    refine wpAny_take (i := 41) (v := ?v41k32) rfl (by kernel_rfl) (by kernel_rfl) (by kernel_rfl) (fun _ _ _ h => h) (Or.inl ⟨by rfl, ?y41k32⟩) ?r41k32
    case y41k32 => intro W; go_simp; try with_reducible rfl
    go_simp
    refine wpAny_take (i := 42) (v := ?v42k33) rfl (by kernel_rfl) (by kernel_rfl) (by kernel_rfl) (fun _ _ _ h => h) (Or.inl ⟨by rfl, ?y42k33⟩) ?r42k33
    case y42k33 => intro W; go_simp; try with_reducible rfl
    go_simp
    refine wpAny_take (i := 43) (v := ?v43k34) rfl (by kernel_rfl) (by kernel_rfl) (by kernel_rfl) (fun _ _ _ h => h) (Or.inl ⟨by rfl, ?y43k34⟩) ?r43k34
    case y43k34 => intro W; go_simp; try with_reducible rfl
    go_simp
    refine wpAny_take (i := 44) (v := ?v44k35) rfl (by kernel_rfl) (by kernel_rfl) (by kernel_rfl) (fun _ _ _ h => h) (Or.inl ⟨by rfl, ?y44k35⟩) ?r44k35
    case y44k35 => intro W; go_simp; try with_reducible rfl
    go_simp
    refine wpAny_ready (rs := [45]) (by kernel_rfl) (by simp) ?_
    refine AllReady.cons rfl (fun K hK => ?_) AllReady.nil
    go_simp
    go_at_call 14; refine (AW.out _).mono ?_; rintro e w1 ⟨rfl, hbel⟩; obtain ⟨o9, j9, rfl⟩ := grow_of_below hbel; clear hbel
    refine hK _ _ ?_; clear hK K
    refine wpAny_take (i := 46) (v := ?v46k36) rfl (by kernel_rfl) (by kernel_rfl) (by kernel_rfl) (fun _ _ _ h => h) (Or.inl ⟨by rfl, ?y46k36⟩) ?r46k36
    case y46k36 => intro W; go_simp; try with_reducible rfl
    go_simp
    refine wpAny_take (i := 47) (v := ?v47k37) rfl (by kernel_rfl) (by kernel_rfl) (by kernel_rfl) (fun _ _ _ h => h) (Or.inl ⟨by rfl, ?y47k37⟩) ?r47k37
    case y47k37 => intro W; go_simp; try with_reducible rfl
    go_simp
    refine wpAny_done (by kernel_rfl) ?_ _
    go_wp2
    go_ret
    exact ⟨rfl, by repeat (first | (with_reducible exact bel) | ((with_reducible refine below_grow ?_ ?_); rotate_left; focus (first | omega | (simp [go_sem]; done) | (simp [go_sem]; omega))) | ((with_reducible refine Below.alloc ?_ ?_ _); rotate_left; focus (first | omega | (simp [go_sem]; done) | (simp [go_sem]; omega))) | ((with_reducible refine Below.setCell ?_ ?_ _); rotate_left; focus (first | omega | (simp [go_sem]; done) | (simp [go_sem]; omega))) | (with_reducible refine Below.drew ?_) | (with_reducible refine below_drewN _ ?_))⟩
  refine AllReady.cons rfl (fun K hK => ?_) ?_
  · skip
    go_simp
    refine hK _ _ ?_; clear hK K
    refine wpAny_ready (rs := [28]) (by kernel_rfl) (by simp) ?_
    refine AllReady.cons rfl (fun K hK => ?_) AllReady.nil
    go_simp
    refine hK _ _ ?_; clear hK K
    refine wpAny_take (i := 30) (v := ?v30k38) rfl (by kernel_rfl) (by kernel_rfl) (by kernel_rfl) (fun _ _ _ h => h) (Or.inl ⟨by rfl, ?y30k38⟩) ?r30k38
    case y30k38 => intro W; go_simp; try with_reducible rfl
    go_simp
    refine wpAny_take (i := 31) (v := ?v31k39) rfl (by kernel_rfl) (by kernel_rfl) (by kernel_rfl) (fun _ _ _ h => h) (Or.inl ⟨by rfl, ?y31k39⟩) ?r31k39
    case y31k39 => intro W; go_simp; try with_reducible rfl
    go_simp
    refine wpAny_take (i := 32) (v := ?v32k40) rfl (by kernel_rfl) (by kernel_rfl) (by kernel_rfl) (fun _ _ _ h => h) (Or.inl ⟨by rfl, ?y32k40⟩) ?r32k40
    case y32k40 => intro W; go_simp; try with_reducible rfl
    go_simp
    refine wpAny_take (i := 33) (v := ?v33k41) rfl (by kernel_rfl) (by kernel_rfl) (by kernel_rfl) (fun _ _ _ h => h) (Or.inl ⟨by rfl, ?y33k41⟩) ?r33k41
    case y33k41 => intro W; go_simp; try with_reducible rfl
    go_simp
    refine wpAny_take (i := 34) (v := ?v34k42) rfl (by kernel_rfl) (by kernel_rfl) (by kernel_rfl) (fun _ _ _ h => h) (Or.inl ⟨by rfl, ?y34k42⟩) ?r34k42
    case y34k42 => intro W; go_simp; try with_reducible rfl
    go_simp
    refine wpAny_take (i := 36) (v := ?v36k43) rfl (by kernel_rfl) (by kernel_rfl) (by kernel_rfl) (fun _ _ _ h => h) (Or.inl ⟨by rfl, ?y36k43⟩) ?r36k43
    case y36k43 => intro W; go_simp; try with_reducible rfl
    go_simp
    refine wpAny_take (i := 37) (v := ?v37k44) rfl (by kernel_rfl) (by kernel_rfl) (by kernel_rfl) (fun _ _ _ h => h) (Or.inl ⟨by rfl, ?y37k44⟩) ?r37k44
    case y37k44 => intro W; go_simp; try with_reducible rfl
    go_simp
    refine wpAny_take (i := 39) (v := ?v39k45) rfl (by kernel_rfl) (by kernel_rfl) (by kernel_rfl) (fun _ _ _ h => h) (Or.inl ⟨by rfl, ?y39k45⟩) ?r39k45
    case y39k45 => intro W; go_simp; try with_reducible rfl
    go_simp
    refine wpAny_take (i := 40) (v := ?v40k46) rfl (by kernel_rfl) (by kernel_rfl) (by kernel_rfl) (fun _ _ _ h => h) (Or.inl ⟨by rfl, ?y40k46⟩) ?r40k46
    case y40k46 => intro W; go_simp; try with_reducible rfl
    go_simp
    refine wpAny_ready (rs := [35]) (by kernel_rfl) (by simp) ?_
    refine AllReady.cons rfl (fun K hK => ?_) AllReady.nil
    go_simp
    go_at_call 12; refine (H1.out _).mono ?_; rintro e w1 ⟨rfl, rfl⟩
    refine hK _ _ ?_; clear hK K
    refine wpAny_ready (rs := [38]) (by kernel_rfl) (by simp) ?_
    refine AllReady.cons rfl (fun K hK => ?_) AllReady.nil
    go_simp
    go_at_call 12; refine (H2.out _).mono ?_; rintro e w1 ⟨rfl, rfl⟩
    refine hK _ _ ?_; clear hK K
    refine wpAny_take (i := 41) (v := ?v41k47) rfl (by kernel_rfl) (by kernel_rfl) (by kernel_rfl) (fun _ _ _ h => h) (Or.inl ⟨by rfl, ?y41k47⟩) ?r41k47
    case y41k47 => intro W; go_simp; try with_reducible rfl
    go_simp
    refine wpAny_take (i := 42) (v := ?v42k48) rfl (by kernel_rfl) (by kernel_rfl) (by kernel_rfl) (fun _ _ _ h => h) (Or.inl ⟨by rfl, ?y42k48⟩) ?r42k48
    case y42k48 => intro W; go_simp; try with_reducible rfl
    go_simp
    refine wpAny_take (i := 43) (v := ?v43k49) rfl (by kernel_rfl) (by kernel_rfl) (by kernel_rfl) (fun _ _ _ h => h) (Or.inl ⟨by rfl, ?y43k49⟩) ?r43k49
    case y43k49 => intro W; go_simp; try with_reducible rfl
    go_simp
    refine wpAny_take (i := 44) (v := ?v44k50) rfl (by kernel_rfl) (by kernel_rfl) (by kernel_rfl) (fun _ _ _ h => h) (Or.inl ⟨by rfl, ?y44k50⟩) ?r44k50
    case y44k50 => intro W; go_simp; try with_reducible rfl
    go_simp
    refine wpAny_ready (rs := [45]) (by kernel_rfl) (by simp) ?_
    refine AllReady.cons rfl (fun K hK => ?_) AllReady.nil
    go_simp
    go_at_call 14; refine (AW.out _).mono ?_; rintro e w1 ⟨rfl, hbel⟩; obtain ⟨o9, j9, rfl⟩ := grow_of_below hbel; clear hbel
    refine hK _ _ ?_; clear hK K
    refine wpAny_take (i := 46) (v := ?v46k51) rfl (by kernel_rfl) (by kernel_rfl) (by kernel_rfl) (fun _ _ _ h => h) (Or.inl ⟨by rfl, ?y46k51⟩) ?r46k51
    case y46k51 => intro W; go_simp; try with_reducible rfl
    go_simp
    refine wpAny_take (i := 47) (v := ?v47k52) rfl (by kernel_rfl) (by kernel_rfl) (by kernel_rfl) (fun _ _ _ h => h) (Or.inl ⟨by rfl, ?y47k52⟩) ?r47k52
    case y47k52 => intro W; go_simp; try with_reducible rfl
    go_simp
    refine wpAny_done (by kernel_rfl) ?_ _
    go_wp2
    go_ret
    exact ⟨rfl, by repeat (first | (with_reducible exact bel) | ((with_reducible refine below_grow ?_ ?_); rotate_left; focus (first | omega | (simp [go_sem]; done) | (simp [go_sem]; omega))) | ((with_reducible refine Below.alloc ?_ ?_ _); rotate_left; focus (first | omega | (simp [go_sem]; done) | (simp [go_sem]; omega))) | ((with_reducible refine Below.setCell ?_ ?_ _); rotate_left; focus (first | omega | (simp [go_sem]; done) | (simp [go_sem]; omega))) | (with_reducible refine Below.drew ?_) | (with_reducible refine below_drewN _ ?_))⟩
  exact AllReady.nil
set_option maxRecDepth 100000 in
set_option maxHeartbeats 8000000 in
theorem handMore_1 (a0 a1 : Int) (M c : Nat) (hM : M < 4503599627370496) (hc : c < 52) (hs : c / 13 = 1) (h0 : a0.tmod 4503599627370496 = (M : Int)) (h1 : a1.tmod 52 = (c : Int)) (w : World) :
    Calls Tryd.prog 7 #[.int .u64 a0, .int .u8 a1] w fun e w' => e = .returned (.bool true) ∧ Below w.heap.size w w' := by
  have hML := clr_le M c
  have hMM := mor_lt hM hc
  have k1 := clr_num M c (by omega) (by omega)
  have k2 : bits .or .u64 (clr M c : Int) ((2 ^ c : Nat) : Int) = (mor M c : Int) := u64_or_nat (clr M c) (2 ^ c) (by omega) (by have : 2 ^ c < 2 ^ 64 := Nat.pow_lt_pow_right (by decide) (by omega); omega)
  have hmn : min c 64 = c := by omega
  have S1 := shape_calls (clr M c) (by omega)
  have S2 := shape_calls (mor M c) (by omega)
  have P1 := points_calls (mor M c) (by omega)
  have P2 := points_calls (clr M c) (by omega)
  have C1 := controls_calls (mor M c) (by omega)
  have C2 := controls_calls (clr M c) (by omega)
  have Q1 := quickT (mor M c) (by omega)
  have Q2 := quickT (clr M c) (by omega)
  have H1 : ∀ w, Calls Tryd.prog 12 #[.int .u64 (mor M c : Nat), .int .u8 1] w fun e w' => e = .returned (.int .u16 (hol (mor M c) 1)) ∧ w = w' := holding_yes (mor M c) 1 (by omega) (by decide)
  have H2 : ∀ w, Calls Tryd.prog 12 #[.int .u64 (clr M c : Nat), .int .u8 1] w fun e w' => e = .returned (.int .u16 (hol (clr M c) 1)) ∧ w = w' := holding_yes (clr M c) 1 (by omega) (by decide)
  have AW := Lib.hid awake_calls
  have om := one_more (hol (clr M c) (c / 13)) (c % 13) (Nat.mod_lt _ (by decide)) (clr_bit0 M c hM hc)
  rw [← hol_mine hM hc] at om
  have tp := tot_more pts hM hc _ om.1
  have tc := tot_more ctl hM hc _ om.2.1
  have tq := tot_le qck hM hc om.2.2.2
  have tl := om.2.2.1
  have hm := hol_mine hM hc
  have ho := fun s (hs : s ≠ c / 13) => hol_other (s := s) hM hc hs
  rw [hs] at tl hm ho
  have lp : ∀ m, tot pts m ≤ 40 := fun m => by unfold tot; have := pts_le (hol m 0); have := pts_le (hol m 1); have := pts_le (hol m 2); have := pts_le (hol m 3); omega
  have lc : ∀ m, tot ctl m ≤ 12 := fun m => by unfold tot; have := ctl_le (hol m 0); have := ctl_le (hol m 1); have := ctl_le (hol m 2); have := ctl_le (hol m 3); omega
  have lp := lp (clr M c)
  have lc := lc (clr M c)
  have ll := len_le (hol (clr M c) 1)
  have lh := hol_lt (clr M c) 1
  have hr : c % 13 < 13 := Nat.mod_lt _ (by decide)
  have hcr : (c : Int).tmod 13 = ((c % 13 : Nat) : Int) := by rw [Int.tmod_eq_emod_of_nonneg (by omega)]; omega
  have hcs : (c : Int).tdiv 13 = 1 := by rw [Int.tdiv_eq_ediv_of_nonneg (by omega)]; omega
  unfold shp at S1 S2
  rw [ho 0 (by decide), ho 2 (by decide), ho 3 (by decide), tl] at S2
  clear ho om tl hs
  obtain ⟨n0, hn0⟩ : ∃ n, len (hol (clr M c) 0) = n := ⟨_, rfl⟩
  obtain ⟨n1, hn1⟩ : ∃ n, len (hol (clr M c) 1) = n := ⟨_, rfl⟩
  obtain ⟨n2, hn2⟩ : ∃ n, len (hol (clr M c) 2) = n := ⟨_, rfl⟩
  obtain ⟨n3, hn3⟩ : ∃ n, len (hol (clr M c) 3) = n := ⟨_, rfl⟩
  rw [hn0, hn1, hn2, hn3] at S1 S2
  rw [hn1] at ll
  clear hn0 hn1 hn2 hn3
  obtain ⟨q, hq⟩ : ∃ q, n1 + 1 = q := ⟨_, rfl⟩
  rw [hq] at S2
  have e1 : IntKind.i64.wrap ((n1 : Int) + 1) = (q : Int) := by rw [IntWalk.i64_in _ (by omega)]; omega
  obtain ⟨r, hr2⟩ : ∃ r, c % 13 = r := ⟨_, rfl⟩
  rw [hr2] at hcr hr hm tp tc
  have e2 : IntKind.u8.wrap (r : Int) = r := by rw [IntKind.wrap_u8', Int.emod_eq_of_lt (by omega) (by omega)]
  have e3 : IntKind.i64.wrap ((r : Int) - 8) = (r : Int) - 8 := IntWalk.i64_in _ (by omega)
  have e4 : max ((r : Int) - 8) 0 = ((r - 8 : Nat) : Int) := by omega
  have e5 : IntKind.i64.wrap ((r : Int) - 10) = (r : Int) - 10 := IntWalk.i64_in _ (by omega)
  have e6 : max ((r : Int) - 10) 0 = ((r - 10 : Nat) : Int) := by omega
  obtain ⟨x8, hx8⟩ : ∃ x, (r : Int) - 8 = x := ⟨_, rfl⟩
  obtain ⟨x10, hx10⟩ : ∃ x, (r : Int) - 10 = x := ⟨_, rfl⟩
  obtain ⟨y8, hy8⟩ : ∃ x, r - 8 = x := ⟨_, rfl⟩
  obtain ⟨y10, hy10⟩ : ∃ x, r - 10 = x := ⟨_, rfl⟩
  rw [hx8] at e3 e4
  rw [hx10] at e5 e6
  rw [hy8] at e4 tp
  rw [hy10] at e6 tc
  have hr13 := hr
  have f1 : IntKind.u16.wrap ((2 : Int) ^ r) = ((2 ^ r : Nat) : Int) := by
    have h2 : 2 ^ r < 2 ^ 13 := Nat.pow_lt_pow_right (by decide) hr
    have e : ((2 : Int) ^ r) = ((2 ^ r : Nat) : Int) := by simp
    rw [e, IntKind.wrap_u16]
    generalize 2 ^ r = p at h2
    omega
  have f2 : bits .or .u16 (hol (clr M c) 1 : Int) ((2 ^ r : Nat) : Int) = (hol (mor M c) 1 : Int) := by
    have h2 : 2 ^ r < 2 ^ 13 := Nat.pow_lt_pow_right (by decide) hr
    rw [hm]
    exact u16_or_nat _ _ (by omega) (by omega)
  have hmn2 : min r 16 = r := by omega
  clear hr2 hq hm hr13 hc hM lh ll
  obtain ⟨u, hu⟩ : ∃ u, 2 ^ r = u := ⟨_, rfl⟩
  rw [hu] at f1 f2
  obtain ⟨v, hv⟩ : ∃ u, 2 ^ c = u := ⟨_, rfl⟩
  rw [hv] at k1 k2
  obtain ⟨k0, k1⟩ := k1
  obtain ⟨L, hL⟩ : ∃ L, clr M c = L := ⟨_, rfl⟩
  obtain ⟨MO, hMO⟩ : ∃ L, mor M c = L := ⟨_, rfl⟩
  rw [hL] at k1 k2 P2 C2 Q2 S1 H2 tp tc tq lp lc f2
  rw [hMO] at k2 P1 C1 Q1 S2 H1 tp tc tq f2
  obtain ⟨ph, hph⟩ : ∃ x, hol L 1 = x := ⟨_, rfl⟩
  obtain ⟨pg, hpg⟩ : ∃ x, hol MO 1 = x := ⟨_, rfl⟩
  rw [hph] at H2 f2
  rw [hpg] at H1 f2
  rw [tp] at P1
  rw [tc] at C1
  obtain ⟨pl, hpl⟩ : ∃ x, tot pts L = x := ⟨_, rfl⟩
  obtain ⟨cl, hcl⟩ : ∃ x, tot ctl L = x := ⟨_, rfl⟩
  obtain ⟨ql, hql⟩ : ∃ x, tot qck L = x := ⟨_, rfl⟩
  obtain ⟨qm, hqm⟩ : ∃ x, tot qck MO = x := ⟨_, rfl⟩
  rw [hpl] at P1 P2 lp
  rw [hcl] at C1 C2 lc
  rw [hql] at Q2 tq
  rw [hqm] at Q1 tq
  have g1 : IntKind.i64.wrap ((pl : Int) + y8) = ((pl + y8 : Nat) : Int) := by rw [IntWalk.i64_in _ (by omega)]; omega
  have g2 : IntKind.i64.wrap ((cl : Int) + y10) = ((cl + y10 : Nat) : Int) := by rw [IntWalk.i64_in _ (by omega)]; omega
  have g3n : ql ≤ qm := tq
  have g3 : decide ((qm : Int) ≥ (ql : Int)) = true := decide_eq_true (by omega)
  obtain ⟨pm, hpm⟩ : ∃ x, pl + y8 = x := ⟨_, rfl⟩
  obtain ⟨cm, hcm⟩ : ∃ x, cl + y10 = x := ⟨_, rfl⟩
  rw [hpm] at P1 g1
  rw [hcm] at C1 g2
  have S1 := Lib.hid S1
  have S2 := Lib.hid S2
  have P1 := Lib.hid P1
  have P2 := Lib.hid P2
  have C1 := Lib.hid C1
  have C2 := Lib.hid C2
  have Q1 := Lib.hid Q1
  have Q2 := Lib.hid Q2
  have H1 := Lib.hid H1
  have H2 := Lib.hid H2
  have eqa := eqI4 n0 q n2 n3 n0 q n2 n3
  simp only [and_self, decide_true] at eqa
  clear hML hMM tp tc tq lp lc hu hv hL hMO hph hpg hpl hcl hql hqm hpm hcm hy8 hy10 hr
  go_enter Tryd.func7, Tryd.ntmps7
  go_upto_region 7 with (first | (go_at_call_of 26 (Value.int .u64 L); refine (S1.out _).mono ?_; rintro e w1 ⟨rfl, hbel⟩; obtain ⟨o1, j1, rfl⟩ := grow_of_below hbel; clear hbel) | (go_at_call_of 26 (Value.int .u64 MO); refine (S2.out _).mono ?_; rintro e w1 ⟨rfl, hbel⟩; obtain ⟨o2, j2, rfl⟩ := grow_of_below hbel; clear hbel))
  generalize hW : World.alloc (World.alloc _ _) _ = W
  have bel : Below w.heap.size w W := by rw [← hW]; repeat (first | (with_reducible exact Below.refl _ _) | ((with_reducible refine below_grow ?_ ?_); rotate_left; focus (first | omega | (simp [go_sem]; done) | (simp [go_sem]; omega))) | ((with_reducible refine Below.alloc ?_ ?_ _); rotate_left; focus (first | omega | (simp [go_sem]; done) | (simp [go_sem]; omega))) | ((with_reducible refine Below.setCell ?_ ?_ _); rotate_left; focus (first | omega | (simp [go_sem]; done) | (simp [go_sem]; omega))) | (with_reducible refine Below.drew ?_) | (with_reducible refine below_drewN _ ?_))
  have hlt : w.heap.size + sz (o1 ++ o2) + 1 < W.heap.size := by rw [← hW]; simp [go_sem]
  have ca0 : W.cell? ⟨w.heap.size + sz (o1 ++ o2), 0, none⟩ = some (.int .i64 n0) := by rw [← hW]; simp [go_sem]
  have ca1 : W.cell? ⟨w.heap.size + sz (o1 ++ o2), 1, none⟩ = some (.int .i64 q) := by rw [← hW]; simp [go_sem]
  have ca2 : W.cell? ⟨w.heap.size + sz (o1 ++ o2), 2, none⟩ = some (.int .i64 n2) := by rw [← hW]; simp [go_sem]
  have ca3 : W.cell? ⟨w.heap.size + sz (o1 ++ o2), 3, none⟩ = some (.int .i64 n3) := by rw [← hW]; simp [go_sem]
  have cb0 : W.cell? ⟨w.heap.size + sz (o1 ++ o2) + 1, 0, none⟩ = some (.int .i64 n0) := by rw [← hW]; simp [go_sem]
  have cb1 : W.cell? ⟨w.heap.size + sz (o1 ++ o2) + 1, 1, none⟩ = some (.int .i64 q) := by rw [← hW]; simp [go_sem]
  have cb2 : W.cell? ⟨w.heap.size + sz (o1 ++ o2) + 1, 2, none⟩ = some (.int .i64 n2) := by rw [← hW]; simp [go_sem]
  have cb3 : W.cell? ⟨w.heap.size + sz (o1 ++ o2) + 1, 3, none⟩ = some (.int .i64 n3) := by rw [← hW]; simp [go_sem]
  clear hW
  generalize hA : w.heap.size + sz (o1 ++ o2) = A at *
  clear S1 S2 k0 k1 k2 hcr hcs e1 h0 h1 hmn lp lc
  haveI i1 : NeZero (inW A W) := inW_mk (by omega)
  haveI i2 : NeZero (inW (A + 1) W) := inW_mk hlt
  refine wp_region_any (by kernel_rfl) ?_
  change wpAny _ _ _ _ _ _ _ (World.drew _)
  refine wpAny_take (i := 0) (v := ?v0k1) rfl (by kernel_rfl) (by kernel_rfl) (by kernel_rfl) (fun _ _ _ h => h) (Or.inl ⟨by rfl, ?y0k1⟩) ?r0k1
  case y0k1 => intro W; go_simp; try with_reducible rfl
  go_simp
  refine wpAny_take (i := 2) (v := ?v2k2) rfl (by kernel_rfl) (by kernel_rfl) (by kernel_rfl) (fun _ _ _ h => h) (Or.inl ⟨by rfl, ?y2k2⟩) ?r2k2
  case y2k2 => intro W; go_simp; try with_reducible rfl
  go_simp
  refine wpAny_take (i := 4) (v := ?v4k3) rfl (by kernel_rfl) (by kernel_rfl) (by kernel_rfl) (fun _ _ _ h => h) (Or.inl ⟨by rfl, ?y4k3⟩) ?r4k3
  case y4k3 => intro W; go_simp; try with_reducible rfl
  go_simp
  refine wpAny_take (i := 5) (v := ?v5k4) rfl (by kernel_rfl) (by kernel_rfl) (by kernel_rfl) (fun _ _ _ h => h) (Or.inl ⟨by rfl, ?y5k4⟩) ?r5k4
  case y5k4 => intro W; go_simp; try with_reducible rfl
  go_simp
  refine wpAny_take (i := 6) (v := ?v6k5) rfl (by kernel_rfl) (by kernel_rfl) (by kernel_rfl) (fun _ _ _ h => h) (Or.inl ⟨by rfl, ?y6k5⟩) ?r6k5
  case y6k5 => intro W; go_simp; try with_reducible rfl
  go_simp
  refine wpAny_ready (rs := [1]) (by kernel_rfl) (by simp) ?_
  refine AllReady.cons rfl (fun K hK => ?_) AllReady.nil
  go_simp
  go_at_call 19; refine (P1.out _).mono ?_; rintro e w1 ⟨rfl, hbel⟩; obtain ⟨o3, j3, rfl⟩ := grow_of_below hbel; clear hbel
  refine hK _ _ ?_; clear hK K
  refine wpAny_ready (rs := [3]) (by kernel_rfl) (by simp) ?_
  refine AllReady.cons rfl (fun K hK => ?_) AllReady.nil
  go_simp
  go_at_call 19; refine (P2.out _).mono ?_; rintro e w1 ⟨rfl, hbel⟩; obtain ⟨o4, j4, rfl⟩ := grow_of_below hbel; clear hbel
  refine hK _ _ ?_; clear hK K
  refine wpAny_take (i := 7) (v := ?v7k6) rfl (by kernel_rfl) (by kernel_rfl) (by kernel_rfl) (fun _ _ _ h => h) (Or.inl ⟨by rfl, ?y7k6⟩) ?r7k6
  case y7k6 => intro W; go_simp; try with_reducible rfl
  go_simp
  refine wpAny_take (i := 8) (v := ?v8k7) rfl (by kernel_rfl) (by kernel_rfl) (by kernel_rfl) (fun _ _ _ h => h) (Or.inl ⟨by rfl, ?y8k7⟩) ?r8k7
  case y8k7 => intro W; go_simp; try with_reducible rfl
  go_simp
  refine wpAny_take (i := 9) (v := ?v9k8) rfl (by kernel_rfl) (by kernel_rfl) (by kernel_rfl) (fun _ _ _ h => h) (Or.inl ⟨by rfl, ?y9k8⟩) ?r9k8
  case y9k8 => intro W; go_simp; try with_reducible rfl
  go_simp
  refine wpAny_take (i := 10) (v := ?v10k9) rfl (by kernel_rfl) (by kernel_rfl) (by kernel_rfl) (fun _ _ _ h => h) (Or.inl ⟨by rfl, ?y10k9⟩) ?r10k9
  case y10k9 => intro W; go_simp; try with_reducible rfl
  go_simp
  refine wpAny_take (i := 12) (v := ?v12k10) rfl (by kernel_rfl) (by kernel_rfl) (by kernel_rfl) (fun _ _ _ h => h) (Or.inl ⟨by rfl, ?y12k10⟩) ?r12k10
  case y12k10 => intro W; go_simp; try with_reducible rfl
  go_simp
  refine wpAny_take (i := 14) (v := ?v14k11) rfl (by kernel_rfl) (by kernel_rfl) (by kernel_rfl) (fun _ _ _ h => h) (Or.inl ⟨by rfl, ?y14k11⟩) ?r14k11
  case y14k11 => intro W; go_simp; try with_reducible rfl
  go_simp
  refine wpAny_take (i := 15) (v := ?v15k12) rfl (by kernel_rfl) (by kernel_rfl) (by kernel_rfl) (fun _ _ _ h => h) (Or.inl ⟨by rfl, ?y15k12⟩) ?r15k12
  case y15k12 => intro W; go_simp; try with_reducible rfl
  go_simp
  refine wpAny_take (i := 16) (v := ?v16k13) rfl (by kernel_rfl) (by kernel_rfl) (by kernel_rfl) (fun _ _ _ h => h) (Or.inl ⟨by rfl, ?y16k13⟩) ?r16k13
  case y16k13 => intro W; go_simp; try with_reducible rfl
  go_simp
  refine wpAny_ready (rs := [11]) (by kernel_rfl) (by simp) ?_
  refine AllReady.cons rfl (fun K hK => ?_) AllReady.nil
  go_simp
  go_at_call 20; refine (C1.out _).mono ?_; rintro e w1 ⟨rfl, hbel⟩; obtain ⟨o5, j5, rfl⟩ := grow_of_below hbel; clear hbel
  refine hK _ _ ?_; clear hK K
  refine wpAny_ready (rs := [13]) (by kernel_rfl) (by simp) ?_
  refine AllReady.cons rfl (fun K hK => ?_) AllReady.nil
  go_simp
  go_at_call 20; refine (C2.out _).mono ?_; rintro e w1 ⟨rfl, hbel⟩; obtain ⟨o6, j6, rfl⟩ := grow_of_below hbel; clear hbel
  refine hK _ _ ?_; clear hK K
  refine wpAny_take (i := 17) (v := ?v17k14) rfl (by kernel_rfl) (by kernel_rfl) (by kernel_rfl) (fun _ _ _ h => h) (Or.inl ⟨by rfl, ?y17k14⟩) ?r17k14
  case y17k14 => intro W; go_simp; try with_reducible rfl
  go_simp
  refine wpAny_take (i := 18) (v := ?v18k15) rfl (by kernel_rfl) (by kernel_rfl) (by kernel_rfl) (fun _ _ _ h => h) (Or.inl ⟨by rfl, ?y18k15⟩) ?r18k15
  case y18k15 => intro W; go_simp; try with_reducible rfl
  go_simp
  refine wpAny_take (i := 19) (v := ?v19k16) rfl (by kernel_rfl) (by kernel_rfl) (by kernel_rfl) (fun _ _ _ h => h) (Or.inl ⟨by rfl, ?y19k16⟩) ?r19k16
  case y19k16 => intro W; go_simp; try with_reducible rfl
  go_simp
  refine wpAny_take (i := 20) (v := ?v20k17) rfl (by kernel_rfl) (by kernel_rfl) (by kernel_rfl) (fun _ _ _ h => h) (Or.inl ⟨by rfl, ?y20k17⟩) ?r20k17
  case y20k17 => intro W; go_simp; try with_reducible rfl
  go_simp
  refine wpAny_take (i := 21) (v := ?v21k18) rfl (by kernel_rfl) (by kernel_rfl) (by kernel_rfl) (fun _ _ _ h => h) (Or.inl ⟨by rfl, ?y21k18⟩) ?r21k18
  case y21k18 => intro W; go_simp; try with_reducible rfl
  go_simp
  refine wpAny_take (i := 23) (v := ?v23k19) rfl (by kernel_rfl) (by kernel_rfl) (by kernel_rfl) (fun _ _ _ h => h) (Or.inl ⟨by rfl, ?y23k19⟩) ?r23k19
  case y23k19 => intro W; go_simp; try with_reducible rfl
  go_simp
  refine wpAny_ready (rs := [22]) (by kernel_rfl) (by simp) ?_
  refine AllReady.cons rfl (fun K hK => ?_) AllReady.nil
  go_simp
  go_at_call 22; refine (Q1.out _).mono ?_; rintro e w1 ⟨rfl, hbel⟩; obtain ⟨o7, j7, rfl⟩ := grow_of_below hbel; clear hbel
  refine hK _ _ ?_; clear hK K
  refine wpAny_ready (rs := [24]) (by kernel_rfl) (by simp) ?_
  refine AllReady.cons rfl (fun K hK => ?_) AllReady.nil
  go_simp
  go_at_call 22; refine (Q2.out _).mono ?_; rintro e w1 ⟨rfl, hbel⟩; obtain ⟨o8, j8, rfl⟩ := grow_of_below hbel; clear hbel
  refine hK _ _ ?_; clear hK K
  refine wpAny_take (i := 25) (v := ?v25k20) rfl (by kernel_rfl) (by kernel_rfl) (by kernel_rfl) (fun _ _ _ h => h) (Or.inl ⟨by rfl, ?y25k20⟩) ?r25k20
  case y25k20 => intro W; go_simp; try with_reducible rfl
  go_simp
  refine wpAny_take (i := 26) (v := ?v26k21) rfl (by kernel_rfl) (by kernel_rfl) (by kernel_rfl) (fun _ _ _ h => h) (Or.inl ⟨by rfl, ?y26k21⟩) ?r26k21
  case y26k21 => intro W; go_simp; try with_reducible rfl
  go_simp
  refine wpAny_take (i := 27) (v := ?v27k22) rfl (by kernel_rfl) (by kernel_rfl) (by kernel_rfl) (fun _ _ _ h => h) (Or.inl ⟨by rfl, ?y27k22⟩) ?r27k22
  case y27k22 => intro W; go_simp; try with_reducible rfl
  go_simp
  refine wpAny_ready (rs := [28, 29]) (by kernel_rfl) (by simp) ?_
  refine AllReady.cons rfl (fun K hK => ?_) ?_
  · skip
    go_simp
    refine hK _ _ ?_; clear hK K
    refine wpAny_ready (rs := [29]) (by kernel_rfl) (by simp) ?_
    refine AllReady.cons rfl (fun K hK => ?_) AllReady.nil
    go_simp
    refine hK _ _ ?_; clear hK K
    refine wpAny_take (i := 30) (v := ?v30k23) rfl (by kernel_rfl) (by kernel_rfl) (by kernel_rfl) (fun _ _ _ h => h) (Or.inl ⟨by rfl, ?y30k23⟩) ?r30k23
    case y30k23 => intro W; go_simp; try with_reducible rfl
    go_simp
    refine wpAny_take (i := 31) (v := ?v31k24) rfl (by kernel_rfl) (by kernel_rfl) (by kernel_rfl) (fun _ _ _ h => h) (Or.inl ⟨by rfl, ?y31k24⟩) ?r31k24
    case y31k24 => intro W; go_simp; try with_reducible rfl
    go_simp
    refine wpAny_take (i := 32) (v := ?v32k25) rfl (by kernel_rfl) (by kernel_rfl) (by kernel_rfl) (fun _ _ _ h => h) (Or.inl ⟨by rfl, ?y32k25⟩) ?r32k25
    case y32k25 => intro W; go_simp; try with_reducible rfl
    go_simp
    refine wpAny_take (i := 33) (v := ?v33k26) rfl (by kernel_rfl) (by kernel_rfl) (by kernel_rfl) (fun _ _ _ h => h) (Or.inl ⟨by rfl, ?y33k26⟩) ?r33k26
    case y33k26 => intro W; go_simp; try with_reducible rfl
    go_simp
    refine wpAny_take (i := 34) (v := ?v34k27) rfl (by kernel_rfl) (by kernel_rfl) (by kernel_rfl) (fun _ _ _ h => h) (Or.inl ⟨by rfl, ?y34k27⟩) ?r34k27
    case y34k27 => intro W; go_simp; try with_reducible rfl
    go_simp
    refine wpAny_take (i := 36) (v := ?v36k28) rfl (by kernel_rfl) (by kernel_rfl) (by kernel_rfl) (fun _ _ _ h => h) (Or.inl ⟨by rfl, ?y36k28⟩) ?r36k28
    case y36k28 => intro W; go_simp; try with_reducible rfl
    go_simp
    refine wpAny_take (i := 37) (v := ?v37k29) rfl (by kernel_rfl) (by kernel_rfl) (by kernel_rfl) (fun _ _ _ h => h) (Or.inl ⟨by rfl, ?y37k29⟩) ?r37k29
    case y37k29 => intro W; go_simp; try with_reducible rfl
    go_simp
    refine wpAny_take (i := 39) (v := ?v39k30) rfl (by kernel_rfl) (by kernel_rfl) (by kernel_rfl) (fun _ _ _ h => h) (Or.inl ⟨by rfl, ?y39k30⟩) ?r39k30
    case y39k30 => intro W; go_simp; try with_reducible rfl
    go_simp
    refine wpAny_take (i := 40) (v := ?v40k31) rfl (by kernel_rfl) (by kernel_rfl) (by kernel_rfl) (fun _ _ _ h => h) (Or.inl ⟨by rfl, ?y40k31⟩) ?r40k31
    case y40k31 => intro W; go_simp; try with_reducible rfl
    go_simp
    refine wpAny_ready (rs := [35]) (by kernel_rfl) (by simp) ?_
    refine AllReady.cons rfl (fun K hK => ?_) AllReady.nil
    go_simp
    go_at_call 12; refine (H1.out _).mono ?_; rintro e w1 ⟨rfl, rfl⟩
    refine hK _ _ ?_; clear hK K
    refine wpAny_ready (rs := [38]) (by kernel_rfl) (by simp) ?_
    refine AllReady.cons rfl (fun K hK => ?_) AllReady.nil
    go_simp
    go_at_call 12; refine (H2.out _).mono ?_; rintro e w1 ⟨rfl, rfl⟩
    refine hK _ _ ?_; clear hK K
    refine wpAny_take (i := 41) (v := ?v41k32) rfl (by kernel_rfl) (by kernel_rfl) (by kernel_rfl) (fun _ _ _ h => h) (Or.inl ⟨by rfl, ?y41k32⟩) ?r41k32
    case y41k32 => intro W; go_simp; try with_reducible rfl
    go_simp
    refine wpAny_take (i := 42) (v := ?v42k33) rfl (by kernel_rfl) (by kernel_rfl) (by kernel_rfl) (fun _ _ _ h => h) (Or.inl ⟨by rfl, ?y42k33⟩) ?r42k33
    case y42k33 => intro W; go_simp; try with_reducible rfl
    go_simp
    refine wpAny_take (i := 43) (v := ?v43k34) rfl (by kernel_rfl) (by kernel_rfl) (by kernel_rfl) (fun _ _ _ h => h) (Or.inl ⟨by rfl, ?y43k34⟩) ?r43k34
    case y43k34 => intro W; go_simp; try with_reducible rfl
    go_simp
    refine wpAny_take (i := 44) (v := ?v44k35) rfl (by kernel_rfl) (by kernel_rfl) (by kernel_rfl) (fun _ _ _ h => h) (Or.inl ⟨by rfl, ?y44k35⟩) ?r44k35
    case y44k35 => intro W; go_simp; try with_reducible rfl
    go_simp
    refine wpAny_ready (rs := [45]) (by kernel_rfl) (by simp) ?_
    refine AllReady.cons rfl (fun K hK => ?_) AllReady.nil
    go_simp
    go_at_call 14; refine (AW.out _).mono ?_; rintro e w1 ⟨rfl, hbel⟩; obtain ⟨o9, j9, rfl⟩ := grow_of_below hbel; clear hbel
    refine hK _ _ ?_; clear hK K
    refine wpAny_take (i := 46) (v := ?v46k36) rfl (by kernel_rfl) (by kernel_rfl) (by kernel_rfl) (fun _ _ _ h => h) (Or.inl ⟨by rfl, ?y46k36⟩) ?r46k36
    case y46k36 => intro W; go_simp; try with_reducible rfl
    go_simp
    refine wpAny_take (i := 47) (v := ?v47k37) rfl (by kernel_rfl) (by kernel_rfl) (by kernel_rfl) (fun _ _ _ h => h) (Or.inl ⟨by rfl, ?y47k37⟩) ?r47k37
    case y47k37 => intro W; go_simp; try with_reducible rfl
    go_simp
    refine wpAny_done (by kernel_rfl) ?_ _
    go_wp2
    go_ret
    exact ⟨rfl, by repeat (first | (with_reducible exact bel) | ((with_reducible refine below_grow ?_ ?_); rotate_left; focus (first | omega | (simp [go_sem]; done) | (simp [go_sem]; omega))) | ((with_reducible refine Below.alloc ?_ ?_ _); rotate_left; focus (first | omega | (simp [go_sem]; done) | (simp [go_sem]; omega))) | ((with_reducible refine Below.setCell ?_ ?_ _); rotate_left; focus (first | omega | (simp [go_sem]; done) | (simp [go_sem]; omega))) | (with_reducible refine Below.drew ?_) | (with_reducible refine below_drewN _ ?_))⟩
  refine AllReady.cons rfl (fun K hK => ?_) ?_
  · skip
    go_simp
    refine hK _ _ ?_; clear hK K
    refine wpAny_ready (rs := [28]) (by kernel_rfl) (by simp) ?_
    refine AllReady.cons rfl (fun K hK => ?_) AllReady.nil
    go_simp
    refine hK _ _ ?_; clear hK K
    refine wpAny_take (i := 30) (v := ?v30k38) rfl (by kernel_rfl) (by kernel_rfl) (by kernel_rfl) (fun _ _ _ h => h) (Or.inl ⟨by rfl, ?y30k38⟩) ?r30k38
    case y30k38 => intro W; go_simp; try with_reducible rfl
    go_simp
    refine wpAny_take (i := 31) (v := ?v31k39) rfl (by kernel_rfl) (by kernel_rfl) (by kernel_rfl) (fun _ _ _ h => h) (Or.inl ⟨by rfl, ?y31k39⟩) ?r31k39
    case y31k39 => intro W; go_simp; try with_reducible rfl
    go_simp
    refine wpAny_take (i := 32) (v := ?v32k40) rfl (by kernel_rfl) (by kernel_rfl) (by kernel_rfl) (fun _ _ _ h => h) (Or.inl ⟨by rfl, ?y32k40⟩) ?r32k40
    case y32k40 => intro W; go_simp; try with_reducible rfl
    go_simp
    refine wpAny_take (i := 33) (v := ?v33k41) rfl (by kernel_rfl) (by kernel_rfl) (by kernel_rfl) (fun _ _ _ h => h) (Or.inl ⟨by rfl, ?y33k41⟩) ?r33k41
    case y33k41 => intro W; go_simp; try with_reducible rfl
    go_simp
    refine wpAny_take (i := 34) (v := ?v34k42) rfl (by kernel_rfl) (by kernel_rfl) (by kernel_rfl) (fun _ _ _ h => h) (Or.inl ⟨by rfl, ?y34k42⟩) ?r34k42
    case y34k42 => intro W; go_simp; try with_reducible rfl
    go_simp
    refine wpAny_take (i := 36) (v := ?v36k43) rfl (by kernel_rfl) (by kernel_rfl) (by kernel_rfl) (fun _ _ _ h => h) (Or.inl ⟨by rfl, ?y36k43⟩) ?r36k43
    case y36k43 => intro W; go_simp; try with_reducible rfl
    go_simp
    refine wpAny_take (i := 37) (v := ?v37k44) rfl (by kernel_rfl) (by kernel_rfl) (by kernel_rfl) (fun _ _ _ h => h) (Or.inl ⟨by rfl, ?y37k44⟩) ?r37k44
    case y37k44 => intro W; go_simp; try with_reducible rfl
    go_simp
    refine wpAny_take (i := 39) (v := ?v39k45) rfl (by kernel_rfl) (by kernel_rfl) (by kernel_rfl) (fun _ _ _ h => h) (Or.inl ⟨by rfl, ?y39k45⟩) ?r39k45
    case y39k45 => intro W; go_simp; try with_reducible rfl
    go_simp
    refine wpAny_take (i := 40) (v := ?v40k46) rfl (by kernel_rfl) (by kernel_rfl) (by kernel_rfl) (fun _ _ _ h => h) (Or.inl ⟨by rfl, ?y40k46⟩) ?r40k46
    case y40k46 => intro W; go_simp; try with_reducible rfl
    go_simp
    refine wpAny_ready (rs := [35]) (by kernel_rfl) (by simp) ?_
    refine AllReady.cons rfl (fun K hK => ?_) AllReady.nil
    go_simp
    go_at_call 12; refine (H1.out _).mono ?_; rintro e w1 ⟨rfl, rfl⟩
    refine hK _ _ ?_; clear hK K
    refine wpAny_ready (rs := [38]) (by kernel_rfl) (by simp) ?_
    refine AllReady.cons rfl (fun K hK => ?_) AllReady.nil
    go_simp
    go_at_call 12; refine (H2.out _).mono ?_; rintro e w1 ⟨rfl, rfl⟩
    refine hK _ _ ?_; clear hK K
    refine wpAny_take (i := 41) (v := ?v41k47) rfl (by kernel_rfl) (by kernel_rfl) (by kernel_rfl) (fun _ _ _ h => h) (Or.inl ⟨by rfl, ?y41k47⟩) ?r41k47
    case y41k47 => intro W; go_simp; try with_reducible rfl
    go_simp
    refine wpAny_take (i := 42) (v := ?v42k48) rfl (by kernel_rfl) (by kernel_rfl) (by kernel_rfl) (fun _ _ _ h => h) (Or.inl ⟨by rfl, ?y42k48⟩) ?r42k48
    case y42k48 => intro W; go_simp; try with_reducible rfl
    go_simp
    refine wpAny_take (i := 43) (v := ?v43k49) rfl (by kernel_rfl) (by kernel_rfl) (by kernel_rfl) (fun _ _ _ h => h) (Or.inl ⟨by rfl, ?y43k49⟩) ?r43k49
    case y43k49 => intro W; go_simp; try with_reducible rfl
    go_simp
    refine wpAny_take (i := 44) (v := ?v44k50) rfl (by kernel_rfl) (by kernel_rfl) (by kernel_rfl) (fun _ _ _ h => h) (Or.inl ⟨by rfl, ?y44k50⟩) ?r44k50
    case y44k50 => intro W; go_simp; try with_reducible rfl
    go_simp
    refine wpAny_ready (rs := [45]) (by kernel_rfl) (by simp) ?_
    refine AllReady.cons rfl (fun K hK => ?_) AllReady.nil
    go_simp
    go_at_call 14; refine (AW.out _).mono ?_; rintro e w1 ⟨rfl, hbel⟩; obtain ⟨o9, j9, rfl⟩ := grow_of_below hbel; clear hbel
    refine hK _ _ ?_; clear hK K
    refine wpAny_take (i := 46) (v := ?v46k51) rfl (by kernel_rfl) (by kernel_rfl) (by kernel_rfl) (fun _ _ _ h => h) (Or.inl ⟨by rfl, ?y46k51⟩) ?r46k51
    case y46k51 => intro W; go_simp; try with_reducible rfl
    go_simp
    refine wpAny_take (i := 47) (v := ?v47k52) rfl (by kernel_rfl) (by kernel_rfl) (by kernel_rfl) (fun _ _ _ h => h) (Or.inl ⟨by rfl, ?y47k52⟩) ?r47k52
    case y47k52 => intro W; go_simp; try with_reducible rfl
    go_simp
    refine wpAny_done (by kernel_rfl) ?_ _
    go_wp2
    go_ret
    exact ⟨rfl, by repeat (first | (with_reducible exact bel) | ((with_reducible refine below_grow ?_ ?_); rotate_left; focus (first | omega | (simp [go_sem]; done) | (simp [go_sem]; omega))) | ((with_reducible refine Below.alloc ?_ ?_ _); rotate_left; focus (first | omega | (simp [go_sem]; done) | (simp [go_sem]; omega))) | ((with_reducible refine Below.setCell ?_ ?_ _); rotate_left; focus (first | omega | (simp [go_sem]; done) | (simp [go_sem]; omega))) | (with_reducible refine Below.drew ?_) | (with_reducible refine below_drewN _ ?_))⟩
  exact AllReady.nil
set_option maxRecDepth 100000 in
set_option maxHeartbeats 8000000 in
theorem handMore_2 (a0 a1 : Int) (M c : Nat) (hM : M < 4503599627370496) (hc : c < 52) (hs : c / 13 = 2) (h0 : a0.tmod 4503599627370496 = (M : Int)) (h1 : a1.tmod 52 = (c : Int)) (w : World) :
    Calls Tryd.prog 7 #[.int .u64 a0, .int .u8 a1] w fun e w' => e = .returned (.bool true) ∧ Below w.heap.size w w' := by
  have hML := clr_le M c
  have hMM := mor_lt hM hc
  have k1 := clr_num M c (by omega) (by omega)
  have k2 : bits .or .u64 (clr M c : Int) ((2 ^ c : Nat) : Int) = (mor M c : Int) := u64_or_nat (clr M c) (2 ^ c) (by omega) (by have : 2 ^ c < 2 ^ 64 := Nat.pow_lt_pow_right (by decide) (by omega); omega)
  have hmn : min c 64 = c := by omega
  have S1 := shape_calls (clr M c) (by omega)
  have S2 := shape_calls (mor M c) (by omega)
  have P1 := points_calls (mor M c) (by omega)
  have P2 := points_calls (clr M c) (by omega)
  have C1 := controls_calls (mor M c) (by omega)
  have C2 := controls_calls (clr M c) (by omega)
  have Q1 := quickT (mor M c) (by omega)
  have Q2 := quickT (clr M c) (by omega)
  have H1 : ∀ w, Calls Tryd.prog 12 #[.int .u64 (mor M c : Nat), .int .u8 2] w fun e w' => e = .returned (.int .u16 (hol (mor M c) 2)) ∧ w = w' := holding_yes (mor M c) 2 (by omega) (by decide)
  have H2 : ∀ w, Calls Tryd.prog 12 #[.int .u64 (clr M c : Nat), .int .u8 2] w fun e w' => e = .returned (.int .u16 (hol (clr M c) 2)) ∧ w = w' := holding_yes (clr M c) 2 (by omega) (by decide)
  have AW := Lib.hid awake_calls
  have om := one_more (hol (clr M c) (c / 13)) (c % 13) (Nat.mod_lt _ (by decide)) (clr_bit0 M c hM hc)
  rw [← hol_mine hM hc] at om
  have tp := tot_more pts hM hc _ om.1
  have tc := tot_more ctl hM hc _ om.2.1
  have tq := tot_le qck hM hc om.2.2.2
  have tl := om.2.2.1
  have hm := hol_mine hM hc
  have ho := fun s (hs : s ≠ c / 13) => hol_other (s := s) hM hc hs
  rw [hs] at tl hm ho
  have lp : ∀ m, tot pts m ≤ 40 := fun m => by unfold tot; have := pts_le (hol m 0); have := pts_le (hol m 1); have := pts_le (hol m 2); have := pts_le (hol m 3); omega
  have lc : ∀ m, tot ctl m ≤ 12 := fun m => by unfold tot; have := ctl_le (hol m 0); have := ctl_le (hol m 1); have := ctl_le (hol m 2); have := ctl_le (hol m 3); omega
  have lp := lp (clr M c)
  have lc := lc (clr M c)
  have ll := len_le (hol (clr M c) 2)
  have lh := hol_lt (clr M c) 2
  have hr : c % 13 < 13 := Nat.mod_lt _ (by decide)
  have hcr : (c : Int).tmod 13 = ((c % 13 : Nat) : Int) := by rw [Int.tmod_eq_emod_of_nonneg (by omega)]; omega
  have hcs : (c : Int).tdiv 13 = 2 := by rw [Int.tdiv_eq_ediv_of_nonneg (by omega)]; omega
  unfold shp at S1 S2
  rw [ho 0 (by decide), ho 1 (by decide), ho 3 (by decide), tl] at S2
  clear ho om tl hs
  obtain ⟨n0, hn0⟩ : ∃ n, len (hol (clr M c) 0) = n := ⟨_, rfl⟩
  obtain ⟨n1, hn1⟩ : ∃ n, len (hol (clr M c) 1) = n := ⟨_, rfl⟩
  obtain ⟨n2, hn2⟩ : ∃ n, len (hol (clr M c) 2) = n := ⟨_, rfl⟩
  obtain ⟨n3, hn3⟩ : ∃ n, len (hol (clr M c) 3) = n := ⟨_, rfl⟩
  rw [hn0, hn1, hn2, hn3] at S1 S2
  rw [hn2] at ll
  clear hn0 hn1 hn2 hn3
  obtain ⟨q, hq⟩ : ∃ q, n2 + 1 = q := ⟨_, rfl⟩
  rw [hq] at S2
  have e1 : IntKind.i64.wrap ((n2 : Int) + 1) = (q : Int) := by rw [IntWalk.i64_in _ (by omega)]; omega
  obtain ⟨r, hr2⟩ : ∃ r, c % 13 = r := ⟨_, rfl⟩
  rw [hr2] at hcr hr hm tp tc
  have e2 : IntKind.u8.wrap (r : Int) = r := by rw [IntKind.wrap_u8', Int.emod_eq_of_lt (by omega) (by omega)]
  have e3 : IntKind.i64.wrap ((r : Int) - 8) = (r : Int) - 8 := IntWalk.i64_in _ (by omega)
  have e4 : max ((r : Int) - 8) 0 = ((r - 8 : Nat) : Int) := by omega
  have e5 : IntKind.i64.wrap ((r : Int) - 10) = (r : Int) - 10 := IntWalk.i64_in _ (by omega)
  have e6 : max ((r : Int) - 10) 0 = ((r - 10 : Nat) : Int) := by omega
  obtain ⟨x8, hx8⟩ : ∃ x, (r : Int) - 8 = x := ⟨_, rfl⟩
  obtain ⟨x10, hx10⟩ : ∃ x, (r : Int) - 10 = x := ⟨_, rfl⟩
  obtain ⟨y8, hy8⟩ : ∃ x, r - 8 = x := ⟨_, rfl⟩
  obtain ⟨y10, hy10⟩ : ∃ x, r - 10 = x := ⟨_, rfl⟩
  rw [hx8] at e3 e4
  rw [hx10] at e5 e6
  rw [hy8] at e4 tp
  rw [hy10] at e6 tc
  have hr13 := hr
  have f1 : IntKind.u16.wrap ((2 : Int) ^ r) = ((2 ^ r : Nat) : Int) := by
    have h2 : 2 ^ r < 2 ^ 13 := Nat.pow_lt_pow_right (by decide) hr
    have e : ((2 : Int) ^ r) = ((2 ^ r : Nat) : Int) := by simp
    rw [e, IntKind.wrap_u16]
    generalize 2 ^ r = p at h2
    omega
  have f2 : bits .or .u16 (hol (clr M c) 2 : Int) ((2 ^ r : Nat) : Int) = (hol (mor M c) 2 : Int) := by
    have h2 : 2 ^ r < 2 ^ 13 := Nat.pow_lt_pow_right (by decide) hr
    rw [hm]
    exact u16_or_nat _ _ (by omega) (by omega)
  have hmn2 : min r 16 = r := by omega
  clear hr2 hq hm hr13 hc hM lh ll
  obtain ⟨u, hu⟩ : ∃ u, 2 ^ r = u := ⟨_, rfl⟩
  rw [hu] at f1 f2
  obtain ⟨v, hv⟩ : ∃ u, 2 ^ c = u := ⟨_, rfl⟩
  rw [hv] at k1 k2
  obtain ⟨k0, k1⟩ := k1
  obtain ⟨L, hL⟩ : ∃ L, clr M c = L := ⟨_, rfl⟩
  obtain ⟨MO, hMO⟩ : ∃ L, mor M c = L := ⟨_, rfl⟩
  rw [hL] at k1 k2 P2 C2 Q2 S1 H2 tp tc tq lp lc f2
  rw [hMO] at k2 P1 C1 Q1 S2 H1 tp tc tq f2
  obtain ⟨ph, hph⟩ : ∃ x, hol L 2 = x := ⟨_, rfl⟩
  obtain ⟨pg, hpg⟩ : ∃ x, hol MO 2 = x := ⟨_, rfl⟩
  rw [hph] at H2 f2
  rw [hpg] at H1 f2
  rw [tp] at P1
  rw [tc] at C1
  obtain ⟨pl, hpl⟩ : ∃ x, tot pts L = x := ⟨_, rfl⟩
  obtain ⟨cl, hcl⟩ : ∃ x, tot ctl L = x := ⟨_, rfl⟩
  obtain ⟨ql, hql⟩ : ∃ x, tot qck L = x := ⟨_, rfl⟩
  obtain ⟨qm, hqm⟩ : ∃ x, tot qck MO = x := ⟨_, rfl⟩
  rw [hpl] at P1 P2 lp
  rw [hcl] at C1 C2 lc
  rw [hql] at Q2 tq
  rw [hqm] at Q1 tq
  have g1 : IntKind.i64.wrap ((pl : Int) + y8) = ((pl + y8 : Nat) : Int) := by rw [IntWalk.i64_in _ (by omega)]; omega
  have g2 : IntKind.i64.wrap ((cl : Int) + y10) = ((cl + y10 : Nat) : Int) := by rw [IntWalk.i64_in _ (by omega)]; omega
  have g3n : ql ≤ qm := tq
  have g3 : decide ((qm : Int) ≥ (ql : Int)) = true := decide_eq_true (by omega)
  obtain ⟨pm, hpm⟩ : ∃ x, pl + y8 = x := ⟨_, rfl⟩
  obtain ⟨cm, hcm⟩ : ∃ x, cl + y10 = x := ⟨_, rfl⟩
  rw [hpm] at P1 g1
  rw [hcm] at C1 g2
  have S1 := Lib.hid S1
  have S2 := Lib.hid S2
  have P1 := Lib.hid P1
  have P2 := Lib.hid P2
  have C1 := Lib.hid C1
  have C2 := Lib.hid C2
  have Q1 := Lib.hid Q1
  have Q2 := Lib.hid Q2
  have H1 := Lib.hid H1
  have H2 := Lib.hid H2
  have eqa := eqI4 n0 n1 q n3 n0 n1 q n3
  simp only [and_self, decide_true] at eqa
  clear hML hMM tp tc tq lp lc hu hv hL hMO hph hpg hpl hcl hql hqm hpm hcm hy8 hy10 hr
  go_enter Tryd.func7, Tryd.ntmps7
  go_upto_region 7 with (first | (go_at_call_of 26 (Value.int .u64 L); refine (S1.out _).mono ?_; rintro e w1 ⟨rfl, hbel⟩; obtain ⟨o1, j1, rfl⟩ := grow_of_below hbel; clear hbel) | (go_at_call_of 26 (Value.int .u64 MO); refine (S2.out _).mono ?_; rintro e w1 ⟨rfl, hbel⟩; obtain ⟨o2, j2, rfl⟩ := grow_of_below hbel; clear hbel))
  generalize hW : World.alloc (World.alloc _ _) _ = W
  have bel : Below w.heap.size w W := by rw [← hW]; repeat (first | (with_reducible exact Below.refl _ _) | ((with_reducible refine below_grow ?_ ?_); rotate_left; focus (first | omega | (simp [go_sem]; done) | (simp [go_sem]; omega))) | ((with_reducible refine Below.alloc ?_ ?_ _); rotate_left; focus (first | omega | (simp [go_sem]; done) | (simp [go_sem]; omega))) | ((with_reducible refine Below.setCell ?_ ?_ _); rotate_left; focus (first | omega | (simp [go_sem]; done) | (simp [go_sem]; omega))) | (with_reducible refine Below.drew ?_) | (with_reducible refine below_drewN _ ?_))
  have hlt : w.heap.size + sz (o1 ++ o2) + 1 < W.heap.size := by rw [← hW]; simp [go_sem]
  have ca0 : W.cell? ⟨w.heap.size + sz (o1 ++ o2), 0, none⟩ = some (.int .i64 n0) := by rw [← hW]; simp [go_sem]
  have ca1 : W.cell? ⟨w.heap.size + sz (o1 ++ o2), 1, none⟩ = some (.int .i64 n1) := by rw [← hW]; simp [go_sem]
  have ca2 : W.cell? ⟨w.heap.size + sz (o1 ++ o2), 2, none⟩ = some (.int .i64 q) := by rw [← hW]; simp [go_sem]
  have ca3 : W.cell? ⟨w.heap.size + sz (o1 ++ o2), 3, none⟩ = some (.int .i64 n3) := by rw [← hW]; simp [go_sem]
  have cb0 : W.cell? ⟨w.heap.size + sz (o1 ++ o2) + 1, 0, none⟩ = some (.int .i64 n0) := by rw [← hW]; simp [go_sem]
  have cb1 : W.cell? ⟨w.heap.size + sz (o1 ++ o2) + 1, 1, none⟩ = some (.int .i64 n1) := by rw [← hW]; simp [go_sem]
  have cb2 : W.cell? ⟨w.heap.size + sz (o1 ++ o2) + 1, 2, none⟩ = some (.int .i64 q) := by rw [← hW]; simp [go_sem]
  have cb3 : W.cell? ⟨w.heap.size + sz (o1 ++ o2) + 1, 3, none⟩ = some (.int .i64 n3) := by rw [← hW]; simp [go_sem]
  clear hW
  generalize hA : w.heap.size + sz (o1 ++ o2) = A at *
  clear S1 S2 k0 k1 k2 hcr hcs e1 h0 h1 hmn lp lc
  haveI i1 : NeZero (inW A W) := inW_mk (by omega)
  haveI i2 : NeZero (inW (A + 1) W) := inW_mk hlt
  refine wp_region_any (by kernel_rfl) ?_
  change wpAny _ _ _ _ _ _ _ (World.drew _)
  refine wpAny_take (i := 0) (v := ?v0k1) rfl (by kernel_rfl) (by kernel_rfl) (by kernel_rfl) (fun _ _ _ h => h) (Or.inl ⟨by rfl, ?y0k1⟩) ?r0k1
  case y0k1 => intro W; go_simp; try with_reducible rfl
  go_simp
  refine wpAny_take (i := 2) (v := ?v2k2) rfl (by kernel_rfl) (by kernel_rfl) (by kernel_rfl) (fun _ _ _ h => h) (Or.inl ⟨by rfl, ?y2k2⟩) ?r2k2
  case y2k2 => intro W; go_simp; try with_reducible rfl
  go_simp
  refine wpAny_take (i := 4) (v := ?v4k3) rfl (by kernel_rfl) (by kernel_rfl) (by kernel_rfl) (fun _ _ _ h => h) (Or.inl ⟨by rfl, ?y4k3⟩) ?r4k3
  case y4k3 => intro W; go_simp; try with_reducible rfl
  go_simp
  refine wpAny_take (i := 5) (v := ?v5k4) rfl (by kernel_rfl) (by kernel_rfl) (by kernel_rfl) (fun _ _ _ h => h) (Or.inl ⟨by rfl, ?y5k4⟩) ?r5k4
  case y5k4 => intro W; go_simp; try with_reducible rfl
  go_simp
  refine wpAny_take (i := 6) (v := ?v6k5) rfl (by kernel_rfl) (by kernel_rfl) (by kernel_rfl) (fun _ _ _ h => h) (Or.inl ⟨by rfl, ?y6k5⟩) ?r6k5
  case y6k5 => intro W; go_simp; try with_reducible rfl
  go_simp
  refine wpAny_ready (rs := [1]) (by kernel_rfl) (by simp) ?_
  refine AllReady.cons rfl (fun K hK => ?_) AllReady.nil
  go_simp
  go_at_call 19; refine (P1.out _).mono ?_; rintro e w1 ⟨rfl, hbel⟩; obtain ⟨o3, j3, rfl⟩ := grow_of_below hbel; clear hbel
  refine hK _ _ ?_; clear hK K
  refine wpAny_ready (rs := [3]) (by kernel_rfl) (by simp) ?_
  refine AllReady.cons rfl (fun K hK => ?_) AllReady.nil
  go_simp
  go_at_call 19; refine (P2.out _).mono ?_; rintro e w1 ⟨rfl, hbel⟩; obtain ⟨o4, j4, rfl⟩ := grow_of_below hbel; clear hbel
  refine hK _ _ ?_; clear hK K
  refine wpAny_take (i := 7) (v := ?v7k6) rfl (by kernel_rfl) (by kernel_rfl) (by kernel_rfl) (fun _ _ _ h => h) (Or.inl ⟨by rfl, ?y7k6⟩) ?r7k6
  case y7k6 => intro W; go_simp; try with_reducible rfl
  go_simp
  refine wpAny_take (i := 8) (v := ?v8k7) rfl (by kernel_rfl) (by kernel_rfl) (by kernel_rfl) (fun _ _ _ h => h) (Or.inl ⟨by rfl, ?y8k7⟩) ?r8k7
  case y8k7 => intro W; go_simp; try with_reducible rfl
  go_simp
  refine wpAny_take (i := 9) (v := ?v9k8) rfl (by kernel_rfl) (by kernel_rfl) (by kernel_rfl) (fun _ _ _ h => h) (Or.inl ⟨by rfl, ?y9k8⟩) ?r9k8
  case y9k8 => intro W; go_simp; try with_reducible rfl
  go_simp
  refine wpAny_take (i := 10) (v := ?v10k9) rfl (by kernel_rfl) (by kernel_rfl) (by kernel_rfl) (fun _ _ _ h => h) (Or.inl ⟨by rfl, ?y10k9⟩) ?r10k9
  case y10k9 => intro W; go_simp; try with_reducible rfl
  go_simp
  refine wpAny_take (i := 12) (v := ?v12k10) rfl (by kernel_rfl) (by kernel_rfl) (by kernel_rfl) (fun _ _ _ h => h) (Or.inl ⟨by rfl, ?y12k10⟩) ?r12k10
  case y12k10 => intro W; go_simp; try with_reducible rfl
  go_simp
  refine wpAny_take (i := 14) (v := ?v14k11) rfl (by kernel_rfl) (by kernel_rfl) (by kernel_rfl) (fun _ _ _ h => h) (Or.inl ⟨by rfl, ?y14k11⟩) ?r14k11
  case y14k11 => intro W; go_simp; try with_reducible rfl
  go_simp
  refine wpAny_take (i := 15) (v := ?v15k12) rfl (by kernel_rfl) (by kernel_rfl) (by kernel_rfl) (fun _ _ _ h => h) (Or.inl ⟨by rfl, ?y15k12⟩) ?r15k12
  case y15k12 => intro W; go_simp; try with_reducible rfl
  go_simp
  refine wpAny_take (i := 16) (v := ?v16k13) rfl (by kernel_rfl) (by kernel_rfl) (by kernel_rfl) (fun _ _ _ h => h) (Or.inl ⟨by rfl, ?y16k13⟩) ?r16k13
  case y16k13 => intro W; go_simp; try with_reducible rfl
  go_simp
  refine wpAny_ready (rs := [11]) (by kernel_rfl) (by simp) ?_
  refine AllReady.cons rfl (fun K hK => ?_) AllReady.nil
  go_simp
  go_at_call 20; refine (C1.out _).mono ?_; rintro e w1 ⟨rfl, hbel⟩; obtain ⟨o5, j5, rfl⟩ := grow_of_below hbel; clear hbel
  refine hK _ _ ?_; clear hK K
  refine wpAny_ready (rs := [13]) (by kernel_rfl) (by simp) ?_
  refine AllReady.cons rfl (fun K hK => ?_) AllReady.nil
  go_simp
  go_at_call 20; refine (C2.out _).mono ?_; rintro e w1 ⟨rfl, hbel⟩; obtain ⟨o6, j6, rfl⟩ := grow_of_below hbel; clear hbel
  refine hK _ _ ?_; clear hK K
  refine wpAny_take (i := 17) (v := ?v17k14) rfl (by kernel_rfl) (by kernel_rfl) (by kernel_rfl) (fun _ _ _ h => h) (Or.inl ⟨by rfl, ?y17k14⟩) ?r17k14
  case y17k14 => intro W; go_simp; try with_reducible rfl
  go_simp
  refine wpAny_take (i := 18) (v := ?v18k15) rfl (by kernel_rfl) (by kernel_rfl) (by kernel_rfl) (fun _ _ _ h => h) (Or.inl ⟨by rfl, ?y18k15⟩) ?r18k15
  case y18k15 => intro W; go_simp; try with_reducible rfl
  go_simp
  refine wpAny_take (i := 19) (v := ?v19k16) rfl (by kernel_rfl) (by kernel_rfl) (by kernel_rfl) (fun _ _ _ h => h) (Or.inl ⟨by rfl, ?y19k16⟩) ?r19k16
  case y19k16 => intro W; go_simp; try with_reducible rfl
  go_simp
  refine wpAny_take (i := 20) (v := ?v20k17) rfl (by kernel_rfl) (by kernel_rfl) (by kernel_rfl) (fun _ _ _ h => h) (Or.inl ⟨by rfl, ?y20k17⟩) ?r20k17
  case y20k17 => intro W; go_simp; try with_reducible rfl
  go_simp
  refine wpAny_take (i := 21) (v := ?v21k18) rfl (by kernel_rfl) (by kernel_rfl) (by kernel_rfl) (fun _ _ _ h => h) (Or.inl ⟨by rfl, ?y21k18⟩) ?r21k18
  case y21k18 => intro W; go_simp; try with_reducible rfl
  go_simp
  refine wpAny_take (i := 23) (v := ?v23k19) rfl (by kernel_rfl) (by kernel_rfl) (by kernel_rfl) (fun _ _ _ h => h) (Or.inl ⟨by rfl, ?y23k19⟩) ?r23k19
  case y23k19 => intro W; go_simp; try with_reducible rfl
  go_simp
  refine wpAny_ready (rs := [22]) (by kernel_rfl) (by simp) ?_
  refine AllReady.cons rfl (fun K hK => ?_) AllReady.nil
  go_simp
  go_at_call 22; refine (Q1.out _).mono ?_; rintro e w1 ⟨rfl, hbel⟩; obtain ⟨o7, j7, rfl⟩ := grow_of_below hbel; clear hbel
  refine hK _ _ ?_; clear hK K
  refine wpAny_ready (rs := [24]) (by kernel_rfl) (by simp) ?_
  refine AllReady.cons rfl (fun K hK => ?_) AllReady.nil
  go_simp
  go_at_call 22; refine (Q2.out _).mono ?_; rintro e w1 ⟨rfl, hbel⟩; obtain ⟨o8, j8, rfl⟩ := grow_of_below hbel; clear hbel
  refine hK _ _ ?_; clear hK K
  refine wpAny_take (i := 25) (v := ?v25k20) rfl (by kernel_rfl) (by kernel_rfl) (by kernel_rfl) (fun _ _ _ h => h) (Or.inl ⟨by rfl, ?y25k20⟩) ?r25k20
  case y25k20 => intro W; go_simp; try with_reducible rfl
  go_simp
  refine wpAny_take (i := 26) (v := ?v26k21) rfl (by kernel_rfl) (by kernel_rfl) (by kernel_rfl) (fun _ _ _ h => h) (Or.inl ⟨by rfl, ?y26k21⟩) ?r26k21
  case y26k21 => intro W; go_simp; try with_reducible rfl
  go_simp
  refine wpAny_take (i := 27) (v := ?v27k22) rfl (by kernel_rfl) (by kernel_rfl) (by kernel_rfl) (fun _ _ _ h => h) (Or.inl ⟨by rfl, ?y27k22⟩) ?r27k22
  case y27k22 => intro W; go_simp; try with_reducible rfl
  go_simp
  refine wpAny_ready (rs := [28, 29]) (by kernel_rfl) (by simp) ?_
  refine AllReady.cons rfl (fun K hK => ?_) ?_
  · skip
    go_simp
    refine hK _ _ ?_; clear hK K
    refine wpAny_ready (rs := [29]) (by kernel_rfl) (by simp) ?_
    refine AllReady.cons rfl (fun K hK => ?_) AllReady.nil
    go_simp
    refine hK _ _ ?_; clear hK K
    refine wpAny_take (i := 30) (v := ?v30k23) rfl (by kernel_rfl) (by kernel_rfl) (by kernel_rfl) (fun _ _ _ h => h) (Or.inl ⟨by rfl, ?y30k23⟩) ?r30k23
    case y30k23 => intro W; go_simp; try with_reducible rfl
    go_simp
    refine wpAny_take (i := 31) (v := ?v31k24) rfl (by kernel_rfl) (by kernel_rfl) (by kernel_rfl) (fun _ _ _ h => h) (Or.inl ⟨by rfl, ?y31k24⟩) ?r31k24
    case y31k24 => intro W; go_simp; try with_reducible rfl
    go_simp
    refine wpAny_take (i := 32) (v := ?v32k25) rfl (by kernel_rfl) (by kernel_rfl) (by kernel_rfl) (fun _ _ _ h => h) (Or.inl ⟨by rfl, ?y32k25⟩) ?r32k25
    case y32k25 => intro W; go_simp; try with_reducible rfl
    go_simp
    refine wpAny_take (i := 33) (v := ?v33k26) rfl (by kernel_rfl) (by kernel_rfl) (by kernel_rfl) (fun _ _ _ h => h) (Or.inl ⟨by rfl, ?y33k26⟩) ?r33k26
    case y33k26 => intro W; go_simp; try with_reducible rfl
    go_simp
    refine wpAny_take (i := 34) (v := ?v34k27) rfl (by kernel_rfl) (by kernel_rfl) (by kernel_rfl) (fun _ _ _ h => h) (Or.inl ⟨by rfl, ?y34k27⟩) ?r34k27
    case y34k27 => intro W; go_simp; try with_reducible rfl
    go_simp
    refine wpAny_take (i := 36) (v := ?v36k28) rfl (by kernel_rfl) (by kernel_rfl) (by kernel_rfl) (fun _ _ _ h => h) (Or.inl ⟨by rfl, ?y36k28⟩) ?r36k28
    case y36k28 => intro W; go_simp; try with_reducible rfl
    go_simp
    refine wpAny_take (i := 37) (v := ?v37k29) rfl (by kernel_rfl) (by kernel_rfl) (by kernel_rfl) (fun _ _ _ h => h) (Or.inl ⟨by rfl, ?y37k29⟩) ?r37k29
    case y37k29 => intro W; go_simp; try with_reducible rfl
    go_simp
    refine wpAny_take (i := 39) (v := ?v39k30) rfl (by kernel_rfl) (by kernel_rfl) (by kernel_rfl) (fun _ _ _ h => h) (Or.inl ⟨by rfl, ?y39k30⟩) ?r39k30
    case y39k30 => intro W; go_simp; try with_reducible rfl
    go_simp
    refine wpAny_take (i := 40) (v := ?v40k31) rfl (by kernel_rfl) (by kernel_rfl) (by kernel_rfl) (fun _ _ _ h => h) (Or.inl ⟨by rfl, ?y40k31⟩) ?r40k31
    case y40k31 => intro W; go_simp; try with_reducible rfl
    go_simp
    refine wpAny_ready (rs := [35]) (by kernel_rfl) (by simp) ?_
    refine AllReady.cons rfl (fun K hK => ?_) AllReady.nil
    go_simp
    go_at_call 12; refine (H1.out _).mono ?_; rintro e w1 ⟨rfl, rfl⟩
    refine hK _ _ ?_; clear hK K
    refine wpAny_ready (rs := [38]) (by kernel_rfl) (by simp) ?_
    refine AllReady.cons rfl (fun K hK => ?_) AllReady.nil
    go_simp
    go_at_call 12; refine (H2.out _).mono ?_; rintro e w1 ⟨rfl, rfl⟩
    refine hK _ _ ?_; clear hK K
    refine wpAny_take (i := 41) (v := ?v41k32) rfl (by kernel_rfl) (by kernel_rfl) (by kernel_rfl) (fun _ _ _ h => h) (Or.inl ⟨by rfl, ?y41k32⟩) ?r41k32
    case y41k32 => intro W; go_simp; try with_reducible rfl
    go_simp
    refine wpAny_take (i := 42) (v := ?v42k33) rfl (by kernel_rfl) (by kernel_rfl) (by kernel_rfl) (fun _ _ _ h => h) (Or.inl ⟨by rfl, ?y42k33⟩) ?r42k33
    case y42k33 => intro W; go_simp; try with_reducible rfl
    go_simp
    refine wpAny_take (i := 43) (v := ?v43k34) rfl (by kernel_rfl) (by kernel_rfl) (by kernel_rfl) (fun _ _ _ h => h) (Or.inl ⟨by rfl, ?y43k34⟩) ?r43k34
    case y43k34 => intro W; go_simp; try with_reducible rfl
    go_simp
    refine wpAny_take (i := 44) (v := ?v44k35) rfl (by kernel_rfl) (by kernel_rfl) (by kernel_rfl) (fun _ _ _ h => h) (Or.inl ⟨by rfl, ?y44k35⟩) ?r44k35
    case y44k35 => intro W; go_simp; try with_reducible rfl
    go_simp
    refine wpAny_ready (rs := [45]) (by kernel_rfl) (by simp) ?_
    refine AllReady.cons rfl (fun K hK => ?_) AllReady.nil
    go_simp
    go_at_call 14; refine (AW.out _).mono ?_; rintro e w1 ⟨rfl, hbel⟩; obtain ⟨o9, j9, rfl⟩ := grow_of_below hbel; clear hbel
    refine hK _ _ ?_; clear hK K
    refine wpAny_take (i := 46) (v := ?v46k36) rfl (by kernel_rfl) (by kernel_rfl) (by kernel_rfl) (fun _ _ _ h => h) (Or.inl ⟨by rfl, ?y46k36⟩) ?r46k36
    case y46k36 => intro W; go_simp; try with_reducible rfl
    go_simp
    refine wpAny_take (i := 47) (v := ?v47k37) rfl (by kernel_rfl) (by kernel_rfl) (by kernel_rfl) (fun _ _ _ h => h) (Or.inl ⟨by rfl, ?y47k37⟩) ?r47k37
    case y47k37 => intro W; go_simp; try with_reducible rfl
    go_simp
    refine wpAny_done (by kernel_rfl) ?_ _
    go_wp2
    go_ret
    exact ⟨rfl, by repeat (first | (with_reducible exact bel) | ((with_reducible refine below_grow ?_ ?_); rotate_left; focus (first | omega | (simp [go_sem]; done) | (simp [go_sem]; omega))) | ((with_reducible refine Below.alloc ?_ ?_ _); rotate_left; focus (first | omega | (simp [go_sem]; done) | (simp [go_sem]; omega))) | ((with_reducible refine Below.setCell ?_ ?_ _); rotate_left; focus (first | omega | (simp [go_sem]; done) | (simp [go_sem]; omega))) | (with_reducible refine Below.drew ?_) | (with_reducible refine below_drewN _ ?_))⟩
  refine AllReady.cons rfl (fun K hK => ?_) ?_
  · skip
    go_simp
    refine hK _ _ ?_; clear hK K
    refine wpAny_ready (rs := [28]) (by kernel_rfl) (by simp) ?_
    refine AllReady.cons rfl (fun K hK => ?_) AllReady.nil
    go_simp
    refine hK _ _ ?_; clear hK K
    refine wpAny_take (i := 30) (v := ?v30k38) rfl (by kernel_rfl) (by kernel_rfl) (by kernel_rfl) (fun _ _ _ h => h) (Or.inl ⟨by rfl, ?y30k38⟩) ?r30k38
    case y30k38 => intro W; go_simp; try with_reducible rfl
    go_simp
    refine wpAny_take (i := 31) (v := ?v31k39) rfl (by kernel_rfl) (by kernel_rfl) (by kernel_rfl) (fun _ _ _ h => h) (Or.inl ⟨by rfl, ?y31k39⟩) ?r31k39
    case y31k39 => intro W; go_simp; try with_reducible rfl
    go_simp
    refine wpAny_take (i := 32) (v := ?v32k40) rfl (by kernel_rfl) (by kernel_rfl) (by kernel_rfl) (fun _ _ _ h => h) (Or.inl ⟨by rfl, ?y32k40⟩) ?r32k40
    case y32k40 => intro W; go_simp; try with_reducible rfl
    go_simp
    refine wpAny_take (i := 33) (v := ?v33k41) rfl (by kernel_rfl) (by kernel_rfl) (by kernel_rfl) (fun _ _ _ h => h) (Or.inl ⟨by rfl, ?y33k41⟩) ?r33k41
    case y33k41 => intro W; go_simp; try with_reducible rfl
    go_simp
    refine wpAny_take (i := 34) (v := ?v34k42) rfl (by kernel_rfl) (by kernel_rfl) (by kernel_rfl) (fun _ _ _ h => h) (Or.inl ⟨by rfl, ?y34k42⟩) ?r34k42
    case y34k42 => intro W; go_simp; try with_reducible rfl
    go_simp
    refine wpAny_take (i := 36) (v := ?v36k43) rfl (by kernel_rfl) (by kernel_rfl) (by kernel_rfl) (fun _ _ _ h => h) (Or.inl ⟨by rfl, ?y36k43⟩) ?r36k43
    case y36k43 => intro W; go_simp; try with_reducible rfl
    go_simp
    refine wpAny_take (i := 37) (v := ?v37k44) rfl (by kernel_rfl) (by kernel_rfl) (by kernel_rfl) (fun _ _ _ h => h) (Or.inl ⟨by rfl, ?y37k44⟩) ?r37k44
    case y37k44 => intro W; go_simp; try with_reducible rfl
    go_simp
    refine wpAny_take (i := 39) (v := ?v39k45) rfl (by kernel_rfl) (by kernel_rfl) (by kernel_rfl) (fun _ _ _ h => h) (Or.inl ⟨by rfl, ?y39k45⟩) ?r39k45
    case y39k45 => intro W; go_simp; try with_reducible rfl
    go_simp
    refine wpAny_take (i := 40) (v := ?v40k46) rfl (by kernel_rfl) (by kernel_rfl) (by kernel_rfl) (fun _ _ _ h => h) (Or.inl ⟨by rfl, ?y40k46⟩) ?r40k46
    case y40k46 => intro W; go_simp; try with_reducible rfl
    go_simp
    refine wpAny_ready (rs := [35]) (by kernel_rfl) (by simp) ?_
    refine AllReady.cons rfl (fun K hK => ?_) AllReady.nil
    go_simp
    go_at_call 12; refine (H1.out _).mono ?_; rintro e w1 ⟨rfl, rfl⟩
    refine hK _ _ ?_; clear hK K
    refine wpAny_ready (rs := [38]) (by kernel_rfl) (by simp) ?_
    refine AllReady.cons rfl (fun K hK => ?_) AllReady.nil
    go_simp
    go_at_call 12; refine (H2.out _).mono ?_; rintro e w1 ⟨rfl, rfl⟩
    refine hK _ _ ?_; clear hK K
    refine wpAny_take (i := 41) (v := ?v41k47) rfl (by kernel_rfl) (by kernel_rfl) (by kernel_rfl) (fun _ _ _ h => h) (Or.inl ⟨by rfl, ?y41k47⟩) ?r41k47
    case y41k47 => intro W; go_simp; try with_reducible rfl
    go_simp
    refine wpAny_take (i := 42) (v := ?v42k48) rfl (by kernel_rfl) (by kernel_rfl) (by kernel_rfl) (fun _ _ _ h => h) (Or.inl ⟨by rfl, ?y42k48⟩) ?r42k48
    case y42k48 => intro W; go_simp; try with_reducible rfl
    go_simp
    refine wpAny_take (i := 43) (v := ?v43k49) rfl (by kernel_rfl) (by kernel_rfl) (by kernel_rfl) (fun _ _ _ h => h) (Or.inl ⟨by rfl, ?y43k49⟩) ?r43k49
    case y43k49 => intro W; go_simp; try with_reducible rfl
    go_simp
    refine wpAny_take (i := 44) (v := ?v44k50) rfl (by kernel_rfl) (by kernel_rfl) (by kernel_rfl) (fun _ _ _ h => h) (Or.inl ⟨by rfl, ?y44k50⟩) ?r44k50
    case y44k50 => intro W; go_simp; try with_reducible rfl
    go_simp
    refine wpAny_ready (rs := [45]) (by kernel_rfl) (by simp) ?_
    refine AllReady.cons rfl (fun K hK => ?_) AllReady.nil
    go_simp
    go_at_call 14; refine (AW.out _).mono ?_; rintro e w1 ⟨rfl, hbel⟩; obtain ⟨o9, j9, rfl⟩ := grow_of_below hbel; clear hbel
    refine hK _ _ ?_; clear hK K
    refine wpAny_take (i := 46) (v := ?v46k51) rfl (by kernel_rfl) (by kernel_rfl) (by kernel_rfl) (fun _ _ _ h => h) (Or.inl ⟨by rfl, ?y46k51⟩) ?r46k51
    case y46k51 => intro W; go_simp; try with_reducible rfl
    go_simp
    refine wpAny_take (i := 47) (v := ?v47k52) rfl (by kernel_rfl) (by kernel_rfl) (by kernel_rfl) (fun _ _ _ h => h) (Or.inl ⟨by rfl, ?y47k52⟩) ?r47k52
    case y47k52 => intro W; go_simp; try with_reducible rfl
    go_simp
    refine wpAny_done (by kernel_rfl) ?_ _
    go_wp2
    go_ret
    exact ⟨rfl, by repeat (first | (with_reducible exact bel) | ((with_reducible refine below_grow ?_ ?_); rotate_left; focus (first | omega | (simp [go_sem]; done) | (simp [go_sem]; omega))) | ((with_reducible refine Below.alloc ?_ ?_ _); rotate_left; focus (first | omega | (simp [go_sem]; done) | (simp [go_sem]; omega))) | ((with_reducible refine Below.setCell ?_ ?_ _); rotate_left; focus (first | omega | (simp [go_sem]; done) | (simp [go_sem]; omega))) | (with_reducible refine Below.drew ?_) | (with_reducible refine below_drewN _ ?_))⟩
  exact AllReady.nil
set_option maxRecDepth 100000 in
set_option maxHeartbeats 8000000 in
theorem handMore_3 (a0 a1 : Int) (M c : Nat) (hM : M < 4503599627370496) (hc : c < 52) (hs : c / 13 = 3) (h0 : a0.tmod 4503599627370496 = (M : Int)) (h1 : a1.tmod 52 = (c : Int)) (w : World) :
    Calls Tryd.prog 7 #[.int .u64 a0, .int .u8 a1] w fun e w' => e = .returned (.bool true) ∧ Below w.heap.size w w' := by
  have hML := clr_le M c
  have hMM := mor_lt hM hc
  have k1 := clr_num M c (by omega) (by omega)
  have k2 : bits .or .u64 (clr M c : Int) ((2 ^ c : Nat) : Int) = (mor M c : Int) := u64_or_nat (clr M c) (2 ^ c) (by omega) (by have : 2 ^ c < 2 ^ 64 := Nat.pow_lt_pow_right (by decide) (by omega); omega)
  have hmn : min c 64 = c := by omega
  have S1 := shape_calls (clr M c) (by omega)
  have S2 := shape_calls (mor M c) (by omega)
  have P1 := points_calls (mor M c) (by omega)
  have P2 := points_calls (clr M c) (by omega)
  have C1 := controls_calls (mor M c) (by omega)
  have C2 := controls_calls (clr M c) (by omega)
  have Q1 := quickT (mor M c) (by omega)
  have Q2 := quickT (clr M c) (by omega)
  have H1 : ∀ w, Calls Tryd.prog 12 #[.int .u64 (mor M c : Nat), .int .u8 3] w fun e w' => e = .returned (.int .u16 (hol (mor M c) 3)) ∧ w = w' := holding_yes (mor M c) 3 (by omega) (by decide)
  have H2 : ∀ w, Calls Tryd.prog 12 #[.int .u64 (clr M c : Nat), .int .u8 3] w fun e w' => e = .returned (.int .u16 (hol (clr M c) 3)) ∧ w = w' := holding_yes (clr M c) 3 (by omega) (by decide)
  have AW := Lib.hid awake_calls
  have om := one_more (hol (clr M c) (c / 13)) (c % 13) (Nat.mod_lt _ (by decide)) (clr_bit0 M c hM hc)
  rw [← hol_mine hM hc] at om
  have tp := tot_more pts hM hc _ om.1
  have tc := tot_more ctl hM hc _ om.2.1
  have tq := tot_le qck hM hc om.2.2.2
  have tl := om.2.2.1
  have hm := hol_mine hM hc
  have ho := fun s (hs : s ≠ c / 13) => hol_other (s := s) hM hc hs
  rw [hs] at tl hm ho
  have lp : ∀ m, tot pts m ≤ 40 := fun m => by unfold tot; have := pts_le (hol m 0); have := pts_le (hol m 1); have := pts_le (hol m 2); have := pts_le (hol m 3); omega
  have lc : ∀ m, tot ctl m ≤ 12 := fun m => by unfold tot; have := ctl_le (hol m 0); have := ctl_le (hol m 1); have := ctl_le (hol m 2); have := ctl_le (hol m 3); omega
  have lp := lp (clr M c)
  have lc := lc (clr M c)
  have ll := len_le (hol (clr M c) 3)
  have lh := hol_lt (clr M c) 3
  have hr : c % 13 < 13 := Nat.mod_lt _ (by decide)
  have hcr : (c : Int).tmod 13 = ((c % 13 : Nat) : Int) := by rw [Int.tmod_eq_emod_of_nonneg (by omega)]; omega
  have hcs : (c : Int).tdiv 13 = 3 := by rw [Int.tdiv_eq_ediv_of_nonneg (by omega)]; omega
  unfold shp at S1 S2
  rw [ho 0 (by decide), ho 1 (by decide), ho 2 (by decide), tl] at S2
  clear ho om tl hs
  obtain ⟨n0, hn0⟩ : ∃ n, len (hol (clr M c) 0) = n := ⟨_, rfl⟩
  obtain ⟨n1, hn1⟩ : ∃ n, len (hol (clr M c) 1) = n := ⟨_, rfl⟩
  obtain ⟨n2, hn2⟩ : ∃ n, len (hol (clr M c) 2) = n := ⟨_, rfl⟩
  obtain ⟨n3, hn3⟩ : ∃ n, len (hol (clr M c) 3) = n := ⟨_, rfl⟩
  rw [hn0, hn1, hn2, hn3] at S1 S2
  rw [hn3] at ll
  clear hn0 hn1 hn2 hn3
  obtain ⟨q, hq⟩ : ∃ q, n3 + 1 = q := ⟨_, rfl⟩
  rw [hq] at S2
  have e1 : IntKind.i64.wrap ((n3 : Int) + 1) = (q : Int) := by rw [IntWalk.i64_in _ (by omega)]; omega
  obtain ⟨r, hr2⟩ : ∃ r, c % 13 = r := ⟨_, rfl⟩
  rw [hr2] at hcr hr hm tp tc
  have e2 : IntKind.u8.wrap (r : Int) = r := by rw [IntKind.wrap_u8', Int.emod_eq_of_lt (by omega) (by omega)]
  have e3 : IntKind.i64.wrap ((r : Int) - 8) = (r : Int) - 8 := IntWalk.i64_in _ (by omega)
  have e4 : max ((r : Int) - 8) 0 = ((r - 8 : Nat) : Int) := by omega
  have e5 : IntKind.i64.wrap ((r : Int) - 10) = (r : Int) - 10 := IntWalk.i64_in _ (by omega)
  have e6 : max ((r : Int) - 10) 0 = ((r - 10 : Nat) : Int) := by omega
  obtain ⟨x8, hx8⟩ : ∃ x, (r : Int) - 8 = x := ⟨_, rfl⟩
  obtain ⟨x10, hx10⟩ : ∃ x, (r : Int) - 10 = x := ⟨_, rfl⟩
  obtain ⟨y8, hy8⟩ : ∃ x, r - 8 = x := ⟨_, rfl⟩
  obtain ⟨y10, hy10⟩ : ∃ x, r - 10 = x := ⟨_, rfl⟩
  rw [hx8] at e3 e4
  rw [hx10] at e5 e6
  rw [hy8] at e4 tp
  rw [hy10] at e6 tc
  have hr13 := hr
  have f1 : IntKind.u16.wrap ((2 : Int) ^ r) = ((2 ^ r : Nat) : Int) := by
    have h2 : 2 ^ r < 2 ^ 13 := Nat.pow_lt_pow_right (by decide) hr
    have e : ((2 : Int) ^ r) = ((2 ^ r : Nat) : Int) := by simp
    rw [e, IntKind.wrap_u16]
    generalize 2 ^ r = p at h2
    omega
  have f2 : bits .or .u16 (hol (clr M c) 3 : Int) ((2 ^ r : Nat) : Int) = (hol (mor M c) 3 : Int) := by
    have h2 : 2 ^ r < 2 ^ 13 := Nat.pow_lt_pow_right (by decide) hr
    rw [hm]
    exact u16_or_nat _ _ (by omega) (by omega)
  have hmn2 : min r 16 = r := by omega
  clear hr2 hq hm hr13 hc hM lh ll
  obtain ⟨u, hu⟩ : ∃ u, 2 ^ r = u := ⟨_, rfl⟩
  rw [hu] at f1 f2
  obtain ⟨v, hv⟩ : ∃ u, 2 ^ c = u := ⟨_, rfl⟩
  rw [hv] at k1 k2
  obtain ⟨k0, k1⟩ := k1
  obtain ⟨L, hL⟩ : ∃ L, clr M c = L := ⟨_, rfl⟩
  obtain ⟨MO, hMO⟩ : ∃ L, mor M c = L := ⟨_, rfl⟩
  rw [hL] at k1 k2 P2 C2 Q2 S1 H2 tp tc tq lp lc f2
  rw [hMO] at k2 P1 C1 Q1 S2 H1 tp tc tq f2
  obtain ⟨ph, hph⟩ : ∃ x, hol L 3 = x := ⟨_, rfl⟩
  obtain ⟨pg, hpg⟩ : ∃ x, hol MO 3 = x := ⟨_, rfl⟩
  rw [hph] at H2 f2
  rw [hpg] at H1 f2
  rw [tp] at P1
  rw [tc] at C1
  obtain ⟨pl, hpl⟩ : ∃ x, tot pts L = x := ⟨_, rfl⟩
  obtain ⟨cl, hcl⟩ : ∃ x, tot ctl L = x := ⟨_, rfl⟩
  obtain ⟨ql, hql⟩ : ∃ x, tot qck L = x := ⟨_, rfl⟩
  obtain ⟨qm, hqm⟩ : ∃ x, tot qck MO = x := ⟨_, rfl⟩
  rw [hpl] at P1 P2 lp
  rw [hcl] at C1 C2 lc
  rw [hql] at Q2 tq
  rw [hqm] at Q1 tq
  have g1 : IntKind.i64.wrap ((pl : Int) + y8) = ((pl + y8 : Nat) : Int) := by rw [IntWalk.i64_in _ (by omega)]; omega
  have g2 : IntKind.i64.wrap ((cl : Int) + y10) = ((cl + y10 : Nat) : Int) := by rw [IntWalk.i64_in _ (by omega)]; omega
  have g3n : ql ≤ qm := tq
  have g3 : decide ((qm : Int) ≥ (ql : Int)) = true := decide_eq_true (by omega)
  obtain ⟨pm, hpm⟩ : ∃ x, pl + y8 = x := ⟨_, rfl⟩
  obtain ⟨cm, hcm⟩ : ∃ x, cl + y10 = x := ⟨_, rfl⟩
  rw [hpm] at P1 g1
  rw [hcm] at C1 g2
  have S1 := Lib.hid S1
  have S2 := Lib.hid S2
  have P1 := Lib.hid P1
  have P2 := Lib.hid P2
  have C1 := Lib.hid C1
  have C2 := Lib.hid C2
  have Q1 := Lib.hid Q1
  have Q2 := Lib.hid Q2
  have H1 := Lib.hid H1
  have H2 := Lib.hid H2
  have eqa := eqI4 n0 n1 n2 q n0 n1 n2 q
  simp only [and_self, decide_true] at eqa
  clear hML hMM tp tc tq lp lc hu hv hL hMO hph hpg hpl hcl hql hqm hpm hcm hy8 hy10 hr
  go_enter Tryd.func7, Tryd.ntmps7
  go_upto_region 7 with (first | (go_at_call_of 26 (Value.int .u64 L); refine (S1.out _).mono ?_; rintro e w1 ⟨rfl, hbel⟩; obtain ⟨o1, j1, rfl⟩ := grow_of_below hbel; clear hbel) | (go_at_call_of 26 (Value.int .u64 MO); refine (S2.out _).mono ?_; rintro e w1 ⟨rfl, hbel⟩; obtain ⟨o2, j2, rfl⟩ := grow_of_below hbel; clear hbel))
  generalize hW : World.alloc (World.alloc _ _) _ = W
  have bel : Below w.heap.size w W := by rw [← hW]; repeat (first | (with_reducible exact Below.refl _ _) | ((with_reducible refine below_grow ?_ ?_); rotate_left; focus (first | omega | (simp [go_sem]; done) | (simp [go_sem]; omega))) | ((with_reducible refine Below.alloc ?_ ?_ _); rotate_left; focus (first | omega | (simp [go_sem]; done) | (simp [go_sem]; omega))) | ((with_reducible refine Below.setCell ?_ ?_ _); rotate_left; focus (first | omega | (simp [go_sem]; done) | (simp [go_sem]; omega))) | (with_reducible refine Below.drew ?_) | (with_reducible refine below_drewN _ ?_))
  have hlt : w.heap.size + sz (o1 ++ o2) + 1 < W.heap.size := by rw [← hW]; simp [go_sem]
  have ca0 : W.cell? ⟨w.heap.size + sz (o1 ++ o2), 0, none⟩ = some (.int .i64 n0) := by rw [← hW]; simp [go_sem]
  have ca1 : W.cell? ⟨w.heap.size + sz (o1 ++ o2), 1, none⟩ = some (.int .i64 n1) := by rw [← hW]; simp [go_sem]
  have ca2 : W.cell? ⟨w.heap.size + sz (o1 ++ o2), 2, none⟩ = some (.int .i64 n2) := by rw [← hW]; simp [go_sem]
  have ca3 : W.cell? ⟨w.heap.size + sz (o1 ++ o2), 3, none⟩ = some (.int .i64 q) := by rw [← hW]; simp [go_sem]
  have cb0 : W.cell? ⟨w.heap.size + sz (o1 ++ o2) + 1, 0, none⟩ = some (.int .i64 n0) := by rw [← hW]; simp [go_sem]
  have cb1 : W.cell? ⟨w.heap.size + sz (o1 ++ o2) + 1, 1, none⟩ = some (.int .i64 n1) := by rw [← hW]; simp [go_sem]
  have cb2 : W.cell? ⟨w.heap.size + sz (o1 ++ o2) + 1, 2, none⟩ = some (.int .i64 n2) := by rw [← hW]; simp [go_sem]
  have cb3 : W.cell? ⟨w.heap.size + sz (o1 ++ o2) + 1, 3, none⟩ = some (.int .i64 q) := by rw [← hW]; simp [go_sem]
  clear hW
  generalize hA : w.heap.size + sz (o1 ++ o2) = A at *
  clear S1 S2 k0 k1 k2 hcr hcs e1 h0 h1 hmn lp lc
  haveI i1 : NeZero (inW A W) := inW_mk (by omega)
  haveI i2 : NeZero (inW (A + 1) W) := inW_mk hlt
  refine wp_region_any (by kernel_rfl) ?_
  change wpAny _ _ _ _ _ _ _ (World.drew _)
  refine wpAny_take (i := 0) (v := ?v0k1) rfl (by kernel_rfl) (by kernel_rfl) (by kernel_rfl) (fun _ _ _ h => h) (Or.inl ⟨by rfl, ?y0k1⟩) ?r0k1
  case y0k1 => intro W; go_simp; try with_reducible rfl
  go_simp
  refine wpAny_take (i := 2) (v := ?v2k2) rfl (by kernel_rfl) (by kernel_rfl) (by kernel_rfl) (fun _ _ _ h => h) (Or.inl ⟨by rfl, ?y2k2⟩) ?r2k2
  case y2k2 => intro W; go_simp; try with_reducible rfl
  go_simp
  refine wpAny_take (i := 4) (v := ?v4k3) rfl (by kernel_rfl) (by kernel_rfl) (by kernel_rfl) (fun _ _ _ h => h) (Or.inl ⟨by rfl, ?y4k3⟩) ?r4k3
  case y4k3 => intro W; go_simp; try with_reducible rfl
  go_simp
  refine wpAny_take (i := 5) (v := ?v5k4) rfl (by kernel_rfl) (by kernel_rfl) (by kernel_rfl) (fun _ _ _ h => h) (Or.inl ⟨by rfl, ?y5k4⟩) ?r5k4
  case y5k4 => intro W; go_simp; try with_reducible rfl
  go_simp
  refine wpAny_take (i := 6) (v := ?v6k5) rfl (by kernel_rfl) (by kernel_rfl) (by kernel_rfl) (fun _ _ _ h => h) (Or.inl ⟨by rfl, ?y6k5⟩) ?r6k5
  case y6k5 => intro W; go_simp; try with_reducible rfl
  go_simp
  refine wpAny_ready (rs := [1]) (by kernel_rfl) (by simp) ?_
  refine AllReady.cons rfl (fun K hK => ?_) AllReady.nil
  go_simp
  go_at_call 19; refine (P1.out _).mono ?_; rintro e w1 ⟨rfl, hbel⟩; obtain ⟨o3, j3, rfl⟩ := grow_of_below hbel; clear hbel
  refine hK _ _ ?_; clear hK K
  refine wpAny_ready (rs := [3]) (by kernel_rfl) (by simp) ?_
  refine AllReady.cons rfl (fun K hK => ?_) AllReady.nil
  go_simp
  go_at_call 19; refine (P2.out _).mono ?_; rintro e w1 ⟨rfl, hbel⟩; obtain ⟨o4, j4, rfl⟩ := grow_of_below hbel; clear hbel
  refine hK _ _ ?_; clear hK K
  refine wpAny_take (i := 7) (v := ?v7k6) rfl (by kernel_rfl) (by kernel_rfl) (by kernel_rfl) (fun _ _ _ h => h) (Or.inl ⟨by rfl, ?y7k6⟩) ?r7k6
  case y7k6 => intro W; go_simp; try with_reducible rfl
  go_simp
  refine wpAny_take (i := 8) (v := ?v8k7) rfl (by kernel_rfl) (by kernel_rfl) (by kernel_rfl) (fun _ _ _ h => h) (Or.inl ⟨by rfl, ?y8k7⟩) ?r8k7
  case y8k7 => intro W; go_simp; try with_reducible rfl
  go_simp
  refine wpAny_take (i := 9) (v := ?v9k8) rfl (by kernel_rfl) (by kernel_rfl) (by kernel_rfl) (fun _ _ _ h => h) (Or.inl ⟨by rfl, ?y9k8⟩) ?r9k8
  case y9k8 => intro W; go_simp; try with_reducible rfl
  go_simp
  refine wpAny_take (i := 10) (v := ?v10k9) rfl (by kernel_rfl) (by kernel_rfl) (by kernel_rfl) (fun _ _ _ h => h) (Or.inl ⟨by rfl, ?y10k9⟩) ?r10k9
  case y10k9 => intro W; go_simp; try with_reducible rfl
  go_simp
  refine wpAny_take (i := 12) (v := ?v12k10) rfl (by kernel_rfl) (by kernel_rfl) (by kernel_rfl) (fun _ _ _ h => h) (Or.inl ⟨by rfl, ?y12k10⟩) ?r12k10
  case y12k10 => intro W; go_simp; try with_reducible rfl
  go_simp
  refine wpAny_take (i := 14) (v := ?v14k11) rfl (by kernel_rfl) (by kernel_rfl) (by kernel_rfl) (fun _ _ _ h => h) (Or.inl ⟨by rfl, ?y14k11⟩) ?r14k11
  case y14k11 => intro W; go_simp; try with_reducible rfl
  go_simp
  refine wpAny_take (i := 15) (v := ?v15k12) rfl (by kernel_rfl) (by kernel_rfl) (by kernel_rfl) (fun _ _ _ h => h) (Or.inl ⟨by rfl, ?y15k12⟩) ?r15k12
  case y15k12 => intro W; go_simp; try with_reducible rfl
  go_simp
  refine wpAny_take (i := 16) (v := ?v16k13) rfl (by kernel_rfl) (by kernel_rfl) (by kernel_rfl) (fun _ _ _ h => h) (Or.inl ⟨by rfl, ?y16k13⟩) ?r16k13
  case y16k13 => intro W; go_simp; try with_reducible rfl
  go_simp
  refine wpAny_ready (rs := [11]) (by kernel_rfl) (by simp) ?_
  refine AllReady.cons rfl (fun K hK => ?_) AllReady.nil
  go_simp
  go_at_call 20; refine (C1.out _).mono ?_; rintro e w1 ⟨rfl, hbel⟩; obtain ⟨o5, j5, rfl⟩ := grow_of_below hbel; clear hbel
  refine hK _ _ ?_; clear hK K
  refine wpAny_ready (rs := [13]) (by kernel_rfl) (by simp) ?_
  refine AllReady.cons rfl (fun K hK => ?_) AllReady.nil
  go_simp
  go_at_call 20; refine (C2.out _).mono ?_; rintro e w1 ⟨rfl, hbel⟩; obtain ⟨o6, j6, rfl⟩ := grow_of_below hbel; clear hbel
  refine hK _ _ ?_; clear hK K
  refine wpAny_take (i := 17) (v := ?v17k14) rfl (by kernel_rfl) (by kernel_rfl) (by kernel_rfl) (fun _ _ _ h => h) (Or.inl ⟨by rfl, ?y17k14⟩) ?r17k14
  case y17k14 => intro W; go_simp; try with_reducible rfl
  go_simp
  refine wpAny_take (i := 18) (v := ?v18k15) rfl (by kernel_rfl) (by kernel_rfl) (by kernel_rfl) (fun _ _ _ h => h) (Or.inl ⟨by rfl, ?y18k15⟩) ?r18k15
  case y18k15 => intro W; go_simp; try with_reducible rfl
  go_simp
  refine wpAny_take (i := 19) (v := ?v19k16) rfl (by kernel_rfl) (by kernel_rfl) (by kernel_rfl) (fun _ _ _ h => h) (Or.inl ⟨by rfl, ?y19k16⟩) ?r19k16
  case y19k16 => intro W; go_simp; try with_reducible rfl
  go_simp
  refine wpAny_take (i := 20) (v := ?v20k17) rfl (by kernel_rfl) (by kernel_rfl) (by kernel_rfl) (fun _ _ _ h => h) (Or.inl ⟨by rfl, ?y20k17⟩) ?r20k17
  case y20k17 => intro W; go_simp; try with_reducible rfl
  go_simp
  refine wpAny_take (i := 21) (v := ?v21k18) rfl (by kernel_rfl) (by kernel_rfl) (by kernel_rfl) (fun _ _ _ h => h) (Or.inl ⟨by rfl, ?y21k18⟩) ?r21k18
  case y21k18 => intro W; go_simp; try with_reducible rfl
  go_simp
  refine wpAny_take (i := 23) (v := ?v23k19) rfl (by kernel_rfl) (by kernel_rfl) (by kernel_rfl) (fun _ _ _ h => h) (Or.inl ⟨by rfl, ?y23k19⟩) ?r23k19
  case y23k19 => intro W; go_simp; try with_reducible rfl
  go_simp
  refine wpAny_ready (rs := [22]) (by kernel_rfl) (by simp) ?_
  refine AllReady.cons rfl (fun K hK => ?_) AllReady.nil
  go_simp
  go_at_call 22; refine (Q1.out _).mono ?_; rintro e w1 ⟨rfl, hbel⟩; obtain ⟨o7, j7, rfl⟩ := grow_of_below hbel; clear hbel
  refine hK _ _ ?_; clear hK K
  refine wpAny_ready (rs := [24]) (by kernel_rfl) (by simp) ?_
  refine AllReady.cons rfl (fun K hK => ?_) AllReady.nil
  go_simp
  go_at_call 22; refine (Q2.out _).mono ?_; rintro e w1 ⟨rfl, hbel⟩; obtain ⟨o8, j8, rfl⟩ := grow_of_below hbel; clear hbel
  refine hK _ _ ?_; clear hK K
  refine wpAny_take (i := 25) (v := ?v25k20) rfl (by kernel_rfl) (by kernel_rfl) (by kernel_rfl) (fun _ _ _ h => h) (Or.inl ⟨by rfl, ?y25k20⟩) ?r25k20
  case y25k20 => intro W; go_simp; try with_reducible rfl
  go_simp
  refine wpAny_take (i := 26) (v := ?v26k21) rfl (by kernel_rfl) (by kernel_rfl) (by kernel_rfl) (fun _ _ _ h => h) (Or.inl ⟨by rfl, ?y26k21⟩) ?r26k21
  case y26k21 => intro W; go_simp; try with_reducible rfl
  go_simp
  refine wpAny_take (i := 27) (v := ?v27k22) rfl (by kernel_rfl) (by kernel_rfl) (by kernel_rfl) (fun _ _ _ h => h) (Or.inl ⟨by rfl, ?y27k22⟩) ?r27k22
  case y27k22 => intro W; go_simp; try with_reducible rfl
  go_simp
  refine wpAny_ready (rs := [28, 29]) (by kernel_rfl) (by simp) ?_
  refine AllReady.cons rfl (fun K hK => ?_) ?_
  · skip
    go_simp
    refine hK _ _ ?_; clear hK K
    refine wpAny_ready (rs := [29]) (by kernel_rfl) (by simp) ?_
    refine AllReady.cons rfl (fun K hK => ?_) AllReady.nil
    go_simp
    refine hK _ _ ?_; clear hK K
    refine wpAny_take (i := 30) (v := ?v30k23) rfl (by kernel_rfl) (by kernel_rfl) (by kernel_rfl) (fun _ _ _ h => h) (Or.inl ⟨by rfl, ?y30k23⟩) ?r30k23
    case y30k23 => intro W; go_simp; try with_reducible rfl
    go_simp
    refine wpAny_take (i := 31) (v := ?v31k24) rfl (by kernel_rfl) (by kernel_rfl) (by kernel_rfl) (fun _ _ _ h => h) (Or.inl ⟨by rfl, ?y31k24⟩) ?r31k24
    case y31k24 => intro W; go_simp; try with_reducible rfl
    go_simp
    refine wpAny_take (i := 32) (v := ?v32k25) rfl (by kernel_rfl) (by kernel_rfl) (by kernel_rfl) (fun _ _ _ h => h) (Or.inl ⟨by rfl, ?y32k25⟩) ?r32k25
    case y32k25 => intro W; go_simp; try with_reducible rfl
    go_simp
    refine wpAny_take (i := 33) (v := ?v33k26) rfl (by kernel_rfl) (by kernel_rfl) (by kernel_rfl) (fun _ _ _ h => h) (Or.inl ⟨by rfl, ?y33k26⟩) ?r33k26
    case y33k26 => intro W; go_simp; try with_reducible rfl
    go_simp
    refine wpAny_take (i := 34) (v := ?v34k27) rfl (by kernel_rfl) (by kernel_rfl) (by kernel_rfl) (fun _ _ _ h => h) (Or.inl ⟨by rfl, ?y34k27⟩) ?r34k27
    case y34k27 => intro W; go_simp; try with_reducible rfl
    go_simp
    refine wpAny_take (i := 36) (v := ?v36k28) rfl (by kernel_rfl) (by kernel_rfl) (by kernel_rfl) (fun _ _ _ h => h) (Or.inl ⟨by rfl, ?y36k28⟩) ?r36k28
    case y36k28 => intro W; go_simp; try with_reducible rfl
    go_simp
    refine wpAny_take (i := 37) (v := ?v37k29) rfl (by kernel_rfl) (by kernel_rfl) (by kernel_rfl) (fun _ _ _ h => h) (Or.inl ⟨by rfl, ?y37k29⟩) ?r37k29
    case y37k29 => intro W; go_simp; try with_reducible rfl
    go_simp
    refine wpAny_take (i := 39) (v := ?v39k30) rfl (by kernel_rfl) (by kernel_rfl) (by kernel_rfl) (fun _ _ _ h => h) (Or.inl ⟨by rfl, ?y39k30⟩) ?r39k30
    case y39k30 => intro W; go_simp; try with_reducible rfl
    go_simp
    refine wpAny_take (i := 40) (v := ?v40k31) rfl (by kernel_rfl) (by kernel_rfl) (by kernel_rfl) (fun _ _ _ h => h) (Or.inl ⟨by rfl, ?y40k31⟩) ?r40k31
    case y40k31 => intro W; go_simp; try with_reducible rfl
    go_simp
    refine wpAny_ready (rs := [35]) (by kernel_rfl) (by simp) ?_
    refine AllReady.cons rfl (fun K hK => ?_) AllReady.nil
    go_simp
    go_at_call 12; refine (H1.out _).mono ?_; rintro e w1 ⟨rfl, rfl⟩
    refine hK _ _ ?_; clear hK K
    refine wpAny_ready (rs := [38]) (by kernel_rfl) (by simp) ?_
    refine AllReady.cons rfl (fun K hK => ?_) AllReady.nil
    go_simp
    go_at_call 12; refine (H2.out _).mono ?_; rintro e w1 ⟨rfl, rfl⟩
    refine hK _ _ ?_; clear hK K
    refine wpAny_take (i := 41) (v := ?v41k32) rfl (by kernel_rfl) (by kernel_rfl) (by kernel_rfl) (fun _ _ _ h => h) (Or.inl ⟨by rfl, ?y41k32⟩) ?r41k32
    case y41k32 => intro W; go_simp; try with_reducible rfl
    go_simp
    refine wpAny_take (i := 42) (v := ?v42k33) rfl (by kernel_rfl) (by kernel_rfl) (by kernel_rfl) (fun _ _ _ h => h) (Or.inl ⟨by rfl, ?y42k33⟩) ?r42k33
    case y42k33 => intro W; go_simp; try with_reducible rfl
    go_simp
    refine wpAny_take (i := 43) (v := ?v43k34) rfl (by kernel_rfl) (by kernel_rfl) (by kernel_rfl) (fun _ _ _ h => h) (Or.inl ⟨by rfl, ?y43k34⟩) ?r43k34
    case y43k34 => intro W; go_simp; try with_reducible rfl
    go_simp
    refine wpAny_take (i := 44) (v := ?v44k35) rfl (by kernel_rfl) (by kernel_rfl) (by kernel_rfl) (fun _ _ _ h => h) (Or.inl ⟨by rfl, ?y44k35⟩) ?r44k35
    case y44k35 => intro W; go_simp; try with_reducible rfl
    go_simp
    refine wpAny_ready (rs := [45]) (by kernel_rfl) (by simp) ?_
    refine AllReady.cons rfl (fun K hK => ?_) AllReady.nil
    go_simp
    go_at_call 14; refine (AW.out _).mono ?_; rintro e w1 ⟨rfl, hbel⟩; obtain ⟨o9, j9, rfl⟩ := grow_of_below hbel; clear hbel
    refine hK _ _ ?_; clear hK K
    refine wpAny_take (i := 46) (v := ?v46k36) rfl (by kernel_rfl) (by kernel_rfl) (by kernel_rfl) (fun _ _ _ h => h) (Or.inl ⟨by rfl, ?y46k36⟩) ?r46k36
    case y46k36 => intro W; go_simp; try with_reducible rfl
    go_simp
    refine wpAny_take (i := 47) (v := ?v47k37) rfl (by kernel_rfl) (by kernel_rfl) (by kernel_rfl) (fun _ _ _ h => h) (Or.inl ⟨by rfl, ?y47k37⟩) ?r47k37
    case y47k37 => intro W; go_simp; try with_reducible rfl
    go_simp
    refine wpAny_done (by kernel_rfl) ?_ _
    go_wp2
    go_ret
    exact ⟨rfl, by repeat (first | (with_reducible exact bel) | ((with_reducible refine below_grow ?_ ?_); rotate_left; focus (first | omega | (simp [go_sem]; done) | (simp [go_sem]; omega))) | ((with_reducible refine Below.alloc ?_ ?_ _); rotate_left; focus (first | omega | (simp [go_sem]; done) | (simp [go_sem]; omega))) | ((with_reducible refine Below.setCell ?_ ?_ _); rotate_left; focus (first | omega | (simp [go_sem]; done) | (simp [go_sem]; omega))) | (with_reducible refine Below.drew ?_) | (with_reducible refine below_drewN _ ?_))⟩
  refine AllReady.cons rfl (fun K hK => ?_) ?_
  · skip
    go_simp
    refine hK _ _ ?_; clear hK K
    refine wpAny_ready (rs := [28]) (by kernel_rfl) (by simp) ?_
    refine AllReady.cons rfl (fun K hK => ?_) AllReady.nil
    go_simp
    refine hK _ _ ?_; clear hK K
    refine wpAny_take (i := 30) (v := ?v30k38) rfl (by kernel_rfl) (by kernel_rfl) (by kernel_rfl) (fun _ _ _ h => h) (Or.inl ⟨by rfl, ?y30k38⟩) ?r30k38
    case y30k38 => intro W; go_simp; try with_reducible rfl
    go_simp
    refine wpAny_take (i := 31) (v := ?v31k39) rfl (by kernel_rfl) (by kernel_rfl) (by kernel_rfl) (fun _ _ _ h => h) (Or.inl ⟨by rfl, ?y31k39⟩) ?r31k39
    case y31k39 => intro W; go_simp; try with_reducible rfl
    go_simp
    refine wpAny_take (i := 32) (v := ?v32k40) rfl (by kernel_rfl) (by kernel_rfl) (by kernel_rfl) (fun _ _ _ h => h) (Or.inl ⟨by rfl, ?y32k40⟩) ?r32k40
    case y32k40 => intro W; go_simp; try with_reducible rfl
    go_simp
    refine wpAny_take (i := 33) (v := ?v33k41) rfl (by kernel_rfl) (by kernel_rfl) (by kernel_rfl) (fun _ _ _ h => h) (Or.inl ⟨by rfl, ?y33k41⟩) ?r33k41
    case y33k41 => intro W; go_simp; try with_reducible rfl
    go_simp
    refine wpAny_take (i := 34) (v := ?v34k42) rfl (by kernel_rfl) (by kernel_rfl) (by kernel_rfl) (fun _ _ _ h => h) (Or.inl ⟨by rfl, ?y34k42⟩) ?r34k42
    case y34k42 => intro W; go_simp; try with_reducible rfl
    go_simp
    refine wpAny_take (i := 36) (v := ?v36k43) rfl (by kernel_rfl) (by kernel_rfl) (by kernel_rfl) (fun _ _ _ h => h) (Or.inl ⟨by rfl, ?y36k43⟩) ?r36k43
    case y36k43 => intro W; go_simp; try with_reducible rfl
    go_simp
    refine wpAny_take (i := 37) (v := ?v37k44) rfl (by kernel_rfl) (by kernel_rfl) (by kernel_rfl) (fun _ _ _ h => h) (Or.inl ⟨by rfl, ?y37k44⟩) ?r37k44
    case y37k44 => intro W; go_simp; try with_reducible rfl
    go_simp
    refine wpAny_take (i := 39) (v := ?v39k45) rfl (by kernel_rfl) (by kernel_rfl) (by kernel_rfl) (fun _ _ _ h => h) (Or.inl ⟨by rfl, ?y39k45⟩) ?r39k45
    case y39k45 => intro W; go_simp; try with_reducible rfl
    go_simp
    refine wpAny_take (i := 40) (v := ?v40k46) rfl (by kernel_rfl) (by kernel_rfl) (by kernel_rfl) (fun _ _ _ h => h) (Or.inl ⟨by rfl, ?y40k46⟩) ?r40k46
    case y40k46 => intro W; go_simp; try with_reducible rfl
    go_simp
    refine wpAny_ready (rs := [35]) (by kernel_rfl) (by simp) ?_
    refine AllReady.cons rfl (fun K hK => ?_) AllReady.nil
    go_simp
    go_at_call 12; refine (H1.out _).mono ?_; rintro e w1 ⟨rfl, rfl⟩
    refine hK _ _ ?_; clear hK K
    refine wpAny_ready (rs := [38]) (by kernel_rfl) (by simp) ?_
    refine AllReady.cons rfl (fun K hK => ?_) AllReady.nil
    go_simp
    go_at_call 12; refine (H2.out _).mono ?_; rintro e w1 ⟨rfl, rfl⟩
    refine hK _ _ ?_; clear hK K
    refine wpAny_take (i := 41) (v := ?v41k47) rfl (by kernel_rfl) (by kernel_rfl) (by kernel_rfl) (fun _ _ _ h => h) (Or.inl ⟨by rfl, ?y41k47⟩) ?r41k47
    case y41k47 => intro W; go_simp; try with_reducible rfl
    go_simp
    refine wpAny_take (i := 42) (v := ?v42k48) rfl (by kernel_rfl) (by kernel_rfl) (by kernel_rfl) (fun _ _ _ h => h) (Or.inl ⟨by rfl, ?y42k48⟩) ?r42k48
    case y42k48 => intro W; go_simp; try with_reducible rfl
    go_simp
    refine wpAny_take (i := 43) (v := ?v43k49) rfl (by kernel_rfl) (by kernel_rfl) (by kernel_rfl) (fun _ _ _ h => h) (Or.inl ⟨by rfl, ?y43k49⟩) ?r43k49
    case y43k49 => intro W; go_simp; try with_reducible rfl
    go_simp
    refine wpAny_take (i := 44) (v := ?v44k50) rfl (by kernel_rfl) (by kernel_rfl) (by kernel_rfl) (fun _ _ _ h => h) (Or.inl ⟨by rfl, ?y44k50⟩) ?r44k50
    case y44k50 => intro W; go_simp; try with_reducible rfl
    go_simp
    refine wpAny_ready (rs := [45]) (by kernel_rfl) (by simp) ?_
    refine AllReady.cons rfl (fun K hK => ?_) AllReady.nil
    go_simp
    go_at_call 14; refine (AW.out _).mono ?_; rintro e w1 ⟨rfl, hbel⟩; obtain ⟨o9, j9, rfl⟩ := grow_of_below hbel; clear hbel
    refine hK _ _ ?_; clear hK K
    refine wpAny_take (i := 46) (v := ?v46k51) rfl (by kernel_rfl) (by kernel_rfl) (by kernel_rfl) (fun _ _ _ h => h) (Or.inl ⟨by rfl, ?y46k51⟩) ?r46k51
    case y46k51 => intro W; go_simp; try with_reducible rfl
    go_simp
    refine wpAny_take (i := 47) (v := ?v47k52) rfl (by kernel_rfl) (by kernel_rfl) (by kernel_rfl) (fun _ _ _ h => h) (Or.inl ⟨by rfl, ?y47k52⟩) ?r47k52
    case y47k52 => intro W; go_simp; try with_reducible rfl
    go_simp
    refine wpAny_done (by kernel_rfl) ?_ _
    go_wp2
    go_ret
    exact ⟨rfl, by repeat (first | (with_reducible exact bel) | ((with_reducible refine below_grow ?_ ?_); rotate_left; focus (first | omega | (simp [go_sem]; done) | (simp [go_sem]; omega))) | ((with_reducible refine Below.alloc ?_ ?_ _); rotate_left; focus (first | omega | (simp [go_sem]; done) | (simp [go_sem]; omega))) | ((with_reducible refine Below.setCell ?_ ?_ _); rotate_left; focus (first | omega | (simp [go_sem]; done) | (simp [go_sem]; omega))) | (with_reducible refine Below.drew ?_) | (with_reducible refine below_drewN _ ?_))⟩
  exact AllReady.nil
theorem handMore_walk (a0 a1 : Int) (b0 : 0 ≤ a0 ∧ a0 ≤ 18446744073709551615) (b1 : 0 ≤ a1 ∧ a1 ≤ 255) (w : World) :
    Calls Tryd.prog 7 #[.int .u64 a0, .int .u8 a1] w fun e w' => e = .returned (.bool true) ∧ Below w.heap.size w w' := by
  obtain ⟨n, rfl⟩ : ∃ n : Nat, a0 = n := ⟨a0.toNat, by omega⟩
  obtain ⟨k, rfl⟩ : ∃ k : Nat, a1 = k := ⟨a1.toNat, by omega⟩
  have h0 : (n : Int).tmod 4503599627370496 = ((n % 4503599627370496 : Nat) : Int) := by rw [Int.tmod_eq_emod_of_nonneg (by omega)]; omega
  have h1 : (k : Int).tmod 52 = ((k % 52 : Nat) : Int) := by rw [Int.tmod_eq_emod_of_nonneg (by omega)]; omega
  have hm : n % 4503599627370496 < 4503599627370496 := Nat.mod_lt _ (by decide)
  have hc : k % 52 < 52 := Nat.mod_lt _ (by decide)
  rcases (show k % 52 / 13 = 0 ∨ k % 52 / 13 = 1 ∨ k % 52 / 13 = 2 ∨ k % 52 / 13 = 3 by omega) with e | e | e | e
  · exact handMore_0 _ _ _ _ hm hc e h0 h1 w
  · exact handMore_1 _ _ _ _ hm hc e h0 h1 w
  · exact handMore_2 _ _ _ _ hm hc e h0 h1 w
  · exact handMore_3 _ _ _ _ hm hc e h0 h1 w
end Go.Proofs.YtgndhdcnofblaaaDoor
