/- FracOrder. -/
import Derived.Test.YtignphcnjgbikaaDoorT
import Derived.Test.YtignphcnjgbikaaDoorBa
namespace Go.Proofs.YtignphcnjgbikaaDoor
open Go.RowKit

set_option maxRecDepth 100000 in
set_option maxHeartbeats 4000000 in
theorem order_walk (a b c d m n : Int) (ha : -32768 ≤ a ∧ a ≤ 32767) (hb : -32768 ≤ b ∧ b ≤ 32767) (hc : -32768 ≤ c ∧ c ≤ 32767) (hd' : -32768 ≤ d ∧ d ≤ 32767) (hm : -32768 ≤ m ∧ m ≤ 32767) (hn : -32768 ≤ n ∧ n ≤ 32767) (w : World) (he : EnvE w) :
    Calls Tryd.prog 5 #[.int .i16 a, .int .i16 b, .int .i16 c, .int .i16 d, .int .i16 m, .int .i16 n] w fun e w' => e = .returned (.bool true) ∧ Below w.heap.size w w' := by
  have bf := some_bnd a b ha
  have bg := some_bnd c d hc
  have bh := some_bnd m n hm
  obtain ⟨fn, fd, hf⟩ := isR_ex (someR a b)
  obtain ⟨gn, gd, hg⟩ := isR_ex (someR c d)
  obtain ⟨hn', hd'', hh⟩ := isR_ex (someR m n)
  have s1 := someB a b ha hb hf
  have s2 := someB c d hc hd' hg
  have s3 := someB m n hm hn hh
  generalize someR a b = f at *
  generalize someR c d = g at *
  generalize someR m n = h at *
  have S1 := Lib.hid s1
  have S2 := Lib.hid s2
  have S3 := Lib.hid s3
  clear s1 s2 s3
  have bx : bndR 2147483648 1073741824 (f + h) := bnd_add bf bh
  have by' : bndR 2147483648 1073741824 (g + h) := bnd_add bg bh
  have bu : bndR 1073741824 1073741824 (f * h) := bnd_mul bf bh
  have bv : bndR 1073741824 1073741824 (g * h) := bnd_mul bg bh
  obtain ⟨dn, dd, hd⟩ := isR_ex (f - g)
  obtain ⟨xn, xd, hx⟩ := isR_ex (f + h)
  obtain ⟨yn, yd, hy⟩ := isR_ex (g + h)
  obtain ⟨un, ud, hu⟩ := isR_ex (f * h)
  obtain ⟨vn, vd, hv⟩ := isR_ex (g * h)
  obtain ⟨P, hP⟩ : ∃ P, cmpR f g = P := ⟨_, rfl⟩
  obtain ⟨Q, hQ⟩ : ∃ P, cmpR g h = P := ⟨_, rfl⟩
  obtain ⟨R, hR⟩ : ∃ P, cmpR f h = P := ⟨_, rfl⟩
  have hB : cmpR g f = -P := by rw [cmp_back f g, hP]
  have hS : cmpR (f + h) (g + h) = P := by rw [cmp_add, hP]
  obtain ⟨S, hs⟩ : ∃ S, sgnR h = S := ⟨_, rfl⟩
  obtain ⟨T, hTT⟩ : ∃ T, P * S = T := ⟨_, rfl⟩
  have hT : cmpR (f * h) (g * h) = T := by rw [cmp_mul, hP, hs, hTT]
  have kP : Hid ((P = -1 ∧ dn < 0 ∧ ¬ (fn = gn ∧ fd = gd)) ∨ (P = 0 ∧ dn = 0 ∧ fn = gn ∧ fd = gd) ∨ (P = 1 ∧ 0 < dn ∧ ¬ (fn = gn ∧ fd = gd))) := Lib.hid (by
    have e1 := sgn_sub f g
    rw [hP] at e1
    have e2 := isR_eq hf hg
    have e3 : f = g ↔ P = 0 := by rw [← hP]; exact cmp_zero.symm
    unfold sgnR at e1
    rw [hd.1] at e1
    rw [← e2, e3]
    split at e1
    · right; right; exact ⟨e1.symm, by assumption, by omega⟩
    · split at e1
      · left; exact ⟨e1.symm, by assumption, by omega⟩
      · right; left
        exact ⟨e1.symm, by omega, e1.symm⟩)
  have kS : Hid ((S = -1 ∧ hn' < 0) ∨ (S = 0 ∧ hn' = 0) ∨ (S = 1 ∧ 0 < hn')) := Lib.hid (by
    unfold sgnR at hs
    rw [hh.1] at hs
    split at hs
    · right; right; exact ⟨hs.symm, by assumption⟩
    · split at hs
      · left; exact ⟨hs.symm, by assumption⟩
      · right; left; exact ⟨hs.symm, by omega⟩)
  have kQ : Hid (P = Q → R = P) := Lib.hid (by
    intro e
    rw [← hR, cmp_chain f g h (by rw [hP, hQ, e]), hP])
  have kT := Lib.hid hTT
  clear hTT hs
  go_enter Tryd.func5, Tryd.ntmps5
  go_upto_region 3 with (first | (go_at_call 11; refine (awake_calls _ he).mono ?_; rintro e w0 ⟨rfl, hb⟩; obtain ⟨o0, j0, rfl⟩ := grow_of_below hb; clear hb))
  go_cut [13, 14, 15] (fun s13 s14 s15 wx => ∃ p q r : Nat, s13 = .pointer (some ⟨p, 0, none⟩) ∧ s14 = .pointer (some ⟨q, 0, none⟩) ∧ s15 = .pointer (some ⟨r, 0, none⟩) ∧ Below w.heap.size w wx ∧ NeZero (inW p wx) ∧ NeZero (inW q wx) ∧ NeZero (inW r wx) ∧ wx.cell? ⟨p, 0, none⟩ = some (.int .i64 fn) ∧ wx.cell? ⟨p, 1, none⟩ = some (.int .i64 fd) ∧ wx.cell? ⟨q, 0, none⟩ = some (.int .i64 gn) ∧ wx.cell? ⟨q, 1, none⟩ = some (.int .i64 gd) ∧ wx.cell? ⟨r, 0, none⟩ = some (.int .i64 hn') ∧ wx.cell? ⟨r, 1, none⟩ = some (.int .i64 hd''))
  case first =>
    go_wp2_with (first | (go_at_call_of 12 (a); refine (S1.out _).mono ?_; rintro e w0 ⟨rfl, hb⟩; obtain ⟨o1, j1, rfl⟩ := grow_of_below hb; clear hb) | (go_at_call_of 12 (c); refine (S2.out _).mono ?_; rintro e w0 ⟨rfl, hb⟩; obtain ⟨o2, j2, rfl⟩ := grow_of_below hb; clear hb) | (go_at_call_of 12 (m); refine (S3.out _).mono ?_; rintro e w0 ⟨rfl, hb⟩; obtain ⟨o3, j3, rfl⟩ := grow_of_below hb; clear hb))
    all_goals go_meet
    all_goals exact ⟨_, _, _, rfl, rfl, rfl, by repeat (first | (with_reducible exact Below.refl _ _) | ((with_reducible refine below_grow ?_ ?_); rotate_left; focus (first | omega | (simp [go_sem]; done) | (simp [go_sem]; omega))) | ((with_reducible refine Below.alloc ?_ ?_ _); rotate_left; focus (first | omega | (simp [go_sem]; done) | (simp [go_sem]; omega))) | ((with_reducible refine Below.setCell ?_ ?_ _); rotate_left; focus (first | omega | (simp [go_sem]; done) | (simp [go_sem]; omega))) | (with_reducible refine Below.drew ?_) | (with_reducible refine below_drewN _ ?_)), inferInstance, inferInstance, inferInstance, by simp [go_sem], by simp [go_sem], by simp [go_sem], by simp [go_sem], by simp [go_sem], by simp [go_sem]⟩
  case rest =>
    obtain ⟨p, q, r, rfl, rfl, rfl, hbx, ip, iq, ir, p0, p1, q0, q1, r0, r1⟩ := hcut
    have hsx := hbx.size
    go_upto_region 4 with fail
    go_upto_region 5 with (go_at_call 21; refine (cmpB f g hf hg hP 32768 32768 32768 32768 bf bg (by decide) _).mono ?_; rintro e w0 ⟨rfl, hb⟩; obtain ⟨o4, j4, rfl⟩ := grow_of_below hb; clear hb)
    go_upto_region 6 with (go_at_call 21; refine (cmpB g h hg hh hQ 32768 32768 32768 32768 bg bh (by decide) _).mono ?_; rintro e w0 ⟨rfl, hb⟩; obtain ⟨o5, j5, rfl⟩ := grow_of_below hb; clear hb)
    go_upto_region 7 with (go_at_call 21; refine (cmpB f h hf hh hR 32768 32768 32768 32768 bf bh (by decide) _).mono ?_; rintro e w0 ⟨rfl, hb⟩; obtain ⟨o6, j6, rfl⟩ := grow_of_below hb; clear hb)
    go_upto_region 8 with (go_at_call 21; refine (cmpB g f hg hf hB 32768 32768 32768 32768 bg bf (by decide) _).mono ?_; rintro e w0 ⟨rfl, hb⟩; obtain ⟨o7, j7, rfl⟩ := grow_of_below hb; clear hb)
    go_cut [24, 25] (fun s24 s25 wx => ∃ u : Nat, s24 = .pointer (some ⟨u, 0, none⟩) ∧ s25 = .int .i64 0 ∧ Below w.heap.size w wx ∧ NeZero (inW p wx) ∧ NeZero (inW q wx) ∧ NeZero (inW r wx) ∧ NeZero (inW u wx) ∧ wx.cell? ⟨p, 0, none⟩ = some (.int .i64 fn) ∧ wx.cell? ⟨p, 1, none⟩ = some (.int .i64 fd) ∧ wx.cell? ⟨q, 0, none⟩ = some (.int .i64 gn) ∧ wx.cell? ⟨q, 1, none⟩ = some (.int .i64 gd) ∧ wx.cell? ⟨r, 0, none⟩ = some (.int .i64 hn') ∧ wx.cell? ⟨r, 1, none⟩ = some (.int .i64 hd'') ∧ wx.cell? ⟨u, 0, none⟩ = some (.int .i64 dn) ∧ wx.cell? ⟨u, 1, none⟩ = some (.int .i64 dd))
    case first =>
      go_wp2_with (go_at_call 16; refine (subB f g hf hg hd 32768 32768 32768 32768 bf bg (by decide) _).mono ?_; rintro e w0 ⟨rfl, hb⟩; obtain ⟨o8, j8, rfl⟩ := grow_of_below hb; clear hb)
      go_meet
      exact ⟨_, rfl, rfl, by repeat (first | (with_reducible exact hbx) | ((with_reducible refine below_grow ?_ ?_); rotate_left; focus (first | omega | (simp [go_sem]; done) | (simp [go_sem]; omega))) | ((with_reducible refine Below.alloc ?_ ?_ _); rotate_left; focus (first | omega | (simp [go_sem]; done) | (simp [go_sem]; omega))) | ((with_reducible refine Below.setCell ?_ ?_ _); rotate_left; focus (first | omega | (simp [go_sem]; done) | (simp [go_sem]; omega))) | (with_reducible refine Below.drew ?_) | (with_reducible refine below_drewN _ ?_)), inferInstance, inferInstance, inferInstance, inferInstance, by simp [go_sem, *], by simp [go_sem, *], by simp [go_sem, *], by simp [go_sem, *], by simp [go_sem, *], by simp [go_sem, *], by simp [go_sem, *], by simp [go_sem, *]⟩
    case rest =>
      clear p0 p1 q0 q1 r0 r1
      obtain ⟨u, rfl, rfl, hby, ip, iq, ir, iu, p0, p1, q0, q1, r0, r1, u0, u1⟩ := hcut
      have hsy := hby.size
      go_upto_region 9 with fail
      go_upto_region 10 with (go_at_call 14; refine (addB f h hf hh hx 32768 32768 32768 32768 bf bh (by decide) _).mono ?_; rintro e w0 ⟨rfl, hb⟩; obtain ⟨o9, j9, rfl⟩ := grow_of_below hb; clear hb)
      go_upto_region 11 with (go_at_call 14; refine (addB g h hg hh hy 32768 32768 32768 32768 bg bh (by decide) _).mono ?_; rintro e w0 ⟨rfl, hb⟩; obtain ⟨o10, j10, rfl⟩ := grow_of_below hb; clear hb)
      go_upto_region 12 with (go_at_call 21; refine (cmpB (f + h) (g + h) hx hy hS 2147483648 1073741824 2147483648 1073741824 bx by' (by decide) _).mono ?_; rintro e w0 ⟨rfl, hb⟩; obtain ⟨o11, j11, rfl⟩ := grow_of_below hb; clear hb)
      go_upto_region 13 with (go_at_call 15; refine (mulB f h hf hh hu 32768 32768 32768 32768 bf bh (by decide) _).mono ?_; rintro e w0 ⟨rfl, hb⟩; obtain ⟨o12, j12, rfl⟩ := grow_of_below hb; clear hb)
      go_upto_region 14 with (go_at_call 15; refine (mulB g h hg hh hv 32768 32768 32768 32768 bg bh (by decide) _).mono ?_; rintro e w0 ⟨rfl, hb⟩; obtain ⟨o13, j13, rfl⟩ := grow_of_below hb; clear hb)
      go_upto_region 15 with (go_at_call 21; refine (cmpB (f * h) (g * h) hu hv hT 1073741824 1073741824 1073741824 1073741824 bu bv (by decide) _).mono ?_; rintro e w0 ⟨rfl, hb⟩; obtain ⟨o14, j14, rfl⟩ := grow_of_below hb; clear hb)
      go_cut [36] (fun s36 wx => s36 = .int .i64 0 ∧ Below w.heap.size w wx ∧ NeZero (inW p wx) ∧ NeZero (inW q wx) ∧ NeZero (inW r wx) ∧ NeZero (inW u wx) ∧ wx.cell? ⟨p, 0, none⟩ = some (.int .i64 fn) ∧ wx.cell? ⟨p, 1, none⟩ = some (.int .i64 fd) ∧ wx.cell? ⟨q, 0, none⟩ = some (.int .i64 gn) ∧ wx.cell? ⟨q, 1, none⟩ = some (.int .i64 gd) ∧ wx.cell? ⟨r, 0, none⟩ = some (.int .i64 hn') ∧ wx.cell? ⟨r, 1, none⟩ = some (.int .i64 hd'') ∧ wx.cell? ⟨u, 0, none⟩ = some (.int .i64 dn) ∧ wx.cell? ⟨u, 1, none⟩ = some (.int .i64 dd))
      case first =>
        go_wp2
        go_meet
        exact ⟨rfl, by repeat (first | (with_reducible exact hby) | ((with_reducible refine below_grow ?_ ?_); rotate_left; focus (first | omega | (simp [go_sem]; done) | (simp [go_sem]; omega))) | ((with_reducible refine Below.alloc ?_ ?_ _); rotate_left; focus (first | omega | (simp [go_sem]; done) | (simp [go_sem]; omega))) | ((with_reducible refine Below.setCell ?_ ?_ _); rotate_left; focus (first | omega | (simp [go_sem]; done) | (simp [go_sem]; omega))) | (with_reducible refine Below.drew ?_) | (with_reducible refine below_drewN _ ?_)), inferInstance, inferInstance, inferInstance, inferInstance, by simp [go_sem, *], by simp [go_sem, *], by simp [go_sem, *], by simp [go_sem, *], by simp [go_sem, *], by simp [go_sem, *], by simp [go_sem, *], by simp [go_sem, *]⟩
      case rest =>
        clear p0 p1 q0 q1 r0 r1 u0 u1
        obtain ⟨rfl, hbz, ip, iq, ir, iu, p0, p1, q0, q1, r0, r1, u0, u1⟩ := hcut
        have kP := kP.out
        have kS := kS.out
        have kQ := kQ.out
        have kT := kT.out
        clear hP hQ hR hB hS hT hf hg hh hd hx hy hu hv bf bg bh bx by' bu bv
        rcases kP with ⟨rfl, k1, k2⟩ | ⟨rfl, k1, rfl, rfl⟩ | ⟨rfl, k1, k2⟩
        · by_cases hfn : fn = gn
          · have hfd : ¬ fd = gd := fun g => k2 ⟨hfn, g⟩
            subst hfn
            clear k2
            rcases kS with ⟨rfl, k3⟩ | ⟨rfl, k3⟩ | ⟨rfl, k3⟩
            · obtain rfl : T = 1 := by omega
              clear kT
              by_cases hq : (-1) = Q
              · subst hq
                obtain rfl := kQ rfl
                go_wp2
                go_ret
                exact ⟨rfl, hbz⟩
              · clear kQ
                go_wp2
                go_ret
                exact ⟨rfl, hbz⟩
            · obtain rfl : T = 0 := by omega
              clear kT
              by_cases hq : (-1) = Q
              · subst hq
                obtain rfl := kQ rfl
                go_wp2
                go_ret
                exact ⟨rfl, hbz⟩
              · clear kQ
                go_wp2
                go_ret
                exact ⟨rfl, hbz⟩
            · obtain rfl : T = -1 := by omega
              clear kT
              by_cases hq : (-1) = Q
              · subst hq
                obtain rfl := kQ rfl
                go_wp2
                go_ret
                exact ⟨rfl, hbz⟩
              · clear kQ
                go_wp2
                go_ret
                exact ⟨rfl, hbz⟩
          · clear k2
            rcases kS with ⟨rfl, k3⟩ | ⟨rfl, k3⟩ | ⟨rfl, k3⟩
            · obtain rfl : T = 1 := by omega
              clear kT
              by_cases hq : (-1) = Q
              · subst hq
                obtain rfl := kQ rfl
                go_wp2
                go_ret
                exact ⟨rfl, hbz⟩
              · clear kQ
                go_wp2
                go_ret
                exact ⟨rfl, hbz⟩
            · obtain rfl : T = 0 := by omega
              clear kT
              by_cases hq : (-1) = Q
              · subst hq
                obtain rfl := kQ rfl
                go_wp2
                go_ret
                exact ⟨rfl, hbz⟩
              · clear kQ
                go_wp2
                go_ret
                exact ⟨rfl, hbz⟩
            · obtain rfl : T = -1 := by omega
              clear kT
              by_cases hq : (-1) = Q
              · subst hq
                obtain rfl := kQ rfl
                go_wp2
                go_ret
                exact ⟨rfl, hbz⟩
              · clear kQ
                go_wp2
                go_ret
                exact ⟨rfl, hbz⟩
        · rcases kS with ⟨rfl, k3⟩ | ⟨rfl, k3⟩ | ⟨rfl, k3⟩
          · obtain rfl : T = 0 := by omega
            clear kT
            by_cases hq : (0) = Q
            · subst hq
              obtain rfl := kQ rfl
              go_wp2
              go_ret
              exact ⟨rfl, hbz⟩
            · clear kQ
              go_wp2
              go_ret
              exact ⟨rfl, hbz⟩
          · obtain rfl : T = 0 := by omega
            clear kT
            by_cases hq : (0) = Q
            · subst hq
              obtain rfl := kQ rfl
              go_wp2
              go_ret
              exact ⟨rfl, hbz⟩
            · clear kQ
              go_wp2
              go_ret
              exact ⟨rfl, hbz⟩
          · obtain rfl : T = 0 := by omega
            clear kT
            by_cases hq : (0) = Q
            · subst hq
              obtain rfl := kQ rfl
              go_wp2
              go_ret
              exact ⟨rfl, hbz⟩
            · clear kQ
              go_wp2
              go_ret
              exact ⟨rfl, hbz⟩
        · by_cases hfn : fn = gn
          · have hfd : ¬ fd = gd := fun g => k2 ⟨hfn, g⟩
            subst hfn
            clear k2
            rcases kS with ⟨rfl, k3⟩ | ⟨rfl, k3⟩ | ⟨rfl, k3⟩
            · obtain rfl : T = -1 := by omega
              clear kT
              by_cases hq : (1) = Q
              · subst hq
                obtain rfl := kQ rfl
                go_wp2
                go_ret
                exact ⟨rfl, hbz⟩
              · clear kQ
                go_wp2
                go_ret
                exact ⟨rfl, hbz⟩
            · obtain rfl : T = 0 := by omega
              clear kT
              by_cases hq : (1) = Q
              · subst hq
                obtain rfl := kQ rfl
                go_wp2
                go_ret
                exact ⟨rfl, hbz⟩
              · clear kQ
                go_wp2
                go_ret
                exact ⟨rfl, hbz⟩
            · obtain rfl : T = 1 := by omega
              clear kT
              by_cases hq : (1) = Q
              · subst hq
                obtain rfl := kQ rfl
                go_wp2
                go_ret
                exact ⟨rfl, hbz⟩
              · clear kQ
                go_wp2
                go_ret
                exact ⟨rfl, hbz⟩
          · clear k2
            rcases kS with ⟨rfl, k3⟩ | ⟨rfl, k3⟩ | ⟨rfl, k3⟩
            · obtain rfl : T = -1 := by omega
              clear kT
              by_cases hq : (1) = Q
              · subst hq
                obtain rfl := kQ rfl
                go_wp2
                go_ret
                exact ⟨rfl, hbz⟩
              · clear kQ
                go_wp2
                go_ret
                exact ⟨rfl, hbz⟩
            · obtain rfl : T = 0 := by omega
              clear kT
              by_cases hq : (1) = Q
              · subst hq
                obtain rfl := kQ rfl
                go_wp2
                go_ret
                exact ⟨rfl, hbz⟩
              · clear kQ
                go_wp2
                go_ret
                exact ⟨rfl, hbz⟩
            · obtain rfl : T = 1 := by omega
              clear kT
              by_cases hq : (1) = Q
              · subst hq
                obtain rfl := kQ rfl
                go_wp2
                go_ret
                exact ⟨rfl, hbz⟩
              · clear kQ
                go_wp2
                go_ret
                exact ⟨rfl, hbz⟩
end Go.Proofs.YtignphcnjgbikaaDoor
