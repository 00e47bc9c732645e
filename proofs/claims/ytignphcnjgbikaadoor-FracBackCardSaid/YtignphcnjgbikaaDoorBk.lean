/- FracBack. -/
import Derived.Test.YtignphcnjgbikaaDoorT
import Derived.Test.YtignphcnjgbikaaDoorTx
namespace Go.Proofs.YtignphcnjgbikaaDoor
open Go.RowKit

theorem bs_app (l : List UInt8) (a : Array UInt8) : ByteArray.mk l.toArray ++ ByteArray.mk a = ByteArray.mk (l ++ a.toList).toArray := by
  apply ByteArray.ext
  simp [ByteArray.data_append]
def six (s : List UInt8) : List (List UInt8) := [48 :: s, 32 :: s, 43 :: s, s ++ [47, 49], s ++ [32], s ++ [47]]
set_option maxRecDepth 100000 in
set_option maxHeartbeats 4000000 in
theorem back_walk (a b c d : Int) (ha : I64 a) (hb : I64 b) (hc : I64 c) (hd : I64 d) (w : World) (he : EnvE w) :
    Calls Tryd.prog 7 #[.int .i64 a, .int .i64 b, .int .i64 c, .int .i64 d] w fun e w' => e = .returned (.bool true) ∧ Below w.heap.size w w' := by
  obtain ⟨fn, fd, e1, m1, i1, i2, k1⟩ := make_any a b ha hb
  obtain ⟨gn, gd, e2, m2, i3, i4, k2⟩ := make_any c d hc hd
  have M1 := Lib.hid m1
  have M2 := Lib.hid m2
  clear m1 m2
  rcases k1 with ⟨rfl, r1⟩ | n1
  · rcases k2 with ⟨rfl, r2⟩ | n2
    · obtain ⟨s, hs⟩ : ∃ s, textZ fn fd = s := ⟨_, rfl⟩
      obtain ⟨t, ht⟩ : ∃ t, textZ gn gd = t := ⟨_, rfl⟩
      have T1 : Hid (∀ w, Env w → Calls Tryd.prog 30 #[.agg #[.int .i64 fn, .int .i64 fd]] w fun e w' => e = .returned (.tuple #[.string ⟨s.toArray⟩, .int .i64 0]) ∧ Below w.heap.size w w') := Lib.hid (fun w he => by rw [← hs]; exact textZ_calls fn fd r1 i1 i2 w he)
      have T2 : Hid (∀ w, Env w → Calls Tryd.prog 30 #[.agg #[.int .i64 gn, .int .i64 gd]] w fun e w' => e = .returned (.tuple #[.string ⟨t.toArray⟩, .int .i64 0]) ∧ Below w.heap.size w w') := Lib.hid (fun w he => by rw [← ht]; exact textZ_calls gn gd r2 i3 i4 w he)
      have R1 : Hid (∀ w, EnvE w → Calls Tryd.prog 31 #[.string ⟨s.toArray⟩] w fun e w' => e = .returned (.tuple #[.agg #[.int .i64 fn, .int .i64 fd], .int .i64 0]) ∧ Below w.heap.size w w') := Lib.hid (fun w he => by rw [← hs]; exact read_back fn fd r1 i1 i2 w he)
      have hl : s.length ≤ 43 := by rw [← hs]; exact text_len fn fd i1 i2
      have V : ∀ x ∈ six s, ∀ w, EnvE w → Calls Tryd.prog 31 #[.string ⟨x.toArray⟩] w fun e w' => e = .returned (.tuple #[.agg #[.int .i64 0, .int .i64 0], .int .i64 10]) ∧ Below w.heap.size w w' := by
        intro x hx w he
        have hn : NoText x ∧ x.length ≤ 100 := by
          simp only [six, List.mem_cons, List.not_mem_nil, or_false] at hx
          rcases hx with rfl | rfl | rfl | rfl | rfl | rfl
          · exact ⟨by rw [← hs]; exact no_zero fn fd, by simp; omega⟩
          · exact ⟨no_head 32 (.inl rfl) s, by simp; omega⟩
          · exact ⟨no_head 43 (.inr rfl) s, by simp; omega⟩
          · exact ⟨by rw [← hs]; exact no_one fn fd, by simp; omega⟩
          · exact ⟨no_last 32 (.inl rfl) s, by simp; omega⟩
          · exact ⟨no_last 47 (.inr rfl) s, by simp; omega⟩
        exact read_none x hn.2 hn.1 w he
      have VV := Lib.hid V
      clear V
      have kE : Hid ((fn = gn ∧ fd = gd ∧ s = t) ∨ (¬ (fn = gn ∧ fd = gd) ∧ (s == t) = false)) := Lib.hid (by
        by_cases h : s = t
        · left
          have := text_inj fn fd gn gd i1 i2 i3 i4 (by rw [hs, ht, h])
          exact ⟨this.1, this.2, h⟩
        · right
          exact ⟨fun g => h (by rw [← hs, ← ht, g.1, g.2]), beq_eq_false_iff_ne.2 h⟩)
      clear hs ht r1 r2
      go_enter Tryd.func7, Tryd.ntmps7
      go_upto_region 3 with (go_at_call 11; refine (awake_calls _ he).mono ?_; rintro e w0 ⟨rfl, hb⟩; obtain ⟨o0, j0, rfl⟩ := grow_of_below hb; clear hb)
      go_cut [9, 10] (fun s9 s10 wx => ∃ p : Nat, s9 = .pointer (some ⟨p, 0, none⟩) ∧ s10 = .int .i64 0 ∧ Below w.heap.size w wx ∧ NeZero (inW p wx) ∧ wx.cell? ⟨p, 0, none⟩ = some (.int .i64 fn) ∧ wx.cell? ⟨p, 1, none⟩ = some (.int .i64 fd))
      case first =>
        go_wp2_with (go_at_call 22; refine (M1.out _).mono ?_; rintro e w0 ⟨rfl, hb⟩; obtain ⟨o1, j1, rfl⟩ := grow_of_below hb; clear hb)
        go_meet
        exact ⟨_, rfl, rfl, by repeat (first | (with_reducible exact Below.refl _ _) | ((with_reducible refine below_grow ?_ ?_); rotate_left; focus (first | omega | (simp [go_sem]; done) | (simp [go_sem]; omega))) | ((with_reducible refine Below.alloc ?_ ?_ _); rotate_left; focus (first | omega | (simp [go_sem]; done) | (simp [go_sem]; omega))) | ((with_reducible refine Below.setCell ?_ ?_ _); rotate_left; focus (first | omega | (simp [go_sem]; done) | (simp [go_sem]; omega))) | (with_reducible refine Below.drew ?_) | (with_reducible refine below_drewN _ ?_)), inferInstance, by simp [go_sem], by simp [go_sem]⟩
      case rest =>
        obtain ⟨p, rfl, rfl, hbx, ip, p0, p1⟩ := hcut
        have hsx := hbx.size
        have hE := he.below hbx
        go_upto_region 4 with fail
        go_upto_region 7 with (go_at_call 22; refine (M2.out _).mono ?_; rintro e w0 ⟨rfl, hb⟩; obtain ⟨o2, j2, rfl⟩ := grow_of_below hb; clear hb)
        go_upto_region 8 with (go_at_call 30; refine (T1.out _ (hE.env.below (by repeat (first | (with_reducible exact Below.refl _ _) | ((with_reducible refine below_grow ?_ ?_); rotate_left; focus (first | omega | (simp [go_sem]; done) | (simp [go_sem]; omega))) | ((with_reducible refine Below.alloc ?_ ?_ _); rotate_left; focus (first | omega | (simp [go_sem]; done) | (simp [go_sem]; omega))) | ((with_reducible refine Below.setCell ?_ ?_ _); rotate_left; focus (first | omega | (simp [go_sem]; done) | (simp [go_sem]; omega))) | (with_reducible refine Below.drew ?_) | (with_reducible refine below_drewN _ ?_))))).mono ?_; rintro e w0 ⟨rfl, hb⟩; obtain ⟨o3, j3, rfl⟩ := grow_of_below hb; clear hb)
        go_upto_region 9 with (go_at_call 30; refine (T2.out _ (hE.env.below (by repeat (first | (with_reducible exact Below.refl _ _) | ((with_reducible refine below_grow ?_ ?_); rotate_left; focus (first | omega | (simp [go_sem]; done) | (simp [go_sem]; omega))) | ((with_reducible refine Below.alloc ?_ ?_ _); rotate_left; focus (first | omega | (simp [go_sem]; done) | (simp [go_sem]; omega))) | ((with_reducible refine Below.setCell ?_ ?_ _); rotate_left; focus (first | omega | (simp [go_sem]; done) | (simp [go_sem]; omega))) | (with_reducible refine Below.drew ?_) | (with_reducible refine below_drewN _ ?_))))).mono ?_; rintro e w0 ⟨rfl, hb⟩; obtain ⟨o4, j4, rfl⟩ := grow_of_below hb; clear hb)
        go_upto_region 10 with (go_at_call 31; refine (R1.out _ (hE.below (by repeat (first | (with_reducible exact Below.refl _ _) | ((with_reducible refine below_grow ?_ ?_); rotate_left; focus (first | omega | (simp [go_sem]; done) | (simp [go_sem]; omega))) | ((with_reducible refine Below.alloc ?_ ?_ _); rotate_left; focus (first | omega | (simp [go_sem]; done) | (simp [go_sem]; omega))) | ((with_reducible refine Below.setCell ?_ ?_ _); rotate_left; focus (first | omega | (simp [go_sem]; done) | (simp [go_sem]; omega))) | (with_reducible refine Below.drew ?_) | (with_reducible refine below_drewN _ ?_))))).mono ?_; rintro e w0 ⟨rfl, hb⟩; obtain ⟨o5, j5, rfl⟩ := grow_of_below hb; clear hb)
        have kE := kE.out
        rcases kE with ⟨rfl, rfl, rfl⟩ | ⟨k1, k2⟩
        · have k3 : (s == s) = true := by simp
          go_upto_region 12 with fail
          go_cut [88, 89, 90] (fun s88 s89 s90 wx => ∃ q : Nat, s88 = .slice (some ⟨q, 0, none⟩) 6 6 ∧ s89 = .int .i64 6 ∧ s90 = .int .i64 0 ∧ Below w.heap.size w wx ∧ NeZero (inW q wx) ∧ (∀ k (h : k < 6), wx.cell? ⟨q, k, none⟩ = some (.string ⟨((six s)[k]'h).toArray⟩)))
          case first =>
            go_wp2
            go_meet
            refine ⟨_, rfl, rfl, rfl, by repeat (first | (with_reducible exact hbx) | ((with_reducible refine below_grow ?_ ?_); rotate_left; focus (first | omega | (simp [go_sem]; done) | (simp [go_sem]; omega))) | ((with_reducible refine Below.alloc ?_ ?_ _); rotate_left; focus (first | omega | (simp [go_sem]; done) | (simp [go_sem]; omega))) | ((with_reducible refine Below.setCell ?_ ?_ _); rotate_left; focus (first | omega | (simp [go_sem]; done) | (simp [go_sem]; omega))) | (with_reducible refine Below.drew ?_) | (with_reducible refine below_drewN _ ?_)), inferInstance, ?_⟩
            intro k hk
            match k, hk with
            | 0, _ | 1, _ | 2, _ | 3, _ | 4, _ | 5, _ => simp [go_sem, six, bs1, bs_app]
          case rest =>
            obtain ⟨q, rfl, rfl, rfl, hby, iq, hq⟩ := hcut
            have hsy := hby.size
            have hE2 := he.below hby
            go_wp2
            go_loopw [90] (fun i wr => ∃ k : Nat, k ≤ 6 ∧ i = .int .i64 k ∧ Below wc.heap.size wc wr) (fun i _ => 6 - (intOf i).toNat)
            case atStart => exact ⟨0, by omega, rfl, Below.refl _ _⟩
            case round =>
              obtain ⟨k, hk, rfl, hbk⟩ := hrel
              have hsk := hbk.size
              have hE3 := hE2.below hbk
              by_cases hlt : k < 6
              · have hz : wr.cell? ⟨q, k, none⟩ = some (.string ⟨((six s)[k]'hlt).toArray⟩) := (hbk.cell (p := ⟨q, k, none⟩) (World.block_lt_of_cell? wc _ (hq k hlt))).trans (hq k hlt)
                have hx : (six s)[k]'hlt ∈ six s := List.getElem_mem _
                generalize (six s)[k]'hlt = x at hz hx
                have V1 := Lib.hid (VV.out x hx)
                clear hq VV hx
                go_wp2_with (go_at_call 31; refine (V1.out _ (hE3.below (by repeat (first | (with_reducible exact Below.refl _ _) | ((with_reducible refine below_grow ?_ ?_); rotate_left; focus (first | omega | (simp [go_sem]; done) | (simp [go_sem]; omega))) | ((with_reducible refine Below.alloc ?_ ?_ _); rotate_left; focus (first | omega | (simp [go_sem]; done) | (simp [go_sem]; omega))) | ((with_reducible refine Below.setCell ?_ ?_ _); rotate_left; focus (first | omega | (simp [go_sem]; done) | (simp [go_sem]; omega))) | (with_reducible refine Below.drew ?_) | (with_reducible refine below_drewN _ ?_))))).mono ?_; rintro e w0 ⟨rfl, hb⟩; obtain ⟨o6, j6, rfl⟩ := grow_of_below hb; clear hb)
                go_roundw
                case rel => exact ⟨k + 1, by omega, by go_num, by repeat (first | (with_reducible exact hbk) | ((with_reducible refine below_grow ?_ ?_); rotate_left; focus (first | omega | (simp [go_sem]; done) | (simp [go_sem]; omega))) | ((with_reducible refine Below.alloc ?_ ?_ _); rotate_left; focus (first | omega | (simp [go_sem]; done) | (simp [go_sem]; omega))) | ((with_reducible refine Below.setCell ?_ ?_ _); rotate_left; focus (first | omega | (simp [go_sem]; done) | (simp [go_sem]; omega))) | (with_reducible refine Below.drew ?_) | (with_reducible refine below_drewN _ ?_))⟩
                case measure => simp [intOf]; omega
              · have hk2 : k = 6 := by omega
                subst hk2
                clear hq VV
                go_wp2
                go_ret
                exact ⟨rfl, hby.trans (hbk.mono hsy)⟩
        · by_cases hfn : fn = gn
          · have hfd : ¬ fd = gd := fun g => k1 ⟨hfn, g⟩
            subst hfn
            clear k1
            go_upto_region 12 with fail
            go_cut [88, 89, 90] (fun s88 s89 s90 wx => ∃ q : Nat, s88 = .slice (some ⟨q, 0, none⟩) 6 6 ∧ s89 = .int .i64 6 ∧ s90 = .int .i64 0 ∧ Below w.heap.size w wx ∧ NeZero (inW q wx) ∧ (∀ k (h : k < 6), wx.cell? ⟨q, k, none⟩ = some (.string ⟨((six s)[k]'h).toArray⟩)))
            case first =>
              go_wp2
              go_meet
              refine ⟨_, rfl, rfl, rfl, by repeat (first | (with_reducible exact hbx) | ((with_reducible refine below_grow ?_ ?_); rotate_left; focus (first | omega | (simp [go_sem]; done) | (simp [go_sem]; omega))) | ((with_reducible refine Below.alloc ?_ ?_ _); rotate_left; focus (first | omega | (simp [go_sem]; done) | (simp [go_sem]; omega))) | ((with_reducible refine Below.setCell ?_ ?_ _); rotate_left; focus (first | omega | (simp [go_sem]; done) | (simp [go_sem]; omega))) | (with_reducible refine Below.drew ?_) | (with_reducible refine below_drewN _ ?_)), inferInstance, ?_⟩
              intro k hk
              match k, hk with
              | 0, _ | 1, _ | 2, _ | 3, _ | 4, _ | 5, _ => simp [go_sem, six, bs1, bs_app]
            case rest =>
              obtain ⟨q, rfl, rfl, rfl, hby, iq, hq⟩ := hcut
              have hsy := hby.size
              have hE2 := he.below hby
              go_wp2
              go_loopw [90] (fun i wr => ∃ k : Nat, k ≤ 6 ∧ i = .int .i64 k ∧ Below wc.heap.size wc wr) (fun i _ => 6 - (intOf i).toNat)
              case atStart => exact ⟨0, by omega, rfl, Below.refl _ _⟩
              case round =>
                obtain ⟨k, hk, rfl, hbk⟩ := hrel
                have hsk := hbk.size
                have hE3 := hE2.below hbk
                by_cases hlt : k < 6
                · have hz : wr.cell? ⟨q, k, none⟩ = some (.string ⟨((six s)[k]'hlt).toArray⟩) := (hbk.cell (p := ⟨q, k, none⟩) (World.block_lt_of_cell? wc _ (hq k hlt))).trans (hq k hlt)
                  have hx : (six s)[k]'hlt ∈ six s := List.getElem_mem _
                  generalize (six s)[k]'hlt = x at hz hx
                  have V1 := Lib.hid (VV.out x hx)
                  clear hq VV hx
                  go_wp2_with (go_at_call 31; refine (V1.out _ (hE3.below (by repeat (first | (with_reducible exact Below.refl _ _) | ((with_reducible refine below_grow ?_ ?_); rotate_left; focus (first | omega | (simp [go_sem]; done) | (simp [go_sem]; omega))) | ((with_reducible refine Below.alloc ?_ ?_ _); rotate_left; focus (first | omega | (simp [go_sem]; done) | (simp [go_sem]; omega))) | ((with_reducible refine Below.setCell ?_ ?_ _); rotate_left; focus (first | omega | (simp [go_sem]; done) | (simp [go_sem]; omega))) | (with_reducible refine Below.drew ?_) | (with_reducible refine below_drewN _ ?_))))).mono ?_; rintro e w0 ⟨rfl, hb⟩; obtain ⟨o6, j6, rfl⟩ := grow_of_below hb; clear hb)
                  go_roundw
                  case rel => exact ⟨k + 1, by omega, by go_num, by repeat (first | (with_reducible exact hbk) | ((with_reducible refine below_grow ?_ ?_); rotate_left; focus (first | omega | (simp [go_sem]; done) | (simp [go_sem]; omega))) | ((with_reducible refine Below.alloc ?_ ?_ _); rotate_left; focus (first | omega | (simp [go_sem]; done) | (simp [go_sem]; omega))) | ((with_reducible refine Below.setCell ?_ ?_ _); rotate_left; focus (first | omega | (simp [go_sem]; done) | (simp [go_sem]; omega))) | (with_reducible refine Below.drew ?_) | (with_reducible refine below_drewN _ ?_))⟩
                  case measure => simp [intOf]; omega
                · have hk2 : k = 6 := by omega
                  subst hk2
                  clear hq VV
                  go_wp2
                  go_ret
                  exact ⟨rfl, hby.trans (hbk.mono hsy)⟩
          · clear k1
            go_upto_region 12 with fail
            go_cut [88, 89, 90] (fun s88 s89 s90 wx => ∃ q : Nat, s88 = .slice (some ⟨q, 0, none⟩) 6 6 ∧ s89 = .int .i64 6 ∧ s90 = .int .i64 0 ∧ Below w.heap.size w wx ∧ NeZero (inW q wx) ∧ (∀ k (h : k < 6), wx.cell? ⟨q, k, none⟩ = some (.string ⟨((six s)[k]'h).toArray⟩)))
            case first =>
              go_wp2
              go_meet
              refine ⟨_, rfl, rfl, rfl, by repeat (first | (with_reducible exact hbx) | ((with_reducible refine below_grow ?_ ?_); rotate_left; focus (first | omega | (simp [go_sem]; done) | (simp [go_sem]; omega))) | ((with_reducible refine Below.alloc ?_ ?_ _); rotate_left; focus (first | omega | (simp [go_sem]; done) | (simp [go_sem]; omega))) | ((with_reducible refine Below.setCell ?_ ?_ _); rotate_left; focus (first | omega | (simp [go_sem]; done) | (simp [go_sem]; omega))) | (with_reducible refine Below.drew ?_) | (with_reducible refine below_drewN _ ?_)), inferInstance, ?_⟩
              intro k hk
              match k, hk with
              | 0, _ | 1, _ | 2, _ | 3, _ | 4, _ | 5, _ => simp [go_sem, six, bs1, bs_app]
            case rest =>
              obtain ⟨q, rfl, rfl, rfl, hby, iq, hq⟩ := hcut
              have hsy := hby.size
              have hE2 := he.below hby
              go_wp2
              go_loopw [90] (fun i wr => ∃ k : Nat, k ≤ 6 ∧ i = .int .i64 k ∧ Below wc.heap.size wc wr) (fun i _ => 6 - (intOf i).toNat)
              case atStart => exact ⟨0, by omega, rfl, Below.refl _ _⟩
              case round =>
                obtain ⟨k, hk, rfl, hbk⟩ := hrel
                have hsk := hbk.size
                have hE3 := hE2.below hbk
                by_cases hlt : k < 6
                · have hz : wr.cell? ⟨q, k, none⟩ = some (.string ⟨((six s)[k]'hlt).toArray⟩) := (hbk.cell (p := ⟨q, k, none⟩) (World.block_lt_of_cell? wc _ (hq k hlt))).trans (hq k hlt)
                  have hx : (six s)[k]'hlt ∈ six s := List.getElem_mem _
                  generalize (six s)[k]'hlt = x at hz hx
                  have V1 := Lib.hid (VV.out x hx)
                  clear hq VV hx
                  go_wp2_with (go_at_call 31; refine (V1.out _ (hE3.below (by repeat (first | (with_reducible exact Below.refl _ _) | ((with_reducible refine below_grow ?_ ?_); rotate_left; focus (first | omega | (simp [go_sem]; done) | (simp [go_sem]; omega))) | ((with_reducible refine Below.alloc ?_ ?_ _); rotate_left; focus (first | omega | (simp [go_sem]; done) | (simp [go_sem]; omega))) | ((with_reducible refine Below.setCell ?_ ?_ _); rotate_left; focus (first | omega | (simp [go_sem]; done) | (simp [go_sem]; omega))) | (with_reducible refine Below.drew ?_) | (with_reducible refine below_drewN _ ?_))))).mono ?_; rintro e w0 ⟨rfl, hb⟩; obtain ⟨o6, j6, rfl⟩ := grow_of_below hb; clear hb)
                  go_roundw
                  case rel => exact ⟨k + 1, by omega, by go_num, by repeat (first | (with_reducible exact hbk) | ((with_reducible refine below_grow ?_ ?_); rotate_left; focus (first | omega | (simp [go_sem]; done) | (simp [go_sem]; omega))) | ((with_reducible refine Below.alloc ?_ ?_ _); rotate_left; focus (first | omega | (simp [go_sem]; done) | (simp [go_sem]; omega))) | ((with_reducible refine Below.setCell ?_ ?_ _); rotate_left; focus (first | omega | (simp [go_sem]; done) | (simp [go_sem]; omega))) | (with_reducible refine Below.drew ?_) | (with_reducible refine below_drewN _ ?_))⟩
                  case measure => simp [intOf]; omega
                · have hk2 : k = 6 := by omega
                  subst hk2
                  clear hq VV
                  go_wp2
                  go_ret
                  exact ⟨rfl, hby.trans (hbk.mono hsy)⟩
    · have N2 := Lib.hid n2
      go_enter Tryd.func7, Tryd.ntmps7
      go_wp2_with (first | (go_at_call 11; refine (awake_calls _ he).mono ?_; rintro e w0 ⟨rfl, hb⟩; obtain ⟨o0, j0, rfl⟩ := grow_of_below hb; clear hb) | (go_at_call_of 22 (a); refine (M1.out _).mono ?_; rintro e w0 ⟨rfl, hb⟩; obtain ⟨o1, j1, rfl⟩ := grow_of_below hb; clear hb) | (go_at_call_of 22 (c); refine (M2.out _).mono ?_; rintro e w0 ⟨rfl, hb⟩; obtain ⟨o2, j2, rfl⟩ := grow_of_below hb; clear hb))
      go_ret
      exact ⟨rfl, by repeat (first | (with_reducible exact Below.refl _ _) | ((with_reducible refine below_grow ?_ ?_); rotate_left; focus (first | omega | (simp [go_sem]; done) | (simp [go_sem]; omega))) | ((with_reducible refine Below.alloc ?_ ?_ _); rotate_left; focus (first | omega | (simp [go_sem]; done) | (simp [go_sem]; omega))) | ((with_reducible refine Below.setCell ?_ ?_ _); rotate_left; focus (first | omega | (simp [go_sem]; done) | (simp [go_sem]; omega))) | (with_reducible refine Below.drew ?_) | (with_reducible refine below_drewN _ ?_))⟩
  · have N1 := Lib.hid n1
    go_enter Tryd.func7, Tryd.ntmps7
    go_wp2_with (first | (go_at_call 11; refine (awake_calls _ he).mono ?_; rintro e w0 ⟨rfl, hb⟩; obtain ⟨o0, j0, rfl⟩ := grow_of_below hb; clear hb) | (go_at_call_of 22 (a); refine (M1.out _).mono ?_; rintro e w0 ⟨rfl, hb⟩; obtain ⟨o1, j1, rfl⟩ := grow_of_below hb; clear hb) | (go_at_call_of 22 (c); refine (M2.out _).mono ?_; rintro e w0 ⟨rfl, hb⟩; obtain ⟨o2, j2, rfl⟩ := grow_of_below hb; clear hb))
    go_ret
    exact ⟨rfl, by repeat (first | (with_reducible exact Below.refl _ _) | ((with_reducible refine below_grow ?_ ?_); rotate_left; focus (first | omega | (simp [go_sem]; done) | (simp [go_sem]; omega))) | ((with_reducible refine Below.alloc ?_ ?_ _); rotate_left; focus (first | omega | (simp [go_sem]; done) | (simp [go_sem]; omega))) | ((with_reducible refine Below.setCell ?_ ?_ _); rotate_left; focus (first | omega | (simp [go_sem]; done) | (simp [go_sem]; omega))) | (with_reducible refine Below.drew ?_) | (with_reducible refine below_drewN _ ?_))⟩
end Go.Proofs.YtignphcnjgbikaaDoor
