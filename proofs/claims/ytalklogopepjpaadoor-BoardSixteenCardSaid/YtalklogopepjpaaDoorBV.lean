/- BoardSixteen: the walk. -/
import Derived.Test.YtalklogopepjpaaDoorBS
namespace Go.Proofs.YtalklogopepjpaaDoor.Ca
open Go.RowKit
open Go.Proofs.DB (dlr vul fnd met)

/-- The table as cells. -/
def metV (F k : Nat) : Array Value := ((met F k).map (Value.int .i64)).toArray
theorem metV_zero (F : Nat) : metV F 0 = #[.int .i64 0, .int .i64 0, .int .i64 0, .int .i64 0, .int .i64 0, .int .i64 0, .int .i64 0, .int .i64 0, .int .i64 0, .int .i64 0, .int .i64 0, .int .i64 0, .int .i64 0, .int .i64 0, .int .i64 0, .int .i64 0] := rfl
theorem metV_at (F k : Nat) : ∃ x : Int, (metV F k)[dlr (F + k) * 4 + vul (F + k)]? = some (.int .i64 x) ∧ 0 ≤ x ∧ x ≤ k ∧ (metV F k).setIfInBounds (dlr (F + k) * 4 + vul (F + k)) (.int .i64 (x + 1)) = metV F (k + 1) := by
  have h1 := DB.dlr_lt (F + k)
  have h2 := DB.vul_lt (F + k)
  have hl := DB.met_len F k
  obtain ⟨x, hx⟩ : ∃ x, (met F k)[dlr (F + k) * 4 + vul (F + k)]? = some x := ⟨_, List.getElem?_eq_getElem (by omega)⟩
  have hb := DB.met_bound F k _ x hx
  refine ⟨x, by simp [metV, hx], hb.1, hb.2, ?_⟩
  apply Array.ext'
  unfold metV
  rw [DB.met, show 4 * dlr (F + k) + vul (F + k) = dlr (F + k) * 4 + vul (F + k) by omega, hx]
  simp
theorem metV_end (F : Nat) (h : 1 ≤ F) : metV F 16 = #[.int .i64 1, .int .i64 1, .int .i64 1, .int .i64 1, .int .i64 1, .int .i64 1, .int .i64 1, .int .i64 1, .int .i64 1, .int .i64 1, .int .i64 1, .int .i64 1, .int .i64 1, .int .i64 1, .int .i64 1, .int .i64 1] := by
  unfold metV
  rw [DB.met_end F h]
  rfl
theorem ones_at (i j : Nat) (hi : i < 4) (hj : j < 4) : (#[.int .i64 1, .int .i64 1, .int .i64 1, .int .i64 1, .int .i64 1, .int .i64 1, .int .i64 1, .int .i64 1, .int .i64 1, .int .i64 1, .int .i64 1, .int .i64 1, .int .i64 1, .int .i64 1, .int .i64 1, .int .i64 1] : Array Value)[i * 4 + j]? = some (.int .i64 1) := by
  have h : i * 4 + j < 16 := by omega
  obtain ⟨m, hm⟩ : ∃ m, i * 4 + j = m := ⟨_, rfl⟩
  rw [hm] at h ⊢
  have e := (by decide : ∀ m : Fin 16, [1, 1, 1, 1, 1, 1, 1, 1, 1, 1, 1, 1, 1, 1, 1, (1 : Int)][m.val]? = some 1) ⟨m, h⟩
  have e2 := congrArg (Option.map (Value.int .i64)) e
  rw [← List.getElem?_map] at e2
  rw [List.getElem?_toArray]
  exact e2
set_option maxRecDepth 100000 in
set_option maxHeartbeats 4000000 in
theorem boardSixteen_walk (f : Int) (hf : 0 ≤ f ∧ f ≤ 255) (w : World) (he : EnvB w) :
    Calls Tryd.prog 4 #[.int .u8 f] w fun e w' => e = .returned (.bool true) ∧ Below w.heap.size w w' := by
  have A := Lib.hid (fun W (hW : Below w.heap.size w W) => awake_calls W (he.below hW))
  have D := Lib.hid dealer_yes
  have V := Lib.hid vul_yes
  have FN := Lib.hid find_yes
  obtain ⟨F, hF1, hF2, hF⟩ : ∃ F : Nat, 1 ≤ F ∧ F ≤ 113 ∧ 1 + f.tmod 113 = F := ⟨(1 + f % 113).toNat, by omega, by omega, by rw [Int.tmod_eq_emod_of_nonneg (by omega)]; omega⟩
  have e0 : IntKind.i64.wrap f = f := IntWalk.i64_in _ (by omega)
  have e1 : IntKind.i64.wrap (f.tmod 113) = f.tmod 113 := by rw [Int.tmod_eq_emod_of_nonneg (by omega)]; exact IntWalk.i64_in _ (by omega)
  have e2 : IntKind.i64.wrap ((F : Nat) : Int) = F := IntWalk.i64_in _ (by omega)
  have e3 : IntKind.i64.wrap ((F : Int) + 16) = F + 16 := IntWalk.i64_in _ (by omega)
  clear hf he
  go_enter Tryd.func4, Tryd.ntmps4
  go_wp2
  have b0 : blk (w.alloc (.cells (metV F 0) 34)) w.heap.size (metV F 0) 34 := blk_new _ _ _
  have bb : Below w.heap.size w (w.alloc (.cells (metV F 0) 34)) := by repeat (first | (with_reducible exact Below.refl _ _) | ((with_reducible refine below_grow ?_ ?_); rotate_left; focus (first | omega | (simp [go_sem]; done) | (simp [go_sem]; omega))) | ((with_reducible refine Below.alloc ?_ ?_ _); rotate_left; focus (first | omega | (simp [go_sem]; done) | (simp [go_sem]; omega))) | ((with_reducible refine Below.setCell ?_ ?_ _); rotate_left; focus (first | omega | (simp [go_sem]; done) | (simp [go_sem]; omega))) | (with_reducible refine Below.drew ?_) | (with_reducible refine below_drewN _ ?_))
  rw [metV_zero] at b0 bb
  generalize hW : World.alloc w _ = W at *
  clear hW
  rw [← metV_zero F] at b0
  go_loopw [5, 6, 7, 8, 9, 10, 11, 12, 13, 14, 15] (fun s5 _ _ _ _ _ _ _ _ _ _ wr => ∃ k N : Nat, N = F + k ∧ k ≤ 16 ∧ s5 = .int .i64 N ∧ blk wr w.heap.size (metV F k) 34 ∧ Below w.heap.size w wr) (fun s5 _ _ _ _ _ _ _ _ _ _ _ => F + 16 - (intOf s5).toNat)
  case atStart => exact ⟨0, F, rfl, by decide, rfl, b0, bb⟩
  case round =>
    obtain ⟨k, N, hN, hk, rfl, c0, cb⟩ := hrel
    clear b0 bb
    by_cases hlt : k < 16
    · obtain ⟨x, hx, hx0, hx1, hset⟩ := metV_at F k
      rw [← hN] at hx hset
      have kc : wr.cell? ⟨w.heap.size, dlr N * 4 + vul N, none⟩ = some (.int .i64 x) := by rw [blk_cell c0]; exact hx
      have fc : wr.frozen? ⟨w.heap.size, dlr N * 4 + vul N, none⟩ = false := blk_free c0 _
      have h1 : (N : Int) < F + 16 := by omega
      have g1 : IntKind.i64.wrap ((N : Int) + 1) = (N : Int) + 1 := IntWalk.i64_in _ (by omega)
      have g2 : IntKind.i64.wrap (x + 1) = x + 1 := IntWalk.i64_in _ (by omega)
      obtain ⟨l1, l2, l3⟩ := DB.fnd_board ⟨N, by omega⟩ (by show 1 ≤ N; omega)
      dsimp only at l1 l2 l3
      have hd := DB.dlr_lt N
      have hv := DB.vul_lt N
      have CF := Lib.hid (FN.out (dlr N) (vul N) hd hv)
      have CD := Lib.hid (D.out N (by omega) (by omega))
      have CV := Lib.hid (V.out N (by omega) (by omega))
      have m1 : ¬ (3 : Int) < (dlr N : Nat) := by omega
      have m2 : ¬ (3 : Int) < (vul N : Nat) := by omega
      have m1' : ((dlr N : Nat) : Int) < 4 := by omega
      have m2' : ((vul N : Nat) : Int) < 4 := by omega
      have m3 : ¬ (N : Int) < (fnd (dlr N) (vul N) : Nat) := by omega
      have m4 : ¬ (16 : Int) < (fnd (dlr N) (vul N) : Nat) := by omega
      have m5 : IntKind.i64.wrap ((N : Int) - (fnd (dlr N) (vul N) : Nat)) = (N : Int) - (fnd (dlr N) (vul N) : Nat) := IntWalk.i64_in _ (by omega)
      have m6 : ((N : Int) - (fnd (dlr N) (vul N) : Nat)).tmod 16 = 0 := by rw [Int.tmod_eq_emod_of_nonneg (by omega)]; omega
      by_cases h16 : 16 < N
      · have p1 : (16 : Int) < N := by omega
        have p2 : IntKind.i64.wrap ((N : Int) - 16) = ((N - 16 : Nat) : Int) := by rw [IntWalk.i64_in _ (by omega)]; omega
        obtain ⟨q1, q2⟩ := DB.back16 (n := N) (by omega)
        have CD2 := Lib.hid (D.out (N - 16) (by omega) (by omega))
        have CV2 := Lib.hid (V.out (N - 16) (by omega) (by omega))
        rw [q1] at CD2
        rw [q2] at CV2
        obtain ⟨M, hM⟩ : ∃ M, N - 16 = M := ⟨_, rfl⟩
        rw [hM] at p2 CD2 CV2
        obtain ⟨d, hdd⟩ : ∃ d, dlr N = d := ⟨_, rfl⟩
        obtain ⟨v, hvv⟩ : ∃ d, vul N = d := ⟨_, rfl⟩
        simp only [hdd, hvv] at *
        obtain ⟨L, hL⟩ : ∃ L, fnd d v = L := ⟨_, rfl⟩
        simp only [hL] at *
        have C0 := Lib.hid c0
        have CB := Lib.hid cb
        have HS := Lib.hid hset
        have HN := Lib.hid hN
        have HK := Lib.hid hlt
        clear c0 cb hset hN hlt hx hx0 hx1 hd hv l1 l2 l3 D V FN A hdd hvv hL h16 hk q1 q2 hM
        go_upto_region 10 with (first | (go_at_call_of 9 (N : Int); refine (CD.out _).mono ?_; rintro e w9 ⟨rfl, rfl⟩) | (go_at_call_of 11 (N : Int); refine (CV.out _).mono ?_; rintro e w9 ⟨rfl, rfl⟩) | (go_at_call 13; refine (CF.out _).mono ?_; rintro e w9 ⟨rfl, rfl⟩) | (go_at_call 9; refine (CD2.out _).mono ?_; rintro e w9 ⟨rfl, rfl⟩) | (go_at_call 11; refine (CV2.out _).mono ?_; rintro e w9 ⟨rfl, rfl⟩))
        go_region
        go_wp2_with (first | (go_at_call_of 9 (N : Int); refine (CD.out _).mono ?_; rintro e w9 ⟨rfl, rfl⟩) | (go_at_call_of 11 (N : Int); refine (CV.out _).mono ?_; rintro e w9 ⟨rfl, rfl⟩) | (go_at_call 13; refine (CF.out _).mono ?_; rintro e w9 ⟨rfl, rfl⟩) | (go_at_call 9; refine (CD2.out _).mono ?_; rintro e w9 ⟨rfl, rfl⟩) | (go_at_call 11; refine (CV2.out _).mono ?_; rintro e w9 ⟨rfl, rfl⟩))
        go_roundw
        case rel =>
          refine ⟨k + 1, N + 1, by have := HN.out; omega, HK.out, by go_num, ?_, (CB.out.setCell (p := ⟨w.heap.size, d * 4 + v, none⟩) (Nat.le_refl _) _).drew⟩
          have h := blk_set C0.out (d * 4 + v) (.int .i64 (x + 1))
          rw [HS.out] at h
          exact h
        case measure => simp [intOf]; have := HN.out; have := HK.out; omega
      · have p1 : ¬ (16 : Int) < N := by omega
        obtain ⟨d, hdd⟩ : ∃ d, dlr N = d := ⟨_, rfl⟩
        obtain ⟨v, hvv⟩ : ∃ d, vul N = d := ⟨_, rfl⟩
        simp only [hdd, hvv] at *
        obtain ⟨L, hL⟩ : ∃ L, fnd d v = L := ⟨_, rfl⟩
        simp only [hL] at *
        have C0 := Lib.hid c0
        have CB := Lib.hid cb
        have HS := Lib.hid hset
        have HN := Lib.hid hN
        have HK := Lib.hid hlt
        clear c0 cb hset hN hlt hx hx0 hx1 hd hv l1 l2 l3 D V FN A hdd hvv hL h16 hk
        go_upto_region 10 with (first | (go_at_call_of 9 (N : Int); refine (CD.out _).mono ?_; rintro e w9 ⟨rfl, rfl⟩) | (go_at_call_of 11 (N : Int); refine (CV.out _).mono ?_; rintro e w9 ⟨rfl, rfl⟩) | (go_at_call 13; refine (CF.out _).mono ?_; rintro e w9 ⟨rfl, rfl⟩))
        go_region
        go_wp2_with (first | (go_at_call_of 9 (N : Int); refine (CD.out _).mono ?_; rintro e w9 ⟨rfl, rfl⟩) | (go_at_call_of 11 (N : Int); refine (CV.out _).mono ?_; rintro e w9 ⟨rfl, rfl⟩) | (go_at_call 13; refine (CF.out _).mono ?_; rintro e w9 ⟨rfl, rfl⟩))
        go_roundw
        case rel =>
          refine ⟨k + 1, N + 1, by have := HN.out; omega, HK.out, by go_num, ?_, (CB.out.setCell (p := ⟨w.heap.size, d * 4 + v, none⟩) (Nat.le_refl _) _).drew⟩
          have h := blk_set C0.out (d * 4 + v) (.int .i64 (x + 1))
          rw [HS.out] at h
          exact h
        case measure => simp [intOf]; have := HN.out; have := HK.out; omega
    · obtain rfl : k = 16 := by omega
      rw [metV_end F hF1] at c0
      have h1 : ¬ (N : Int) < F + 16 := by omega
      have C0 := Lib.hid c0
      have CB := Lib.hid cb
      have AW := Lib.hid (A.out wr cb)
      clear c0 cb A D V FN hN hlt hk
      go_wp2
      go_loopw [16, 107] (fun _ s107 wy => ∃ i : Nat, i ≤ 4 ∧ s107 = .int .i64 i ∧ wy = wr) (fun _ s107 _ => 4 - (intOf s107).toNat)
      case atStart => exact ⟨0, by decide, rfl, rfl⟩
      case round =>
        obtain ⟨i, hi, rfl, rfl⟩ := hrel
        by_cases hi4 : i < 4
        · have t1 : (i : Int) < 4 := by omega
          have t2 : IntKind.i64.wrap ((i : Int) + 1) = (i : Int) + 1 := IntWalk.i64_in _ (by omega)
          have HI := Lib.hid hi4
          clear hi hi4
          go_wp2
          go_loopw [17, 110] (fun _ s110 wy => ∃ j : Nat, j ≤ 4 ∧ s110 = .int .i64 j ∧ wy = wr) (fun _ s110 _ => 4 - (intOf s110).toNat)
          case atStart => exact ⟨0, by decide, rfl, rfl⟩
          case round =>
            obtain ⟨j, hj, rfl, rfl⟩ := hrel
            by_cases hj4 : j < 4
            · have y1 : (j : Int) < 4 := by omega
              have y2 : IntKind.i64.wrap ((j : Int) + 1) = (j : Int) + 1 := IntWalk.i64_in _ (by omega)
              have kc : wr.cell? ⟨w.heap.size, i * 4 + j, none⟩ = some (.int .i64 1) := by rw [blk_cell C0.out]; exact ones_at i j HI.out hj4
              have HJ := Lib.hid hj4
              clear hj hj4
              go_wp2
              go_roundw
              case rel => exact ⟨j + 1, HJ.out, by go_num, trivial⟩
              case measure => simp [intOf]; have := HJ.out; omega
            · obtain rfl : j = 4 := by omega
              go_wp2
              go_roundw
              case rel => exact ⟨i + 1, HI.out, by go_num, trivial⟩
              case measure => simp [intOf]; have := HI.out; omega
        · obtain rfl : i = 4 := by omega
          go_wp2_with (go_at_call 15; refine AW.out.mono ?_; rintro e w9 ⟨rfl, hbel⟩; obtain ⟨o1, j1, rfl⟩ := grow_of_below hbel; clear hbel)
          refine bodyPost_ret (by simp [results, Tryd.results4, go_sem]) rfl ⟨rfl, ?_⟩
          have hbs := CB.out.size
          repeat (first | (with_reducible exact CB.out) | ((with_reducible refine below_grow ?_ ?_); rotate_left; focus (first | omega | (simp [go_sem]; done) | (simp [go_sem]; omega))) | ((with_reducible refine Below.alloc ?_ ?_ _); rotate_left; focus (first | omega | (simp [go_sem]; done) | (simp [go_sem]; omega))) | ((with_reducible refine Below.setCell ?_ ?_ _); rotate_left; focus (first | omega | (simp [go_sem]; done) | (simp [go_sem]; omega))) | (with_reducible refine Below.drew ?_) | (with_reducible refine below_drewN _ ?_))
end Go.Proofs.YtalklogopepjpaaDoor.Ca
