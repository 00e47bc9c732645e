/- The reference: Pattern. -/
import Derived.Test.YtgndhdcnofblaaaDoorRE0
namespace Go.Proofs.YtgndhdcnofblaaaDoor
open Go.RowKit

set_option maxRecDepth 100000 in
set_option maxHeartbeats 4000000 in
theorem refPattern (m : Nat) (hm : m < 18446744073709551616) (w : World) : Calls Tryd.prog 35 #[.int .u64 m] w fun e w' => e = .returned (.string ⟨(pat m).toArray⟩) ∧ Below w.heap.size w w' := by
  obtain ⟨a, b, c, d, hs, k1, k2, k3⟩ := srt_key m
  have PP := pat_txt hs
  have LN := fun s (hs : s < 4) => refLength m s hm hs
  have LL : ∀ s, len (hol m s) ≤ 13 := fun s => len_le _
  have PK := fun n s hs h => pat_pick (L := fun s => len (hol m s)) k1 k2 k3 n s hs h
  obtain ⟨L, hL⟩ : ∃ L : Nat → Nat, L = fun s => len (hol m s) := ⟨_, rfl⟩
  have LN : ∀ s : Nat, s < 4 → ∀ w, Calls Tryd.prog 50 #[.int .u64 m, .int .i64 s] w fun e w' => e = .returned (.int .i64 (L s)) ∧ w = w' := by rw [hL]; exact LN
  have LL : ∀ s, L s ≤ 13 := by rw [hL]; exact LL
  obtain ⟨X, hX⟩ : ∃ X : Nat → Nat, X = fun i => L (at4 a b c d i) := ⟨_, rfl⟩
  have PK : ∀ n s, s < 4 → L s = n → gt L (n + 1) + ecn L n s < 4 ∧ X (gt L (n + 1) + ecn L n s) = n := by rw [hX, hL]; exact PK
  have PP : pat m = txt X 4 := by rw [PP, hX, hL]
  have TL := txt_len X
  have GS := gt_step L
  have G0 := gt_zero L
  have G14 := gt_top L 14 (fun s _ => by have := LL s; omega)
  have DG := fun n (hn : n < 14) => refDigits n hn
  rw [PP]
  have LN := Lib.hid LN
  have LL := Lib.hid LL
  have PK := Lib.hid PK
  have TL := Lib.hid TL
  have GS := Lib.hid GS
  have G0 := Lib.hid G0
  have DG := Lib.hid DG
  clear hL hX PP hs k1 k2 k3 hm
  go_enter Tryd.func35, Tryd.ntmps35
  go_wp2
  go_loopw [3, 4] (fun s3 s4 wr => ∃ j : Nat, s3 = .string ⟨(txt X (gt L j)).toArray⟩ ∧ s4 = .int .i64 ((j : Int) - 1) ∧ j ≤ 14 ∧ Below w.heap.size w wr) (fun _ s4 _ => (intOf s4 + 1).toNat)
  case atStart => exact ⟨14, by rw [G14]; rfl, rfl, by decide, by repeat (first | (with_reducible exact Below.refl _ _) | ((with_reducible refine below_grow ?_ ?_); rotate_left; focus (first | omega | (simp [go_sem]; done) | (simp [go_sem]; omega))) | ((with_reducible refine Below.alloc ?_ ?_ _); rotate_left; focus (first | omega | (simp [go_sem]; done) | (simp [go_sem]; omega))) | ((with_reducible refine Below.setCell ?_ ?_ _); rotate_left; focus (first | omega | (simp [go_sem]; done) | (simp [go_sem]; omega))) | (with_reducible refine Below.drew ?_) | (with_reducible refine below_drewN _ ?_))⟩
  case round =>
    obtain ⟨j, rfl, rfl, hj, hb⟩ := hrel
    by_cases hlt : 0 < j
    · obtain ⟨n, rfl⟩ : ∃ n, j = n + 1 := ⟨j - 1, by omega⟩
      have zn : ((n + 1 : Nat) : Int) - 1 = (n : Int) := by omega
      rw [zn]
      have d4 : (0 : Int) ≤ (n : Int) := by omega
      have d3 : IntKind.i64.wrap ((n : Int) - 1) = (n : Int) - 1 := IntWalk.i64_in _ (by omega)
      have n14 : n < 14 := by omega
      have D := DG.out n n14
      have gs := GS.out n
      have D := Lib.hid D
      have NH := Lib.hid n14
      have GSH := Lib.hid gs
      have hb0 := Lib.hid hb
      clear hlt hj zn gs n14
      go_wp2
      go_loopw [3, 5] (fun s3 s5 wq => ∃ s : Nat, s3 = .string ⟨(txt X (gt L (n + 1) + ecn L n s)).toArray⟩ ∧ s5 = .int .i64 (s : Int) ∧ s ≤ 4 ∧ Below w.heap.size w wq) (fun _ s5 _ => 4 - (intOf s5).toNat)
      case atStart => exact ⟨0, rfl, rfl, by decide, hb⟩
      case round =>
        obtain ⟨s, rfl, rfl, hs, hq⟩ := hrel
        by_cases hs4 : s < 4
        · have hs4' : (s : Int) < 4 := by omega
          have f1 : IntKind.i64.wrap ((s : Int) + 1) = (s : Int) + 1 := IntWalk.i64_in _ (by omega)
          have LC := Lib.hid (LN.out s hs4)
          have pk := PK.out n s hs4
          have ec : ecn L n (s + 1) = ecn L n s + if L s = n then 1 else 0 := rfl
          obtain ⟨l, hl⟩ : ∃ l, L s = l := ⟨_, rfl⟩
          rw [hl] at LC pk ec
          have HS := Lib.hid hs4
          by_cases he : l = n
          · have pk := pk he
            rw [if_pos he] at ec
            rw [he] at LC
            have d1 : (n : Int) = n := rfl
            obtain ⟨k, hk⟩ : ∃ k, gt L (n + 1) + ecn L n s = k := ⟨_, rfl⟩
            rw [hk] at pk ⊢
            have ek : gt L (n + 1) + ecn L n (s + 1) = k + 1 := by omega
            have EK := Lib.hid ek
            by_cases k0 : k = 0
            · subst k0
              have tx := txt_1 X
              rw [pk.2] at tx
              have t0 : txt X 0 = [] := rfl
              rw [t0]
              have TX := Lib.hid tx
              have ad := fun W => run_string_add_lists (P := Tryd.prog) (w := W) [] (dig n) (by simp) (by have := dig_len n; omega)
              rw [List.nil_append] at ad
              obtain ⟨t, ht⟩ : ∃ t, dig n = t := ⟨_, rfl⟩
              rw [ht] at D TX ad
              clear pk ec hl he hk ek hs4 hs tx ht t0
              go_wp2_with (first | (go_at_call 50; refine (LC.out _).mono ?_; rintro e w1 ⟨rfl, rfl⟩) | (go_at_call 51; refine (D.out _).mono ?_; rintro e w1 ⟨rfl, hbel⟩; obtain ⟨o1, j1, rfl⟩ := grow_of_below hbel; clear hbel))
              go_roundw
              case rel => exact ⟨s + 1, by rw [EK.out, TX.out], by go_num, HS.out, below_grow hq (by have := hq.size; omega)⟩
              case measure => simp [intOf]; have := HS.out; omega
            · have tx := txt_s X k (by omega)
              have tn := txt_ne X k (by omega)
              have tl := TL.out k
              rw [pk.2] at tx
              have k4 := pk.1
              have ad := fun W => run_string_add_lists (P := Tryd.prog) (w := W) (txt X k) [45] (by omega) (by simp)
              have ad2 := fun W => run_string_add_lists (P := Tryd.prog) (w := W) (txt X k ++ [45]) (dig n) (by simp; omega) (by have := dig_len n; omega)
              rw [← tx] at ad2
              have TX := Lib.hid tx
              obtain ⟨T, hT⟩ : ∃ t, txt X (k + 1) = t := ⟨_, rfl⟩
              rw [hT] at ad2
              obtain ⟨q, hqq⟩ : ∃ t, txt X k = t := ⟨_, rfl⟩
              rw [hqq] at ad ad2 tn ⊢
              obtain ⟨p, hp⟩ : ∃ t, q ++ [45] = t := ⟨_, rfl⟩
              rw [hp] at ad ad2
              obtain ⟨t, ht⟩ : ∃ t, dig n = t := ⟨_, rfl⟩
              rw [ht] at D ad2
              have HT := Lib.hid hT
              have ne : q.isEmpty = false := by cases q with | nil => exact absurd rfl tn | cons _ _ => rfl
              clear pk ec hl he hk ek hs4 hs tx ht hp hqq hT k0 k4 tl tn
              go_wp2_with (first | (go_at_call 50; refine (LC.out _).mono ?_; rintro e w1 ⟨rfl, rfl⟩) | (go_at_call 51; refine (D.out _).mono ?_; rintro e w1 ⟨rfl, hbel⟩; obtain ⟨o1, j1, rfl⟩ := grow_of_below hbel; clear hbel))
              go_roundw
              case rel => exact ⟨s + 1, by rw [EK.out, HT.out], by go_num, HS.out, below_grow hq (by have := hq.size; omega)⟩
              case measure => simp [intOf]; have := HS.out; omega
          · rw [if_neg he, Nat.add_zero] at ec
            have he2 : ¬ (l : Int) = n := by omega
            have EC := Lib.hid ec
            clear pk ec hl hs4 hs
            go_wp2_with (go_at_call 50; refine (LC.out _).mono ?_; rintro e w1 ⟨rfl, rfl⟩)
            go_roundw
            case rel => exact ⟨s + 1, by rw [EC.out]; rfl, by go_num, HS.out, by repeat (first | (with_reducible exact hq) | ((with_reducible refine below_grow ?_ ?_); rotate_left; focus (first | omega | (simp [go_sem]; done) | (simp [go_sem]; omega))) | ((with_reducible refine Below.alloc ?_ ?_ _); rotate_left; focus (first | omega | (simp [go_sem]; done) | (simp [go_sem]; omega))) | ((with_reducible refine Below.setCell ?_ ?_ _); rotate_left; focus (first | omega | (simp [go_sem]; done) | (simp [go_sem]; omega))) | (with_reducible refine Below.drew ?_) | (with_reducible refine below_drewN _ ?_))⟩
            case measure => simp [intOf]; have := HS.out; omega
        · obtain rfl : s = 4 := by omega
          rw [GSH.out]
          clear hs hs4
          go_wp2
          go_roundw
          case rel => exact ⟨n, rfl, rfl, by have := NH.out; omega, by repeat (first | (with_reducible exact hq) | ((with_reducible refine below_grow ?_ ?_); rotate_left; focus (first | omega | (simp [go_sem]; done) | (simp [go_sem]; omega))) | ((with_reducible refine Below.alloc ?_ ?_ _); rotate_left; focus (first | omega | (simp [go_sem]; done) | (simp [go_sem]; omega))) | ((with_reducible refine Below.setCell ?_ ?_ _); rotate_left; focus (first | omega | (simp [go_sem]; done) | (simp [go_sem]; omega))) | (with_reducible refine Below.drew ?_) | (with_reducible refine below_drewN _ ?_))⟩
          case measure => simp [intOf]
    · obtain rfl : j = 0 := by omega
      rw [G0.out]
      have d4 : ¬ (0 : Int) ≤ ((0 : Nat) : Int) - 1 := by omega
      go_wp2
      go_ret
      exact ⟨rfl, by repeat (first | (with_reducible exact hb) | ((with_reducible refine below_grow ?_ ?_); rotate_left; focus (first | omega | (simp [go_sem]; done) | (simp [go_sem]; omega))) | ((with_reducible refine Below.alloc ?_ ?_ _); rotate_left; focus (first | omega | (simp [go_sem]; done) | (simp [go_sem]; omega))) | ((with_reducible refine Below.setCell ?_ ?_ _); rotate_left; focus (first | omega | (simp [go_sem]; done) | (simp [go_sem]; omega))) | (with_reducible refine Below.drew ?_) | (with_reducible refine below_drewN _ ?_))⟩
end Go.Proofs.YtgndhdcnofblaaaDoor
