/- board.Read as a whole; the examples' deals and texts. -/
import Derived.Test.YtalklogopepjpaaDoorBP
namespace Go.Proofs.YtalklogopepjpaaDoor.Ca
open Go.RowKit
open Go.Proofs.DB (Pd Rd own chg cl dlr vul)

theorem bread_calls (l : List UInt8) (hl : l.length ≤ 140737488355328) (w : World) (he : EnvB w) : Calls Tryd.prog 21 #[strv l] w fun e w' => e = .returned (rbV (rdB l)) ∧ Below w.heap.size w w' := by
  unfold rdB
  generalize hs : Lib.splitN l [32] 4 = ps
  match ps, hs with
  | [a, b, c, d], hs =>
    simp only
    have T := fun W (hW : Below w.heap.size w W) => btext_any (bnum a) (rdP d) (rdP_pd d) W (he.below hW)
    by_cases hn : 1 ≤ bnum a ∧ bnum a ≤ 128
    · simp only [if_pos hn] at T
      by_cases hp : Rd (rdP d)
      · simp only [if_pos hp] at T
        by_cases hr : rtx (bnum a).toNat (rdP d) = l
        · rw [hr] at T
          rw [if_pos ⟨hn.1, hn.2, hp, hr⟩]
          exact bread_ok l hl a b c d hs (by omega) w he T
        · rw [if_neg (fun h => hr h.2.2.2)]
          exact bread_ne l hl a b c d hs _ hr w he T
      · simp only [if_neg hp] at T
        rw [if_neg (fun h => hp h.2.2.1)]
        exact bread_bad l hl a b c d hs [] 60 (by decide) w he T
    · simp only [if_neg hn] at T
      rw [if_neg (fun h => hn ⟨h.1, h.2.1⟩)]
      exact bread_bad l hl a b c d hs [] 70 (by decide) w he T
  | [], hs => exact bread_len l hl (by rw [hs]; decide) w he
  | [a], hs => exact bread_len l hl (by rw [hs]; simp) w he
  | [a, b], hs => exact bread_len l hl (by rw [hs]; simp) w he
  | [a, b, c], hs => exact bread_len l hl (by rw [hs]; simp) w he
  | a :: b :: c :: d :: f :: r, hs => exact bread_len l hl (by rw [hs]; simp) w he

/-- The chapter's two deals. -/
def sD : Nat → Nat
  | 0 => 8191
  | 1 => 67100672
  | 2 => 549688705024
  | _ => 4503049871556608
def xD : Nat → Nat
  | 0 => 16382
  | 1 => 67092481
  | 2 => 549688705024
  | _ => 4503049871556608
theorem sD_rd : Rd sD := of_decide_eq_true (by decide +kernel)
theorem xD_rd : Rd xD := of_decide_eq_true (by decide +kernel)
theorem sx_chg : chg sD xD 52 = [0, 13] := by decide +kernel
theorem sx_val : chV sD xD (chg sD xD 52) = [.int .u8 0, .int .u8 0, .int .u8 1, .int .u8 13, .int .u8 1, .int .u8 0] := by
  rw [sx_chg]
  have h : own sD 0 = 0 ∧ own xD 0 = 1 ∧ own sD 13 = 1 ∧ own xD 13 = 0 := by decide +kernel
  simp [chV, h]
theorem suits_calls (w : World) : Calls Tryd.prog 25 #[] w fun e w' => e = .returned (.agg #[.int .u64 (sD 0 : Nat), .int .u64 (sD 1 : Nat), .int .u64 (sD 2 : Nat), .int .u64 (sD 3 : Nat)]) ∧ Below w.heap.size w w' := by
  have h0 : sD 0 = 8191 := rfl
  have h1 : sD 1 = 67100672 := rfl
  have h2 : sD 2 = 549688705024 := rfl
  have h3 : sD 3 = 4503049871556608 := rfl
  rw [h0, h1, h2, h3]
  go_enter Tryd.func25, Tryd.ntmps25
  go_wp2
  refine bodyPost_ret (by simp [results, Tryd.results25, go_sem]) rfl ⟨rfl, ?_⟩
  repeat (first | (with_reducible exact Below.refl _ _) | ((with_reducible refine below_grow ?_ ?_); rotate_left; focus (first | omega | (simp [go_sem]; done) | (simp [go_sem]; omega))) | ((with_reducible refine Below.alloc ?_ ?_ _); rotate_left; focus (first | omega | (simp [go_sem]; done) | (simp [go_sem]; omega))) | ((with_reducible refine Below.setCell ?_ ?_ _); rotate_left; focus (first | omega | (simp [go_sem]; done) | (simp [go_sem]; omega))) | (with_reducible refine Below.drew ?_) | (with_reducible refine below_drewN _ ?_))
set_option maxRecDepth 100000 in
theorem swapped_calls (w : World) : Calls Tryd.prog 26 #[] w fun e w' => e = .returned (.agg #[.int .u64 (xD 0 : Nat), .int .u64 (xD 1 : Nat), .int .u64 (xD 2 : Nat), .int .u64 (xD 3 : Nat)]) ∧ Below w.heap.size w w' := by
  have S := Lib.hid suits_calls
  have h0 : sD 0 = 8191 := rfl
  have h1 : sD 1 = 67100672 := rfl
  have h2 : sD 2 = 549688705024 := rfl
  have h3 : sD 3 = 4503049871556608 := rfl
  have g0 : xD 0 = 16382 := rfl
  have g1 : xD 1 = 67092481 := rfl
  have g2 : xD 2 = 549688705024 := rfl
  have g3 : xD 3 = 4503049871556608 := rfl
  rw [h0, h1, h2, h3] at S
  rw [g0, g1, g2, g3]
  clear h0 h1 h2 h3 g0 g1 g2 g3
  have b0 : bits .xor .u64 8191 8193 = 16382 := by decide +kernel
  have b1 : bits .xor .u64 67100672 8193 = 67092481 := by decide +kernel
  go_enter Tryd.func26, Tryd.ntmps26
  go_wp2_with (go_at_call 25; refine (S.out _).mono ?_; rintro e w9 ⟨rfl, hbel⟩; obtain ⟨o1, j1, rfl⟩ := grow_of_below hbel; clear hbel)
  refine bodyPost_ret (by simp [results, Tryd.results26, go_sem]) rfl ⟨rfl, ?_⟩
  repeat (first | (with_reducible exact Below.refl _ _) | ((with_reducible refine below_grow ?_ ?_); rotate_left; focus (first | omega | (simp [go_sem]; done) | (simp [go_sem]; omega))) | ((with_reducible refine Below.alloc ?_ ?_ _); rotate_left; focus (first | omega | (simp [go_sem]; done) | (simp [go_sem]; omega))) | ((with_reducible refine Below.setCell ?_ ?_ _); rotate_left; focus (first | omega | (simp [go_sem]; done) | (simp [go_sem]; omega))) | (with_reducible refine Below.drew ?_) | (with_reducible refine below_drewN _ ?_))
/-- The classes of the examples. -/
def exL : Nat → Nat → Nat
  | 0 => sD
  | 1 => xD
  | _ => sD
theorem ex_cl : (List.range 3).map (fun j => Value.int .i64 (cl exL j : Nat)) = [.int .i64 0, .int .i64 1, .int .i64 0] := by
  have h : cl exL 0 = 0 ∧ cl exL 1 = 1 ∧ cl exL 2 = 0 := by decide +kernel
  simp [List.range_succ, h]
def exT : List UInt8 := [55, 32, 83, 32, 98, 111, 116, 104, 32, 78, 58, 46, 46, 46, 65, 75, 81, 74, 84, 57, 56, 55, 54, 53, 52, 51, 50, 32, 46, 46, 65, 75, 81, 74, 84, 57, 56, 55, 54, 53, 52, 51, 50, 46, 32, 46, 65, 75, 81, 74, 84, 57, 56, 55, 54, 53, 52, 51, 50, 46, 46, 32, 65, 75, 81, 74, 84, 57, 56, 55, 54, 53, 52, 51, 50, 46, 46, 46]
def exN : List UInt8 := [55, 32, 78, 32, 98, 111, 116, 104, 32, 78, 58, 46, 46, 46, 65, 75, 81, 74, 84, 57, 56, 55, 54, 53, 52, 51, 50, 32, 46, 46, 65, 75, 81, 74, 84, 57, 56, 55, 54, 53, 52, 51, 50, 46, 32, 46, 65, 75, 81, 74, 84, 57, 56, 55, 54, 53, 52, 51, 50, 46, 46, 32, 65, 75, 81, 74, 84, 57, 56, 55, 54, 53, 52, 51, 50, 46, 46, 46]
theorem ex_text : rtx 7 sD = exT := by decide +kernel
theorem ex_split : Lib.splitN exN [32] 4 = [[55], [78], [98, 111, 116, 104], exN.drop 9] := by decide +kernel
theorem ex_num : bnum [55] = 7 := by decide +kernel
theorem ex_read : rdB exN = none := by
  unfold rdB
  rw [ex_split]
  simp only [ex_num]
  rw [if_neg]
  rintro ⟨_, _, _, h⟩
  have h2 := congrArg (fun l => l[2]?) h
  have e1 : Lib.itoa ((Int.toNat 7 : Nat) : Int) = [55] := by decide +kernel
  have e2 : dltr (dlr (Int.toNat 7)) = 83 := by decide +kernel
  simp only [rtx, e1, e2] at h2
  simp [exN] at h2
end Go.Proofs.YtalklogopepjpaaDoor.Ca
