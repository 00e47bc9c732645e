/- The functions of one card, in one form; those of the reference. -/
import Derived.Test.YtcfkcfbgnciccaaDoorCN
import Derived.Deep.DeepCutAuto
namespace Go.Proofs.YtcfkcfbgnciccaaDoor
open Go.RowKit

def suitN (c : Nat) : Nat := if c < 52 then c / 13 else 0
def rankN (c : Nat) : Nat := if c < 52 then c % 13 else 0
def ofN (s r : Nat) : Nat := if s < 4 ∧ r < 13 then 13 * s + r else 0
def ofE (s r : Nat) : Int := if s < 4 ∧ r < 13 then 0 else 2
def txtN (c : Nat) : List UInt8 := if c < 52 then [ltr (c / 13), chr (c % 13)] else []
def txtE (c : Nat) : Int := if c < 52 then 0 else 41
def rdsN : List UInt8 → Nat
  | [a, b] => rdc a b
  | _ => 0
def rdsE : List UInt8 → Int
  | [a, b] => rde a b
  | _ => 40
theorem suit_all (c : Nat) (w : World) : Calls Tryd.prog 22 #[.int .u8 c] w fun e w' => e = .returned (.int .u8 (suitN c)) ∧ w = w' := by
  unfold suitN
  split
  · rename_i h; exact suit_yes c h w
  · rename_i h; exact suit_no c h w
theorem rank_all (c : Nat) (w : World) : Calls Tryd.prog 23 #[.int .u8 c] w fun e w' => e = .returned (.int .u8 (rankN c)) ∧ w = w' := by
  unfold rankN
  split
  · rename_i h; exact rank_yes c h w
  · rename_i h; exact rank_no c h w
theorem of_all (s r : Nat) (hs : s < 256) (hr : r < 256) (w : World) : Calls Tryd.prog 21 #[.int .u8 s, .int .u8 r] w fun e w' => e = .returned (.tuple #[.int .u8 (ofN s r), .int .i64 (ofE s r)]) ∧ w = w' := by
  unfold ofN ofE
  split
  · rename_i h; exact of_yes s r h.1 h.2 w
  · rename_i h; exact of_no s r h hs hr w
theorem text_all (c : Nat) (w : World) : Calls Tryd.prog 24 #[.int .u8 c] w fun e w' => e = .returned (.tuple #[strv (txtN c), .int .i64 (txtE c)]) ∧ Below w.heap.size w w' := by
  unfold txtN txtE
  split
  · rename_i h; exact text_yes c h w
  · rename_i h; exact (text_no c h w).mono fun e w' h => ⟨h.1, below_refl_of h.2⟩
theorem read_all (s : ByteArray) (w : World) : Calls Tryd.prog 25 #[.string s] w fun e w' => e = .returned (.tuple #[.int .u8 (rdsN s.data.toList), .int .i64 (rdsE s.data.toList)]) ∧ Below w.heap.size w w' := by
  obtain ⟨⟨l⟩⟩ := s
  match l with
  | [a, b] => exact read_two a b w
  | [] => exact (read_len _ (by decide) w).mono fun e w' h => ⟨h.1, below_refl_of h.2⟩
  | [a] => exact (read_len _ (by show 1 ≠ 2; decide) w).mono fun e w' h => ⟨h.1, below_refl_of h.2⟩
  | a :: b :: c :: l => exact (read_len _ (by show l.length + 1 + 1 + 1 ≠ 2; omega) w).mono fun e w' h => ⟨h.1, below_refl_of h.2⟩
theorem ref_of (s r : Nat) (w : World) : Calls Tryd.prog 29 #[.int .u8 s, .int .u8 r] w fun e w' => e = .returned (.tuple #[.int .u8 (ofN s r), .int .i64 (ofE s r)]) ∧ w = w' := by
  by_cases hs : s < 4
  · by_cases hr : r < 13
    · unfold ofN ofE
      rw [if_pos ⟨hs, hr⟩, if_pos ⟨hs, hr⟩]
      have e1 : IntKind.u8.wrap ((s : Int) * 13) = (s : Int) * 13 := u8_wrap (by omega) (by omega)
      have e2 : IntKind.u8.wrap ((s : Int) * 13 + r) = ((13 * s + r : Nat) : Int) := by rw [u8_wrap (by omega) (by omega)]; omega
      have b1 : ¬ (3 : Int) < s := by omega
      have b2 : ¬ (12 : Int) < r := by omega
      clear hs hr
      go_enter Tryd.func29, Tryd.ntmps29
      go_wp2
      refine bodyPost_ret (by simp [results, Tryd.results29, go_sem]) rfl ⟨rfl, rfl⟩
    · unfold ofN ofE
      rw [if_neg (fun h => hr h.2), if_neg (fun h => hr h.2)]
      have b1 : ¬ (3 : Int) < s := by omega
      have b2 : (12 : Int) < r := by omega
      clear hs hr
      go_enter Tryd.func29, Tryd.ntmps29
      go_wp2
      refine bodyPost_ret (by simp [results, Tryd.results29, go_sem]) rfl ⟨rfl, rfl⟩
  · unfold ofN ofE
    rw [if_neg (fun h => hs h.1), if_neg (fun h => hs h.1)]
    have b1 : (3 : Int) < s := by omega
    clear hs
    go_enter Tryd.func29, Tryd.ntmps29
    go_wp2
    refine bodyPost_ret (by simp [results, Tryd.results29, go_sem]) rfl ⟨rfl, rfl⟩
theorem ref_suit (c : Nat) (hc : c < 256) (w : World) : Calls Tryd.prog 32 #[.int .u8 c] w fun e w' => e = .returned (.int .u8 (suitN c)) ∧ Below w.heap.size w w' := by
  unfold suitN
  by_cases h : c < 52
  · rw [if_pos h]
    obtain ⟨q, hq⟩ : ∃ q, c / 13 = q := ⟨_, rfl⟩
    rw [hq]
    have b1 : ¬ (51 : Int) < c := by omega
    go_enter Tryd.func32, Tryd.ntmps32
    go_wp2
    go_loopw [0, 3] (fun s0 s3 wr => ∃ d k : Nat, s0 = .int .u8 d ∧ s3 = .int .u8 k ∧ d + 13 * k = c ∧ Below w.heap.size w wr) (fun s0 _ _ => (intOf s0).toNat)
    case atStart => exact ⟨c, 0, rfl, rfl, rfl, by repeat (first | (with_reducible exact Below.refl _ _) | ((with_reducible refine below_grow ?_ ?_); rotate_left; focus (first | omega | (simp [go_sem]; done) | (simp [go_sem]; omega))) | ((with_reducible refine Below.alloc ?_ ?_ _); rotate_left; focus (first | omega | (simp [go_sem]; done) | (simp [go_sem]; omega))) | ((with_reducible refine Below.setCell ?_ ?_ _); rotate_left; focus (first | omega | (simp [go_sem]; done) | (simp [go_sem]; omega))) | (with_reducible refine Below.drew ?_) | (with_reducible refine below_drewN _ ?_))⟩
    case round =>
      obtain ⟨d, k, rfl, rfl, hd, hb⟩ := hrel
      by_cases hlt : 13 ≤ d
      · have b2 : (13 : Int) ≤ d := by omega
        have e1 : IntKind.u8.wrap ((d : Int) - 13) = ((d - 13 : Nat) : Int) := by rw [u8_wrap (by omega) (by omega)]; omega
        have e2 : IntKind.u8.wrap ((k : Int) + 1) = (k : Int) + 1 := u8_wrap (by omega) (by omega)
        have HH := Lib.hid (And.intro hd hlt)
        clear hd hlt hq h hc b1
        go_wp2
        go_roundw
        case rel => exact ⟨d - 13, k + 1, rfl, by go_num, by have := HH.out; omega, hb⟩
        case measure => simp [intOf]; have := HH.out; omega
      · have b2 : ¬ (13 : Int) ≤ d := by omega
        obtain rfl : k = q := by omega
        clear hd hlt hq h hc b1
        go_wp2
        go_ret
        exact ⟨rfl, hb⟩
  · rw [if_neg h]
    have b1 : (51 : Int) < c := by omega
    clear h hc
    go_enter Tryd.func32, Tryd.ntmps32
    go_wp2
    go_ret
    exact ⟨rfl, by repeat (first | (with_reducible exact Below.refl _ _) | ((with_reducible refine below_grow ?_ ?_); rotate_left; focus (first | omega | (simp [go_sem]; done) | (simp [go_sem]; omega))) | ((with_reducible refine Below.alloc ?_ ?_ _); rotate_left; focus (first | omega | (simp [go_sem]; done) | (simp [go_sem]; omega))) | ((with_reducible refine Below.setCell ?_ ?_ _); rotate_left; focus (first | omega | (simp [go_sem]; done) | (simp [go_sem]; omega))) | (with_reducible refine Below.drew ?_) | (with_reducible refine below_drewN _ ?_))⟩
theorem ref_rank (c : Nat) (hc : c < 256) (w : World) : Calls Tryd.prog 33 #[.int .u8 c] w fun e w' => e = .returned (.int .u8 (rankN c)) ∧ Below w.heap.size w w' := by
  have S := Lib.hid (ref_suit c hc)
  by_cases h : c < 52
  · unfold rankN
    rw [if_pos h]
    unfold suitN at S
    rw [if_pos h] at S
    obtain ⟨q, hq⟩ : ∃ q, c / 13 = q := ⟨_, rfl⟩
    rw [hq] at S
    have b1 : ¬ (51 : Int) < c := by omega
    have e1 : IntKind.u8.wrap (13 * (q : Int)) = 13 * (q : Int) := u8_wrap (by omega) (by omega)
    have e2 : IntKind.u8.wrap ((c : Int) - 13 * (q : Int)) = ((c % 13 : Nat) : Int) := by rw [u8_wrap (by omega) (by omega)]; omega
    clear h hc hq
    go_enter Tryd.func33, Tryd.ntmps33
    go_wp2_with (go_at_call 32; refine (S.out _).mono ?_; rintro e w1 ⟨rfl, hbel⟩; obtain ⟨o1, j1, rfl⟩ := grow_of_below hbel; clear hbel)
    go_ret
    exact ⟨rfl, by repeat (first | (with_reducible exact Below.refl _ _) | ((with_reducible refine below_grow ?_ ?_); rotate_left; focus (first | omega | (simp [go_sem]; done) | (simp [go_sem]; omega))) | ((with_reducible refine Below.alloc ?_ ?_ _); rotate_left; focus (first | omega | (simp [go_sem]; done) | (simp [go_sem]; omega))) | ((with_reducible refine Below.setCell ?_ ?_ _); rotate_left; focus (first | omega | (simp [go_sem]; done) | (simp [go_sem]; omega))) | (with_reducible refine Below.drew ?_) | (with_reducible refine below_drewN _ ?_))⟩
  · unfold rankN
    rw [if_neg h]
    have b1 : (51 : Int) < c := by omega
    clear h hc
    go_enter Tryd.func33, Tryd.ntmps33
    go_wp2
    go_ret
    exact ⟨rfl, by repeat (first | (with_reducible exact Below.refl _ _) | ((with_reducible refine below_grow ?_ ?_); rotate_left; focus (first | omega | (simp [go_sem]; done) | (simp [go_sem]; omega))) | ((with_reducible refine Below.alloc ?_ ?_ _); rotate_left; focus (first | omega | (simp [go_sem]; done) | (simp [go_sem]; omega))) | ((with_reducible refine Below.setCell ?_ ?_ _); rotate_left; focus (first | omega | (simp [go_sem]; done) | (simp [go_sem]; omega))) | (with_reducible refine Below.drew ?_) | (with_reducible refine below_drewN _ ?_))⟩
theorem ref_letter (s : Nat) (hs : s < 4) (w : World) : Calls Tryd.prog 53 #[.int .i64 (s : Int)] w fun e w' => e = .returned (strv [ltr s]) ∧ Below w.heap.size w w' := by
  match s, hs with
  | 0, _ =>
    go_enter Tryd.func53, Tryd.ntmps53
    go_wp2
    go_ret
    exact ⟨rfl, by repeat (first | (with_reducible exact Below.refl _ _) | ((with_reducible refine below_grow ?_ ?_); rotate_left; focus (first | omega | (simp [go_sem]; done) | (simp [go_sem]; omega))) | ((with_reducible refine Below.alloc ?_ ?_ _); rotate_left; focus (first | omega | (simp [go_sem]; done) | (simp [go_sem]; omega))) | ((with_reducible refine Below.setCell ?_ ?_ _); rotate_left; focus (first | omega | (simp [go_sem]; done) | (simp [go_sem]; omega))) | (with_reducible refine Below.drew ?_) | (with_reducible refine below_drewN _ ?_))⟩
  | 1, _ =>
    go_enter Tryd.func53, Tryd.ntmps53
    go_wp2
    go_ret
    exact ⟨rfl, by repeat (first | (with_reducible exact Below.refl _ _) | ((with_reducible refine below_grow ?_ ?_); rotate_left; focus (first | omega | (simp [go_sem]; done) | (simp [go_sem]; omega))) | ((with_reducible refine Below.alloc ?_ ?_ _); rotate_left; focus (first | omega | (simp [go_sem]; done) | (simp [go_sem]; omega))) | ((with_reducible refine Below.setCell ?_ ?_ _); rotate_left; focus (first | omega | (simp [go_sem]; done) | (simp [go_sem]; omega))) | (with_reducible refine Below.drew ?_) | (with_reducible refine below_drewN _ ?_))⟩
  | 2, _ =>
    go_enter Tryd.func53, Tryd.ntmps53
    go_wp2
    go_ret
    exact ⟨rfl, by repeat (first | (with_reducible exact Below.refl _ _) | ((with_reducible refine below_grow ?_ ?_); rotate_left; focus (first | omega | (simp [go_sem]; done) | (simp [go_sem]; omega))) | ((with_reducible refine Below.alloc ?_ ?_ _); rotate_left; focus (first | omega | (simp [go_sem]; done) | (simp [go_sem]; omega))) | ((with_reducible refine Below.setCell ?_ ?_ _); rotate_left; focus (first | omega | (simp [go_sem]; done) | (simp [go_sem]; omega))) | (with_reducible refine Below.drew ?_) | (with_reducible refine below_drewN _ ?_))⟩
  | 3, _ =>
    go_enter Tryd.func53, Tryd.ntmps53
    go_wp2
    go_ret
    exact ⟨rfl, by repeat (first | (with_reducible exact Below.refl _ _) | ((with_reducible refine below_grow ?_ ?_); rotate_left; focus (first | omega | (simp [go_sem]; done) | (simp [go_sem]; omega))) | ((with_reducible refine Below.alloc ?_ ?_ _); rotate_left; focus (first | omega | (simp [go_sem]; done) | (simp [go_sem]; omega))) | ((with_reducible refine Below.setCell ?_ ?_ _); rotate_left; focus (first | omega | (simp [go_sem]; done) | (simp [go_sem]; omega))) | (with_reducible refine Below.drew ?_) | (with_reducible refine below_drewN _ ?_))⟩
theorem conv_one (W : World) (n : Int) (h : 0 ≤ n ∧ n ≤ 255) : (convert 25 9 (.slice (some ⟨W.heap.size, 0, none⟩) 1 1)).run Tryd.prog (W.alloc (.cells #[.int .u8 n] 5)) = .ok (.string ⟨#[UInt8.ofNat n.toNat]⟩) (W.alloc (.cells #[.int .u8 n] 5)) := by
  refine run_convert_bytes_back _ 25 9 5 ⟨W.heap.size, 0, none⟩ 1 [UInt8.ofNat n.toNat] Tryd.underlying25 Tryd.underlying5 Tryd.underlying9 fun j hj => ?_
  have hp : (⟨W.heap.size, 0, none⟩ : Addr).add j = ⟨W.heap.size, 0 + j, none⟩ := by unfold Addr.add; split <;> simp_all
  rw [hp, Nat.zero_add, blk_cell (blk_new W _ _) j]
  match j, hj with
  | 0, _ =>
    have e : ((UInt8.ofNat n.toNat).toNat : Int) = n := by rw [UInt8.toNat_ofNat']; omega
    show some (Value.int .u8 n) = some (Value.int .u8 ((UInt8.ofNat n.toNat).toNat : Int))
    rw [e]
theorem ref_sign (r : Nat) (hr : r < 13) (w : World) : Calls Tryd.prog 41 #[.int .i64 (r : Int)] w fun e w' => e = .returned (strv [chr r]) ∧ Below w.heap.size w w' := by
  match r, hr with
  | 0, _ =>
    have cv := fun W => conv_one W 50 (by decide)
    have e1 : IntKind.i64.wrap 50 = 50 := by decide
    have e2 : IntKind.u8.wrap 50 = 50 := by decide
    go_enter Tryd.func41, Tryd.ntmps41
    go_wp2
    go_ret
    exact ⟨rfl, by repeat (first | (with_reducible exact Below.refl _ _) | ((with_reducible refine below_grow ?_ ?_); rotate_left; focus (first | omega | (simp [go_sem]; done) | (simp [go_sem]; omega))) | ((with_reducible refine Below.alloc ?_ ?_ _); rotate_left; focus (first | omega | (simp [go_sem]; done) | (simp [go_sem]; omega))) | ((with_reducible refine Below.setCell ?_ ?_ _); rotate_left; focus (first | omega | (simp [go_sem]; done) | (simp [go_sem]; omega))) | (with_reducible refine Below.drew ?_) | (with_reducible refine below_drewN _ ?_))⟩
  | 1, _ =>
    have cv := fun W => conv_one W 51 (by decide)
    have e1 : IntKind.i64.wrap 51 = 51 := by decide
    have e2 : IntKind.u8.wrap 51 = 51 := by decide
    go_enter Tryd.func41, Tryd.ntmps41
    go_wp2
    go_ret
    exact ⟨rfl, by repeat (first | (with_reducible exact Below.refl _ _) | ((with_reducible refine below_grow ?_ ?_); rotate_left; focus (first | omega | (simp [go_sem]; done) | (simp [go_sem]; omega))) | ((with_reducible refine Below.alloc ?_ ?_ _); rotate_left; focus (first | omega | (simp [go_sem]; done) | (simp [go_sem]; omega))) | ((with_reducible refine Below.setCell ?_ ?_ _); rotate_left; focus (first | omega | (simp [go_sem]; done) | (simp [go_sem]; omega))) | (with_reducible refine Below.drew ?_) | (with_reducible refine below_drewN _ ?_))⟩
  | 2, _ =>
    have cv := fun W => conv_one W 52 (by decide)
    have e1 : IntKind.i64.wrap 52 = 52 := by decide
    have e2 : IntKind.u8.wrap 52 = 52 := by decide
    go_enter Tryd.func41, Tryd.ntmps41
    go_wp2
    go_ret
    exact ⟨rfl, by repeat (first | (with_reducible exact Below.refl _ _) | ((with_reducible refine below_grow ?_ ?_); rotate_left; focus (first | omega | (simp [go_sem]; done) | (simp [go_sem]; omega))) | ((with_reducible refine Below.alloc ?_ ?_ _); rotate_left; focus (first | omega | (simp [go_sem]; done) | (simp [go_sem]; omega))) | ((with_reducible refine Below.setCell ?_ ?_ _); rotate_left; focus (first | omega | (simp [go_sem]; done) | (simp [go_sem]; omega))) | (with_reducible refine Below.drew ?_) | (with_reducible refine below_drewN _ ?_))⟩
  | 3, _ =>
    have cv := fun W => conv_one W 53 (by decide)
    have e1 : IntKind.i64.wrap 53 = 53 := by decide
    have e2 : IntKind.u8.wrap 53 = 53 := by decide
    go_enter Tryd.func41, Tryd.ntmps41
    go_wp2
    go_ret
    exact ⟨rfl, by repeat (first | (with_reducible exact Below.refl _ _) | ((with_reducible refine below_grow ?_ ?_); rotate_left; focus (first | omega | (simp [go_sem]; done) | (simp [go_sem]; omega))) | ((with_reducible refine Below.alloc ?_ ?_ _); rotate_left; focus (first | omega | (simp [go_sem]; done) | (simp [go_sem]; omega))) | ((with_reducible refine Below.setCell ?_ ?_ _); rotate_left; focus (first | omega | (simp [go_sem]; done) | (simp [go_sem]; omega))) | (with_reducible refine Below.drew ?_) | (with_reducible refine below_drewN _ ?_))⟩
  | 4, _ =>
    have cv := fun W => conv_one W 54 (by decide)
    have e1 : IntKind.i64.wrap 54 = 54 := by decide
    have e2 : IntKind.u8.wrap 54 = 54 := by decide
    go_enter Tryd.func41, Tryd.ntmps41
    go_wp2
    go_ret
    exact ⟨rfl, by repeat (first | (with_reducible exact Below.refl _ _) | ((with_reducible refine below_grow ?_ ?_); rotate_left; focus (first | omega | (simp [go_sem]; done) | (simp [go_sem]; omega))) | ((with_reducible refine Below.alloc ?_ ?_ _); rotate_left; focus (first | omega | (simp [go_sem]; done) | (simp [go_sem]; omega))) | ((with_reducible refine Below.setCell ?_ ?_ _); rotate_left; focus (first | omega | (simp [go_sem]; done) | (simp [go_sem]; omega))) | (with_reducible refine Below.drew ?_) | (with_reducible refine below_drewN _ ?_))⟩
  | 5, _ =>
    have cv := fun W => conv_one W 55 (by decide)
    have e1 : IntKind.i64.wrap 55 = 55 := by decide
    have e2 : IntKind.u8.wrap 55 = 55 := by decide
    go_enter Tryd.func41, Tryd.ntmps41
    go_wp2
    go_ret
    exact ⟨rfl, by repeat (first | (with_reducible exact Below.refl _ _) | ((with_reducible refine below_grow ?_ ?_); rotate_left; focus (first | omega | (simp [go_sem]; done) | (simp [go_sem]; omega))) | ((with_reducible refine Below.alloc ?_ ?_ _); rotate_left; focus (first | omega | (simp [go_sem]; done) | (simp [go_sem]; omega))) | ((with_reducible refine Below.setCell ?_ ?_ _); rotate_left; focus (first | omega | (simp [go_sem]; done) | (simp [go_sem]; omega))) | (with_reducible refine Below.drew ?_) | (with_reducible refine below_drewN _ ?_))⟩
  | 6, _ =>
    have cv := fun W => conv_one W 56 (by decide)
    have e1 : IntKind.i64.wrap 56 = 56 := by decide
    have e2 : IntKind.u8.wrap 56 = 56 := by decide
    go_enter Tryd.func41, Tryd.ntmps41
    go_wp2
    go_ret
    exact ⟨rfl, by repeat (first | (with_reducible exact Below.refl _ _) | ((with_reducible refine below_grow ?_ ?_); rotate_left; focus (first | omega | (simp [go_sem]; done) | (simp [go_sem]; omega))) | ((with_reducible refine Below.alloc ?_ ?_ _); rotate_left; focus (first | omega | (simp [go_sem]; done) | (simp [go_sem]; omega))) | ((with_reducible refine Below.setCell ?_ ?_ _); rotate_left; focus (first | omega | (simp [go_sem]; done) | (simp [go_sem]; omega))) | (with_reducible refine Below.drew ?_) | (with_reducible refine below_drewN _ ?_))⟩
  | 7, _ =>
    have cv := fun W => conv_one W 57 (by decide)
    have e1 : IntKind.i64.wrap 57 = 57 := by decide
    have e2 : IntKind.u8.wrap 57 = 57 := by decide
    go_enter Tryd.func41, Tryd.ntmps41
    go_wp2
    go_ret
    exact ⟨rfl, by repeat (first | (with_reducible exact Below.refl _ _) | ((with_reducible refine below_grow ?_ ?_); rotate_left; focus (first | omega | (simp [go_sem]; done) | (simp [go_sem]; omega))) | ((with_reducible refine Below.alloc ?_ ?_ _); rotate_left; focus (first | omega | (simp [go_sem]; done) | (simp [go_sem]; omega))) | ((with_reducible refine Below.setCell ?_ ?_ _); rotate_left; focus (first | omega | (simp [go_sem]; done) | (simp [go_sem]; omega))) | (with_reducible refine Below.drew ?_) | (with_reducible refine below_drewN _ ?_))⟩
  | 8, _ =>
    have cv := fun W => conv_one W 58 (by decide)
    have e1 : IntKind.i64.wrap 58 = 58 := by decide
    have e2 : IntKind.u8.wrap 58 = 58 := by decide
    go_enter Tryd.func41, Tryd.ntmps41
    go_wp2
    go_ret
    exact ⟨rfl, by repeat (first | (with_reducible exact Below.refl _ _) | ((with_reducible refine below_grow ?_ ?_); rotate_left; focus (first | omega | (simp [go_sem]; done) | (simp [go_sem]; omega))) | ((with_reducible refine Below.alloc ?_ ?_ _); rotate_left; focus (first | omega | (simp [go_sem]; done) | (simp [go_sem]; omega))) | ((with_reducible refine Below.setCell ?_ ?_ _); rotate_left; focus (first | omega | (simp [go_sem]; done) | (simp [go_sem]; omega))) | (with_reducible refine Below.drew ?_) | (with_reducible refine below_drewN _ ?_))⟩
  | 9, _ =>
    have cv := fun W => conv_one W 59 (by decide)
    have e1 : IntKind.i64.wrap 59 = 59 := by decide
    have e2 : IntKind.u8.wrap 59 = 59 := by decide
    go_enter Tryd.func41, Tryd.ntmps41
    go_wp2
    go_ret
    exact ⟨rfl, by repeat (first | (with_reducible exact Below.refl _ _) | ((with_reducible refine below_grow ?_ ?_); rotate_left; focus (first | omega | (simp [go_sem]; done) | (simp [go_sem]; omega))) | ((with_reducible refine Below.alloc ?_ ?_ _); rotate_left; focus (first | omega | (simp [go_sem]; done) | (simp [go_sem]; omega))) | ((with_reducible refine Below.setCell ?_ ?_ _); rotate_left; focus (first | omega | (simp [go_sem]; done) | (simp [go_sem]; omega))) | (with_reducible refine Below.drew ?_) | (with_reducible refine below_drewN _ ?_))⟩
  | 10, _ =>
    have cv := fun W => conv_one W 60 (by decide)
    have e1 : IntKind.i64.wrap 60 = 60 := by decide
    have e2 : IntKind.u8.wrap 60 = 60 := by decide
    go_enter Tryd.func41, Tryd.ntmps41
    go_wp2
    go_ret
    exact ⟨rfl, by repeat (first | (with_reducible exact Below.refl _ _) | ((with_reducible refine below_grow ?_ ?_); rotate_left; focus (first | omega | (simp [go_sem]; done) | (simp [go_sem]; omega))) | ((with_reducible refine Below.alloc ?_ ?_ _); rotate_left; focus (first | omega | (simp [go_sem]; done) | (simp [go_sem]; omega))) | ((with_reducible refine Below.setCell ?_ ?_ _); rotate_left; focus (first | omega | (simp [go_sem]; done) | (simp [go_sem]; omega))) | (with_reducible refine Below.drew ?_) | (with_reducible refine below_drewN _ ?_))⟩
  | 11, _ =>
    have cv := fun W => conv_one W 61 (by decide)
    have e1 : IntKind.i64.wrap 61 = 61 := by decide
    have e2 : IntKind.u8.wrap 61 = 61 := by decide
    go_enter Tryd.func41, Tryd.ntmps41
    go_wp2
    go_ret
    exact ⟨rfl, by repeat (first | (with_reducible exact Below.refl _ _) | ((with_reducible refine below_grow ?_ ?_); rotate_left; focus (first | omega | (simp [go_sem]; done) | (simp [go_sem]; omega))) | ((with_reducible refine Below.alloc ?_ ?_ _); rotate_left; focus (first | omega | (simp [go_sem]; done) | (simp [go_sem]; omega))) | ((with_reducible refine Below.setCell ?_ ?_ _); rotate_left; focus (first | omega | (simp [go_sem]; done) | (simp [go_sem]; omega))) | (with_reducible refine Below.drew ?_) | (with_reducible refine below_drewN _ ?_))⟩
  | 12, _ =>
    have cv := fun W => conv_one W 62 (by decide)
    have e1 : IntKind.i64.wrap 62 = 62 := by decide
    have e2 : IntKind.u8.wrap 62 = 62 := by decide
    go_enter Tryd.func41, Tryd.ntmps41
    go_wp2
    go_ret
    exact ⟨rfl, by repeat (first | (with_reducible exact Below.refl _ _) | ((with_reducible refine below_grow ?_ ?_); rotate_left; focus (first | omega | (simp [go_sem]; done) | (simp [go_sem]; omega))) | ((with_reducible refine Below.alloc ?_ ?_ _); rotate_left; focus (first | omega | (simp [go_sem]; done) | (simp [go_sem]; omega))) | ((with_reducible refine Below.setCell ?_ ?_ _); rotate_left; focus (first | omega | (simp [go_sem]; done) | (simp [go_sem]; omega))) | (with_reducible refine Below.drew ?_) | (with_reducible refine below_drewN _ ?_))⟩
end Go.Proofs.YtcfkcfbgnciccaaDoor
