/- The reference's Text and Read; one; CardTells. -/
import Derived.Test.YtcfkcfbgnciccaaDoorCZa
namespace Go.Proofs.YtcfkcfbgnciccaaDoor
open Go.RowKit

theorem ref_text (c : Nat) (hc : c < 256) (w : World) : Calls Tryd.prog 30 #[.int .u8 c] w fun e w' => e = .returned (.tuple #[strv (txtN c), .int .i64 (txtE c)]) ∧ Below w.heap.size w w' := by
  by_cases h : c < 52
  · have S := Lib.hid (ref_suit c hc)
    have R := Lib.hid (ref_rank c hc)
    have L := Lib.hid (ref_letter (c / 13) (by omega))
    have G := Lib.hid (ref_sign (c % 13) (by omega))
    unfold suitN at S
    unfold rankN at R
    unfold txtN txtE
    rw [if_pos h] at S R
    rw [if_pos h, if_pos h]
    have ad := fun W => run_string_add_lists (P := Tryd.prog) (w := W) [ltr (c / 13)] [chr (c % 13)] (by simp) (by simp)
    have e1 : IntKind.i64.wrap ((c / 13 : Nat) : Int) = ((c / 13 : Nat) : Int) := IntWalk.i64_in _ (by omega)
    have e2 : IntKind.i64.wrap ((c % 13 : Nat) : Int) = ((c % 13 : Nat) : Int) := IntWalk.i64_in _ (by omega)
    obtain ⟨q, hq⟩ : ∃ q, c / 13 = q := ⟨_, rfl⟩
    obtain ⟨r, hr⟩ : ∃ r, c % 13 = r := ⟨_, rfl⟩
    rw [hq] at S L ad e1 ⊢
    rw [hr] at R G ad e2 ⊢
    have b1 : ¬ (51 : Int) < c := by omega
    clear h hc hq hr
    go_enter Tryd.func30, Tryd.ntmps30
    go_wp2_with (first | (go_at_call 32; refine (S.out _).mono ?_; rintro e w1 ⟨rfl, hbel⟩; obtain ⟨o1, j1, rfl⟩ := grow_of_below hbel; clear hbel) | (go_at_call 33; refine (R.out _).mono ?_; rintro e w1 ⟨rfl, hbel⟩; obtain ⟨o2, j2, rfl⟩ := grow_of_below hbel; clear hbel) | (go_at_call 53; refine (L.out _).mono ?_; rintro e w1 ⟨rfl, hbel⟩; obtain ⟨o3, j3, rfl⟩ := grow_of_below hbel; clear hbel) | (go_at_call 41; refine (G.out _).mono ?_; rintro e w1 ⟨rfl, hbel⟩; obtain ⟨o4, j4, rfl⟩ := grow_of_below hbel; clear hbel))
    refine bodyPost_ret (by simp [results, Tryd.results30, go_sem]) rfl ⟨rfl, ?_⟩
    repeat (first | (with_reducible exact Below.refl _ _) | ((with_reducible refine below_grow ?_ ?_); rotate_left; focus (first | omega | (simp [go_sem]; done) | (simp [go_sem]; omega))) | ((with_reducible refine Below.alloc ?_ ?_ _); rotate_left; focus (first | omega | (simp [go_sem]; done) | (simp [go_sem]; omega))) | ((with_reducible refine Below.setCell ?_ ?_ _); rotate_left; focus (first | omega | (simp [go_sem]; done) | (simp [go_sem]; omega))) | (with_reducible refine Below.drew ?_) | (with_reducible refine below_drewN _ ?_))
  · unfold txtN txtE
    rw [if_neg h, if_neg h]
    have b1 : (51 : Int) < c := by omega
    clear h hc
    go_enter Tryd.func30, Tryd.ntmps30
    go_wp2
    refine bodyPost_ret (by simp [results, Tryd.results30, go_sem]) rfl ⟨rfl, ?_⟩
    repeat (first | (with_reducible exact Below.refl _ _) | ((with_reducible refine below_grow ?_ ?_); rotate_left; focus (first | omega | (simp [go_sem]; done) | (simp [go_sem]; omega))) | ((with_reducible refine Below.alloc ?_ ?_ _); rotate_left; focus (first | omega | (simp [go_sem]; done) | (simp [go_sem]; omega))) | ((with_reducible refine Below.setCell ?_ ?_ _); rotate_left; focus (first | omega | (simp [go_sem]; done) | (simp [go_sem]; omega))) | (with_reducible refine Below.drew ?_) | (with_reducible refine below_drewN _ ?_))
theorem txt_rds {c : Nat} (h : c < 52) : rdsN (txtN c) = c ∧ rdsE (txtN c) = 0 := by
  unfold txtN
  rw [if_pos h]
  have h1 := sdx_ltr ⟨c / 13, by omega⟩
  have h2 := idx_chr ⟨c % 13, by omega⟩
  simp only at h1 h2
  unfold rdsN rdsE rdc rde
  simp only [h1, h2]
  rw [if_neg (by omega), if_neg (by omega)]
  refine ⟨?_, rfl⟩
  omega
theorem rds_none {l : List UInt8} (h : ∀ c, c < 52 → txtN c ≠ l) : rdsN l = 0 ∧ rdsE l = 40 := by
  match l, h with
  | [], _ => exact ⟨rfl, rfl⟩
  | [_], _ => exact ⟨rfl, rfl⟩
  | _ :: _ :: _ :: _, _ => exact ⟨rfl, rfl⟩
  | [a, b], h =>
    show rdc a b = 0 ∧ rde a b = 40
    unfold rdc rde
    by_cases hn : sdx a < 0 ∨ idx b < 0
    · rw [if_pos hn, if_pos hn]
      exact ⟨rfl, rfl⟩
    · exfalso
      obtain ⟨a1, a2, a3⟩ := sdx_all a
      obtain ⟨b1, b2⟩ := idx_all b
      obtain ⟨b3, b4⟩ := idx_lt b (by omega)
      have a4 := a3 (by omega)
      obtain ⟨q, hq⟩ : ∃ q : Nat, sdx a = q := ⟨(sdx a).toNat, by omega⟩
      obtain ⟨r, hr⟩ : ∃ r : Nat, idx b = r := ⟨(idx b).toNat, by omega⟩
      rw [hq] at a2 a4
      rw [hr] at b2 b4
      rw [Int.toNat_natCast] at a4 b4
      refine h (13 * q + r) (by omega) ?_
      unfold txtN
      rw [if_pos (by omega), show (13 * q + r) / 13 = q by omega, show (13 * q + r) % 13 = r by omega, a4, b4]
set_option maxRecDepth 100000 in
set_option maxHeartbeats 4000000 in
theorem ref_read (l : List UInt8) (w : World) : Calls Tryd.prog 31 #[strv l] w fun e w' => e = .returned (.tuple #[.int .u8 (rdsN l), .int .i64 (rdsE l)]) ∧ Below w.heap.size w w' := by
  obtain ⟨x, hx⟩ : ∃ x, rdsN l = x := ⟨_, rfl⟩
  obtain ⟨y, hy⟩ : ∃ y, rdsE l = y := ⟨_, rfl⟩
  rw [hx, hy]
  go_enter Tryd.func31, Tryd.ntmps31
  go_wp2
  go_loopw [4] (fun s4 wr => ∃ i : Nat, s4 = .int .i64 i ∧ i ≤ 52 ∧ (∀ c, c < i → txtN c ≠ l) ∧ Below w.heap.size w wr) (fun s4 _ => 52 - (intOf s4).toNat)
  case atStart => exact ⟨0, rfl, by decide, fun c h => by omega, by repeat (first | (with_reducible exact Below.refl _ _) | ((with_reducible refine below_grow ?_ ?_); rotate_left; focus (first | omega | (simp [go_sem]; done) | (simp [go_sem]; omega))) | ((with_reducible refine Below.alloc ?_ ?_ _); rotate_left; focus (first | omega | (simp [go_sem]; done) | (simp [go_sem]; omega))) | ((with_reducible refine Below.setCell ?_ ?_ _); rotate_left; focus (first | omega | (simp [go_sem]; done) | (simp [go_sem]; omega))) | (with_reducible refine Below.drew ?_) | (with_reducible refine below_drewN _ ?_))⟩
  case round =>
    obtain ⟨i, rfl, hi, hn, hb⟩ := hrel
    by_cases hlt : i < 52
    · have b1 : (i : Int) < 52 := by omega
      have T := Lib.hid (ref_text i (by omega))
      have e1 : IntKind.u8.wrap (i : Int) = (i : Int) := u8_wrap (by omega) (by omega)
      have e2 : IntKind.i64.wrap ((i : Int) + 1) = (i : Int) + 1 := IntWalk.i64_in _ (by omega)
      by_cases heq : txtN i = l
      · obtain ⟨r1, r2⟩ := txt_rds hlt
        rw [heq] at T r1 r2
        obtain rfl : x = i := hx.symm.trans r1
        obtain rfl : y = 0 := hy.symm.trans r2
        have hbs := hb.size
        clear hi hn hlt heq r1 r2 hx hy
        go_wp2_with (go_at_call 30; refine (T.out _).mono ?_; rintro e w1 ⟨rfl, hbel⟩; obtain ⟨o1, j1, rfl⟩ := grow_of_below hbel; clear hbel)
        refine bodyPost_ret (by simp [results, Tryd.results31, go_sem]) rfl ⟨rfl, ?_⟩
        repeat (first | (with_reducible exact hb) | ((with_reducible refine below_grow ?_ ?_); rotate_left; focus (first | omega | (simp [go_sem]; done) | (simp [go_sem]; omega))) | ((with_reducible refine Below.alloc ?_ ?_ _); rotate_left; focus (first | omega | (simp [go_sem]; done) | (simp [go_sem]; omega))) | ((with_reducible refine Below.setCell ?_ ?_ _); rotate_left; focus (first | omega | (simp [go_sem]; done) | (simp [go_sem]; omega))) | (with_reducible refine Below.drew ?_) | (with_reducible refine below_drewN _ ?_))
      · have hne : (txtN i == l) = false := beq_eq_false_iff_ne.2 heq
        have HH := Lib.hid (And.intro hi (And.intro hlt (And.intro hn heq)))
        have hbs := hb.size
        clear hi hn hlt heq hx hy
        go_wp2_with (go_at_call 30; refine (T.out _).mono ?_; rintro e w1 ⟨rfl, hbel⟩; obtain ⟨o1, j1, rfl⟩ := grow_of_below hbel; clear hbel)
        go_roundw
        case rel =>
          refine ⟨i + 1, by go_num, by have := HH.out; omega, fun c hc => ?_, by repeat (first | (with_reducible exact hb) | ((with_reducible refine below_grow ?_ ?_); rotate_left; focus (first | omega | (simp [go_sem]; done) | (simp [go_sem]; omega))) | ((with_reducible refine Below.alloc ?_ ?_ _); rotate_left; focus (first | omega | (simp [go_sem]; done) | (simp [go_sem]; omega))) | ((with_reducible refine Below.setCell ?_ ?_ _); rotate_left; focus (first | omega | (simp [go_sem]; done) | (simp [go_sem]; omega))) | (with_reducible refine Below.drew ?_) | (with_reducible refine below_drewN _ ?_))⟩
          by_cases h : c = i
          · subst h; exact HH.out.2.2.2
          · exact HH.out.2.2.1 c (by omega)
        case measure => simp [intOf]; have := HH.out; omega
    · obtain rfl : i = 52 := by omega
      obtain ⟨r1, r2⟩ := rds_none hn
      obtain rfl : x = 0 := hx.symm.trans r1
      obtain rfl : y = 40 := hy.symm.trans r2
      clear hn hlt hi r1 r2 hx hy
      go_wp2
      refine bodyPost_ret (by simp [results, Tryd.results31, go_sem]) rfl ⟨rfl, ?_⟩
      exact hb
set_option maxRecDepth 100000 in
set_option maxHeartbeats 8000000 in
theorem one4_calls (c s r : Nat) (hc : c < 256) (hs : s < 256) (hr : r < 256) (l : List UInt8) (w : World) :
    Calls Tryd.prog 11 #[.int .u8 c, .int .u8 s, .int .u8 r, strv l] w fun e w' => e = .returned (.bool true) ∧ Below w.heap.size w w' := by
  have A1 := Lib.hid (of_all s r hs hr)
  have A2 := Lib.hid (ref_of s r)
  have A3 := Lib.hid (text_all c)
  have A4 := Lib.hid (ref_text c hc)
  have A5 := Lib.hid (read_all ⟨l.toArray⟩)
  have A6 := Lib.hid (ref_read l)
  have A7 := Lib.hid (right_calls c)
  have A8 := Lib.hid (suit_all c)
  have A9 := Lib.hid (ref_suit c hc)
  have B1 := Lib.hid (rank_all c)
  have B2 := Lib.hid (ref_rank c hc)
  obtain ⟨x, hx⟩ : ∃ x, decide (c < 52) = x := ⟨_, rfl⟩
  have hx2 : decide ((c : Int) < 52) = x := by rw [← hx]; congr 1; simp; omega
  rw [hx] at A7
  generalize ofN s r = x1 at *
  generalize ofE s r = x2 at *
  generalize txtN c = x3 at *
  generalize txtE c = x4 at *
  generalize suitN c = x5 at *
  generalize rankN c = x6 at *
  have A5 : Hid (∀ w, Calls Tryd.prog 25 #[strv l] w fun e w' => e = .returned (.tuple #[.int .u8 (rdsN l), .int .i64 (rdsE l)]) ∧ Below w.heap.size w w') := A5
  generalize rdsN l = x7 at *
  generalize rdsE l = x8 at *
  clear hc hs hr hx
  go_enter Tryd.func11, Tryd.ntmps11
  go_upto_region 3 with (first | (go_at_call 21; refine (A1.out _).mono ?_; rintro e w1 ⟨rfl, rfl⟩) | (go_at_call 29; refine (A2.out _).mono ?_; rintro e w1 ⟨rfl, rfl⟩))
  go_upto_region 5 with (first | (go_at_call 24; refine (A3.out _).mono ?_; rintro e w1 ⟨rfl, hbel⟩; obtain ⟨o1, j1, rfl⟩ := grow_of_below hbel; clear hbel) | (go_at_call 30; refine (A4.out _).mono ?_; rintro e w1 ⟨rfl, hbel⟩; obtain ⟨o2, j2, rfl⟩ := grow_of_below hbel; clear hbel))
  go_upto_region 7 with (first | (go_at_call 25; refine (A5.out _).mono ?_; rintro e w1 ⟨rfl, hbel⟩; obtain ⟨o3, j3, rfl⟩ := grow_of_below hbel; clear hbel) | (go_at_call 31; refine (A6.out _).mono ?_; rintro e w1 ⟨rfl, hbel⟩; obtain ⟨o4, j4, rfl⟩ := grow_of_below hbel; clear hbel))
  clear A1 A2 A3 A4 A5 A6
  go_wp2_with (first | (go_at_call 26; refine (A7.out _).mono ?_; rintro e w1 ⟨rfl, rfl⟩) | (go_at_call 22; refine (A8.out _).mono ?_; rintro e w1 ⟨rfl, rfl⟩) | (go_at_call 32; refine (A9.out _).mono ?_; rintro e w1 ⟨rfl, hbel⟩; obtain ⟨o5, j5, rfl⟩ := grow_of_below hbel; clear hbel) | (go_at_call 23; refine (B1.out _).mono ?_; rintro e w1 ⟨rfl, rfl⟩) | (go_at_call 33; refine (B2.out _).mono ?_; rintro e w1 ⟨rfl, hbel⟩; obtain ⟨o6, j6, rfl⟩ := grow_of_below hbel; clear hbel))
  go_ret
  exact ⟨rfl, by repeat (first | (with_reducible exact Below.refl _ _) | ((with_reducible refine below_grow ?_ ?_); rotate_left; focus (first | omega | (simp [go_sem]; done) | (simp [go_sem]; omega))) | ((with_reducible refine Below.alloc ?_ ?_ _); rotate_left; focus (first | omega | (simp [go_sem]; done) | (simp [go_sem]; omega))) | ((with_reducible refine Below.setCell ?_ ?_ _); rotate_left; focus (first | omega | (simp [go_sem]; done) | (simp [go_sem]; omega))) | (with_reducible refine Below.drew ?_) | (with_reducible refine below_drewN _ ?_))⟩
theorem cardTells_walk (a0 a1 a2 : Int) (s : ByteArray) (b0 : 0 ≤ a0 ∧ a0 ≤ 255) (b1 : 0 ≤ a1 ∧ a1 ≤ 255) (b2 : 0 ≤ a2 ∧ a2 ≤ 255) (_ : s.size ≤ 140737488355328) (w : World) (he : Env w) :
    Calls Tryd.prog 3 #[.int .u8 a0, .int .u8 a1, .int .u8 a2, .string s] w fun e w' => e = .returned (.bool true) ∧ Below w.heap.size w w' := by
  obtain ⟨c, rfl⟩ : ∃ n : Nat, a0 = n := ⟨a0.toNat, by omega⟩
  obtain ⟨t, rfl⟩ : ∃ n : Nat, a1 = n := ⟨a1.toNat, by omega⟩
  obtain ⟨r, rfl⟩ : ∃ n : Nat, a2 = n := ⟨a2.toNat, by omega⟩
  have ON := Lib.hid (one4_calls c t r (by omega) (by omega) (by omega) s.data.toList)
  have ON : Hid (∀ w, Calls Tryd.prog 11 #[.int .u8 c, .int .u8 t, .int .u8 r, .string s] w fun e w' => e = .returned (.bool true) ∧ Below w.heap.size w w') := ON
  by_cases hl : (100 : Int) < s.size
  · clear b0 b1 b2
    go_enter Tryd.func3, Tryd.ntmps3
    go_wp2_with (go_at_call 12; refine (awake_calls _ (he.below (by repeat (first | (with_reducible exact Below.refl _ _) | ((with_reducible refine below_grow ?_ ?_); rotate_left; focus (first | omega | (simp [go_sem]; done) | (simp [go_sem]; omega))) | ((with_reducible refine Below.alloc ?_ ?_ _); rotate_left; focus (first | omega | (simp [go_sem]; done) | (simp [go_sem]; omega))) | ((with_reducible refine Below.setCell ?_ ?_ _); rotate_left; focus (first | omega | (simp [go_sem]; done) | (simp [go_sem]; omega))) | (with_reducible refine Below.drew ?_) | (with_reducible refine below_drewN _ ?_))))).mono ?_; rintro e w1 ⟨rfl, hbel⟩; obtain ⟨o2, j2, rfl⟩ := grow_of_below hbel; clear hbel)
    go_ret
    exact ⟨rfl, by repeat (first | (with_reducible exact Below.refl _ _) | ((with_reducible refine below_grow ?_ ?_); rotate_left; focus (first | omega | (simp [go_sem]; done) | (simp [go_sem]; omega))) | ((with_reducible refine Below.alloc ?_ ?_ _); rotate_left; focus (first | omega | (simp [go_sem]; done) | (simp [go_sem]; omega))) | ((with_reducible refine Below.setCell ?_ ?_ _); rotate_left; focus (first | omega | (simp [go_sem]; done) | (simp [go_sem]; omega))) | (with_reducible refine Below.drew ?_) | (with_reducible refine below_drewN _ ?_))⟩
  · clear b0 b1 b2
    go_enter Tryd.func3, Tryd.ntmps3
    go_wp2_with (first | (go_at_call 11; refine (ON.out _).mono ?_; rintro e w1 ⟨rfl, hbel⟩; obtain ⟨o1, j1, rfl⟩ := grow_of_below hbel; clear hbel) | (go_at_call 12; refine (awake_calls _ (he.below (by repeat (first | (with_reducible exact Below.refl _ _) | ((with_reducible refine below_grow ?_ ?_); rotate_left; focus (first | omega | (simp [go_sem]; done) | (simp [go_sem]; omega))) | ((with_reducible refine Below.alloc ?_ ?_ _); rotate_left; focus (first | omega | (simp [go_sem]; done) | (simp [go_sem]; omega))) | ((with_reducible refine Below.setCell ?_ ?_ _); rotate_left; focus (first | omega | (simp [go_sem]; done) | (simp [go_sem]; omega))) | (with_reducible refine Below.drew ?_) | (with_reducible refine below_drewN _ ?_))))).mono ?_; rintro e w1 ⟨rfl, hbel⟩; obtain ⟨o2, j2, rfl⟩ := grow_of_below hbel; clear hbel))
    go_ret
    exact ⟨rfl, by repeat (first | (with_reducible exact Below.refl _ _) | ((with_reducible refine below_grow ?_ ?_); rotate_left; focus (first | omega | (simp [go_sem]; done) | (simp [go_sem]; omega))) | ((with_reducible refine Below.alloc ?_ ?_ _); rotate_left; focus (first | omega | (simp [go_sem]; done) | (simp [go_sem]; omega))) | ((with_reducible refine Below.setCell ?_ ?_ _); rotate_left; focus (first | omega | (simp [go_sem]; done) | (simp [go_sem]; omega))) | (with_reducible refine Below.drew ?_) | (with_reducible refine below_drewN _ ?_))⟩
end Go.Proofs.YtcfkcfbgnciccaaDoor
