/- DealSeats: Owner; the mathematics. -/
import Derived.Test.YtgcfkhpondemlaaXS
namespace Go.Proofs.Ytgcfkhpondemlaa.Ca
open Go.RowKit
open Go.Proofs.DB (Pd Rd bt lack put wo left)

set_option maxRecDepth 100000 in
set_option maxHeartbeats 4000000 in
theorem owner_calls (q : Nat → Nat) (h64 : ∀ i, i < 4 → q i < 18446744073709551616) (c s : Nat) (hc : c < 52) (hs : s < 4) (hb : bt (q s) c = 1) (hn : ∀ i, i < s → bt (q i) c = 0) (w : World) :
    Calls Try.prog 19 #[.agg #[.int .u64 (q 0 : Nat), .int .u64 (q 1 : Nat), .int .u64 (q 2 : Nat), .int .u64 (q 3 : Nat)], .int .u8 c] w fun e w' => e = .returned (.tuple #[.int .u8 s, .bool true]) ∧ Below w.heap.size w w' := by
  have R := Lib.hid (right_yes c hc)
  have IX := Lib.hid (index_deal q)
  have hmn : min c 64 = c := by omega
  have A := Lib.hid (fun i (hi : i < 4) => show bits .and .u64 ((q i / 2 ^ c : Nat) : Int) 1 = (bt (q i) c : Int) by
    have := u64_and_nat (q i / 2 ^ c) 1 (Nat.lt_of_le_of_lt (Nat.div_le_self _ _) (h64 i hi)) (by decide)
    rw [Nat.and_one_is_mod] at this
    exact this)
  have HN := Lib.hid hn
  clear h64 hn
  go_enter Try.func19, Try.ntmps19
  go_upto_region 4 with (go_at_call 42; refine (R.out _).mono ?_; rintro e w9 ⟨rfl, rfl⟩)
  generalize hV : World.alloc w _ = V
  have bb : Below w.heap.size w V := by rw [← hV]; repeat (first | (with_reducible exact Below.refl _ _) | ((with_reducible refine below_grow ?_ ?_); rotate_left; focus (first | omega | (simp [go_sem]; done) | (simp [go_sem]; omega))) | ((with_reducible refine Below.alloc ?_ ?_ _); rotate_left; focus (first | omega | (simp [go_sem]; done) | (simp [go_sem]; omega))) | ((with_reducible refine Below.setCell ?_ ?_ _); rotate_left; focus (first | omega | (simp [go_sem]; done) | (simp [go_sem]; omega))) | (with_reducible refine Below.drew ?_) | (with_reducible refine below_drewN _ ?_))
  clear hV
  go_loopw [6, 7, 12] (fun s6 s7 s12 wr => ∃ i : Nat, i ≤ s ∧ s12 = .int .i64 i ∧ wr = V) (fun _ _ s12 _ => 4 - (intOf s12).toNat)
  case atStart => exact ⟨0, Nat.zero_le _, rfl, rfl⟩
  case round =>
    obtain ⟨i, hi, rfl, rfl⟩ := hrel
    have hi4 : i < 4 := by omega
    have ix := IX.out i hi4 wr
    have hlt2 : (i : Int) < 4 := by omega
    have e1 : IntKind.i64.wrap ((i : Int) + 1) = (i : Int) + 1 := IntWalk.i64_in _ (by omega)
    have e2 : IntKind.u8.wrap (i : Int) = (i : Int) := u8_wrap (by omega) (by omega)
    have a := A.out i hi4
    have e0 : ((q i : Nat) : Int) / (2 : Int) ^ c = ((q i / 2 ^ c : Nat) : Int) := by simp
    by_cases hlt : i < s
    · rw [HN.out i hlt] at a
      obtain ⟨z, hz⟩ : ∃ z, q i / 2 ^ c = z := ⟨_, rfl⟩
      obtain ⟨y, hy⟩ : ∃ z, q i = z := ⟨_, rfl⟩
      rw [hz] at a e0
      rw [hy] at e0 ix
      have HL := Lib.hid hlt
      clear hz hy hlt hi hi4 hb hs
      go_wp2
      go_roundw
      case rel => exact ⟨i + 1, HL.out, by go_num, trivial⟩
      case measure => simp [intOf]; omega
    · obtain rfl : i = s := by omega
      rw [hb] at a
      obtain ⟨z, hz⟩ : ∃ z, q i / 2 ^ c = z := ⟨_, rfl⟩
      obtain ⟨y, hy⟩ : ∃ z, q i = z := ⟨_, rfl⟩
      rw [hz] at a e0
      rw [hy] at e0 ix
      clear hz hy hlt hi hi4 hb hs
      go_wp2
      refine bodyPost_ret (by simp [results, Try.results19, go_sem]) rfl ⟨rfl, bb⟩
/-- What is left of a right deal without some cards. -/
theorem left_torn (xs : List Nat) (out : Nat) : left (tD xs out) = out % 2 ^ 52 := DB.bt_ext_lt (DB.left_lt _) (Nat.mod_lt _ (by decide)) fun j hj => by
  have hd := mD_rd xs
  have lt := fun i hi => Nat.lt_of_lt_of_le (hd.lt i hi) (show 2 ^ 52 ≤ 2 ^ 64 by decide)
  rw [DB.left_bit (tD_pd xs out) j hj, (tD_pd xs out).bit, DB.bt_mod out j hj]
  have b := fun i hi => DB.bt_wo (a := mD xs i) out (lt i hi) j
  have b0 := b 0 (by decide); have b1 := b 1 (by decide); have b2 := b 2 (by decide); have b3 := b 3 (by decide)
  have o := hd.one j hj
  have l := DB.bt_lt2 out j
  show 1 - (bt (wo (mD xs 0) out) j + (bt (wo (mD xs 1) out) j + (bt (wo (mD xs 2) out) j + bt (wo (mD xs 3) out) j))) = _
  rw [b0, b1, b2, b3]
  have := DB.bt_lt2 (mD xs 0) j; have := DB.bt_lt2 (mD xs 1) j; have := DB.bt_lt2 (mD xs 2) j; have := DB.bt_lt2 (mD xs 3) j
  omega
/-- The completions with the card in the hands of the first s seats. -/
def sW (p : Nat → Nat) (z s : Nat) : Nat := if lack p s = 0 then 0 else DB.ways bin (put p s z)
def sS (p : Nat → Nat) (z : Nat) : Nat → Nat
  | 0 => 0
  | s + 1 => sS p z s + sW p z s
theorem sS_le (p : Nat → Nat) (z s : Nat) : sS p z s ≤ sS p z (s + 1) := Nat.le_add_right _ _
theorem sS_le4 (p : Nat → Nat) (z : Nat) : ∀ s, s ≤ 4 → sS p z s ≤ sS p z 4
  | 4, _ => Nat.le_refl _
  | 3, _ => sS_le p z 3
  | 2, _ => Nat.le_trans (sS_le p z 2) (sS_le p z 3)
  | 1, _ => Nat.le_trans (sS_le p z 1) (Nat.le_trans (sS_le p z 2) (sS_le p z 3))
  | 0, _ => Nat.zero_le _
theorem sS_all {p : Nat → Nat} (hp : Pd p) {c : Nat} (hc : c < 52) (hl : bt (left p) c = 1) : sS p (2 ^ c) 4 = DB.ways bin p := by
  rw [← DB.ways_sum pas_bin hp hc hl]
  show 0 + sW p (2 ^ c) 0 + sW p (2 ^ c) 1 + sW p (2 ^ c) 2 + sW p (2 ^ c) 3 = _
  unfold sW
  omega
end Go.Proofs.Ytgcfkhpondemlaa.Ca
