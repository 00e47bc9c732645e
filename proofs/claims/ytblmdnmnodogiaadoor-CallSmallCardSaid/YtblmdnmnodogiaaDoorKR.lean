/- The reference: Names, Right, Parts. -/
import Derived.Test.YtblmdnmnodogiaaDoorKG
import Derived.BigQuiet
namespace Go.Proofs.YtblmdnmnodogiaaDoor
open Go.RowKit

set_option maxRecDepth 100000 in
set_option maxHeartbeats 8000000 in
theorem names_calls (w : World) : Calls Tryd.prog 52 #[] w fun e w' => e = .returned (.slice (some ⟨w.heap.size, 0, none⟩) 38 38) ∧ w' = w.alloc (.cells txA 9) := by
  go_enter Tryd.func52, Tryd.ntmps52
  go_wp2
  go_ret
  exact ⟨rfl, rfl⟩
theorem ref_right (c : Nat) (hc : c < 256) (w : World) : Calls Tryd.prog 31 #[.int .u8 c] w fun e w' => e = .returned (.bool (decide (c < 38))) ∧ Below w.heap.size w w' := by
  have e1 : IntKind.i64.wrap (c : Int) = c := IntWalk.i64_in _ (by omega)
  have N := Lib.hid names_calls
  have hd : decide ((c : Int) < 38) = decide (c < 38) := by by_cases h : c < 38 <;> simp [h] <;> omega
  obtain ⟨b, hb⟩ : ∃ b, decide ((c : Int) < 38) = b := ⟨_, rfl⟩
  rw [← hd, hb]
  clear hd
  go_enter Tryd.func31, Tryd.ntmps31
  go_wp2_with (go_at_call 52; refine (N.out _).mono ?_; rintro e w9 ⟨rfl, rfl⟩)
  refine bodyPost_ret (by simp [results, Tryd.results31, go_sem]) rfl ⟨rfl, ?_⟩
  repeat (first | (with_reducible exact Below.refl _ _) | ((with_reducible refine below_grow ?_ ?_); rotate_left; focus (first | omega | (simp [go_sem]; done) | (simp [go_sem]; omega))) | ((with_reducible refine Below.alloc ?_ ?_ _); rotate_left; focus (first | omega | (simp [go_sem]; done) | (simp [go_sem]; omega))) | ((with_reducible refine Below.setCell ?_ ?_ _); rotate_left; focus (first | omega | (simp [go_sem]; done) | (simp [go_sem]; omega))) | (with_reducible refine Below.drew ?_) | (with_reducible refine below_drewN _ ?_))
theorem index_str (l : List UInt8) (k : IntKind) (i : Nat) (x : UInt8) (h : l[i]? = some x) (W : World) : (Instr.index 9 (strv l) (.int k i)).run Tryd.prog W = .ok (.int .u8 x.toNat) W := by
  have u := run_underlying Tryd.underlying9 W
  obtain ⟨hi, hx⟩ := List.getElem?_eq_some_iff.1 h
  have hi2 : (i : Int) < l.length := by omega
  have hg : (ByteArray.mk l.toArray)[i]? = some x := by
    have hs : i < (ByteArray.mk l.toArray).size := hi
    rw [getElem?_pos _ i hs, ← hx]
    rfl
  simp [Instr.index, Sem.run_bind, u, hg, go_sem]
def sgs : List UInt8 := [67, 68, 72, 83, 78]
theorem nm_bid : ∀ c, c < 38 → 3 ≤ c → (nm c)[0]? = some (UInt8.ofNat (48 + prL c)) ∧ (nm c)[1]? = sgs[prD c]? := by decide +kernel
theorem sgs_at : ∀ i, i < 5 → ∀ j, j < 5 → (sgs[i]? = sgs[j]? ↔ i = j) ∧ (sgs[i]?).isSome = true := by decide
set_option maxRecDepth 100000 in
set_option maxHeartbeats 8000000 in
theorem ref_parts (c : Nat) (hc : c < 256) (w : World) : Calls Tryd.prog 27 #[.int .u8 c] w fun e w' => e = .returned (.tuple #[.int .u8 (prL c : Nat), .int .u8 (prD c : Nat), .bool (isb c)]) ∧ Below w.heap.size w w' := by
  by_cases h3 : c < 3
  · have h' : (c : Int) < 3 := by omega
    have hb : isb c = false := by unfold isb; exact decide_eq_false (by omega)
    unfold prL prD
    rw [hb, if_neg (by decide), if_neg (by decide)]
    go_enter Tryd.func27, Tryd.ntmps27
    go_wp2
    refine bodyPost_ret (by simp [results, Tryd.results27, go_sem]) rfl ⟨rfl, ?_⟩
    repeat (first | (with_reducible exact Below.refl _ _) | ((with_reducible refine below_grow ?_ ?_); rotate_left; focus (first | omega | (simp [go_sem]; done) | (simp [go_sem]; omega))) | ((with_reducible refine Below.alloc ?_ ?_ _); rotate_left; focus (first | omega | (simp [go_sem]; done) | (simp [go_sem]; omega))) | ((with_reducible refine Below.setCell ?_ ?_ _); rotate_left; focus (first | omega | (simp [go_sem]; done) | (simp [go_sem]; omega))) | (with_reducible refine Below.drew ?_) | (with_reducible refine below_drewN _ ?_))
  · have h' : ¬ (c : Int) < 3 := by omega
    by_cases h37 : 37 < c
    · have h2' : (37 : Int) < c := by omega
      have hb : isb c = false := by unfold isb; exact decide_eq_false (by omega)
      unfold prL prD
      rw [hb, if_neg (by decide), if_neg (by decide)]
      go_enter Tryd.func27, Tryd.ntmps27
      go_wp2
      refine bodyPost_ret (by simp [results, Tryd.results27, go_sem]) rfl ⟨rfl, ?_⟩
      repeat (first | (with_reducible exact Below.refl _ _) | ((with_reducible refine below_grow ?_ ?_); rotate_left; focus (first | omega | (simp [go_sem]; done) | (simp [go_sem]; omega))) | ((with_reducible refine Below.alloc ?_ ?_ _); rotate_left; focus (first | omega | (simp [go_sem]; done) | (simp [go_sem]; omega))) | ((with_reducible refine Below.setCell ?_ ?_ _); rotate_left; focus (first | omega | (simp [go_sem]; done) | (simp [go_sem]; omega))) | (with_reducible refine Below.drew ?_) | (with_reducible refine below_drewN _ ?_))
    · have h2' : ¬ (37 : Int) < c := by omega
      have hb : isb c = true := isb_iff.2 ⟨by omega, by omega⟩
      have N := Lib.hid names_calls
      obtain ⟨n0, n1⟩ := nm_bid c (by omega) (by omega)
      have hL := prL_le c
      have hD := prD_lt c
      have hsg := (sgs_at (prD c) hD (prD c) hD).2
      obtain ⟨y, hy⟩ := Option.isSome_iff_exists.1 hsg
      rw [hy] at n1
      have SA := Lib.hid (fun i (hi : i < 5) => (sgs_at (prD c) hD i hi).1)
      rw [hy] at SA
      have k0 : txA[c]? = some (strv (nm c)) := txA_get c (by omega)
      obtain ⟨s, hs⟩ : ∃ s, nm c = s := ⟨_, rfl⟩
      rw [hs] at n0 n1 k0
      have hle : c < 38 := by omega
      have hle2 : (c : Int) < 38 := by omega
      rw [hb]
      obtain ⟨D, hD'⟩ : ∃ D, prD c = D := ⟨_, rfl⟩
      obtain ⟨L, hL'⟩ : ∃ D, prL c = D := ⟨_, rfl⟩
      rw [hL'] at n0 hL ⊢
      rw [hD'] at SA hD ⊢
      have e0 : ((UInt8.ofNat (48 + L)).toNat : Int) = 48 + L := by
        rw [UInt8.toNat_ofNat', Nat.mod_eq_of_lt (by omega)]; omega
      have e1 : IntKind.u8.wrap (48 + (L : Int) - 48) = L := by rw [u8_wrap (by omega) (by omega)]; omega
      have x0 : ∀ W, (Instr.index 9 (strv s) (.int .i64 0)).run Tryd.prog W = .ok (.int .u8 (48 + (L : Int))) W := by rw [← e0]; exact index_str s .i64 0 _ n0
      have x1 : ∀ W, (Instr.index 9 (strv s) (.int .i64 1)).run Tryd.prog W = .ok (.int .u8 y.toNat) W := index_str s .i64 1 _ n1
      have XS := Lib.hid (fun i x h W => index_str sgs .u8 i x h W)
      clear hs hD' hL' hb hsg hy n0 n1 hL
      go_enter Tryd.func27, Tryd.ntmps27
      go_upto_region 4 with (go_at_call 52; refine (N.out _).mono ?_; rintro e w9 ⟨rfl, rfl⟩)
      have zb : Below w.heap.size w (w.alloc (.cells txA 9)) := by repeat (first | (with_reducible exact Below.refl _ _) | ((with_reducible refine below_grow ?_ ?_); rotate_left; focus (first | omega | (simp [go_sem]; done) | (simp [go_sem]; omega))) | ((with_reducible refine Below.alloc ?_ ?_ _); rotate_left; focus (first | omega | (simp [go_sem]; done) | (simp [go_sem]; omega))) | ((with_reducible refine Below.setCell ?_ ?_ _); rotate_left; focus (first | omega | (simp [go_sem]; done) | (simp [go_sem]; omega))) | (with_reducible refine Below.drew ?_) | (with_reducible refine below_drewN _ ?_))
      generalize (w.alloc (.cells txA 9)) = W at *
      clear k0 hle hle2 N
      go_wp2
      go_loopw [6] (fun s6 wr => ∃ i : Nat, s6 = .int .u8 i ∧ i ≤ D ∧ Below w.heap.size w wr) (fun s6 _ => D - (intOf s6).toNat)
      case atStart => exact ⟨0, rfl, Nat.zero_le _, zb⟩
      case round =>
        obtain ⟨i, rfl, hi, cb⟩ := hrel
        clear zb
        have hsi := SA.out i (by omega)
        by_cases hiD : i = D
        · have hyi := XS.out i y (hsi.2 hiD.symm).symm
          simp only [sgs] at hyi
          subst hiD
          clear hsi
          go_upto_region 6 with fail
          go_quiet (fail)
          go_wp2
          refine bodyPost_ret (by simp [results, Tryd.results27, go_sem]) rfl ⟨rfl, ?_⟩
          repeat (first | (with_reducible exact cb) | ((with_reducible refine below_grow ?_ ?_); rotate_left; focus (first | omega | (simp [go_sem]; done) | (simp [go_sem]; omega))) | ((with_reducible refine Below.alloc ?_ ?_ _); rotate_left; focus (first | omega | (simp [go_sem]; done) | (simp [go_sem]; omega))) | ((with_reducible refine Below.setCell ?_ ?_ _); rotate_left; focus (first | omega | (simp [go_sem]; done) | (simp [go_sem]; omega))) | (with_reducible refine Below.drew ?_) | (with_reducible refine below_drewN _ ?_))
        · obtain ⟨z, hz⟩ : ∃ z, sgs[i]? = some z := Option.isSome_iff_exists.1 (sgs_at i (by omega) i (by omega)).2
          have hyi := XS.out i z hz
          simp only [sgs] at hyi
          have hne : y ≠ z := fun e => hiD (hsi.1 (by rw [hz, e])).symm
          have hne2 : ¬ (y.toNat : Int) = z.toNat := fun e => hne (UInt8.toNat_inj.1 (by omega))
          have u1 : IntKind.u8.wrap ((i : Int) + 1) = (i : Int) + 1 := u8_wrap (by omega) (by omega)
          clear hsi hz hne
          go_upto_region 6 with fail
          go_quiet (fail)
          go_wp2
          go_roundw
          case rel => exact ⟨i + 1, by go_num, by omega, by repeat (first | (with_reducible exact cb) | ((with_reducible refine below_grow ?_ ?_); rotate_left; focus (first | omega | (simp [go_sem]; done) | (simp [go_sem]; omega))) | ((with_reducible refine Below.alloc ?_ ?_ _); rotate_left; focus (first | omega | (simp [go_sem]; done) | (simp [go_sem]; omega))) | ((with_reducible refine Below.setCell ?_ ?_ _); rotate_left; focus (first | omega | (simp [go_sem]; done) | (simp [go_sem]; omega))) | (with_reducible refine Below.drew ?_) | (with_reducible refine below_drewN _ ?_))⟩
          case measure => simp [intOf]; omega
end Go.Proofs.YtblmdnmnodogiaaDoor
