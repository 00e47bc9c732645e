/- The reference's Mask. -/
import Derived.Test.YtcfkcfbgnciccaaDoorCZd
namespace Go.Proofs.YtcfkcfbgnciccaaDoor
open Go.RowKit

theorem add_bit : ∀ (c m : Nat), m.testBit c = false → m + 2 ^ c = m ||| 2 ^ c
  | 0, m, h => by
    have h1 : (m ||| 2 ^ 0) / 2 = m / 2 ||| (2 ^ 0) / 2 := Nat.or_div_two
    have h2 := @Nat.or_mod_two_eq_one m (2 ^ 0)
    rw [Nat.testBit_zero] at h
    simp only [Nat.pow_zero, show 1 / 2 = 0 from rfl, Nat.or_zero] at h1 h2 ⊢
    have h3 : (m ||| 1) % 2 = 1 := h2.2 (by simp)
    have h4 : ¬ m % 2 = 1 := by simpa using h
    omega
  | c + 1, m, h => by
    have h0 := add_bit c (m / 2) (by rw [← Nat.testBit_succ]; exact h)
    have hp : 2 ^ (c + 1) = 2 * 2 ^ c := by rw [Nat.pow_succ]; omega
    have h1 : (m ||| 2 ^ (c + 1)) / 2 = m / 2 ||| 2 ^ (c + 1) / 2 := Nat.or_div_two
    have h2 := @Nat.or_mod_two_eq_one m (2 ^ (c + 1))
    rw [show 2 ^ (c + 1) / 2 = 2 ^ c by omega] at h1
    rw [← h0] at h1
    have h3 : (m ||| 2 ^ (c + 1)) % 2 = m % 2 := by
      have h4 : ¬ 2 ^ (c + 1) % 2 = 1 := by omega
      by_cases h5 : m % 2 = 1
      · rw [h5]; exact h2.2 (Or.inl h5)
      · have h6 : ¬ (m ||| 2 ^ (c + 1)) % 2 = 1 := fun h => by rcases h2.1 h with h | h <;> contradiction
        omega
    omega
theorem ne_step {xs : List Nat} {k d c : Nat} (h : ∀ j : Nat, j < k → xs[j]? ≠ some c) (hd : xs[k]? = some d) (hne : ¬ d = c) : ∀ j : Nat, j < k + 1 → xs[j]? ≠ some c := fun j hj => by
  by_cases e : j = k
  · subst e; rw [hd]; exact fun h => hne (Option.some.inj h)
  · exact h j (by omega)
theorem bit_step {xs : List Nat} {i c m : Nat} (hm : ∀ x, m.testBit x = decide (x ∈ xs.take i)) (hc : xs[i]? = some c) (y : Nat) : (m ||| 2 ^ c).testBit y = decide (y ∈ xs.take (i + 1)) := by
  rw [List.take_add_one, hc, Nat.testBit_or, hm, Nat.testBit_two_pow]
  rw [Bool.eq_iff_iff, Bool.or_eq_true, decide_eq_true_iff, decide_eq_true_iff, decide_eq_true_iff, List.mem_append]
  simp only [Option.toList, List.mem_singleton]
  exact ⟨fun h => h.imp id Eq.symm, fun h => h.imp id Eq.symm⟩
theorem bit_lt (m c : Nat) (hm : m < 4503599627370496) (hc : c < 52) : m ||| 2 ^ c < 4503599627370496 :=
  Nat.or_lt_two_pow (n := 52) hm (Nat.pow_lt_pow_right (by decide) hc)
set_option maxRecDepth 100000 in
set_option maxHeartbeats 8000000 in
theorem ref_mask (b off cap : Nat) (xs : List Nat) (hx8 : ∀ x ∈ xs, x < 256) (hn : xs.length ≤ 1000000) (w : World) (hb0 : b < w.heap.size) (hr : Rd8 w b off xs) :
    Calls Tryd.prog 34 #[.slice (some ⟨b, off, none⟩) xs.length cap] w fun e w' => e = .returned (.tuple #[.int .u64 (mskR 0 xs).1, .int .i64 (mskR 0 xs).2]) ∧ Below w.heap.size w w' := by
  obtain ⟨T, hT⟩ : ∃ T, mskR 0 xs = T := ⟨_, rfl⟩
  rw [hT]
  have HR := Lib.hid hr
  have H8 := Lib.hid hx8
  clear hr hx8
  go_enter Tryd.func34, Tryd.ntmps34
  go_wp2
  go_loopw [5, 4] (fun s5 s4 wr => ∃ i m : Nat, s5 = .int .i64 i ∧ s4 = .int .u64 m ∧ i ≤ xs.length ∧ m < 4503599627370496 ∧ (∀ x, m.testBit x = decide (x ∈ xs.take i)) ∧ mskR m (xs.drop i) = T ∧ Below w.heap.size w wr) (fun s5 _ _ => xs.length - (intOf s5).toNat)
  case atStart => exact ⟨0, 0, rfl, rfl, Nat.zero_le _, by decide, by simp, hT, by repeat (first | (with_reducible exact Below.refl _ _) | ((with_reducible refine below_grow ?_ ?_); rotate_left; focus (first | omega | (simp [go_sem]; done) | (simp [go_sem]; omega))) | ((with_reducible refine Below.alloc ?_ ?_ _); rotate_left; focus (first | omega | (simp [go_sem]; done) | (simp [go_sem]; omega))) | ((with_reducible refine Below.setCell ?_ ?_ _); rotate_left; focus (first | omega | (simp [go_sem]; done) | (simp [go_sem]; omega))) | (with_reducible refine Below.drew ?_) | (with_reducible refine below_drewN _ ?_))⟩
  case round =>
    obtain ⟨i, m, rfl, rfl, hi, hm, hmx, hTr, hb⟩ := hrel
    by_cases hlt : i < xs.length
    · have hlt2 : (i : Int) < xs.length := by omega
      obtain ⟨c, hc⟩ : ∃ c, xs[i]? = some c := ⟨_, List.getElem?_eq_getElem hlt⟩
      have hc256 := H8.out c (List.mem_of_getElem? hc)
      have hdr : xs.drop i = c :: xs.drop (i + 1) := by
        rw [List.drop_eq_getElem_cons hlt]
        rw [List.getElem?_eq_getElem hlt] at hc
        cases hc
        rfl
      rw [hdr] at hTr
      have k0 := (HR.out.below hb hb0) i c hc
      have e1 : IntKind.i64.wrap ((i : Int) + 1) = (i : Int) + 1 := IntWalk.i64_in _ (by omega)
      unfold mskR at hTr
      have HN := Lib.hid hn
      by_cases h52 : 52 ≤ c
      · rw [if_pos h52] at hTr
        subst hTr
        have b1 : (51 : Int) < c := by omega
        clear hc256 hc hdr hm hn h52 hmx
        go_wp2
        refine bodyPost_ret (by simp [results, Tryd.results34, go_sem]) rfl ⟨rfl, ?_⟩
        repeat (first | (with_reducible exact hb) | ((with_reducible refine below_grow ?_ ?_); rotate_left; focus (first | omega | (simp [go_sem]; done) | (simp [go_sem]; omega))) | ((with_reducible refine Below.alloc ?_ ?_ _); rotate_left; focus (first | omega | (simp [go_sem]; done) | (simp [go_sem]; omega))) | ((with_reducible refine Below.setCell ?_ ?_ _); rotate_left; focus (first | omega | (simp [go_sem]; done) | (simp [go_sem]; omega))) | (with_reducible refine Below.drew ?_) | (with_reducible refine below_drewN _ ?_))
      · rw [if_neg h52] at hTr
        have b1 : ¬ (51 : Int) < c := by omega
        have HC := Lib.hid hc
        have HI := Lib.hid (And.intro hi hlt)
        have h52' : c < 52 := by omega
        have HM := Lib.hid (And.intro hm (And.intro h52' hmx))
        have HT := Lib.hid hTr
        clear hc256 hc hdr hm hn h52 h52' hmx hTr
        go_wp2
        go_loopw [6] (fun s6 wi => ∃ k : Nat, s6 = .int .i64 k ∧ k ≤ i ∧ (∀ j : Nat, j < k → xs[j]? ≠ some c) ∧ Below w.heap.size w wi) (fun s6 _ => i - (intOf s6).toNat)
        case atStart => exact ⟨0, rfl, Nat.zero_le _, fun j hj => by omega, hb⟩
        case round =>
          obtain ⟨k, rfl, hk, hne, hb⟩ := hrel
          have k0 := (HR.out.below hb hb0) i c HC.out
          have hIL := HI.out
          by_cases hki : k < i
          · have hki2 : (k : Int) < i := by omega
            have hkl2 : (k : Int) < xs.length := by omega
            obtain ⟨d, hd⟩ : ∃ d, xs[k]? = some d := ⟨_, List.getElem?_eq_getElem (by omega)⟩
            have k1 := (HR.out.below hb hb0) k d hd
            have e2 : IntKind.i64.wrap ((k : Int) + 1) = (k : Int) + 1 := IntWalk.i64_in _ (by have := HN.out; omega)
            by_cases hdc : d = c
            · subst hdc
              have hbit : m.testBit d = true := by
                rw [HM.out.2.2]
                exact decide_eq_true (List.mem_take_iff_getElem.2 (by
                  rw [List.getElem?_eq_some_iff] at hd
                  obtain ⟨h1, h2⟩ := hd
                  exact ⟨k, by omega, h2⟩))
              have hTr := HT.out
              rw [hbit, if_pos rfl] at hTr
              subst hTr
              clear hbit hd hne
              go_wp2
              refine wp_region_any (by kernel_rfl) ?_
              change wpAny _ _ _ _ _ _ _ (World.drew _)
              refine wpAny_take (i := 0) (v := ?v0a) rfl (by kernel_rfl) (by kernel_rfl) (by kernel_rfl) (fun _ _ _ h => h) (Or.inl ⟨by rfl, ?y0a⟩) ?r0a
              case y0a => intro W; go_simp; try with_reducible rfl
              go_simp
              refine wpAny_take (i := 1) (v := ?v1a) rfl (by kernel_rfl) (by kernel_rfl) (by kernel_rfl) (fun _ _ _ h => h) (Or.inl ⟨by rfl, ?y1a⟩) ?r1a
              case y1a => intro W; go_simp; try with_reducible rfl
              go_simp
              refine wpAny_take (i := 2) (v := ?v2a) rfl (by kernel_rfl) (by kernel_rfl) (by kernel_rfl) (fun _ _ _ h => h) (Or.inl ⟨by rfl, ?y2a⟩) ?r2a
              case y2a => intro W; go_simp; try with_reducible rfl
              go_simp
              refine wpAny_take (i := 4) (v := ?v4a) rfl (by kernel_rfl) (by kernel_rfl) (by kernel_rfl) (fun _ _ _ h => h) (Or.inl ⟨by rfl, ?y4a⟩) ?r4a
              case y4a => intro W; go_simp; try with_reducible rfl
              go_simp
              refine wpAny_take (i := 5) (v := ?v5a) rfl (by kernel_rfl) (by kernel_rfl) (by kernel_rfl) (fun _ _ _ h => h) (Or.inl ⟨by rfl, ?y5a⟩) ?r5a
              case y5a => intro W; go_simp; try with_reducible rfl
              go_simp
              refine wpAny_take (i := 6) (v := ?v6a) rfl (by kernel_rfl) (by kernel_rfl) (by kernel_rfl) (fun _ _ _ h => h) (Or.inl ⟨by rfl, ?y6a⟩) ?r6a
              case y6a => intro W; go_simp; try with_reducible rfl
              go_simp
              refine wpAny_ready (rs := [3, 7]) (by kernel_rfl) (by simp) ?_
              refine AllReady.cons rfl (fun K hK => ?_) (AllReady.cons rfl (fun K hK => ?_) AllReady.nil)
              · go_simp
                refine hK _ _ ?_; clear hK K
                refine wpAny_ready (rs := [7]) (by kernel_rfl) (by simp) ?_
                refine AllReady.cons rfl (fun K hK => ?_) AllReady.nil
                go_simp
                refine hK _ _ ?_; clear hK K
                refine wpAny_ready (rs := [8]) (by kernel_rfl) (by simp) ?_
                refine AllReady.cons rfl (fun K hK => ?_) AllReady.nil
                go_simp
                refine hK _ _ ?_; clear hK K
                refine wpAny_done (by kernel_rfl) ?_ _
                go_wp2
                refine bodyPost_ret (by simp [results, Tryd.results34, go_sem]) rfl ⟨rfl, ?_⟩
                repeat (first | (with_reducible exact hb) | ((with_reducible refine below_grow ?_ ?_); rotate_left; focus (first | omega | (simp [go_sem]; done) | (simp [go_sem]; omega))) | ((with_reducible refine Below.alloc ?_ ?_ _); rotate_left; focus (first | omega | (simp [go_sem]; done) | (simp [go_sem]; omega))) | ((with_reducible refine Below.setCell ?_ ?_ _); rotate_left; focus (first | omega | (simp [go_sem]; done) | (simp [go_sem]; omega))) | (with_reducible refine Below.drew ?_) | (with_reducible refine below_drewN _ ?_))
              · go_simp
                refine hK _ _ ?_; clear hK K
                refine wpAny_ready (rs := [3]) (by kernel_rfl) (by simp) ?_
                refine AllReady.cons rfl (fun K hK => ?_) AllReady.nil
                go_simp
                refine hK _ _ ?_; clear hK K
                refine wpAny_ready (rs := [8]) (by kernel_rfl) (by simp) ?_
                refine AllReady.cons rfl (fun K hK => ?_) AllReady.nil
                go_simp
                refine hK _ _ ?_; clear hK K
                refine wpAny_done (by kernel_rfl) ?_ _
                go_wp2
                refine bodyPost_ret (by simp [results, Tryd.results34, go_sem]) rfl ⟨rfl, ?_⟩
                repeat (first | (with_reducible exact hb) | ((with_reducible refine below_grow ?_ ?_); rotate_left; focus (first | omega | (simp [go_sem]; done) | (simp [go_sem]; omega))) | ((with_reducible refine Below.alloc ?_ ?_ _); rotate_left; focus (first | omega | (simp [go_sem]; done) | (simp [go_sem]; omega))) | ((with_reducible refine Below.setCell ?_ ?_ _); rotate_left; focus (first | omega | (simp [go_sem]; done) | (simp [go_sem]; omega))) | (with_reducible refine Below.drew ?_) | (with_reducible refine below_drewN _ ?_))
            · have hdc2 : ¬ (d : Int) = c := by omega
              have HD := Lib.hid (And.intro hk (And.intro hki (And.intro hne (And.intro hd hdc))))
              clear hk hki hne hd hdc
              go_wp2
              refine wp_region_any (by kernel_rfl) ?_
              change wpAny _ _ _ _ _ _ _ (World.drew _)
              refine wpAny_take (i := 0) (v := ?v0b) rfl (by kernel_rfl) (by kernel_rfl) (by kernel_rfl) (fun _ _ _ h => h) (Or.inl ⟨by rfl, ?y0b⟩) ?r0b
              case y0b => intro W; go_simp; try with_reducible rfl
              go_simp
              refine wpAny_take (i := 1) (v := ?v1b) rfl (by kernel_rfl) (by kernel_rfl) (by kernel_rfl) (fun _ _ _ h => h) (Or.inl ⟨by rfl, ?y1b⟩) ?r1b
              case y1b => intro W; go_simp; try with_reducible rfl
              go_simp
              refine wpAny_take (i := 2) (v := ?v2b) rfl (by kernel_rfl) (by kernel_rfl) (by kernel_rfl) (fun _ _ _ h => h) (Or.inl ⟨by rfl, ?y2b⟩) ?r2b
              case y2b => intro W; go_simp; try with_reducible rfl
              go_simp
              refine wpAny_take (i := 4) (v := ?v4b) rfl (by kernel_rfl) (by kernel_rfl) (by kernel_rfl) (fun _ _ _ h => h) (Or.inl ⟨by rfl, ?y4b⟩) ?r4b
              case y4b => intro W; go_simp; try with_reducible rfl
              go_simp
              refine wpAny_take (i := 5) (v := ?v5b) rfl (by kernel_rfl) (by kernel_rfl) (by kernel_rfl) (fun _ _ _ h => h) (Or.inl ⟨by rfl, ?y5b⟩) ?r5b
              case y5b => intro W; go_simp; try with_reducible rfl
              go_simp
              refine wpAny_take (i := 6) (v := ?v6b) rfl (by kernel_rfl) (by kernel_rfl) (by kernel_rfl) (fun _ _ _ h => h) (Or.inl ⟨by rfl, ?y6b⟩) ?r6b
              case y6b => intro W; go_simp; try with_reducible rfl
              go_simp
              refine wpAny_ready (rs := [3, 7]) (by kernel_rfl) (by simp) ?_
              refine AllReady.cons rfl (fun K hK => ?_) (AllReady.cons rfl (fun K hK => ?_) AllReady.nil)
              · go_simp
                refine hK _ _ ?_; clear hK K
                refine wpAny_ready (rs := [7]) (by kernel_rfl) (by simp) ?_
                refine AllReady.cons rfl (fun K hK => ?_) AllReady.nil
                go_simp
                refine hK _ _ ?_; clear hK K
                refine wpAny_ready (rs := [8]) (by kernel_rfl) (by simp) ?_
                refine AllReady.cons rfl (fun K hK => ?_) AllReady.nil
                go_simp
                refine hK _ _ ?_; clear hK K
                refine wpAny_done (by kernel_rfl) ?_ _
                go_wp2
                go_roundw
                case rel => exact ⟨k + 1, by go_num, by have := HD.out; omega, ne_step HD.out.2.2.1 HD.out.2.2.2.1 HD.out.2.2.2.2, by repeat (first | (with_reducible exact hb) | ((with_reducible refine below_grow ?_ ?_); rotate_left; focus (first | omega | (simp [go_sem]; done) | (simp [go_sem]; omega))) | ((with_reducible refine Below.alloc ?_ ?_ _); rotate_left; focus (first | omega | (simp [go_sem]; done) | (simp [go_sem]; omega))) | ((with_reducible refine Below.setCell ?_ ?_ _); rotate_left; focus (first | omega | (simp [go_sem]; done) | (simp [go_sem]; omega))) | (with_reducible refine Below.drew ?_) | (with_reducible refine below_drewN _ ?_))⟩
                case measure => simp [intOf]; have := HD.out; omega
              · go_simp
                refine hK _ _ ?_; clear hK K
                refine wpAny_ready (rs := [3]) (by kernel_rfl) (by simp) ?_
                refine AllReady.cons rfl (fun K hK => ?_) AllReady.nil
                go_simp
                refine hK _ _ ?_; clear hK K
                refine wpAny_ready (rs := [8]) (by kernel_rfl) (by simp) ?_
                refine AllReady.cons rfl (fun K hK => ?_) AllReady.nil
                go_simp
                refine hK _ _ ?_; clear hK K
                refine wpAny_done (by kernel_rfl) ?_ _
                go_wp2
                go_roundw
                case rel => exact ⟨k + 1, by go_num, by have := HD.out; omega, ne_step HD.out.2.2.1 HD.out.2.2.2.1 HD.out.2.2.2.2, by repeat (first | (with_reducible exact hb) | ((with_reducible refine below_grow ?_ ?_); rotate_left; focus (first | omega | (simp [go_sem]; done) | (simp [go_sem]; omega))) | ((with_reducible refine Below.alloc ?_ ?_ _); rotate_left; focus (first | omega | (simp [go_sem]; done) | (simp [go_sem]; omega))) | ((with_reducible refine Below.setCell ?_ ?_ _); rotate_left; focus (first | omega | (simp [go_sem]; done) | (simp [go_sem]; omega))) | (with_reducible refine Below.drew ?_) | (with_reducible refine below_drewN _ ?_))⟩
                case measure => simp [intOf]; have := HD.out; omega
          · obtain rfl : k = i := by omega
            have hbit : m.testBit c = false := by
              rw [HM.out.2.2]
              refine decide_eq_false fun h => ?_
              obtain ⟨j, hj, h2⟩ := List.mem_take_iff_getElem.1 h
              exact hne j (by omega) (by rw [List.getElem?_eq_getElem (by omega), h2])
            have B := Lib.hid (bit_calls c HM.out.2.1)
            have hTr := HT.out
            rw [hbit] at hTr
            simp only [Bool.false_eq_true, if_false] at hTr
            have ab := add_bit c m hbit
            have lt := bit_lt m c HM.out.1 HM.out.2.1
            obtain ⟨x, hx⟩ : ∃ x, 2 ^ c = x := ⟨_, rfl⟩
            rw [hx] at B
            rw [← ab, hx] at hTr lt
            have e4 : IntKind.u64.wrap ((m : Int) + (x : Int)) = (m : Int) + (x : Int) := IntWalk.u64_in _ (by omega)
            have HZ := Lib.hid (And.intro hTr (And.intro ab (And.intro lt hx)))
            clear hk hki hne hbit hTr ab lt hx
            go_wp2_with (first | (go_at_call 54; refine (B.out _).mono ?_; rintro e w1 ⟨rfl, rfl⟩))
            go_roundw
            case rel => exact ⟨k + 1, m + x, by go_num, by go_num, by have := HI.out; omega, HZ.out.2.2.1, fun y => by rw [← HZ.out.2.2.2, HZ.out.2.1]; exact bit_step HM.out.2.2 HC.out y, HZ.out.1, hb⟩
            case measure => simp [intOf]; have := HI.out; omega
    · obtain rfl : i = xs.length := by omega
      rw [List.drop_length] at hTr
      have hTr2 : (m, (0 : Int)) = T := hTr
      subst hTr2
      clear hm hTr
      go_wp2
      refine bodyPost_ret (by simp [results, Tryd.results34, go_sem]) rfl ⟨rfl, ?_⟩
      exact hb
end Go.Proofs.YtcfkcfbgnciccaaDoor
