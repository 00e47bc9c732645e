/- The reference's Parse. -/
import Derived.Test.YtcfkcfbgnciccaaDoorCZi
namespace Go.Proofs.YtcfkcfbgnciccaaDoor
open Go.RowKit

theorem chr_ne {k : Nat} {b : UInt8} (hk : k < 13) : chr k = b ↔ idx b = (k : Int) := by
  constructor
  · intro h; subst h; exact idx_chr ⟨k, hk⟩
  · intro h
    have := (idx_lt b (by omega)).2
    rw [h, Int.toNat_natCast] at this
    exact this
theorem bit_room {m s la q : Nat} (h : m + 2 ^ (13 * s + la) ≤ 4503599627370496) (hq : q < la) : m + 2 ^ (13 * s + q) + 2 ^ (13 * s + q) ≤ 4503599627370496 := by
  have h1 : 2 ^ (13 * s + q + 1) ≤ 2 ^ (13 * s + la) := Nat.pow_le_pow_right (by decide) (by omega)
  rw [Nat.pow_succ] at h1
  omega
theorem dot_room {m s la : Nat} (h : m + 2 ^ (13 * (s + 1) + la) ≤ 4503599627370496) : m + 2 ^ (13 * s + 13) ≤ 4503599627370496 := by
  have h1 : 2 ^ (13 * s + 13) ≤ 2 ^ (13 * (s + 1) + la) := Nat.pow_le_pow_right (by decide) (by omega)
  omega
theorem conv_at {W : World} {b : Nat} {B : UInt8} (h : blk W b #[.int .u8 (B.toNat : Int)] 5) : (convert 25 9 (.slice (some ⟨b, 0, none⟩) 1 1)).run Tryd.prog W = .ok (strv [B]) W := by
  refine run_convert_bytes_back _ 25 9 5 ⟨b, 0, none⟩ 1 [B] Tryd.underlying25 Tryd.underlying5 Tryd.underlying9 fun j hj => ?_
  have hp : (⟨b, 0, none⟩ : Addr).add j = ⟨b, 0 + j, none⟩ := by unfold Addr.add; split <;> simp_all
  rw [hp, Nat.zero_add, blk_cell h j]
  match j, hj with
  | 0, _ => rfl
/-- The rank found among the first k. -/
def fnd (r : Int) (k : Nat) : Int := if 0 ≤ r ∧ r < k then r else -1
set_option maxRecDepth 100000 in
set_option maxHeartbeats 8000000 in
theorem ref_parse (s : ByteArray) (hs : s.size < 4294967296) (w : World) :
    Calls Tryd.prog 36 #[.string s] w fun e w' => e = .returned (parV (prs s.data.toList)) ∧ Below w.heap.size w w' := by
  rw [← rp_prs]
  obtain ⟨T, hT⟩ : ∃ T, rp 3 13 0 s.data.toList = T := ⟨_, rfl⟩
  rw [hT]
  go_enter Tryd.func36, Tryd.ntmps36
  go_wp2
  go_loopw [4, 5, 6, 7] (fun s4 s5 s6 s7 wr => ∃ m u la i : Nat, s4 = .int .u64 m ∧ s5 = .int .i64 u ∧ s6 = .int .i64 la ∧ s7 = .int .i64 i ∧ i ≤ s.size ∧ u ≤ 3 ∧ la ≤ 13 ∧ m + 2 ^ (13 * u + la) ≤ 4503599627370496 ∧ rp u la m (s.data.toList.drop i) = T ∧ Below w.heap.size w wr) (fun _ _ _ s7 _ => s.size - (intOf s7).toNat)
  case atStart => exact ⟨0, 3, 13, 0, rfl, rfl, rfl, rfl, Nat.zero_le _, by decide, by decide, by decide, hT, by repeat (first | (with_reducible exact Below.refl _ _) | ((with_reducible refine below_grow ?_ ?_); rotate_left; focus (first | omega | (simp [go_sem]; done) | (simp [go_sem]; omega))) | ((with_reducible refine Below.alloc ?_ ?_ _); rotate_left; focus (first | omega | (simp [go_sem]; done) | (simp [go_sem]; omega))) | ((with_reducible refine Below.setCell ?_ ?_ _); rotate_left; focus (first | omega | (simp [go_sem]; done) | (simp [go_sem]; omega))) | (with_reducible refine Below.drew ?_) | (with_reducible refine below_drewN _ ?_))⟩
  case round =>
    obtain ⟨m, u, la, i, rfl, rfl, rfl, rfl, hi, hu, hla, hroom, hTr, hb⟩ := hrel
    have hsz := hb.size
    have HH := Lib.hid (And.intro hs (And.intro hu (And.intro hla hroom)))
    by_cases hlt : i < s.size
    · have hlt2 : (i : Int) < s.size := by omega
      rw [getElem_list s i hlt, rp_cons] at hTr
      have e1 : IntKind.i64.wrap ((i : Int) + 1) = (i : Int) + 1 := IntWalk.i64_in _ (by omega)
      by_cases h46 : s[i] = 46
      · rw [if_pos h46] at hTr
        have h46i : (s[i].toNat : Int) = 46 := by rw [h46]; rfl
        have e2 : IntKind.i64.wrap ((u : Int) - 1) = (u : Int) - 1 := IntWalk.i64_in _ (by omega)
        by_cases hu0 : u = 0
        · rw [if_pos hu0] at hTr
          subst hTr
          have b1 : (u : Int) - 1 < 0 := by omega
          clear hs hu hla hroom h46 hu0
          go_wp2
          refine bodyPost_ret (by simp [results, Tryd.results36, go_sem, parV]) rfl ⟨rfl, ?_⟩
          repeat (first | (with_reducible exact hb) | ((with_reducible refine below_grow ?_ ?_); rotate_left; focus (first | omega | (simp [go_sem]; done) | (simp [go_sem]; omega))) | ((with_reducible refine Below.alloc ?_ ?_ _); rotate_left; focus (first | omega | (simp [go_sem]; done) | (simp [go_sem]; omega))) | ((with_reducible refine Below.setCell ?_ ?_ _); rotate_left; focus (first | omega | (simp [go_sem]; done) | (simp [go_sem]; omega))) | (with_reducible refine Below.drew ?_) | (with_reducible refine below_drewN _ ?_))
        · rw [if_neg hu0] at hTr
          obtain ⟨p, hp⟩ : ∃ p, u = p + 1 := ⟨u - 1, by omega⟩
          have b1 : ¬ (u : Int) - 1 < 0 := by omega
          rw [show u - 1 = p by omega] at hTr
          have hr2 : m + 2 ^ (13 * p + 13) ≤ 4503599627370496 := dot_room (la := la) (by rw [← hp]; exact hroom)
          have H2 := Lib.hid (And.intro hTr (And.intro hp hr2))
          clear hs hu hla hroom h46 hu0 hTr hp hr2
          go_wp2
          go_roundw
          case rel => exact ⟨m, p, 13, i + 1, rfl, by have := H2.out.2.1; go_num, rfl, by go_num, by omega, by have := H2.out.2.1; have := HH.out; omega, by decide, H2.out.2.2, H2.out.1, hb⟩
          case measure => simp [intOf]; omega
      · rw [if_neg h46] at hTr
        have h46i : ¬ (s[i].toNat : Int) = 46 := fun e => h46 (UInt8.toNat_inj.1 (by have e2 : (46 : UInt8).toNat = 46 := rfl; omega))
        obtain ⟨B, hB⟩ : ∃ B, s[i] = B := ⟨_, rfl⟩
        have hBd := hB
        rw [hB] at hTr h46i
        obtain ⟨r1, r2⟩ := idx_all B
        obtain ⟨r, hr⟩ : ∃ r, idx B = r := ⟨_, rfl⟩
        rw [hr] at hTr r1 r2
        have HI := Lib.hid (And.intro hi hlt)
        have HTr := Lib.hid hTr
        have HR := Lib.hid (And.intro hr (And.intro r1 r2))
        clear hs hu hla hroom h46 hTr hi hr r1 r2 hBd
        have h46b : ((B.toNat : Int) == 46) = false := beq_eq_false_iff_ne.2 h46i
        go_wp2
        go_loopw [8, 9] (fun s8 s9 wi => ∃ k : Nat, s8 = .int .i64 (fnd r k) ∧ s9 = .int .i64 k ∧ k ≤ la ∧ Below w.heap.size w wi) (fun _ s9 _ => la - (intOf s9).toNat)
        case atStart => exact ⟨0, by unfold fnd; rw [if_neg (by omega)], rfl, Nat.zero_le _, hb⟩
        case round =>
          obtain ⟨k, rfl, rfl, hk, hb⟩ := hrel
          have hsz := hb.size
          have hla := HH.out.2.2.1
          obtain ⟨hRi, r1, r2⟩ := HR.out
          by_cases hkl : k < la
          · have hkl2 : (k : Int) < la := by omega
            have e2 : IntKind.i64.wrap ((k : Int) + 1) = (k : Int) + 1 := IntWalk.i64_in _ (by omega)
            have G := Lib.hid (ref_sign k (by omega))
            have hce := chr_ne (k := k) (b := B) (by omega)
            rw [hRi] at hce
            have HK := Lib.hid (And.intro hk hkl)
            have cvA := fun (o : Array Obj) (j : Nat) => conv_at (B := B) (blk_new (grow wr o j) #[.int .u8 (B.toNat : Int)] 5)
            have cvB := fun (o : Array Obj) (j : Nat) => conv_at (B := B) (blk_grow (blk_new wr #[.int .u8 (B.toNat : Int)] 5) o j)
            have cvC := conv_at (W := (wr.alloc (.cells #[.int .u8 (B.toNat : Int)] 5)).drew) (B := B) (blk_new wr #[.int .u8 (B.toNat : Int)] 5)
            simp only [go_sem] at cvA
            by_cases heq : r = (k : Int)
            · have hcb := hce.2 heq
              have hf : (k : Int) = fnd r (k + 1) := by unfold fnd; rw [if_pos (by omega)]; omega
              rw [hcb] at G
              have HF := Lib.hid hf
              clear hk hkl hce heq hcb hf hRi r1 r2 hla
              go_wp2
              refine wp_region_any (by kernel_rfl) ?_
              change wpAny _ _ _ _ _ _ _ (World.drew _)
              refine wpAny_take (i := 0) (v := ?v0a) rfl (by kernel_rfl) (by kernel_rfl) (by kernel_rfl) (fun _ _ _ h => h) (Or.inl ⟨by rfl, ?y0a⟩) ?r0a
              case y0a => intro W; go_simp; try with_reducible rfl
              go_simp
              refine wpAny_take (i := 2) (v := ?v2a) rfl (by kernel_rfl) (by kernel_rfl) (by kernel_rfl) (fun _ _ _ h => h) (Or.inl ⟨by rfl, ?y2a⟩) ?r2a
              case y2a => intro W; go_simp; try with_reducible rfl
              go_simp
              refine wpAny_take (i := 3) (v := ?v3a) rfl (by kernel_rfl) (by kernel_rfl) (by kernel_rfl) (fun _ _ _ h => h) (Or.inl ⟨by rfl, ?y3a⟩) ?r3a
              case y3a => intro W; go_simp; try with_reducible rfl
              go_simp
              refine wpAny_take (i := 4) (v := ?v4a) rfl (by kernel_rfl) (by kernel_rfl) (by kernel_rfl) (fun _ _ _ h => h) (Or.inl ⟨by rfl, ?y4a⟩) ?r4a
              case y4a => intro W; go_simp; try with_reducible rfl
              go_simp
              refine wpAny_ready (rs := [1, 5]) (by kernel_rfl) (by simp) ?_
              refine AllReady.cons rfl (fun K hK => ?_) (AllReady.cons rfl (fun K hK => ?_) AllReady.nil)
              · go_simp
                go_at_call 41; refine (G.out _).mono ?_; rintro e w1 ⟨rfl, hbel⟩; obtain ⟨o2, j2, rfl⟩ := grow_of_below hbel; clear hbel
                refine hK _ _ ?_; clear hK K
                refine wpAny_ready (rs := [5]) (by kernel_rfl) (by simp) ?_
                refine AllReady.cons rfl (fun K hK => ?_) AllReady.nil
                go_simp
                refine hK _ _ ?_; clear hK K
                refine wpAny_ready (rs := [6]) (by kernel_rfl) (by simp) ?_
                refine AllReady.cons rfl (fun K hK => ?_) AllReady.nil
                go_simp
                refine hK _ _ ?_; clear hK K
                refine wpAny_ready (rs := [7]) (by kernel_rfl) (by simp) ?_
                refine AllReady.cons rfl (fun K hK => ?_) AllReady.nil
                go_simp
                refine hK _ _ ?_; clear hK K
                refine wpAny_done (by kernel_rfl) ?_ _
                go_wp2
                go_roundw
                case rel => exact ⟨k + 1, by rw [← HF.out], by go_num, by have := HK.out; omega, by repeat (first | (with_reducible exact hb) | ((with_reducible refine below_grow ?_ ?_); rotate_left; focus (first | omega | (simp [go_sem]; done) | (simp [go_sem]; omega))) | ((with_reducible refine Below.alloc ?_ ?_ _); rotate_left; focus (first | omega | (simp [go_sem]; done) | (simp [go_sem]; omega))) | ((with_reducible refine Below.setCell ?_ ?_ _); rotate_left; focus (first | omega | (simp [go_sem]; done) | (simp [go_sem]; omega))) | (with_reducible refine Below.drew ?_) | (with_reducible refine below_drewN _ ?_))⟩
                case measure => simp [intOf]; have := HK.out; omega
              · go_simp
                refine hK _ _ ?_; clear hK K
                refine wpAny_ready (rs := [1, 6]) (by kernel_rfl) (by simp) ?_
                refine AllReady.cons rfl (fun K hK => ?_) (AllReady.cons rfl (fun K hK => ?_) AllReady.nil)
                · go_simp
                  go_at_call 41; refine (G.out _).mono ?_; rintro e w1 ⟨rfl, hbel⟩; obtain ⟨o2, j2, rfl⟩ := grow_of_below hbel; clear hbel
                  refine hK _ _ ?_; clear hK K
                  refine wpAny_ready (rs := [6]) (by kernel_rfl) (by simp) ?_
                  refine AllReady.cons rfl (fun K hK => ?_) AllReady.nil
                  go_simp
                  refine hK _ _ ?_; clear hK K
                  refine wpAny_ready (rs := [7]) (by kernel_rfl) (by simp) ?_
                  refine AllReady.cons rfl (fun K hK => ?_) AllReady.nil
                  go_simp
                  refine hK _ _ ?_; clear hK K
                  refine wpAny_done (by kernel_rfl) ?_ _
                  go_wp2
                  go_roundw
                  case rel => exact ⟨k + 1, by rw [← HF.out], by go_num, by have := HK.out; omega, by repeat (first | (with_reducible exact hb) | ((with_reducible refine below_grow ?_ ?_); rotate_left; focus (first | omega | (simp [go_sem]; done) | (simp [go_sem]; omega))) | ((with_reducible refine Below.alloc ?_ ?_ _); rotate_left; focus (first | omega | (simp [go_sem]; done) | (simp [go_sem]; omega))) | ((with_reducible refine Below.setCell ?_ ?_ _); rotate_left; focus (first | omega | (simp [go_sem]; done) | (simp [go_sem]; omega))) | (with_reducible refine Below.drew ?_) | (with_reducible refine below_drewN _ ?_))⟩
                  case measure => simp [intOf]; have := HK.out; omega
                · go_simp
                  refine hK _ _ ?_; clear hK K
                  refine wpAny_ready (rs := [1]) (by kernel_rfl) (by simp) ?_
                  refine AllReady.cons rfl (fun K hK => ?_) AllReady.nil
                  go_simp
                  go_at_call 41; refine (G.out _).mono ?_; rintro e w1 ⟨rfl, hbel⟩; obtain ⟨o2, j2, rfl⟩ := grow_of_below hbel; clear hbel
                  refine hK _ _ ?_; clear hK K
                  refine wpAny_ready (rs := [7]) (by kernel_rfl) (by simp) ?_
                  refine AllReady.cons rfl (fun K hK => ?_) AllReady.nil
                  go_simp
                  refine hK _ _ ?_; clear hK K
                  refine wpAny_done (by kernel_rfl) ?_ _
                  go_wp2
                  go_roundw
                  case rel => exact ⟨k + 1, by rw [← HF.out], by go_num, by have := HK.out; omega, by repeat (first | (with_reducible exact hb) | ((with_reducible refine below_grow ?_ ?_); rotate_left; focus (first | omega | (simp [go_sem]; done) | (simp [go_sem]; omega))) | ((with_reducible refine Below.alloc ?_ ?_ _); rotate_left; focus (first | omega | (simp [go_sem]; done) | (simp [go_sem]; omega))) | ((with_reducible refine Below.setCell ?_ ?_ _); rotate_left; focus (first | omega | (simp [go_sem]; done) | (simp [go_sem]; omega))) | (with_reducible refine Below.drew ?_) | (with_reducible refine below_drewN _ ?_))⟩
                  case measure => simp [intOf]; have := HK.out; omega
            · have hcb : (chr k == B) = false := beq_eq_false_iff_ne.2 (fun e => heq (hce.1 e))
              have hf : fnd r k = fnd r (k + 1) := by
                unfold fnd
                by_cases h1 : 0 ≤ r ∧ r < (k : Int)
                · rw [if_pos h1, if_pos (by omega)]
                · rw [if_neg h1, if_neg (by omega)]
              have HF := Lib.hid hf
              obtain ⟨D, hD⟩ : ∃ D, chr k = D := ⟨_, rfl⟩
              rw [hD] at G hcb
              clear hk hkl hce heq hf hRi r1 r2 hla hD
              go_wp2
              refine wp_region_any (by kernel_rfl) ?_
              change wpAny _ _ _ _ _ _ _ (World.drew _)
              refine wpAny_take (i := 0) (v := ?v0b) rfl (by kernel_rfl) (by kernel_rfl) (by kernel_rfl) (fun _ _ _ h => h) (Or.inl ⟨by rfl, ?y0b⟩) ?r0b
              case y0b => intro W; go_simp; try with_reducible rfl
              go_simp
              refine wpAny_take (i := 2) (v := ?v2b) rfl (by kernel_rfl) (by kernel_rfl) (by kernel_rfl) (fun _ _ _ h => h) (Or.inl ⟨by rfl, ?y2b⟩) ?r2b
              case y2b => intro W; go_simp; try with_reducible rfl
              go_simp
              refine wpAny_take (i := 3) (v := ?v3b) rfl (by kernel_rfl) (by kernel_rfl) (by kernel_rfl) (fun _ _ _ h => h) (Or.inl ⟨by rfl, ?y3b⟩) ?r3b
              case y3b => intro W; go_simp; try with_reducible rfl
              go_simp
              refine wpAny_take (i := 4) (v := ?v4b) rfl (by kernel_rfl) (by kernel_rfl) (by kernel_rfl) (fun _ _ _ h => h) (Or.inl ⟨by rfl, ?y4b⟩) ?r4b
              case y4b => intro W; go_simp; try with_reducible rfl
              go_simp
              refine wpAny_ready (rs := [1, 5]) (by kernel_rfl) (by simp) ?_
              refine AllReady.cons rfl (fun K hK => ?_) (AllReady.cons rfl (fun K hK => ?_) AllReady.nil)
              · go_simp
                go_at_call 41; refine (G.out _).mono ?_; rintro e w1 ⟨rfl, hbel⟩; obtain ⟨o2, j2, rfl⟩ := grow_of_below hbel; clear hbel
                refine hK _ _ ?_; clear hK K
                refine wpAny_ready (rs := [5]) (by kernel_rfl) (by simp) ?_
                refine AllReady.cons rfl (fun K hK => ?_) AllReady.nil
                go_simp
                refine hK _ _ ?_; clear hK K
                refine wpAny_ready (rs := [6]) (by kernel_rfl) (by simp) ?_
                refine AllReady.cons rfl (fun K hK => ?_) AllReady.nil
                go_simp
                refine hK _ _ ?_; clear hK K
                refine wpAny_ready (rs := [7]) (by kernel_rfl) (by simp) ?_
                refine AllReady.cons rfl (fun K hK => ?_) AllReady.nil
                go_simp
                refine hK _ _ ?_; clear hK K
                refine wpAny_done (by kernel_rfl) ?_ _
                go_wp2
                go_roundw
                case rel => exact ⟨k + 1, by rw [← HF.out], by go_num, by have := HK.out; omega, by repeat (first | (with_reducible exact hb) | ((with_reducible refine below_grow ?_ ?_); rotate_left; focus (first | omega | (simp [go_sem]; done) | (simp [go_sem]; omega))) | ((with_reducible refine Below.alloc ?_ ?_ _); rotate_left; focus (first | omega | (simp [go_sem]; done) | (simp [go_sem]; omega))) | ((with_reducible refine Below.setCell ?_ ?_ _); rotate_left; focus (first | omega | (simp [go_sem]; done) | (simp [go_sem]; omega))) | (with_reducible refine Below.drew ?_) | (with_reducible refine below_drewN _ ?_))⟩
                case measure => simp [intOf]; have := HK.out; omega
              · go_simp
                refine hK _ _ ?_; clear hK K
                refine wpAny_ready (rs := [1, 6]) (by kernel_rfl) (by simp) ?_
                refine AllReady.cons rfl (fun K hK => ?_) (AllReady.cons rfl (fun K hK => ?_) AllReady.nil)
                · go_simp
                  go_at_call 41; refine (G.out _).mono ?_; rintro e w1 ⟨rfl, hbel⟩; obtain ⟨o2, j2, rfl⟩ := grow_of_below hbel; clear hbel
                  refine hK _ _ ?_; clear hK K
                  refine wpAny_ready (rs := [6]) (by kernel_rfl) (by simp) ?_
                  refine AllReady.cons rfl (fun K hK => ?_) AllReady.nil
                  go_simp
                  refine hK _ _ ?_; clear hK K
                  refine wpAny_ready (rs := [7]) (by kernel_rfl) (by simp) ?_
                  refine AllReady.cons rfl (fun K hK => ?_) AllReady.nil
                  go_simp
                  refine hK _ _ ?_; clear hK K
                  refine wpAny_done (by kernel_rfl) ?_ _
                  go_wp2
                  go_roundw
                  case rel => exact ⟨k + 1, by rw [← HF.out], by go_num, by have := HK.out; omega, by repeat (first | (with_reducible exact hb) | ((with_reducible refine below_grow ?_ ?_); rotate_left; focus (first | omega | (simp [go_sem]; done) | (simp [go_sem]; omega))) | ((with_reducible refine Below.alloc ?_ ?_ _); rotate_left; focus (first | omega | (simp [go_sem]; done) | (simp [go_sem]; omega))) | ((with_reducible refine Below.setCell ?_ ?_ _); rotate_left; focus (first | omega | (simp [go_sem]; done) | (simp [go_sem]; omega))) | (with_reducible refine Below.drew ?_) | (with_reducible refine below_drewN _ ?_))⟩
                  case measure => simp [intOf]; have := HK.out; omega
                · go_simp
                  refine hK _ _ ?_; clear hK K
                  refine wpAny_ready (rs := [1]) (by kernel_rfl) (by simp) ?_
                  refine AllReady.cons rfl (fun K hK => ?_) AllReady.nil
                  go_simp
                  go_at_call 41; refine (G.out _).mono ?_; rintro e w1 ⟨rfl, hbel⟩; obtain ⟨o2, j2, rfl⟩ := grow_of_below hbel; clear hbel
                  refine hK _ _ ?_; clear hK K
                  refine wpAny_ready (rs := [7]) (by kernel_rfl) (by simp) ?_
                  refine AllReady.cons rfl (fun K hK => ?_) AllReady.nil
                  go_simp
                  refine hK _ _ ?_; clear hK K
                  refine wpAny_done (by kernel_rfl) ?_ _
                  go_wp2
                  go_roundw
                  case rel => exact ⟨k + 1, by rw [← HF.out], by go_num, by have := HK.out; omega, by repeat (first | (with_reducible exact hb) | ((with_reducible refine below_grow ?_ ?_); rotate_left; focus (first | omega | (simp [go_sem]; done) | (simp [go_sem]; omega))) | ((with_reducible refine Below.alloc ?_ ?_ _); rotate_left; focus (first | omega | (simp [go_sem]; done) | (simp [go_sem]; omega))) | ((with_reducible refine Below.setCell ?_ ?_ _); rotate_left; focus (first | omega | (simp [go_sem]; done) | (simp [go_sem]; omega))) | (with_reducible refine Below.drew ?_) | (with_reducible refine below_drewN _ ?_))⟩
                  case measure => simp [intOf]; have := HK.out; omega
          · obtain rfl : k = la := by omega
            obtain ⟨hs, hu, hla, hroom⟩ := HH.out
            have hTr := HTr.out
            by_cases hx : r < 0 ∨ (k : Int) ≤ r
            · rw [if_pos hx] at hTr
              have hf : fnd r k = -1 := by unfold fnd; rw [if_neg (by omega)]
              rw [hf]
              subst hTr
              clear hx hf hs hu hla hroom hRi r1 r2 hkl
              go_wp2
              refine bodyPost_ret (by simp [results, Tryd.results36, go_sem, parV]) rfl ⟨rfl, ?_⟩
              repeat (first | (with_reducible exact hb) | ((with_reducible refine below_grow ?_ ?_); rotate_left; focus (first | omega | (simp [go_sem]; done) | (simp [go_sem]; omega))) | ((with_reducible refine Below.alloc ?_ ?_ _); rotate_left; focus (first | omega | (simp [go_sem]; done) | (simp [go_sem]; omega))) | ((with_reducible refine Below.setCell ?_ ?_ _); rotate_left; focus (first | omega | (simp [go_sem]; done) | (simp [go_sem]; omega))) | (with_reducible refine Below.drew ?_) | (with_reducible refine below_drewN _ ?_))
            · rw [if_neg hx] at hTr
              obtain ⟨q, rfl⟩ : ∃ q : Nat, r = q := ⟨r.toNat, by omega⟩
              rw [Int.toNat_natCast] at hTr
              have hf : fnd q k = q := by unfold fnd; rw [if_pos (by omega)]
              rw [hf]
              have b1 : ¬ (q : Int) < 0 := by omega
              have hr2 := bit_room (q := q) hroom (by omega)
              have BT := bit_calls (13 * u + q) (by omega)
              obtain ⟨x, hx2⟩ : ∃ x, 2 ^ (13 * u + q) = x := ⟨_, rfl⟩
              rw [hx2] at BT
              rw [show ((13 * u + q : Nat) : Int) = 13 * (u : Int) + (q : Int) by omega] at BT
              have BT := Lib.hid BT
              have e2 : IntKind.i64.wrap (13 * (u : Int)) = 13 * (u : Int) := IntWalk.i64_in _ (by omega)
              have e3 : IntKind.i64.wrap (13 * (u : Int) + (q : Int)) = 13 * (u : Int) + (q : Int) := IntWalk.i64_in _ (by omega)
              have e5 : IntKind.u8.wrap (13 * (u : Int) + (q : Int)) = 13 * (u : Int) + (q : Int) := u8_wrap (by omega) (by omega)
              have e6 : IntKind.u64.wrap ((m : Int) + (x : Int)) = (m : Int) + (x : Int) := IntWalk.u64_in _ (by omega)
              have HZ := Lib.hid (And.intro hx2 (And.intro hr2 hTr))
              have HQ := Lib.hid (show q ≤ 13 by omega)
              clear hx hf hs hu hla hroom hRi r1 r2 hk hkl hTr hr2 hx2
              go_wp2_with (first | (go_at_call 54; refine (BT.out _).mono ?_; rintro e w1 ⟨rfl, rfl⟩))
              go_roundw
              case rel => exact ⟨m + x, u, q, i + 1, by go_num, rfl, rfl, by go_num, by have := HI.out; omega, HH.out.2.1, HQ.out, by have := HZ.out.2.1; rw [HZ.out.1] at this ⊢; exact this, by rw [← HZ.out.1]; exact HZ.out.2.2, hb⟩
              case measure => simp [intOf]; have := HI.out; omega
    · obtain rfl : i = s.size := by omega
      have hd : s.data.toList.drop s.size = [] := List.drop_eq_nil_iff.2 (Nat.le_refl _)
      rw [hd] at hTr
      unfold rp at hTr
      by_cases hu0 : u = 0
      · rw [if_pos hu0] at hTr
        subst hTr hu0
        clear hs hu hla hroom
        go_wp2
        refine bodyPost_ret (by simp [results, Tryd.results36, go_sem, parV]) rfl ⟨rfl, ?_⟩
        repeat (first | (with_reducible exact hb) | ((with_reducible refine below_grow ?_ ?_); rotate_left; focus (first | omega | (simp [go_sem]; done) | (simp [go_sem]; omega))) | ((with_reducible refine Below.alloc ?_ ?_ _); rotate_left; focus (first | omega | (simp [go_sem]; done) | (simp [go_sem]; omega))) | ((with_reducible refine Below.setCell ?_ ?_ _); rotate_left; focus (first | omega | (simp [go_sem]; done) | (simp [go_sem]; omega))) | (with_reducible refine Below.drew ?_) | (with_reducible refine below_drewN _ ?_))
      · rw [if_neg hu0] at hTr
        subst hTr
        have b1 : ¬ (u : Int) = 0 := by omega
        clear hs hu hla hroom hu0
        go_wp2
        refine bodyPost_ret (by simp [results, Tryd.results36, go_sem, parV]) rfl ⟨rfl, ?_⟩
        repeat (first | (with_reducible exact hb) | ((with_reducible refine below_grow ?_ ?_); rotate_left; focus (first | omega | (simp [go_sem]; done) | (simp [go_sem]; omega))) | ((with_reducible refine Below.alloc ?_ ?_ _); rotate_left; focus (first | omega | (simp [go_sem]; done) | (simp [go_sem]; omega))) | ((with_reducible refine Below.setCell ?_ ?_ _); rotate_left; focus (first | omega | (simp [go_sem]; done) | (simp [go_sem]; omega))) | (with_reducible refine Below.drew ?_) | (with_reducible refine below_drewN _ ?_))
end Go.Proofs.YtcfkcfbgnciccaaDoor
