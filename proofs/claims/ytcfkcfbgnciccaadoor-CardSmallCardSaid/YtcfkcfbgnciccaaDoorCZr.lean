/- CardSmall. -/
import Derived.Test.YtcfkcfbgnciccaaDoorCZp
namespace Go.Proofs.YtcfkcfbgnciccaaDoor
open Go.RowKit

theorem sl_two (W : World) (x y : Nat) : Sl (W.alloc (.cells #[.int .u8 (x : Int), .int .u8 (y : Int)] 5)) (.slice (some ⟨W.heap.size, 0, none⟩) 2 2) [x, y] := by
  refine .inr ⟨W.heap.size, 0, 2, rfl, by simp, fun j z hj => ?_⟩
  rw [Nat.zero_add, blk_cell (blk_new W _ _) j]
  match j, hj with
  | 0, hj => cases hj; rfl
  | 1, hj => cases hj; rfl
theorem sl_new (W : World) (b : Nat) (hb : b = W.heap.size) (xs : List Nat) : Sl (W.alloc (.cells (xs.map u8v).toArray 5)) (.slice (some ⟨b, 0, none⟩) xs.length xs.length) xs := by
  subst hb
  refine .inr ⟨W.heap.size, 0, xs.length, rfl, by simp, fun j z hj => ?_⟩
  rw [Nat.zero_add, blk_cell (blk_new W _ _) j]
  simp [hj]
theorem lt_of_all {xs : List Nat} (h : xs.all (· < 256) = true) : ∀ x ∈ xs, x < 256 := fun x hx => by
  have := List.all_eq_true.1 h x hx
  simpa using this
theorem cv_two (c : Nat) (hc : c < 256) (W : World) (b : UInt8) : (convert 25 9 (.slice (some ⟨W.heap.size, 0, none⟩) 2 2)).run Tryd.prog (W.alloc (.cells #[.int .u8 (b.toNat : Int), .int .u8 (c : Int)] 5)) = .ok (strv [b, UInt8.ofNat c]) (W.alloc (.cells #[.int .u8 (b.toNat : Int), .int .u8 (c : Int)] 5)) := by
  have h := conv_sl (sl_two W b.toNat c) (fun x hx => by
    have hb := b.toNat_lt
    simp at hx
    rcases hx with rfl | rfl <;> omega)
  rw [h]
  simp [strv]
theorem cv_one (c : Nat) (hc : c < 256) (W : World) : (convert 25 9 (.slice (some ⟨W.heap.size, 0, none⟩) 1 1)).run Tryd.prog (W.alloc (.cells #[.int .u8 (c : Int)] 5)) = .ok (strv [UInt8.ofNat c]) (W.alloc (.cells #[.int .u8 (c : Int)] 5)) :=
  conv_sl (sl_one W c) (fun x hx => by simp at hx; omega)
set_option maxRecDepth 100000 in
set_option maxHeartbeats 16000000 in
theorem cardSmall_walk (w : World) (he : Env w) :
    Calls Tryd.prog 5 #[] w fun e w' => e = .returned (.bool true) ∧ Below w.heap.size w w' := by
  have ON := Lib.hid one4_calls
  go_enter Tryd.func5, Tryd.ntmps5
  go_wp2
  go_loopw [1] (fun s1 wr => ∃ c : Nat, s1 = .int .i64 c ∧ c ≤ 256 ∧ Below w.heap.size w wr) (fun s1 _ => 256 - (intOf s1).toNat)
  case atStart => exact ⟨0, rfl, by decide, by repeat (first | (with_reducible exact Below.refl _ _) | ((with_reducible refine below_grow ?_ ?_); rotate_left; focus (first | omega | (simp [go_sem]; done) | (simp [go_sem]; omega))) | ((with_reducible refine Below.alloc ?_ ?_ _); rotate_left; focus (first | omega | (simp [go_sem]; done) | (simp [go_sem]; omega))) | ((with_reducible refine Below.setCell ?_ ?_ _); rotate_left; focus (first | omega | (simp [go_sem]; done) | (simp [go_sem]; omega))) | (with_reducible refine Below.drew ?_) | (with_reducible refine below_drewN _ ?_))⟩
  case round =>
    obtain ⟨c, rfl, hc, hb⟩ := hrel
    have hsz := hb.size
    by_cases hlt : c < 256
    · have hlt2 : (c : Int) < 256 := by omega
      have e1 : IntKind.i64.wrap ((c : Int) + 1) = (c : Int) + 1 := IntWalk.i64_in _ (by omega)
      have e2 : IntKind.u8.wrap (c : Int) = (c : Int) := u8_wrap (by omega) (by omega)
      have HC := Lib.hid hlt
      clear hc hlt
      go_wp2
      go_loopw [15] (fun s15 wi => ∃ n : Nat, s15 = .int .i64 n ∧ n ≤ 20 ∧ Below w.heap.size w wi) (fun s15 _ => 20 - (intOf s15).toNat)
      case atStart => exact ⟨0, rfl, by decide, hb⟩
      case round =>
        obtain ⟨n, rfl, hn, hb⟩ := hrel
        have hsz := hb.size
        by_cases hnl : n < 20
        · have hnl2 : (n : Int) < 20 := by omega
          have e3 : IntKind.i64.wrap ((n : Int) + 1) = (n : Int) + 1 := IntWalk.i64_in _ (by omega)
          have cv := cv_two c HC.out
          have ON7 := Lib.hid (fun (b : UInt8) W => one4_calls c (n % 6) c HC.out (by omega) HC.out [b, UInt8.ofNat c] W)
          rw [show ((n % 6 : Nat) : Int) = (n : Int) % 6 by omega] at ON7
          have e4 : IntKind.u8.wrap ((n : Int) % 6) = (n : Int) % 6 := u8_wrap (by omega) (by omega)
          have HN := Lib.hid hnl
          clear hn hnl
          go_wp2_with (first | (go_at_call 11; refine (ON7.out _ _).mono ?_; rintro e w1 ⟨rfl, hbel⟩; obtain ⟨o1, j1, rfl⟩ := grow_of_below hbel; clear hbel))
          go_roundw
          case rel => exact ⟨n + 1, by go_num, by have := HN.out; omega, by repeat (first | (with_reducible exact hb) | ((with_reducible refine below_grow ?_ ?_); rotate_left; focus (first | omega | (simp [go_sem]; done) | (simp [go_sem]; omega))) | ((with_reducible refine Below.alloc ?_ ?_ _); rotate_left; focus (first | omega | (simp [go_sem]; done) | (simp [go_sem]; omega))) | ((with_reducible refine Below.setCell ?_ ?_ _); rotate_left; focus (first | omega | (simp [go_sem]; done) | (simp [go_sem]; omega))) | (with_reducible refine Below.drew ?_) | (with_reducible refine below_drewN _ ?_))⟩
          case measure => simp [intOf]; have := HN.out; omega
        · obtain rfl : n = 20 := by omega
          clear hn hnl
          have cv := conv_sl (W := (wr.alloc (.cells #[.int .u8 (c : Int)] 5)).drew) (sl_one wr c) (fun x hx => by have := HC.out; simp at hx; omega)
          have ON1 := Lib.hid (fun W => one4_calls 0 c 3 (by decide) HC.out (by decide) [UInt8.ofNat c] W)
          obtain ⟨q, hq⟩ : ∃ q, c % 64 = q := ⟨_, rfl⟩
          have htm : (c : Int).tmod 64 = (q : Int) := by rw [← hq]; rfl
          have hq64 : q < 64 := by omega
          have hmn : min q 64 = q := by omega
          have hp2 : 2 ^ q < 2 ^ 64 := Nat.pow_lt_pow_right (by decide) hq64
          have ew : IntKind.u64.wrap ((2 : Int) ^ q) = (2 : Int) ^ q := by
            have e : ((2 : Int) ^ q) = ((2 ^ q : Nat) : Int) := by simp
            rw [e]
            obtain ⟨y, hy⟩ : ∃ y, 2 ^ q = y := ⟨_, rfl⟩
            rw [hy] at hp2 ⊢
            exact IntWalk.u64_in _ (by omega)
          have HQ := Lib.hid (And.intro hp2 hq64)
          clear hq hp2
          have h4 : ∀ x ∈ [c, 46, 46, 46], x < 256 := fun x hx => by have := HC.out; simp at hx; omega
          have cvE : ∀ (o : Array Obj) (j : Nat), (convert 25 9 (.slice (some ⟨wr.heap.size + 1 + sz o + 1, 0, none⟩) 4 4)).run Tryd.prog (((grow (wr.alloc (.cells #[.int .u8 (c : Int)] 5)) o j).alloc (.cells #[.int .u8 (c : Int), .int .u8 5, .int .u8 (c : Int)] 5)).alloc (.cells #[.int .u8 (c : Int), .int .u8 46, .int .u8 46, .int .u8 46] 5)) = .ok (strv [UInt8.ofNat c, 46, 46, 46]) (((grow (wr.alloc (.cells #[.int .u8 (c : Int)] 5)) o j).alloc (.cells #[.int .u8 (c : Int), .int .u8 5, .int .u8 (c : Int)] 5)).alloc (.cells #[.int .u8 (c : Int), .int .u8 46, .int .u8 46, .int .u8 46] 5)) :=
            fun o j => conv_sl (sl_new ((grow (wr.alloc (.cells #[.int .u8 (c : Int)] 5)) o j).alloc (.cells #[.int .u8 (c : Int), .int .u8 5, .int .u8 (c : Int)] 5)) _ (by simp [go_sem]) [c, 46, 46, 46]) h4
          have cvF : ∀ (o : Array Obj) (j : Nat), (convert 25 9 (.slice (some ⟨wr.heap.size + 1 + sz o, 0, none⟩) 4 4)).run Tryd.prog (((grow (wr.alloc (.cells #[.int .u8 (c : Int)] 5)) o j).alloc (.cells #[.int .u8 (c : Int), .int .u8 46, .int .u8 46, .int .u8 46] 5)).alloc (.cells #[.int .u8 (c : Int), .int .u8 5, .int .u8 (c : Int)] 5)) = .ok (strv [UInt8.ofNat c, 46, 46, 46]) (((grow (wr.alloc (.cells #[.int .u8 (c : Int)] 5)) o j).alloc (.cells #[.int .u8 (c : Int), .int .u8 46, .int .u8 46, .int .u8 46] 5)).alloc (.cells #[.int .u8 (c : Int), .int .u8 5, .int .u8 (c : Int)] 5)) :=
            fun o j => conv_sl ((sl_new (grow (wr.alloc (.cells #[.int .u8 (c : Int)] 5)) o j) _ (by simp [go_sem]) [c, 46, 46, 46]).below (Below.alloc (Below.refl _ _) (Nat.le_refl _) _)) h4
          have cvG : ∀ (o : Array Obj) (j : Nat), (convert 25 9 (.slice (some ⟨wr.heap.size + 1 + sz o, 0, none⟩) 4 4)).run Tryd.prog ((grow (wr.alloc (.cells #[.int .u8 (c : Int)] 5)) o j).alloc (.cells #[.int .u8 (c : Int), .int .u8 46, .int .u8 46, .int .u8 46] 5)) = .ok (strv [UInt8.ofNat c, 46, 46, 46]) ((grow (wr.alloc (.cells #[.int .u8 (c : Int)] 5)) o j).alloc (.cells #[.int .u8 (c : Int), .int .u8 46, .int .u8 46, .int .u8 46] 5)) :=
            fun o j => conv_sl (sl_new (grow (wr.alloc (.cells #[.int .u8 (c : Int)] 5)) o j) _ (by simp [go_sem]) [c, 46, 46, 46]) h4
          have hEr := he.below hb
          have ST := Lib.hid (fun (lv : Value) (W : World) (hE : Env W) (hl : Sl W lv [c, 5, c]) => sets_calls (2 ^ q) (Nat.pow_lt_pow_right (by decide) HQ.out.2) lv [c, 5, c] (fun x hx => by have := HC.out; simp at hx; omega) (by show 3 ≤ 1000; decide) ⟨[UInt8.ofNat c, 46, 46, 46].toArray⟩ (by show 4 < 4294967281; decide) W hE hl)
          rw [show ((2 ^ q : Nat) : Int) = (2 : Int) ^ q by simp] at ST
          clear hq64
          go_wp2
          refine wp_region_any (by kernel_rfl) ?_
          change wpAny _ _ _ _ _ _ _ (World.drew _)
          refine wpAny_take (i := 0) (v := ?v0x) rfl (by kernel_rfl) (by kernel_rfl) (by kernel_rfl) (fun _ _ _ h => h) (Or.inl ⟨by rfl, ?y0x⟩) ?r0x
          case y0x => intro W; go_simp; try with_reducible rfl
          go_simp
          refine wpAny_take (i := 1) (v := ?v1x) rfl (by kernel_rfl) (by kernel_rfl) (by kernel_rfl) (fun _ _ _ h => h) (Or.inl ⟨by rfl, ?y1x⟩) ?r1x
          case y1x => intro W; go_simp; try with_reducible rfl
          go_simp
          refine wpAny_take (i := 2) (v := ?v2x) rfl (by kernel_rfl) (by kernel_rfl) (by kernel_rfl) (fun _ _ _ h => h) (Or.inl ⟨by rfl, ?y2x⟩) ?r2x
          case y2x => intro W; go_simp; try with_reducible rfl
          go_simp
          refine wpAny_take (i := 3) (v := ?v3x) rfl (by kernel_rfl) (by kernel_rfl) (by kernel_rfl) (fun _ _ _ h => h) (Or.inl ⟨by rfl, ?y3x⟩) ?r3x
          case y3x => intro W; go_simp; try with_reducible rfl
          go_simp
          refine wpAny_ready (rs := [4]) (by kernel_rfl) (by simp) ?_
          refine AllReady.cons rfl (fun K hK => ?_) AllReady.nil
          go_simp
          refine hK _ _ ?_; clear hK K
          refine wpAny_ready (rs := [5]) (by kernel_rfl) (by simp) ?_
          refine AllReady.cons rfl (fun K hK => ?_) AllReady.nil
          go_simp
          refine hK _ _ ?_; clear hK K
          refine wpAny_ready (rs := [6]) (by kernel_rfl) (by simp) ?_
          refine AllReady.cons rfl (fun K hK => ?_) AllReady.nil
          go_simp
          go_at_call 11; refine (ON1.out _).mono ?_; rintro e w1 ⟨rfl, hbel⟩; obtain ⟨o1, j1, rfl⟩ := grow_of_below hbel; clear hbel
          refine hK _ _ ?_; clear hK K
          refine wpAny_take (i := 7) (v := ?v7x) rfl (by kernel_rfl) (by kernel_rfl) (by kernel_rfl) (fun _ _ _ h => h) (Or.inl ⟨by rfl, ?y7x⟩) ?r7x
          case y7x => intro W; go_simp; try with_reducible rfl
          go_simp
          refine wpAny_take (i := 8) (v := ?v8x) rfl (by kernel_rfl) (by kernel_rfl) (by kernel_rfl) (fun _ _ _ h => h) (Or.inl ⟨by rfl, ?y8x⟩) ?r8x
          case y8x => intro W; go_simp; try with_reducible rfl
          go_simp
          refine wpAny_take (i := 9) (v := ?v9x) rfl (by kernel_rfl) (by kernel_rfl) (by kernel_rfl) (fun _ _ _ h => h) (Or.inl ⟨by rfl, ?y9x⟩) ?r9x
          case y9x => intro W; go_simp; try with_reducible rfl
          go_simp
          refine wpAny_take (i := 10) (v := ?v10x) rfl (by kernel_rfl) (by kernel_rfl) (by kernel_rfl) (fun _ _ _ h => h) (Or.inl ⟨by rfl, ?y10x⟩) ?r10x
          case y10x => intro W; go_simp; try with_reducible rfl
          go_simp
          refine wpAny_take (i := 11) (v := ?v11x) rfl (by kernel_rfl) (by kernel_rfl) (by kernel_rfl) (fun _ _ _ h => h) (Or.inl ⟨by rfl, ?y11x⟩) ?r11x
          case y11x => intro W; go_simp; try with_reducible rfl
          go_simp
          refine wpAny_take (i := 12) (v := ?v12x) rfl (by kernel_rfl) (by kernel_rfl) (by kernel_rfl) (fun _ _ _ h => h) (Or.inl ⟨by rfl, ?y12x⟩) ?r12x
          case y12x => intro W; go_simp; try with_reducible rfl
          go_simp
          refine wpAny_take (i := 13) (v := ?v13x) rfl (by kernel_rfl) (by kernel_rfl) (by kernel_rfl) (fun _ _ _ h => h) (Or.inl ⟨by rfl, ?y13x⟩) ?r13x
          case y13x => intro W; go_simp; try with_reducible rfl
          go_simp
          refine wpAny_take (i := 14) (v := ?v14x) rfl (by kernel_rfl) (by kernel_rfl) (by kernel_rfl) (fun _ _ _ h => h) (Or.inl ⟨by rfl, ?y14x⟩) ?r14x
          case y14x => intro W; go_simp; try with_reducible rfl
          go_simp
          refine wpAny_take (i := 15) (v := ?v15x) rfl (by kernel_rfl) (by kernel_rfl) (by kernel_rfl) (fun _ _ _ h => h) (Or.inl ⟨by rfl, ?y15x⟩) ?r15x
          case y15x => intro W; go_simp; try with_reducible rfl
          go_simp
          refine wpAny_take (i := 17) (v := ?v17x) rfl (by kernel_rfl) (by kernel_rfl) (by kernel_rfl) (fun _ _ _ h => h) (Or.inl ⟨by rfl, ?y17x⟩) ?r17x
          case y17x => intro W; go_simp; try with_reducible rfl
          go_simp
          refine wpAny_take (i := 18) (v := ?v18x) rfl (by kernel_rfl) (by kernel_rfl) (by kernel_rfl) (fun _ _ _ h => h) (Or.inl ⟨by rfl, ?y18x⟩) ?r18x
          case y18x => intro W; go_simp; try with_reducible rfl
          go_simp
          refine wpAny_ready (rs := [16, 19]) (by kernel_rfl) (by simp) ?_
          refine AllReady.cons rfl (fun K hK => ?_) (AllReady.cons rfl (fun K hK => ?_) AllReady.nil)
          · go_simp
            refine hK _ _ ?_; clear hK K
            refine wpAny_ready (rs := [19]) (by kernel_rfl) (by simp) ?_
            refine AllReady.cons rfl (fun K hK => ?_) AllReady.nil
            go_simp
            refine hK _ _ ?_; clear hK K
            refine wpAny_ready (rs := [20]) (by kernel_rfl) (by simp) ?_
            refine AllReady.cons rfl (fun K hK => ?_) AllReady.nil
            go_simp
            refine hK _ _ ?_; clear hK K
            refine wpAny_ready (rs := [21]) (by kernel_rfl) (by simp) ?_
            refine AllReady.cons rfl (fun K hK => ?_) AllReady.nil
            go_simp
            go_at_call 13; refine (ST.out _ _ (hEr.below (by repeat (first | (with_reducible exact Below.refl _ _) | ((with_reducible refine below_grow ?_ ?_); rotate_left; focus (first | omega | (simp [go_sem]; done) | (simp [go_sem]; omega))) | ((with_reducible refine Below.alloc ?_ ?_ _); rotate_left; focus (first | omega | (simp [go_sem]; done) | (simp [go_sem]; omega))) | ((with_reducible refine Below.setCell ?_ ?_ _); rotate_left; focus (first | omega | (simp [go_sem]; done) | (simp [go_sem]; omega))) | (with_reducible refine Below.drew ?_) | (with_reducible refine below_drewN _ ?_)))) ((sl_new (grow (wr.alloc (.cells #[.int .u8 (c : Int)] 5)) o1 j1) (wr.heap.size + 1 + sz o1) (by simp [go_sem]) [c, 5, c]).below (Below.alloc (Below.refl _ _) (Nat.le_refl _) _))).mono ?_; rintro e w2 ⟨rfl, hbel⟩; obtain ⟨o2, j2, rfl⟩ := grow_of_below hbel; clear hbel
            refine hK _ _ ?_; clear hK K
            refine wpAny_ready (rs := [22]) (by kernel_rfl) (by simp) ?_
            refine AllReady.cons rfl (fun K hK => ?_) AllReady.nil
            go_simp
            refine hK _ _ ?_; clear hK K
            refine wpAny_ready (rs := [23]) (by kernel_rfl) (by simp) ?_
            refine AllReady.cons rfl (fun K hK => ?_) AllReady.nil
            go_simp
            refine hK _ _ ?_; clear hK K
            refine wpAny_done (by kernel_rfl) ?_ _
            go_wp2
            go_roundw
            case rel => exact ⟨c + 1, by go_num, by have := HC.out; omega, by repeat (first | (with_reducible exact hb) | ((with_reducible refine below_grow ?_ ?_); rotate_left; focus (first | omega | (simp [go_sem]; done) | (simp [go_sem]; omega))) | ((with_reducible refine Below.alloc ?_ ?_ _); rotate_left; focus (first | omega | (simp [go_sem]; done) | (simp [go_sem]; omega))) | ((with_reducible refine Below.setCell ?_ ?_ _); rotate_left; focus (first | omega | (simp [go_sem]; done) | (simp [go_sem]; omega))) | (with_reducible refine Below.drew ?_) | (with_reducible refine below_drewN _ ?_))⟩
            case measure => simp [intOf]; have := HC.out; omega
          · go_simp
            refine hK _ _ ?_; clear hK K
            refine wpAny_ready (rs := [16, 20]) (by kernel_rfl) (by simp) ?_
            refine AllReady.cons rfl (fun K hK => ?_) (AllReady.cons rfl (fun K hK => ?_) AllReady.nil)
            · go_simp
              refine hK _ _ ?_; clear hK K
              refine wpAny_ready (rs := [20]) (by kernel_rfl) (by simp) ?_
              refine AllReady.cons rfl (fun K hK => ?_) AllReady.nil
              go_simp
              refine hK _ _ ?_; clear hK K
              refine wpAny_ready (rs := [21]) (by kernel_rfl) (by simp) ?_
              refine AllReady.cons rfl (fun K hK => ?_) AllReady.nil
              go_simp
              go_at_call 13; refine (ST.out _ _ (hEr.below (by repeat (first | (with_reducible exact Below.refl _ _) | ((with_reducible refine below_grow ?_ ?_); rotate_left; focus (first | omega | (simp [go_sem]; done) | (simp [go_sem]; omega))) | ((with_reducible refine Below.alloc ?_ ?_ _); rotate_left; focus (first | omega | (simp [go_sem]; done) | (simp [go_sem]; omega))) | ((with_reducible refine Below.setCell ?_ ?_ _); rotate_left; focus (first | omega | (simp [go_sem]; done) | (simp [go_sem]; omega))) | (with_reducible refine Below.drew ?_) | (with_reducible refine below_drewN _ ?_)))) (sl_new ((grow (wr.alloc (.cells #[.int .u8 (c : Int)] 5)) o1 j1).alloc _) (wr.heap.size + 1 + sz o1 + 1) (by simp [go_sem]) [c, 5, c])).mono ?_; rintro e w2 ⟨rfl, hbel⟩; obtain ⟨o2, j2, rfl⟩ := grow_of_below hbel; clear hbel
              refine hK _ _ ?_; clear hK K
              refine wpAny_ready (rs := [22]) (by kernel_rfl) (by simp) ?_
              refine AllReady.cons rfl (fun K hK => ?_) AllReady.nil
              go_simp
              refine hK _ _ ?_; clear hK K
              refine wpAny_ready (rs := [23]) (by kernel_rfl) (by simp) ?_
              refine AllReady.cons rfl (fun K hK => ?_) AllReady.nil
              go_simp
              refine hK _ _ ?_; clear hK K
              refine wpAny_done (by kernel_rfl) ?_ _
              go_wp2
              go_roundw
              case rel => exact ⟨c + 1, by go_num, by have := HC.out; omega, by repeat (first | (with_reducible exact hb) | ((with_reducible refine below_grow ?_ ?_); rotate_left; focus (first | omega | (simp [go_sem]; done) | (simp [go_sem]; omega))) | ((with_reducible refine Below.alloc ?_ ?_ _); rotate_left; focus (first | omega | (simp [go_sem]; done) | (simp [go_sem]; omega))) | ((with_reducible refine Below.setCell ?_ ?_ _); rotate_left; focus (first | omega | (simp [go_sem]; done) | (simp [go_sem]; omega))) | (with_reducible refine Below.drew ?_) | (with_reducible refine below_drewN _ ?_))⟩
              case measure => simp [intOf]; have := HC.out; omega
            · go_simp
              refine hK _ _ ?_; clear hK K
              refine wpAny_ready (rs := [16]) (by kernel_rfl) (by simp) ?_
              refine AllReady.cons rfl (fun K hK => ?_) AllReady.nil
              go_simp
              refine hK _ _ ?_; clear hK K
              refine wpAny_ready (rs := [21]) (by kernel_rfl) (by simp) ?_
              refine AllReady.cons rfl (fun K hK => ?_) AllReady.nil
              go_simp
              go_at_call 13; refine (ST.out _ _ (hEr.below (by repeat (first | (with_reducible exact Below.refl _ _) | ((with_reducible refine below_grow ?_ ?_); rotate_left; focus (first | omega | (simp [go_sem]; done) | (simp [go_sem]; omega))) | ((with_reducible refine Below.alloc ?_ ?_ _); rotate_left; focus (first | omega | (simp [go_sem]; done) | (simp [go_sem]; omega))) | ((with_reducible refine Below.setCell ?_ ?_ _); rotate_left; focus (first | omega | (simp [go_sem]; done) | (simp [go_sem]; omega))) | (with_reducible refine Below.drew ?_) | (with_reducible refine below_drewN _ ?_)))) (sl_new ((grow (wr.alloc (.cells #[.int .u8 (c : Int)] 5)) o1 j1).alloc _) (wr.heap.size + 1 + sz o1 + 1) (by simp [go_sem]) [c, 5, c])).mono ?_; rintro e w2 ⟨rfl, hbel⟩; obtain ⟨o2, j2, rfl⟩ := grow_of_below hbel; clear hbel
              refine hK _ _ ?_; clear hK K
              refine wpAny_ready (rs := [22]) (by kernel_rfl) (by simp) ?_
              refine AllReady.cons rfl (fun K hK => ?_) AllReady.nil
              go_simp
              refine hK _ _ ?_; clear hK K
              refine wpAny_ready (rs := [23]) (by kernel_rfl) (by simp) ?_
              refine AllReady.cons rfl (fun K hK => ?_) AllReady.nil
              go_simp
              refine hK _ _ ?_; clear hK K
              refine wpAny_done (by kernel_rfl) ?_ _
              go_wp2
              go_roundw
              case rel => exact ⟨c + 1, by go_num, by have := HC.out; omega, by repeat (first | (with_reducible exact hb) | ((with_reducible refine below_grow ?_ ?_); rotate_left; focus (first | omega | (simp [go_sem]; done) | (simp [go_sem]; omega))) | ((with_reducible refine Below.alloc ?_ ?_ _); rotate_left; focus (first | omega | (simp [go_sem]; done) | (simp [go_sem]; omega))) | ((with_reducible refine Below.setCell ?_ ?_ _); rotate_left; focus (first | omega | (simp [go_sem]; done) | (simp [go_sem]; omega))) | (with_reducible refine Below.drew ?_) | (with_reducible refine below_drewN _ ?_))⟩
              case measure => simp [intOf]; have := HC.out; omega
    · obtain ⟨z, hz⟩ : ∃ z : Int, (c : Int) = z := ⟨_, rfl⟩
      rw [hz]
      obtain rfl : z = 256 := by omega
      clear hz
      have HB := Lib.hid hb
      clear hlt hc
      obtain ⟨i0, hi, hz0, hz1, hz2⟩ := info_parts Tryd.infoU
      go_wp2
      go_loopw [3] (fun s3 wr => ∃ n : Nat, s3 = .int .i64 n ∧ n ≤ 8198 ∧ Below w.heap.size w wr) (fun s3 _ => 8192 - (intOf s3).toNat)
      case atStart => exact ⟨0, rfl, by decide, hb⟩
      case round =>
        obtain ⟨n, rfl, hn, hb⟩ := hrel
        have hsz := hb.size
        by_cases hnl : n < 8192
        · have hnl2 : (n : Int) < 8192 := by omega
          have e3 : IntKind.i64.wrap ((n : Int) + 7) = (n : Int) + 7 := IntWalk.i64_in _ (by omega)
          have e4 : IntKind.u64.wrap (n : Int) = (n : Int) := IntWalk.u64_in _ (by omega)
          obtain ⟨q, hq⟩ : ∃ q, n % 4 = q := ⟨_, rfl⟩
          have htm : (n : Int) % 4 = (q : Int) := by omega
          have htm2 : (n : Int).tmod 4 = (q : Int) := by rw [← hq]; rfl
          have e5 : IntKind.i64.wrap (13 * (q : Int)) = 13 * (q : Int) := IntWalk.i64_in _ (by omega)
          have hmn : min (13 * q) 64 = 13 * q := by omega
          obtain ⟨mm, e6, hmm⟩ : ∃ mm : Nat, IntKind.u64.wrap ((n : Int) * 2 ^ (13 * q)) = (mm : Int) ∧ mm < 18446744073709551616 := by
            obtain ⟨x, hx⟩ : ∃ x : Int, (n : Int) * 2 ^ (13 * q) = x := ⟨_, rfl⟩
            rw [hx, IntKind.wrap_u64]
            exact ⟨(x % 18446744073709551616).toNat, by omega, by omega⟩
          have HN := Lib.hid hnl
          clear hq hn hnl
          go_upto_region 16 with fail
          obtain ⟨mo, hmo⟩ : ∃ mo, mm ||| 4503599627370496 = mo := ⟨_, rfl⟩
          have hmo64 : mo < 18446744073709551616 := by rw [← hmo]; exact Nat.or_lt_two_pow (n := 64) hmm (by decide)
          have hor : bits .or .u64 (mm : Int) 4503599627370496 = (mo : Int) := by rw [← hmo]; exact u64_or_nat mm 4503599627370496 hmm (by decide)
          have WT := Lib.hid (ref_write_all mm)
          have LT := Lib.hid (ref_list_all mm)
          have hwl := wrs_len mm
          have hcl := lcs_len mm
          have hc8 := lcs_lt mm
          obtain ⟨ws, hws⟩ : ∃ ws, wrs mm = ws := ⟨_, rfl⟩
          obtain ⟨cs, hcs⟩ : ∃ cs, lcs mm = cs := ⟨_, rfl⟩
          obtain ⟨ce, hce⟩ : ∃ ce, lce mm = ce := ⟨_, rfl⟩
          rw [hws] at hwl
          rw [hcs] at hcl hc8
          simp only [hws, hce] at WT
          simp only [hcs, hce] at LT
          have hc9 : ∀ y, y < 256 → ∀ x ∈ cs ++ [y], x < 256 := fun y hy x hx => by
            rcases List.mem_append.1 hx with h | h
            · exact hc8 x h
            · rw [List.mem_singleton.1 h]; exact hy
          have T1 := Lib.hid (fun (lv : Value) (W : World) => sets_calls mm hmm lv cs hc8 (by omega) ⟨ws.toArray⟩ (by show ws.length < 4294967281; omega) W)
          have T2 := Lib.hid (fun (lv : Value) (W : World) => sets_calls mo hmo64 lv (cs ++ [51]) (hc9 51 (by decide)) (by simp; omega) ⟨(ws ++ [46]).toArray⟩ (by show (ws ++ [46]).length < 4294967281; simp; omega) W)
          have T3 := Lib.hid (fun (lv : Value) (W : World) => sets_calls mm hmm lv (cs ++ [52]) (hc9 52 (by decide)) (by simp; omega) ⟨(46 :: ws).toArray⟩ (by show (46 :: ws).length < 4294967281; simp; omega) W)
          have T4 := Lib.hid (fun (lv : Value) (W : World) => sets_calls mm hmm lv [] (by simp) (by simp) (({ data := ws.toArray } : ByteArray).extract 1 ws.length) (by rw [ByteArray.size_extract]; have : (⟨ws.toArray⟩ : ByteArray).size = ws.length := rfl; omega) W)
          have ad1 := fun W => run_string_add_lists (P := Tryd.prog) (w := W) ws [46] (by omega) (by simp)
          have ad2 := fun W => run_string_add_lists (P := Tryd.prog) (w := W) [46] ws (by simp) (by omega)
          have HCL := Lib.hid hcl
          clear hmo hmo64 hmm hws hcs hce hc8 hc9 hcl
          go_upto_region 17 with (go_at_call 14; refine (WT.out _).mono ?_; rintro e w0 ⟨rfl, hbel⟩; obtain ⟨o0, j0, rfl⟩ := grow_of_below hbel; clear hbel)
          go_upto_region 18 with (go_at_call 15; refine (LT.out _).mono ?_; rintro e wL ⟨v, rfl, hownL, hbelL⟩)
          have hbL : Below w.heap.size w wL := Below.trans (by repeat (first | (with_reducible exact hb) | ((with_reducible refine below_grow ?_ ?_); rotate_left; focus (first | omega | (simp [go_sem]; done) | (simp [go_sem]; omega))) | ((with_reducible refine Below.alloc ?_ ?_ _); rotate_left; focus (first | omega | (simp [go_sem]; done) | (simp [go_sem]; omega))) | ((with_reducible refine Below.setCell ?_ ?_ _); rotate_left; focus (first | omega | (simp [go_sem]; done) | (simp [go_sem]; omega))) | (with_reducible refine Below.drew ?_) | (with_reducible refine below_drewN _ ?_))) (hbelL.mono (by simp [go_sem]; omega))
          have hszL := hbL.size
          have hBw : w.heap.size ≤ (grow wr o0 j0).heap.size := by simp [go_sem]; omega
          have hBL := hbelL.size
          obtain ⟨B, hB⟩ : ∃ B, (grow wr o0 j0).heap.size = B := ⟨_, rfl⟩
          rw [hB] at hownL hBw hBL
          have HEL := Lib.hid (he.below hbL)
          clear hB hbelL
          obtain ⟨r, hr⟩ : ∃ r, n % 5 = r := ⟨_, rfl⟩
          have htr : (n : Int) % 5 = (r : Int) := by omega
          have htr2 : (n : Int).tmod 5 = (r : Int) := by rw [← hr]; rfl
          clear hr
          by_cases hr0 : (r : Int) = 0
          · rw [hr0] at htr htr2
            clear hr0
            by_cases h3 : (3 : Int) < ws.length
            · go_wp2_with (first | (go_at_call_of 13 v; refine (T1.out _ _ HEL.out (sl_own hownL)).mono ?_; rintro e w1 ⟨rfl, hbel1⟩; obtain ⟨o1, j1, rfl⟩ := grow_of_below hbel1; clear hbel1 T1) | (refine wpList_append_keep (by rfl) _ _ rfl B i0 hi hz0 hz1 hz2 v cs.length _ rfl ((own_grow hownL o1 j1).alloc _) (wL.heap.size + sz o1) 51 rfl (blk_at _ _ _ (by simp [go_sem])) (by have := HCL.out; omega) (by simp [go_sem]; omega) ?_; intro v2 w2 hown2 hbel2 hkeep2; have hb2 : Below w.heap.size w w2 := Below.trans (by repeat (first | (with_reducible exact hbL) | ((with_reducible refine below_grow ?_ ?_); rotate_left; focus (first | omega | (simp [go_sem]; done) | (simp [go_sem]; omega))) | ((with_reducible refine Below.alloc ?_ ?_ _); rotate_left; focus (first | omega | (simp [go_sem]; done) | (simp [go_sem]; omega))) | ((with_reducible refine Below.setCell ?_ ?_ _); rotate_left; focus (first | omega | (simp [go_sem]; done) | (simp [go_sem]; omega))) | (with_reducible refine Below.drew ?_) | (with_reducible refine below_drewN _ ?_))) (hbel2.mono hBw); have hs2 := hb2.size; have hk2 := hbel2.size; simp [go_sem] at hk2; clear hbel2 hownL) | (go_at_call_of 13 v2; refine (T2.out _ _ (he.below hb2) (sl_own (n := cs.length + 1) (by simpa using hown2))).mono ?_; rintro e w1 ⟨rfl, hbel1⟩; obtain ⟨o2, j2, rfl⟩ := grow_of_below hbel1; clear hbel1 T2) | (refine wpList_append_keep (by rfl) _ _ rfl B i0 hi hz0 hz1 hz2 v cs.length _ rfl ((own_grow hkeep2 o2 j2).alloc _) (w2.heap.size + sz o2) 52 rfl (blk_at _ _ _ (by simp [go_sem])) (by have := HCL.out; omega) (by simp [go_sem]; omega) ?_; intro v3 w3 hown3 hbel3 hkeep3; have hb3 : Below w.heap.size w w3 := Below.trans (by repeat (first | (with_reducible exact hb2) | ((with_reducible refine below_grow ?_ ?_); rotate_left; focus (first | omega | (simp [go_sem]; done) | (simp [go_sem]; omega))) | ((with_reducible refine Below.alloc ?_ ?_ _); rotate_left; focus (first | omega | (simp [go_sem]; done) | (simp [go_sem]; omega))) | ((with_reducible refine Below.setCell ?_ ?_ _); rotate_left; focus (first | omega | (simp [go_sem]; done) | (simp [go_sem]; omega))) | (with_reducible refine Below.drew ?_) | (with_reducible refine below_drewN _ ?_))) (hbel3.mono hBw); have hs3 := hb3.size; clear hbel3 hkeep3 hkeep2) | (go_at_call_of 13 v3; refine (T3.out _ _ (he.below hb3) (sl_own (n := cs.length + 1) (by simpa using hown3))).mono ?_; rintro e w1 ⟨rfl, hbel1⟩; obtain ⟨o3, j3, rfl⟩ := grow_of_below hbel1; clear hbel1 T3) | (go_at_call 13; refine (T4.out _ _ (he.below (by repeat (first | (with_reducible exact hb3) | ((with_reducible refine below_grow ?_ ?_); rotate_left; focus (first | omega | (simp [go_sem]; done) | (simp [go_sem]; omega))) | ((with_reducible refine Below.alloc ?_ ?_ _); rotate_left; focus (first | omega | (simp [go_sem]; done) | (simp [go_sem]; omega))) | ((with_reducible refine Below.setCell ?_ ?_ _); rotate_left; focus (first | omega | (simp [go_sem]; done) | (simp [go_sem]; omega))) | (with_reducible refine Below.drew ?_) | (with_reducible refine below_drewN _ ?_)))) (.inl ⟨rfl, .inl rfl⟩)).mono ?_; rintro e w1 ⟨rfl, hbel1⟩; obtain ⟨o4, j4, rfl⟩ := grow_of_below hbel1; clear hbel1 T4))
              go_roundw
              case rel => exact ⟨n + 7, by go_num, by have := HN.out; omega, by repeat (first | (with_reducible exact hb3) | ((with_reducible refine below_grow ?_ ?_); rotate_left; focus (first | omega | (simp [go_sem]; done) | (simp [go_sem]; omega))) | ((with_reducible refine Below.alloc ?_ ?_ _); rotate_left; focus (first | omega | (simp [go_sem]; done) | (simp [go_sem]; omega))) | ((with_reducible refine Below.setCell ?_ ?_ _); rotate_left; focus (first | omega | (simp [go_sem]; done) | (simp [go_sem]; omega))) | (with_reducible refine Below.drew ?_) | (with_reducible refine below_drewN _ ?_))⟩
              case measure => simp [intOf]; have := HN.out; omega
            · go_wp2_with (first | (go_at_call_of 13 v; refine (T1.out _ _ HEL.out (sl_own hownL)).mono ?_; rintro e w1 ⟨rfl, hbel1⟩; obtain ⟨o1, j1, rfl⟩ := grow_of_below hbel1; clear hbel1 T1) | (refine wpList_append_keep (by rfl) _ _ rfl B i0 hi hz0 hz1 hz2 v cs.length _ rfl ((own_grow hownL o1 j1).alloc _) (wL.heap.size + sz o1) 51 rfl (blk_at _ _ _ (by simp [go_sem])) (by have := HCL.out; omega) (by simp [go_sem]; omega) ?_; intro v2 w2 hown2 hbel2 hkeep2; have hb2 : Below w.heap.size w w2 := Below.trans (by repeat (first | (with_reducible exact hbL) | ((with_reducible refine below_grow ?_ ?_); rotate_left; focus (first | omega | (simp [go_sem]; done) | (simp [go_sem]; omega))) | ((with_reducible refine Below.alloc ?_ ?_ _); rotate_left; focus (first | omega | (simp [go_sem]; done) | (simp [go_sem]; omega))) | ((with_reducible refine Below.setCell ?_ ?_ _); rotate_left; focus (first | omega | (simp [go_sem]; done) | (simp [go_sem]; omega))) | (with_reducible refine Below.drew ?_) | (with_reducible refine below_drewN _ ?_))) (hbel2.mono hBw); have hs2 := hb2.size; have hk2 := hbel2.size; simp [go_sem] at hk2; clear hbel2 hownL) | (go_at_call_of 13 v2; refine (T2.out _ _ (he.below hb2) (sl_own (n := cs.length + 1) (by simpa using hown2))).mono ?_; rintro e w1 ⟨rfl, hbel1⟩; obtain ⟨o2, j2, rfl⟩ := grow_of_below hbel1; clear hbel1 T2) | (refine wpList_append_keep (by rfl) _ _ rfl B i0 hi hz0 hz1 hz2 v cs.length _ rfl ((own_grow hkeep2 o2 j2).alloc _) (w2.heap.size + sz o2) 52 rfl (blk_at _ _ _ (by simp [go_sem])) (by have := HCL.out; omega) (by simp [go_sem]; omega) ?_; intro v3 w3 hown3 hbel3 hkeep3; have hb3 : Below w.heap.size w w3 := Below.trans (by repeat (first | (with_reducible exact hb2) | ((with_reducible refine below_grow ?_ ?_); rotate_left; focus (first | omega | (simp [go_sem]; done) | (simp [go_sem]; omega))) | ((with_reducible refine Below.alloc ?_ ?_ _); rotate_left; focus (first | omega | (simp [go_sem]; done) | (simp [go_sem]; omega))) | ((with_reducible refine Below.setCell ?_ ?_ _); rotate_left; focus (first | omega | (simp [go_sem]; done) | (simp [go_sem]; omega))) | (with_reducible refine Below.drew ?_) | (with_reducible refine below_drewN _ ?_))) (hbel3.mono hBw); have hs3 := hb3.size; clear hbel3 hkeep3 hkeep2) | (go_at_call_of 13 v3; refine (T3.out _ _ (he.below hb3) (sl_own (n := cs.length + 1) (by simpa using hown3))).mono ?_; rintro e w1 ⟨rfl, hbel1⟩; obtain ⟨o3, j3, rfl⟩ := grow_of_below hbel1; clear hbel1 T3) | (go_at_call 13; refine (T4.out _ _ (he.below (by repeat (first | (with_reducible exact hb3) | ((with_reducible refine below_grow ?_ ?_); rotate_left; focus (first | omega | (simp [go_sem]; done) | (simp [go_sem]; omega))) | ((with_reducible refine Below.alloc ?_ ?_ _); rotate_left; focus (first | omega | (simp [go_sem]; done) | (simp [go_sem]; omega))) | ((with_reducible refine Below.setCell ?_ ?_ _); rotate_left; focus (first | omega | (simp [go_sem]; done) | (simp [go_sem]; omega))) | (with_reducible refine Below.drew ?_) | (with_reducible refine below_drewN _ ?_)))) (.inl ⟨rfl, .inl rfl⟩)).mono ?_; rintro e w1 ⟨rfl, hbel1⟩; obtain ⟨o4, j4, rfl⟩ := grow_of_below hbel1; clear hbel1 T4))
              go_roundw
              case rel => exact ⟨n + 7, by go_num, by have := HN.out; omega, by repeat (first | (with_reducible exact hb3) | ((with_reducible refine below_grow ?_ ?_); rotate_left; focus (first | omega | (simp [go_sem]; done) | (simp [go_sem]; omega))) | ((with_reducible refine Below.alloc ?_ ?_ _); rotate_left; focus (first | omega | (simp [go_sem]; done) | (simp [go_sem]; omega))) | ((with_reducible refine Below.setCell ?_ ?_ _); rotate_left; focus (first | omega | (simp [go_sem]; done) | (simp [go_sem]; omega))) | (with_reducible refine Below.drew ?_) | (with_reducible refine below_drewN _ ?_))⟩
              case measure => simp [intOf]; have := HN.out; omega
          · have hr1 : ((r : Int) == 0) = false := beq_eq_false_iff_ne.2 hr0
            go_wp2_with (first | (go_at_call_of 13 v; refine (T1.out _ _ HEL.out (sl_own hownL)).mono ?_; rintro e w1 ⟨rfl, hbel1⟩; obtain ⟨o1, j1, rfl⟩ := grow_of_below hbel1; clear hbel1 T1))
            go_roundw
            case rel => exact ⟨n + 7, by go_num, by have := HN.out; omega, by repeat (first | (with_reducible exact hbL) | ((with_reducible refine below_grow ?_ ?_); rotate_left; focus (first | omega | (simp [go_sem]; done) | (simp [go_sem]; omega))) | ((with_reducible refine Below.alloc ?_ ?_ _); rotate_left; focus (first | omega | (simp [go_sem]; done) | (simp [go_sem]; omega))) | ((with_reducible refine Below.setCell ?_ ?_ _); rotate_left; focus (first | omega | (simp [go_sem]; done) | (simp [go_sem]; omega))) | (with_reducible refine Below.drew ?_) | (with_reducible refine below_drewN _ ?_))⟩
            case measure => simp [intOf]; have := HN.out; omega
        · have hnl2 : ¬ (n : Int) < 8192 := by omega
          clear hnl hn
          go_upto_region 20 with fail
          obtain ⟨b, hbq⟩ : ∃ b, wr.heap.size = b := ⟨_, rfl⟩
          have hV := blk_new wr #[.string ⟨#[]⟩, .string ⟨#[46]⟩, .string ⟨#[46, 46]⟩, .string ⟨#[46, 46, 46]⟩, .string ⟨#[46, 46, 46, 46]⟩, .string ⟨#[65, 46, 46, 46, 65]⟩, .string ⟨#[65, 65, 46, 46, 46]⟩, .string ⟨#[75, 65, 46, 46, 46]⟩, .string ⟨#[65, 46, 75, 46, 81, 46, 74]⟩, .string ⟨#[65, 75, 81, 74, 84, 57, 56, 55, 54, 53, 52, 51, 50, 46, 46, 46]⟩, .string ⟨#[65, 46, 46]⟩, .string ⟨#[49, 46, 46, 46]⟩, .string ⟨#[49, 48, 46, 46, 46]⟩, .string ⟨#[97, 46, 46, 46]⟩, .string ⟨#[65, 46, 32, 46, 46]⟩, .string ⟨#[46, 46, 46, 50]⟩] 9
          have hVB : Below w.heap.size w (wr.alloc (.cells #[.string ⟨#[]⟩, .string ⟨#[46]⟩, .string ⟨#[46, 46]⟩, .string ⟨#[46, 46, 46]⟩, .string ⟨#[46, 46, 46, 46]⟩, .string ⟨#[65, 46, 46, 46, 65]⟩, .string ⟨#[65, 65, 46, 46, 46]⟩, .string ⟨#[75, 65, 46, 46, 46]⟩, .string ⟨#[65, 46, 75, 46, 81, 46, 74]⟩, .string ⟨#[65, 75, 81, 74, 84, 57, 56, 55, 54, 53, 52, 51, 50, 46, 46, 46]⟩, .string ⟨#[65, 46, 46]⟩, .string ⟨#[49, 46, 46, 46]⟩, .string ⟨#[49, 48, 46, 46, 46]⟩, .string ⟨#[97, 46, 46, 46]⟩, .string ⟨#[65, 46, 32, 46, 46]⟩, .string ⟨#[46, 46, 46, 50]⟩] 9)) := by repeat (first | (with_reducible exact hb) | ((with_reducible refine below_grow ?_ ?_); rotate_left; focus (first | omega | (simp [go_sem]; done) | (simp [go_sem]; omega))) | ((with_reducible refine Below.alloc ?_ ?_ _); rotate_left; focus (first | omega | (simp [go_sem]; done) | (simp [go_sem]; omega))) | ((with_reducible refine Below.setCell ?_ ?_ _); rotate_left; focus (first | omega | (simp [go_sem]; done) | (simp [go_sem]; omega))) | (with_reducible refine Below.drew ?_) | (with_reducible refine below_drewN _ ?_))
          have hk16 : ∀ k : Nat, k < 16 → ∃ s : ByteArray, (#[.string ⟨#[]⟩, .string ⟨#[46]⟩, .string ⟨#[46, 46]⟩, .string ⟨#[46, 46, 46]⟩, .string ⟨#[46, 46, 46, 46]⟩, .string ⟨#[65, 46, 46, 46, 65]⟩, .string ⟨#[65, 65, 46, 46, 46]⟩, .string ⟨#[75, 65, 46, 46, 46]⟩, .string ⟨#[65, 46, 75, 46, 81, 46, 74]⟩, .string ⟨#[65, 75, 81, 74, 84, 57, 56, 55, 54, 53, 52, 51, 50, 46, 46, 46]⟩, .string ⟨#[65, 46, 46]⟩, .string ⟨#[49, 46, 46, 46]⟩, .string ⟨#[49, 48, 46, 46, 46]⟩, .string ⟨#[97, 46, 46, 46]⟩, .string ⟨#[65, 46, 32, 46, 46]⟩, .string ⟨#[46, 46, 46, 50]⟩] : Array Value)[k]? = some (.string s) ∧ s.size < 4294967281 := fun k hk => match k, hk with
          | 0, _ => ⟨_, rfl, by decide⟩
          | 1, _ => ⟨_, rfl, by decide⟩
          | 2, _ => ⟨_, rfl, by decide⟩
          | 3, _ => ⟨_, rfl, by decide⟩
          | 4, _ => ⟨_, rfl, by decide⟩
          | 5, _ => ⟨_, rfl, by decide⟩
          | 6, _ => ⟨_, rfl, by decide⟩
          | 7, _ => ⟨_, rfl, by decide⟩
          | 8, _ => ⟨_, rfl, by decide⟩
          | 9, _ => ⟨_, rfl, by decide⟩
          | 10, _ => ⟨_, rfl, by decide⟩
          | 11, _ => ⟨_, rfl, by decide⟩
          | 12, _ => ⟨_, rfl, by decide⟩
          | 13, _ => ⟨_, rfl, by decide⟩
          | 14, _ => ⟨_, rfl, by decide⟩
          | 15, _ => ⟨_, rfl, by decide⟩
          | k + 16, h => absurd h (by omega)
          have HK := Lib.hid hk16
          have T5 := Lib.hid (fun (s : ByteArray) (hs : s.size < 4294967281) (W : World) (hE : Env W) => sets_calls 0 (by decide) (.slice none 0 0) [] (by simp) (by simp) s hs W hE (.inl ⟨rfl, .inl rfl⟩))
          have T6 := Lib.hid (fun (W : World) (hE : Env W) => sets_calls 4503599627370495 (by decide) (.slice none 0 0) [] (by simp) (by simp) ⟨#[]⟩ (by decide) W hE (.inl ⟨rfl, .inl rfl⟩))
          have T7 := Lib.hid (fun (W : World) (hE : Env W) => sets_calls 4503599627370496 (by decide) (.slice none 0 0) [] (by simp) (by simp) ⟨#[]⟩ (by decide) W hE (.inl ⟨rfl, .inl rfl⟩))
          have T8 := Lib.hid (fun (W : World) (hE : Env W) => sets_calls 18446744073709551615 (by decide) (.slice none 0 0) [] (by simp) (by simp) ⟨#[]⟩ (by decide) W hE (.inl ⟨rfl, .inl rfl⟩))
          rw [show ((4503599627370495 : Nat) : Int) = 4503599627370495 from rfl] at T6
          rw [show ((4503599627370496 : Nat) : Int) = 4503599627370496 from rfl] at T7
          rw [show ((18446744073709551615 : Nat) : Int) = 18446744073709551615 from rfl] at T8
          clear hk16
          obtain ⟨C, hC, hVC⟩ : ∃ C : Array Value, C = #[.string ⟨#[]⟩, .string ⟨#[46]⟩, .string ⟨#[46, 46]⟩, .string ⟨#[46, 46, 46]⟩, .string ⟨#[46, 46, 46, 46]⟩, .string ⟨#[65, 46, 46, 46, 65]⟩, .string ⟨#[65, 65, 46, 46, 46]⟩, .string ⟨#[75, 65, 46, 46, 46]⟩, .string ⟨#[65, 46, 75, 46, 81, 46, 74]⟩, .string ⟨#[65, 75, 81, 74, 84, 57, 56, 55, 54, 53, 52, 51, 50, 46, 46, 46]⟩, .string ⟨#[65, 46, 46]⟩, .string ⟨#[49, 46, 46, 46]⟩, .string ⟨#[49, 48, 46, 46, 46]⟩, .string ⟨#[97, 46, 46, 46]⟩, .string ⟨#[65, 46, 32, 46, 46]⟩, .string ⟨#[46, 46, 46, 50]⟩] ∧ blk (wr.alloc (.cells #[.string ⟨#[]⟩, .string ⟨#[46]⟩, .string ⟨#[46, 46]⟩, .string ⟨#[46, 46, 46]⟩, .string ⟨#[46, 46, 46, 46]⟩, .string ⟨#[65, 46, 46, 46, 65]⟩, .string ⟨#[65, 65, 46, 46, 46]⟩, .string ⟨#[75, 65, 46, 46, 46]⟩, .string ⟨#[65, 46, 75, 46, 81, 46, 74]⟩, .string ⟨#[65, 75, 81, 74, 84, 57, 56, 55, 54, 53, 52, 51, 50, 46, 46, 46]⟩, .string ⟨#[65, 46, 46]⟩, .string ⟨#[49, 46, 46, 46]⟩, .string ⟨#[49, 48, 46, 46, 46]⟩, .string ⟨#[97, 46, 46, 46]⟩, .string ⟨#[65, 46, 32, 46, 46]⟩, .string ⟨#[46, 46, 46, 50]⟩] 9)) wr.heap.size C 9 := ⟨_, rfl, hV⟩
          rw [← hC] at HK
          have hszC : C.size = 16 := by rw [hC]; rfl
          clear hC hV hbq
          go_wp2
          go_loopw [124] (fun s124 wi => ∃ k : Nat, s124 = .int .i64 k ∧ k ≤ 16 ∧ blk wi wr.heap.size C 9 ∧ Below w.heap.size w wi) (fun s124 _ => 16 - (intOf s124).toNat)
          case atStart => exact ⟨0, rfl, by decide, hVC, hVB⟩
          case round =>
            obtain ⟨k, rfl, hk, hbk, hb⟩ := hrel
            have hszk := hb.size
            have hltb := blk_lt hbk
            by_cases hkl : k < 16
            · have hkl2 : (k : Int) < 16 := by omega
              have e3 : IntKind.i64.wrap ((k : Int) + 1) = (k : Int) + 1 := IntWalk.i64_in _ (by omega)
              obtain ⟨s, hs1, hs2⟩ := HK.out k hkl
              have k0 := (blk_cell hbk k).trans hs1
              have HX := Lib.hid (And.intro hkl hs2)
              clear hkl hk hs2 hs1
              go_wp2_with (go_at_call 13; refine (T5.out s HX.out.2 _ (he.below hb)).mono ?_; rintro e w1 ⟨rfl, hbel⟩; obtain ⟨o1, j1, rfl⟩ := grow_of_below hbel; clear hbel)
              go_roundw
              case rel => exact ⟨k + 1, by go_num, by have := HX.out; omega, blk_grow hbk _ _, by repeat (first | (with_reducible exact hb) | ((with_reducible refine below_grow ?_ ?_); rotate_left; focus (first | omega | (simp [go_sem]; done) | (simp [go_sem]; omega))) | ((with_reducible refine Below.alloc ?_ ?_ _); rotate_left; focus (first | omega | (simp [go_sem]; done) | (simp [go_sem]; omega))) | ((with_reducible refine Below.setCell ?_ ?_ _); rotate_left; focus (first | omega | (simp [go_sem]; done) | (simp [go_sem]; omega))) | (with_reducible refine Below.drew ?_) | (with_reducible refine below_drewN _ ?_))⟩
              case measure => simp [intOf]; have := HX.out; omega
            · obtain ⟨z, hz⟩ : ∃ z : Int, (k : Int) = z := ⟨_, rfl⟩
              rw [hz]
              obtain rfl : z = 16 := by omega
              clear hz hkl hk hbk
              go_wp2_with (first | (go_at_call_of 13 (Value.int .u64 4503599627370495); refine (T6.out _ (he.below (by repeat (first | (with_reducible exact hb) | ((with_reducible refine below_grow ?_ ?_); rotate_left; focus (first | omega | (simp [go_sem]; done) | (simp [go_sem]; omega))) | ((with_reducible refine Below.alloc ?_ ?_ _); rotate_left; focus (first | omega | (simp [go_sem]; done) | (simp [go_sem]; omega))) | ((with_reducible refine Below.setCell ?_ ?_ _); rotate_left; focus (first | omega | (simp [go_sem]; done) | (simp [go_sem]; omega))) | (with_reducible refine Below.drew ?_) | (with_reducible refine below_drewN _ ?_))))).mono ?_; rintro e w1 ⟨rfl, hbel⟩; obtain ⟨o1, j1, rfl⟩ := grow_of_below hbel; clear hbel T6) | (go_at_call_of 13 (Value.int .u64 4503599627370496); refine (T7.out _ (he.below (by repeat (first | (with_reducible exact hb) | ((with_reducible refine below_grow ?_ ?_); rotate_left; focus (first | omega | (simp [go_sem]; done) | (simp [go_sem]; omega))) | ((with_reducible refine Below.alloc ?_ ?_ _); rotate_left; focus (first | omega | (simp [go_sem]; done) | (simp [go_sem]; omega))) | ((with_reducible refine Below.setCell ?_ ?_ _); rotate_left; focus (first | omega | (simp [go_sem]; done) | (simp [go_sem]; omega))) | (with_reducible refine Below.drew ?_) | (with_reducible refine below_drewN _ ?_))))).mono ?_; rintro e w1 ⟨rfl, hbel⟩; obtain ⟨o2, j2, rfl⟩ := grow_of_below hbel; clear hbel T7) | (go_at_call_of 13 (Value.int .u64 18446744073709551615); refine (T8.out _ (he.below (by repeat (first | (with_reducible exact hb) | ((with_reducible refine below_grow ?_ ?_); rotate_left; focus (first | omega | (simp [go_sem]; done) | (simp [go_sem]; omega))) | ((with_reducible refine Below.alloc ?_ ?_ _); rotate_left; focus (first | omega | (simp [go_sem]; done) | (simp [go_sem]; omega))) | ((with_reducible refine Below.setCell ?_ ?_ _); rotate_left; focus (first | omega | (simp [go_sem]; done) | (simp [go_sem]; omega))) | (with_reducible refine Below.drew ?_) | (with_reducible refine below_drewN _ ?_))))).mono ?_; rintro e w1 ⟨rfl, hbel⟩; obtain ⟨o3, j3, rfl⟩ := grow_of_below hbel; clear hbel T8) | (go_at_call 12; refine (awake_calls _ (he.below (by repeat (first | (with_reducible exact hb) | ((with_reducible refine below_grow ?_ ?_); rotate_left; focus (first | omega | (simp [go_sem]; done) | (simp [go_sem]; omega))) | ((with_reducible refine Below.alloc ?_ ?_ _); rotate_left; focus (first | omega | (simp [go_sem]; done) | (simp [go_sem]; omega))) | ((with_reducible refine Below.setCell ?_ ?_ _); rotate_left; focus (first | omega | (simp [go_sem]; done) | (simp [go_sem]; omega))) | (with_reducible refine Below.drew ?_) | (with_reducible refine below_drewN _ ?_))))).mono ?_; rintro e w1 ⟨rfl, hbel⟩; obtain ⟨o4, j4, rfl⟩ := grow_of_below hbel; clear hbel))
              go_ret
              exact ⟨rfl, by repeat (first | (with_reducible exact hb) | ((with_reducible refine below_grow ?_ ?_); rotate_left; focus (first | omega | (simp [go_sem]; done) | (simp [go_sem]; omega))) | ((with_reducible refine Below.alloc ?_ ?_ _); rotate_left; focus (first | omega | (simp [go_sem]; done) | (simp [go_sem]; omega))) | ((with_reducible refine Below.setCell ?_ ?_ _); rotate_left; focus (first | omega | (simp [go_sem]; done) | (simp [go_sem]; omega))) | (with_reducible refine Below.drew ?_) | (with_reducible refine below_drewN _ ?_))⟩
end Go.Proofs.YtcfkcfbgnciccaaDoor
