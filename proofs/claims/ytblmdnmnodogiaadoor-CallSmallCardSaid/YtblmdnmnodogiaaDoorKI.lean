/- CallSmall: the loops over all pairs of numbers. -/
import Derived.Test.YtblmdnmnodogiaaDoorKU
import Derived.Test.YtblmdnmnodogiaaDoorKX
namespace Go.Proofs.YtblmdnmnodogiaaDoor
open Go.RowKit

theorem conv_any (W : World) (bs : List UInt8) (g n : Nat) (hg : g = W.heap.size) (hn : n = bs.length) (cs : Array Value) (hcs : cs = (bs.map fun b => Value.int .u8 b.toNat).toArray) : (convert 24 9 (.slice (some ⟨g, 0, none⟩) n n)).run Tryd.prog (W.alloc (.cells cs 5)) = .ok (strv bs) (W.alloc (.cells cs 5)) := by
  subst hg hn hcs
  refine run_convert_bytes_back _ 24 9 5 ⟨W.heap.size, 0, none⟩ bs.length bs Tryd.underlying24 Tryd.underlying5 Tryd.underlying9 fun j hj => ?_
  rw [show (⟨W.heap.size, 0, none⟩ : Addr).add j = ⟨W.heap.size, j, none⟩ by unfold Addr.add; split <;> simp_all, blk_cell (blk_new _ _ _), List.getElem?_toArray, List.getElem?_map, List.getElem?_eq_getElem hj]
  rfl
theorem conv_two (W : World) (a b : UInt8) (g : Nat) (hg : g = W.heap.size) : (convert 24 9 (.slice (some ⟨g, 0, none⟩) 2 2)).run Tryd.prog (W.alloc (.cells #[.int .u8 a.toNat, .int .u8 b.toNat] 5)) = .ok (strv [a, b]) (W.alloc (.cells #[.int .u8 a.toNat, .int .u8 b.toNat] 5)) :=
  conv_any W [a, b] g 2 hg rfl _ rfl
theorem texts_at (v : Value) (xs : List Nat) (l : List UInt8) (h8 : ∀ x ∈ xs, x < 256) (hn : xs.length ≤ 1000) (hl : l.length ≤ 100000) {w W : World} (he : Env w) (hb : Below w.heap.size w W) (hS : SlB W v xs) :
    Calls Tryd.prog 12 #[v, strv l] W fun e w' => e = .returned (.bool true) ∧ Below w.heap.size w w' :=
  (texts_calls v xs l h8 hn hl W hS (he.below hb)).mono fun _ _ h => ⟨h.1, hb.trans (h.2.mono hb.size)⟩
theorem tells_at (c d : Nat) (hc : c < 256) (hd : d < 256) {w W : World} (he : Env w) (hb : Below w.heap.size w W) : Calls Tryd.prog 10 #[.int .u8 c, .int .u8 d] W fun e w' => e = .returned (.bool true) ∧ Below w.heap.size w w' :=
  (tells_calls c d hc hd W (he.below hb)).mono fun _ _ h => ⟨h.1, hb.trans (h.2.mono hb.size)⟩
theorem texts_two (b e : UInt8) {w W : World} (he : Env w) (hb : Below w.heap.size w W) :
    Calls Tryd.prog 12 #[.slice (some ⟨W.heap.size, 0, none⟩) 1 1, strv [b, e]] ((W.alloc (.cells #[.int .u8 b.toNat] 5)).alloc (.cells #[.int .u8 b.toNat, .int .u8 e.toNat] 5)) fun e w' => e = .returned (.bool true) ∧ Below w.heap.size w w' := by
  have hs := hb.size
  refine texts_at _ [b.toNat] [b, e] (by simp; exact b.toNat_lt) (by simp) (by simp) he (by repeat (first | (with_reducible exact hb) | ((with_reducible refine below_grow ?_ ?_); rotate_left; focus (first | omega | (simp [go_sem]; done) | (simp [go_sem]; omega))) | ((with_reducible refine Below.alloc ?_ ?_ _); rotate_left; focus (first | omega | (simp [go_sem]; done) | (simp [go_sem]; omega))) | ((with_reducible refine Below.setCell ?_ ?_ _); rotate_left; focus (first | omega | (simp [go_sem]; done) | (simp [go_sem]; omega))) | (with_reducible refine Below.drew ?_) | (with_reducible refine below_drewN _ ?_))) ?_
  have S1 : SlB (W.alloc (.cells #[.int .u8 b.toNat] 5)) (.slice (some ⟨W.heap.size, 0, none⟩) 1 1) [b.toNat] := slb_new W [b.toNat] _ rfl
  exact slb_below S1 (by repeat (first | (with_reducible exact Below.refl _ _) | ((with_reducible refine below_grow ?_ ?_); rotate_left; focus (first | omega | (simp [go_sem]; done) | (simp [go_sem]; omega))) | ((with_reducible refine Below.alloc ?_ ?_ _); rotate_left; focus (first | omega | (simp [go_sem]; done) | (simp [go_sem]; omega))) | ((with_reducible refine Below.setCell ?_ ?_ _); rotate_left; focus (first | omega | (simp [go_sem]; done) | (simp [go_sem]; omega))) | (with_reducible refine Below.drew ?_) | (with_reducible refine below_drewN _ ?_)))
theorem texts_three (b : UInt8) (a : List UInt8) (ha : a.length ≤ 100) {w W : World} (he : Env w) (hb : Below w.heap.size w W) :
    Calls Tryd.prog 12 #[.slice (some ⟨W.heap.size, 0, none⟩) 3 3, strv a] (W.alloc (.cells #[.int .u8 3, .int .u8 b.toNat, .int .u8 0] 5)) fun e w' => e = .returned (.bool true) ∧ Below W.heap.size W w' := by
  have hs := hb.size
  have S1 : SlB (W.alloc (.cells #[.int .u8 3, .int .u8 b.toNat, .int .u8 0] 5)) (.slice (some ⟨W.heap.size, 0, none⟩) 3 3) [3, b.toNat, 0] := slb_new W [3, b.toNat, 0] _ rfl
  refine (texts_calls _ [3, b.toNat, 0] a (by simp; exact b.toNat_lt) (by simp) (by omega) _ S1 (he.below (by repeat (first | (with_reducible exact hb) | ((with_reducible refine below_grow ?_ ?_); rotate_left; focus (first | omega | (simp [go_sem]; done) | (simp [go_sem]; omega))) | ((with_reducible refine Below.alloc ?_ ?_ _); rotate_left; focus (first | omega | (simp [go_sem]; done) | (simp [go_sem]; omega))) | ((with_reducible refine Below.setCell ?_ ?_ _); rotate_left; focus (first | omega | (simp [go_sem]; done) | (simp [go_sem]; omega))) | (with_reducible refine Below.drew ?_) | (with_reducible refine below_drewN _ ?_))))).mono fun e w' h => ⟨h.1, ?_⟩
  exact (show Below W.heap.size W _ by repeat (first | (with_reducible exact Below.refl _ _) | ((with_reducible refine below_grow ?_ ?_); rotate_left; focus (first | omega | (simp [go_sem]; done) | (simp [go_sem]; omega))) | ((with_reducible refine Below.alloc ?_ ?_ _); rotate_left; focus (first | omega | (simp [go_sem]; done) | (simp [go_sem]; omega))) | ((with_reducible refine Below.setCell ?_ ?_ _); rotate_left; focus (first | omega | (simp [go_sem]; done) | (simp [go_sem]; omega))) | (with_reducible refine Below.drew ?_) | (with_reducible refine below_drewN _ ?_))).trans (h.2.mono (by simp))
theorem make_n (n : Nat) (hn : n ≤ 1000) (W : World) : ∃ w', (Instr.makeSlice 24 (.int .i64 n) (.int .i64 n)).run Tryd.prog W = .ok (.slice (some ⟨W.heap.size, 0, none⟩) n n) w' ∧ w'.ownsRow W.heap.size 5 1 (.slice (some ⟨W.heap.size, 0, none⟩) n n) n ((List.replicate n 0).map u8v) ∧ Below W.heap.size W w' := by
  obtain ⟨i0, hi, hz0, hz1, hz2⟩ := info_parts Tryd.infoU
  obtain ⟨w', h1, h2, h3⟩ := run_makeSlice_full (P := Tryd.prog) (w := W) W.heap.size 24 5 i0 (.int .u8 0) 1 Tryd.underlying24 hi hz0 hz1 .i64 .i64 n (by omega) (by rw [hz2]; omega) (by unfold maxLen; omega) (Nat.le_refl _)
  refine ⟨w', h1, ?_, (Below.refl _ W).grown h3 (Nat.le_refl _) (fun k e => by cases e)⟩
  rw [show (Value.int .u8 0).cells = #[Value.int .u8 0] from rfl, Nat.mul_one, toList_madeCells_one] at h2
  rw [List.map_replicate]
  exact h2
/-- The seven strings about a byte. -/
def ws7 (b : UInt8) : List (List UInt8) := [[49, 78, b], [b, 78, 84], [88, b, 88], [80, b, 80], [55, b, 84], [80, 32, 80, b], [b]]
theorem ws7_len (b : UInt8) : ∀ a ∈ ws7 b, a.length ≤ 100 := by
  intro a ha
  simp only [ws7, List.mem_cons, List.not_mem_nil, or_false] at ha
  rcases ha with rfl | rfl | rfl | rfl | rfl | rfl | rfl <;> simp
theorem u8_of (c : Nat) (h : c < 256) : ∃ b : UInt8, b.toNat = c := ⟨UInt8.ofNat c, by rw [UInt8.toNat_ofNat', Nat.mod_eq_of_lt (by omega)]⟩
set_option maxRecDepth 100000 in
set_option maxHeartbeats 8000000 in
theorem callSmall_walk (w : World) (he : Env w) : Calls Tryd.prog 5 #[] w fun e w' => e = .returned (.bool true) ∧ Below w.heap.size w w' := by
  have HE := Lib.hid he
  clear he
  go_enter Tryd.func5, Tryd.ntmps5
  go_wp2
  go_loopw [1, 2, 4] (fun s1 _ _ wr => ∃ c : Nat, s1 = .int .i64 c ∧ c ≤ 256 ∧ Below w.heap.size w wr) (fun s1 _ _ _ => 256 - (intOf s1).toNat)
  case atStart => exact ⟨0, rfl, by decide, Below.refl _ _⟩
  case round =>
    obtain ⟨c, rfl, hc, cb⟩ := hrel
    by_cases hlt : c < 256
    · have hlt2 : (c : Int) < 256 := by omega
      have u1 : IntKind.i64.wrap ((c : Int) + 1) = (c : Int) + 1 := IntWalk.i64_in _ (by omega)
      have u2 : IntKind.u8.wrap (c : Int) = c := u8_wrap (by omega) (by omega)
      obtain ⟨b, rfl⟩ := u8_of c hlt
      go_upto_region 5 with fail
      go_wp2
      go_loopw [2] (fun s2 wq => ∃ d : Nat, s2 = .int .i64 d ∧ d ≤ 256 ∧ Below w.heap.size w wq) (fun s2 _ => 256 - (intOf s2).toNat)
      case atStart => exact ⟨0, rfl, by decide, cb⟩
      case round =>
        clear cb
        obtain ⟨d, rfl, hd, cq⟩ := hrel
        by_cases hltd : d < 256
        · have hltd2 : (d : Int) < 256 := by omega
          have v1 : IntKind.i64.wrap ((d : Int) + 1) = (d : Int) + 1 := IntWalk.i64_in _ (by omega)
          have v2 : IntKind.u8.wrap (d : Int) = d := u8_wrap (by omega) (by omega)
          obtain ⟨e, rfl⟩ := u8_of d hltd
          have T := Lib.hid (fun W (hb : Below w.heap.size w W) => tells_at b.toNat e.toNat hlt hltd HE.out hb)
          have CV := fun (W : World) (g : Nat) (hg : g = W.heap.size) => conv_two W b e g hg
          have CQ := Lib.hid cq
          clear cq
          by_cases h1 : b.toNat < 45
          · have h1' : (b.toNat : Int) < 45 := by omega
            go_upto_region 9 with (go_at_call 10; refine (T.out _ CQ.out).mono ?_; rintro x w8 ⟨rfl, hb8⟩)
            have X := Lib.hid (texts_two b e HE.out hb8)
            go_wp2_with (go_at_call 12; refine X.out.mono ?_; rintro x w9 ⟨rfl, hb9⟩)
            go_roundw
            case rel => exact ⟨e.toNat + 1, by go_num, by omega, hb9⟩
            case measure => simp [intOf]; omega
          · have h1' : ¬ (b.toNat : Int) < 45 := by omega
            by_cases h2 : e.toNat < 45
            · have h2' : (e.toNat : Int) < 45 := by omega
              go_upto_region 9 with (go_at_call 10; refine (T.out _ CQ.out).mono ?_; rintro x w8 ⟨rfl, hb8⟩)
              have X := Lib.hid (texts_two b e HE.out hb8)
              go_wp2_with (go_at_call 12; refine X.out.mono ?_; rintro x w9 ⟨rfl, hb9⟩)
              go_roundw
              case rel => exact ⟨e.toNat + 1, by go_num, by omega, hb9⟩
              case measure => simp [intOf]; omega
            · have h2' : ¬ (e.toNat : Int) < 45 := by omega
              have X := Lib.hid (texts_two b e HE.out CQ.out)
              go_wp2_with (go_at_call 12; refine X.out.mono ?_; rintro x w9 ⟨rfl, hb9⟩)
              go_roundw
              case rel => exact ⟨e.toNat + 1, by go_num, by omega, hb9⟩
              case measure => simp [intOf]; omega
        · have hnd : ¬ (d : Int) < 256 := by omega
          have CV := fun (W : World) (g : Nat) (hg : g = W.heap.size) => conv_one W b g hg
          have A1 := add_strv [49, 78] [b] (by decide) (by simp)
          have A2 := add_strv [b] [78, 84] (by simp) (by decide)
          have A3 := add_strv [88] [b] (by decide) (by simp)
          have A4 := add_strv [88, b] [88] (by simp) (by decide)
          have A5 := add_strv [80] [b] (by decide) (by simp)
          have A6 := add_strv [80, b] [80] (by simp) (by decide)
          have A7 := add_strv [55] [b] (by decide) (by simp)
          have A8 := add_strv [55, b] [84] (by simp) (by decide)
          have A9 := add_strv [80, 32, 80] [b] (by decide) (by simp)
          have B1 := add_op [49, 78] [b] (by decide) (by simp)
          have B2 := add_op [b] [78, 84] (by simp) (by decide)
          have B3 := add_op [88] [b] (by decide) (by simp)
          have B4 := add_op [88, b] [88] (by simp) (by decide)
          have B5 := add_op [80] [b] (by decide) (by simp)
          have B6 := add_op [80, b] [80] (by simp) (by decide)
          have B7 := add_op [55] [b] (by decide) (by simp)
          have B8 := add_op [55, b] [84] (by simp) (by decide)
          have B9 := add_op [80, 32, 80] [b] (by decide) (by simp)
          have hsq := cq.size
          go_upto_region 12 with fail
          have z0 : blk ((((((((wr.alloc (.cells #[.int .u8 b.toNat] 5)).alloc (.cells #[.int .u8 b.toNat] 5)).alloc (.cells #[.int .u8 b.toNat] 5)).alloc (.cells #[.int .u8 b.toNat] 5)).alloc (.cells #[.int .u8 b.toNat] 5)).alloc (.cells #[.int .u8 b.toNat] 5)).alloc (.cells #[.int .u8 b.toNat] 5)).alloc (.cells #[strv [49, 78, b], strv [b, 78, 84], strv [88, b, 88], strv [80, b, 80], strv [55, b, 84], strv [80, 32, 80, b], strv [b]] 9)) (wr.heap.size + 1 + 1 + 1 + 1 + 1 + 1 + 1) ((ws7 b).map strv).toArray 9 := blk_at _ _ _ (by simp [go_sem])
          have zb : Below w.heap.size w ((((((((wr.alloc (.cells #[.int .u8 b.toNat] 5)).alloc (.cells #[.int .u8 b.toNat] 5)).alloc (.cells #[.int .u8 b.toNat] 5)).alloc (.cells #[.int .u8 b.toNat] 5)).alloc (.cells #[.int .u8 b.toNat] 5)).alloc (.cells #[.int .u8 b.toNat] 5)).alloc (.cells #[.int .u8 b.toNat] 5)).alloc (.cells #[strv [49, 78, b], strv [b, 78, 84], strv [88, b, 88], strv [80, b, 80], strv [55, b, 84], strv [80, 32, 80, b], strv [b]] 9)) := by repeat (first | (with_reducible exact cq) | ((with_reducible refine below_grow ?_ ?_); rotate_left; focus (first | omega | (simp [go_sem]; done) | (simp [go_sem]; omega))) | ((with_reducible refine Below.alloc ?_ ?_ _); rotate_left; focus (first | omega | (simp [go_sem]; done) | (simp [go_sem]; omega))) | ((with_reducible refine Below.setCell ?_ ?_ _); rotate_left; focus (first | omega | (simp [go_sem]; done) | (simp [go_sem]; omega))) | (with_reducible refine Below.drew ?_) | (with_reducible refine below_drewN _ ?_))
          clear A1 A2 A3 A4 A5 A6 A7 A8 A9 B1 B2 B3 B4 B5 B6 B7 B8 B9 CV cq hsq
          generalize ((((((((wr.alloc (.cells #[.int .u8 b.toNat] 5)).alloc (.cells #[.int .u8 b.toNat] 5)).alloc (.cells #[.int .u8 b.toNat] 5)).alloc (.cells #[.int .u8 b.toNat] 5)).alloc (.cells #[.int .u8 b.toNat] 5)).alloc (.cells #[.int .u8 b.toNat] 5)).alloc (.cells #[.int .u8 b.toNat] 5)).alloc (.cells #[strv [49, 78, b], strv [b, 78, 84], strv [88, b, 88], strv [80, b, 80], strv [55, b, 84], strv [80, 32, 80, b], strv [b]] 9)) = Z at *
          generalize wr.heap.size + 1 + 1 + 1 + 1 + 1 + 1 + 1 = q at *
          have TX := Lib.hid (fun (W : World) a (ha : a ∈ ws7 b) (hb : Below w.heap.size w W) => texts_three b a (ws7_len b a ha) HE.out hb)
          have hlen : (ws7 b).length = 7 := rfl
          have BI := Lib.hid hlt
          go_wp2
          go_loopw [4, 79] (fun _ s79 wp => ∃ k : Nat, s79 = .int .i64 k ∧ k ≤ 7 ∧ blk wp q ((ws7 b).map strv).toArray 9 ∧ Below w.heap.size w wp) (fun _ s79 _ => 7 - (intOf s79).toNat)
          case atStart => exact ⟨0, rfl, by decide, z0, zb⟩
          case round =>
            clear z0 zb
            obtain ⟨k, rfl, hk, b0, cp⟩ := hrel
            by_cases hltk : k < 7
            · have hltk2 : (k : Int) < 7 := by omega
              have hltk3 : k < (ws7 b).length := hltk
              obtain ⟨a, ha⟩ : ∃ a, (ws7 b)[k] = a := ⟨_, rfl⟩
              have hm : a ∈ ws7 b := by rw [← ha]; exact List.getElem_mem hltk3
              have k0 : wr.cell? ⟨q, k, none⟩ = some (strv a) := by
                rw [blk_cell b0, List.getElem?_toArray, List.getElem?_map, List.getElem?_eq_getElem hltk3, ha]; rfl
              have v1 : IntKind.i64.wrap ((k : Int) + 1) = (k : Int) + 1 := IntWalk.i64_in _ (by omega)
              have T1 := Lib.hid (TX.out wr a hm cp)
              have B0 := Lib.hid b0
              have CP := Lib.hid cp
              have hq := blk_lt b0
              clear ha hm b0 cp hltk3 hlen TX
              go_wp2_with (go_at_call 12; refine T1.out.mono ?_; rintro x w9 ⟨rfl, hb9⟩)
              go_roundw
              case rel => exact ⟨k + 1, by go_num, by omega, blk_below B0.out hb9 hq, CP.out.trans (hb9.mono CP.out.size)⟩
              case measure => simp [intOf]; omega
            · obtain rfl : k = 7 := by omega
              have hb256 := BI.out
              go_wp2
              exact ⟨⟨b.toNat + 1, by go_num, by omega, cp⟩, by simp [intOf]; omega⟩
    · have hnc : ¬ (c : Int) < 256 := by omega
      obtain ⟨i0, hi, hz0, hz1, hz2⟩ := info_parts Tryd.infoU
      go_upto_region 18 with fail
      go_wp2
      go_loopw [5, 6] (fun s5 _ wq => ∃ n : Nat, s5 = .int .i64 n ∧ 317 ≤ n ∧ n ≤ 323 ∧ Below w.heap.size w wq) (fun s5 _ _ => 323 - (intOf s5).toNat)
      case atStart => exact ⟨317, rfl, by decide, by decide, cb⟩
      case round =>
        clear cb
        obtain ⟨n, rfl, hn1, hn2, cq⟩ := hrel
        by_cases hlt : n < 323
        · have hlt2 : (n : Int) < 323 := by omega
          have v1 : IntKind.i64.wrap ((n : Int) + 1) = (n : Int) + 1 := IntWalk.i64_in _ (by omega)
          obtain ⟨m, hm⟩ : ∃ m, n - 1 = m := ⟨_, rfl⟩
          have v2 : IntKind.i64.wrap ((n : Int) - 1) = m := by rw [IntWalk.i64_in _ (by omega)]; omega
          obtain ⟨w1, hmk, hown1, hb1⟩ := make_n n (by omega) wr
          have z1 := cq.trans (hb1.mono cq.size)
          have l1 := Lib.repeatL_length [55, 78, 84, 32] m
          have l2 := Lib.repeatL_length [80, 32] n
          simp only [List.length_cons, List.length_nil] at l1 l2
          obtain ⟨r1, hr1⟩ : ∃ r, Lib.repeatL [55, 78, 84, 32] m = r := ⟨_, rfl⟩
          obtain ⟨r2, hr2⟩ : ∃ r, Lib.repeatL [80, 32] n = r := ⟨_, rfl⟩
          have R1 : Hid (∀ W : World, Calls Tryd.prog 13 #[strv [55, 78, 84, 32], .int .i64 m] W fun e w' => e = .returned (strv r1) ∧ Below W.heap.size W w') := Lib.hid (fun W => by
            rw [← hr1]
            exact Tryd.strings_Repeat ⟨[55, 78, 84, 32].toArray⟩ m W (by omega) (show 4 * m ≤ _ by omega))
          have R2 : Hid (∀ W : World, Calls Tryd.prog 13 #[strv [80, 32], .int .i64 n] W fun e w' => e = .returned (strv r2) ∧ Below W.heap.size W w') := Lib.hid (fun W => by
            rw [← hr2]
            exact Tryd.strings_Repeat ⟨[80, 32].toArray⟩ n W (by omega) (show 2 * n ≤ _ by omega))
          rw [hr1] at l1
          rw [hr2] at l2
          have A1 := add_strv r1 [55, 78, 84] (by omega) (by decide)
          have A2 := add_op r1 [55, 78, 84] (by omega) (by decide)
          have T1 := Lib.hid (fun W (hb : Below w1.heap.size w1 W) => texts_calls _ (List.replicate n 0) (r1 ++ [55, 78, 84]) (fun x hx => by rw [List.eq_of_mem_replicate hx]; decide) (by rw [List.length_replicate]; omega) (by rw [List.length_append]; simp; omega) W (slb_own (own_below hown1 hb rfl)).1 (HE.out.below (z1.trans (hb.mono z1.size))))
          have T2 := Lib.hid (fun W v B (h : World.ownsRow W B 5 1 v (n + 1) ((List.replicate n 0 ++ [38]).map u8v)) (hb : Below w.heap.size w W) => texts_calls v (List.replicate n 0 ++ [38]) r2 (fun x hx => by
            rcases List.mem_append.1 hx with h | h
            · rw [List.eq_of_mem_replicate h]; decide
            · rw [List.mem_singleton.1 h]; decide) (by rw [List.length_append, List.length_replicate]; simp; omega) (by omega) W (slb_own h).1 (HE.out.below hb))
          clear hr1 hr2 l1 l2 hm
          have hsq := cq.size
          have hs1 := hb1.size
          go_upto_region 21 with fail
          go_wp2_with (first
            | (go_at_call 13; refine (R1.out _).mono ?_; rintro x w2 ⟨rfl, hb2⟩; clear R1)
            | (go_at_call 12; refine (T1.out _ hb2).mono ?_; rintro x w3 ⟨rfl, hb3⟩; clear T1; have hb13 := hb2.trans (hb3.mono hb2.size); have hown3 := own_below hown1 hb13 rfl; have hs3 := hb13.size)
            | (at_builtin; refine wpList_append_slb rfl _ _ rfl wr.heap.size i0 hi hz0 hz1 hz2 _ n _ rfl (hown3.alloc _) _ [38] rfl (slb_new w3 [38] _ rfl) (by simp; omega) (by simp; omega) ?_; intro v4 w4 hown4 hb4; have z4 : Below w.heap.size w w4 := cq.trans ((((hb1.trans (hb13.mono hs1)).alloc (by omega) _).trans hb4).mono hsq))
            | (go_at_call 13; refine (R2.out _).mono ?_; rintro x w5 ⟨rfl, hb5⟩)
            | (go_at_call 12; refine (T2.out _ _ _ (by rw [List.map_append]; exact own_below hown4 hb5 rfl) (z4.trans (hb5.mono z4.size))).mono ?_; rintro x w6 ⟨rfl, hb6⟩))
          have z5 := z4.trans (hb5.mono z4.size)
          exact ⟨⟨n + 1, by go_num, by omega, by omega, z5.trans (hb6.mono z5.size)⟩, by simp [intOf]; omega⟩
        · have hnn : ¬ (n : Int) < 323 := by omega
          have TN := Lib.hid (texts_calls (.slice none 0 0) [] [] (by simp) (by simp) (by simp) wr ⟨none, 0, rfl, Nat.le_refl _, fun h => absurd rfl h⟩ (HE.out.below cq))
          have AW := Lib.hid (fun W (hb : Below w.heap.size w W) => awake_calls W (HE.out.below hb))
          clear hn1 hn2 hlt
          go_wp2_with (first | (go_at_call 12; refine TN.out.mono ?_; rintro x w8 ⟨rfl, hb8⟩) | (go_at_call 11; refine (AW.out _ (cq.trans (hb8.mono cq.size))).mono ?_; rintro x w9 ⟨rfl, hb9⟩))
          refine bodyPost_ret (by simp [results, Tryd.results5, go_sem]) rfl ⟨rfl, ?_⟩
          exact (cq.trans (hb8.mono cq.size)).trans (hb9.mono (cq.trans (hb8.mono cq.size)).size)
end Go.Proofs.YtblmdnmnodogiaaDoor
