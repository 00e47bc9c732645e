/- CD, CE, CEr, CF, CG, CH, CI. -/
import Derived.Test.YtalklogopepjpaaDoorMG
import Derived.Deep.RegionHeld3
import Derived.BigQuiet
import Derived.Test.YtalklogopepjpaaDoorShelf
import Derived.Shelf.Spec.TrailingZeros
import Derived.RangeFuncBox
import Derived.Shelf.RegionOpen
/-! CD -/
namespace Go.Proofs.YtalklogopepjpaaDoor.Ca
open Go.RowKit

def letters : List UInt8 := [67, 68, 72, 83]
def ltr (s : Nat) : UInt8 := letters[s]?.getD 0
theorem letters_at (s : Nat) (h : s < (ByteArray.mk #[67, 68, 72, 83]).size) : (ByteArray.mk #[67, 68, 72, 83])[s] = ltr s := by
  match s, h with
  | 0, _ => rfl
  | 1, _ => rfl
  | 2, _ => rfl
  | 3, _ => rfl
theorem chrs_at (s : Nat) (h : s < (ByteArray.mk #[50, 51, 52, 53, 54, 55, 56, 57, 84, 74, 81, 75, 65]).size) : (ByteArray.mk #[50, 51, 52, 53, 54, 55, 56, 57, 84, 74, 81, 75, 65])[s] = chr s := by
  match s, h with
  | 0, _ => rfl
  | 1, _ => rfl
  | 2, _ => rfl
  | 3, _ => rfl
  | 4, _ => rfl
  | 5, _ => rfl
  | 6, _ => rfl
  | 7, _ => rfl
  | 8, _ => rfl
  | 9, _ => rfl
  | 10, _ => rfl
  | 11, _ => rfl
  | 12, _ => rfl
theorem conv2 (W X : World) (a b : UInt8) (g : Nat) (hg : g = W.heap.size) (hX : X = W.alloc (.cells #[.int .u8 a.toNat, .int .u8 b.toNat] 5) ∨ X = (W.alloc (.cells #[.int .u8 a.toNat, .int .u8 b.toNat] 5)).drew) :
    (convert 36 9 (.slice (some ⟨g, 0, none⟩) 2 2)).run Tryd.prog X = .ok (.string ⟨#[a, b]⟩) X := by
  subst hg
  refine run_convert_bytes_back X 36 9 5 ⟨W.heap.size, 0, none⟩ 2 [a, b] Tryd.underlying36 Tryd.underlying5 Tryd.underlying9 fun j hj => ?_
  have hp : (⟨W.heap.size, 0, none⟩ : Addr).add j = ⟨W.heap.size, 0 + j, none⟩ := by unfold Addr.add; split <;> simp_all
  rw [hp, Nat.zero_add]
  have hc : X.cell? ⟨W.heap.size, j, none⟩ = (W.alloc (.cells #[.int .u8 a.toNat, .int .u8 b.toNat] 5)).cell? ⟨W.heap.size, j, none⟩ := by
    rcases hX with rfl | rfl <;> rfl
  rw [hc, blk_cell (blk_new W _ _) j]
  match j, hj with
  | 0, _ => rfl
  | 1, _ => rfl
end Go.Proofs.YtalklogopepjpaaDoor.Ca

/-! CE -/
namespace Go.Proofs.YtalklogopepjpaaDoor.Ca
open Go.RowKit

theorem greatest_calls (m : Nat) (h0 : m ≠ 0) (h : m < 4503599627370496) (w : World) : Calls Tryd.prog 71 #[.int .u64 m] w fun e w' => e = .returned (.int .u8 (grt m)) ∧ w = w' := by
  have hg := grt_lt (k := 52) h0 h
  have L := Tryd.bits_Len64 (m : Int)
  rw [Int.toNat_natCast, bitLen_grt h0 (by omega)] at L
  have L := Lib.hid L
  have e1 : IntKind.i64.wrap (((grt m + 1 : Nat) : Int) - 1) = (grt m : Int) := by rw [IntWalk.i64_in _ (by omega)]; omega
  have e2 : IntKind.u8.wrap (grt m : Int) = (grt m : Int) := u8_wrap (by omega) (by omega)
  obtain ⟨g, hg2⟩ : ∃ g, grt m = g := ⟨_, rfl⟩
  rw [hg2] at L e1 e2 ⊢
  obtain ⟨g1, hg3⟩ : ∃ g1, g + 1 = g1 := ⟨_, rfl⟩
  rw [hg3] at L e1
  clear hg hg2 hg3
  go_enter Tryd.func71, Tryd.ntmps71
  go_wp2_with (go_at_call 88; refine (L.out _ (by omega) (by omega)).mono ?_; rintro e w1 ⟨rfl, rfl⟩)
  go_ret
  exact ⟨rfl, rfl⟩
end Go.Proofs.YtalklogopepjpaaDoor.Ca

/-! CEr -/
namespace Go.Proofs.YtalklogopepjpaaDoor.Ca
open Go.RowKit

/-- The suit of a letter, or -1. -/
def sdx (c : UInt8) : Int := Lib.indexByte letters c
theorem sdx_fin : ∀ c : Fin 256, -1 ≤ sdx (UInt8.ofNat c.val) ∧ sdx (UInt8.ofNat c.val) < 4 ∧ (0 ≤ sdx (UInt8.ofNat c.val) → ltr (sdx (UInt8.ofNat c.val)).toNat = UInt8.ofNat c.val) := by decide +kernel
theorem sdx_all (c : UInt8) : -1 ≤ sdx c ∧ sdx c < 4 ∧ (0 ≤ sdx c → ltr (sdx c).toNat = c) := by
  have := sdx_fin ⟨c.toNat, c.toNat_lt⟩
  simp only [UInt8.ofNat_toNat] at this
  exact this
theorem sdx_ltr : ∀ s : Fin 4, sdx (ltr s.val) = (s.val : Int) := by decide
theorem idx_all (c : UInt8) : -1 ≤ idx c ∧ idx c < 13 := by
  refine ⟨idx_ge c, ?_⟩
  by_cases h : 0 ≤ idx c
  · exact (idx_lt c h).1
  · omega
/-- What a text of two bytes says: the card and the error. -/
def rdc (a b : UInt8) : Nat := if sdx a < 0 ∨ idx b < 0 then 0 else 13 * (sdx a).toNat + (idx b).toNat
def rde (a b : UInt8) : Int := if sdx a < 0 ∨ idx b < 0 then 40 else 0
end Go.Proofs.YtalklogopepjpaaDoor.Ca

/-! CF -/
namespace Go.Proofs.YtalklogopepjpaaDoor.Ca
open Go.RowKit Go.Shelf

def tz_ren : Go.Shelf.Ren := ⟨fun | 29 => 101 | n => n, fun | 0 => 0 | 3 => 3 | 4 => 4 | 5 => 5 | 22 => 37 | 25 => 120 | 54 => 159 | n => n, fun | 1 => 8 | n => n⟩
theorem lays_tz : Lays7.n29 Tryd.prog tz_ren := {
  mixed := by kernel_rfl
  f29 := Tryd.func101.trans (congrArg some (by kernel_rfl))
  t0 := Tryd.underlying0
  a0 := Tryd.isAgg0
  z0 := Tryd.sizeOf0
  v0 := Tryd.zeroValue0
  i0 := by kernel_rfl
  t3 := Tryd.underlying3
  a3 := Tryd.isAgg3
  z3 := Tryd.sizeOf3
  v3 := Tryd.zeroValue3
  i3 := by kernel_rfl
  t4 := Tryd.underlying4
  a4 := Tryd.isAgg4
  z4 := Tryd.sizeOf4
  v4 := Tryd.zeroValue4
  i4 := by kernel_rfl
  t5 := Tryd.underlying5
  a5 := Tryd.isAgg5
  z5 := Tryd.sizeOf5
  v5 := Tryd.zeroValue5
  i5 := by kernel_rfl
  t22 := Tryd.underlying37
  a22 := Tryd.isAgg37
  z22 := Tryd.sizeOf37
  v22 := Tryd.zeroValue37
  i22 := by kernel_rfl
  t25 := Tryd.underlying120
  a25 := Tryd.isAgg120
  z25 := Tryd.sizeOf120
  v25 := Tryd.zeroValue120
  i25 := by kernel_rfl
  t54 := Tryd.underlying159
  a54 := Tryd.isAgg159
  z54 := Tryd.sizeOf159
  g1 := by kernel_rfl }
theorem tz_calls (x : Nat) (hx : x < 18446744073709551616) (w : World) (hT : TabAt 8 Lib.deBruijn64tab w) :
    Calls Tryd.prog 101 #[.int .u64 x] w fun e w' => e = .returned (.int .i64 (Lib.ctz 64 x)) ∧ w = w' :=
  (Any7.bits_TrailingZeros64 lays_tz x hx w (fun _ => hT)).mono fun e w' h => ⟨h.1, h.2.symm⟩
end Go.Proofs.YtalklogopepjpaaDoor.Ca

/-! CG -/
namespace Go.Proofs.YtalklogopepjpaaDoor.Ca
open Go.RowKit
attribute [local go_sem] Oper.semAt_some

theorem cards_calls (m : Nat) (w : World) :
    Calls Tryd.prog 52 #[.int .u64 m] w fun e w' => e = .returned (.func (.func 70) #[] #[.pointer (some ⟨w.heap.size, 0, none⟩)]) ∧ w' = w.alloc (.cells #[.int .u64 m] 37) := by
  go_enter Tryd.func52, Tryd.ntmps52
  go_wp2
  go_ret
  exact ⟨rfl, rfl⟩
theorem drop_cons {l m : List Nat} {i x : Nat} (h : l.drop i = x :: m) : l[i]? = some x ∧ l.drop (i + 1) = m ∧ i < l.length := by
  have h1 : (l.drop i)[0]? = some x := by rw [h]; rfl
  rw [List.getElem?_drop, Nat.add_zero] at h1
  refine ⟨h1, ?_, (List.getElem?_eq_some_iff.1 h1).1⟩
  rw [← List.drop_drop, h]
  rfl
theorem clr_num (a g : Nat) (ha : a < 18446744073709551616) (hg : g < 64) : IntKind.u64.wrap ((2 : Int) ^ g) = (2 : Int) ^ g ∧ bits .andNot .u64 (a : Int) ((2 : Int) ^ g) = (clr a g : Int) := by
  have h2 : 2 ^ g < 2 ^ 64 := Nat.pow_lt_pow_right (by decide) hg
  have e : ((2 : Int) ^ g) = ((2 ^ g : Nat) : Int) := by simp
  rw [e]
  refine ⟨?_, u64_andNot_nat a (2 ^ g) ha (by omega)⟩
  rw [IntKind.wrap_u64]
  generalize 2 ^ g = p at h2
  omega
set_option maxRecDepth 100000 in
set_option maxHeartbeats 4000000 in
theorem cards1_calls (l bk m : Nat) (hm : m < 4503599627370496) (J : Nat → World → Prop)
    (hY : ∀ (i v : Nat) W, (cds m)[i]? = some v → J i W →
      YieldAt Fence.wide 2 Tryd.prog l #[.int .u8 v] W fun e W' => e = .returned (.bool true) ∧ J (i + 1) W')
    (W : World) (hc : W.cell? ⟨bk, 0, none⟩ = some (.int .u64 m)) (h0 : J 0 W) :
    Calls Tryd.prog 70 #[.func (.yield l) #[] #[], .pointer (some ⟨bk, 0, none⟩)] W fun e W' => (∃ v, e = .returned v) ∧ J (cds m).length W' := by
  have HY := Lib.hid hY
  clear hY
  go_enter Tryd.func70, Tryd.ntmps70
  go_wp2
  go_loopw [3] (fun s3 wr => ∃ left i : Nat, s3 = .int .u64 left ∧ left < 4503599627370496 ∧ i ≤ (cds m).length ∧ (cds m).drop i = cds left ∧ J i wr) (fun s3 _ => (intOf s3).toNat)
  case atStart => exact ⟨m, 0, rfl, hm, Nat.zero_le _, rfl, h0⟩
  case round =>
    obtain ⟨left, i, rfl, hl, hi, hd, hJi⟩ := hrel
    by_cases hz : left = 0
    · subst hz
      rw [cds_zero] at hd
      have : (cds m).length ≤ i := List.drop_eq_nil_iff.1 hd
      obtain rfl : i = (cds m).length := by omega
      go_wp2
      go_end0
      exact ⟨⟨_, rfl⟩, hJi⟩
    · have hz' : ¬ (left : Int) = 0 := by omega
      obtain ⟨k1, k2, k3⟩ := cds_cons hz hl
      have G := Lib.hid (greatest_calls left hz hl)
      obtain ⟨c1, c2⟩ := clr_num left (grt left) (by omega) (by omega)
      rw [k1] at hd
      obtain ⟨g1, g2, g3⟩ := drop_cons hd
      obtain ⟨fn, tmps, assign, body, hy, hR⟩ := HY.out i _ wr g1 hJi
      obtain ⟨g, hg⟩ : ∃ g, grt left = g := ⟨_, rfl⟩
      obtain ⟨q, hq⟩ : ∃ q, clr left g = q := ⟨_, rfl⟩
      rw [hg] at G k2 k3 c1 c2 g2 hy
      rw [hq] at c2 k3 g2
      clear hq hg k1 hd
      go_upto_region 3 with fail
      refine (wpIn_wide (n := 3)).1 ?_
      gi_wp2_with (first | (refine ⟨trivial, ?_⟩; gi_at_call 71; refine (callsIn_wide.2 (G.out _)).mono ?_; rintro e w1 ⟨rfl, rfl⟩))
      refine hR.mono ?_
      rintro e W' ⟨rfl, hJ'⟩
      gi_wp2_with (first | (refine ⟨trivial, ?_⟩; gi_at_call 71; refine (callsIn_wide.2 (G.out _)).mono ?_; rintro e w1 ⟨rfl, rfl⟩))
      go_wp2_with (first | (go_at_call 71; refine (G.out _).mono ?_; rintro e w1 ⟨rfl, rfl⟩))
      go_roundw
      case rel => exact ⟨q, i + 1, rfl, by omega, by omega, g2, hJ'⟩
      case measure => simp [intOf]; omega
end Go.Proofs.YtalklogopepjpaaDoor.Ca

/-! CH -/
namespace Go.Proofs.YtalklogopepjpaaDoor.Ca
open Go.RowKit
attribute [local go_sem] Oper.semAt_some

abbrev u8v (c : Nat) : Value := .int .u8 c
theorem Tryd.infoU : (Tryd.prog.info? 5).map (fun i => (i.zero, i.size, i.bytes)) = some (some (.int .u8 0), 1, 1) := by kernel_rfl
/-- Between two rounds: the box holds a slice that owns what has come. -/
def accI (w : World) (m : Nat) (i : Nat) (W : World) : Prop := ∃ v, blk W w.heap.size #[v] 36 ∧ W.ownsRow (w.heap.size + 1) 5 1 v i (((cds m).take i).map u8v) ∧ Below w.heap.size w W
theorem own_base {w : World} {B C : Nat} {e : TypeId} {z : Nat} {v : Value} {n : Nat} {cs : List Value} (h : w.ownsRow (B + C) e z v n cs) : w.ownsRow B e z v n cs := by
  refine ⟨h.1, ?_⟩
  rcases h.2 with h1 | ⟨g, cap, cur, h1, h2, h3⟩
  · exact .inl h1
  · exact .inr ⟨g, cap, cur, h1, by omega, h3⟩
theorem news1 (W : World) (t : TypeId) (x y : Value) {n : Nat} (hn : n = W.heap.size) (hxy : y = x) : ∀ (j : Nat) (u : Value), [y][j]? = some u → (W.alloc (.cells #[x] t)).cell? ((⟨n, 0, none⟩ : Addr).add j) = some u := by
  intro j u hj
  match j, hj with
  | 0, hj =>
    simp only [List.getElem?_cons_zero, Option.some.injEq] at hj
    subst hj hxy
    have : (⟨n, 0, none⟩ : Addr).add 0 = ⟨n, 0, none⟩ := rfl
    rw [this, World.cell?_alloc_at _ _ _ 0 hn]
    rfl
theorem own_block_ge {w : World} {B k : Nat} {e : TypeId} {z : Nat} {v : Value} {n : Nat} {cs : List Value} (h : w.ownsRow B e z v n cs) (hk : v.ownBlock = some k) : B ≤ k := by
  rcases h.2 with h1 | ⟨g, cap, cur, h1, h2, _⟩
  · rw [h1.1] at hk; cases hk
  · rw [h1] at hk
    have : g = k := by simpa [Value.ownBlock] using hk
    omega
theorem own_cells {w : World} {B : Nat} {e : TypeId} {z : Nat} {v : Value} {n : Nat} {cs : List Value} (h : w.ownsRow B e z v n cs) (j : Nat) (o : Obj) (hj : v.ownBlock = some j) (ho : w.heap[j]? = some o) : o.isCells = true := by
  rcases h.2 with h1 | ⟨g, cap, cur, h1, h2, h3, _⟩
  · rw [h1.1] at hj; cases hj
  · rw [h1] at hj
    have : g = j := by simpa [Value.ownBlock] using hj
    subst this
    rw [h3] at ho
    cases ho
    rfl
theorem not_row {w : World} {B k : Nat} {e : TypeId} {z : Nat} {v : Value} {n : Nat} {cs : List Value} (h : w.ownsRow B e z v n cs) (hk : k < B) : some k ≠ v.ownBlock := fun he => by
  have := own_block_ge h he.symm
  omega
theorem own_other {w : World} {B k i : Nat} {e : TypeId} {z : Nat} {v : Value} {n : Nat} {cs : List Value} (h : w.ownsRow B e z v n cs) (hk : k < B) (x : Value) : (w.setCell ⟨k, i, none⟩ x).ownsRow B e z v n cs := by
  refine ⟨h.1, ?_⟩
  rcases h.2 with h1 | ⟨g, cap, cur, h1, h2, h3, h4⟩
  · exact .inl h1
  · exact .inr ⟨g, cap, cur, h1, h2, (Below.heap_setCell _ _ _ _ (show g ≠ k by omega)).trans h3, h4⟩
theorem own_slice {w : World} {B : Nat} {e : TypeId} {n : Nat} {v : Value} {cs : List Value} (h : w.ownsRow B e 1 v n cs) : ∃ A cap, v = .slice A n cap ∧ (n = 0 ∨ ∃ g, A = some ⟨g, 0, none⟩) := by
  rcases h.2 with ⟨h1, h2⟩ | ⟨g, cap, cur, h1, _⟩
  · subst h2
    exact ⟨none, 0, h1, .inl rfl⟩
  · exact ⟨_, cap, h1, .inr ⟨g, rfl⟩⟩
end Go.Proofs.YtalklogopepjpaaDoor.Ca

/-! CI -/
namespace Go.Proofs.YtalklogopepjpaaDoor.Ca
open Go.RowKit
attribute [local go_sem] Oper.semAt_some

abbrev strv (l : List UInt8) : Value := .string ⟨l.toArray⟩
theorem add_strv (l r : List UInt8) (h : l.length ≤ 8388608) (h' : r.length ≤ 8388608) (W : World) : (binOp .add 9 (strv l) (strv r)).run Tryd.prog W = .ok (strv (l ++ r)) W := by
  have h1 := run_string_add_lists (P := Tryd.prog) (w := W) l r (by omega) (by omega)
  unfold binOp
  simp [h1]
theorem add_op (l r : List UInt8) (h : l.length ≤ 8388608) (h' : r.length ≤ 8388608) (W : World) : (Op.stringOp .add ⟨l.toArray⟩ ⟨r.toArray⟩).run Tryd.prog W = .ok (strv (l ++ r)) W :=
  run_string_add_lists (P := Tryd.prog) (w := W) l r (by omega) (by omega)
/-- The four parts. -/
def prtC (l : List Nat) : Array Value := #[strv (chs l 3), strv (chs l 2), strv (chs l 1), strv (chs l 0)]
theorem slice_chr (r : Nat) (h : r < 13) (W : World) : (Instr.slice 9 (.string ⟨#[50, 51, 52, 53, 54, 55, 56, 57, 84, 74, 81, 75, 65]⟩) (some (.int .u8 (r : Int))) (some (.int .u8 (IntKind.u8.wrap ((r : Int) + 1)))) none).run Tryd.prog W = .ok (.string ⟨#[chr r]⟩) W := by
  match r, h with
  | 0, _ => show _ = _; kernel_rfl
  | 1, _ => show _ = _; kernel_rfl
  | 2, _ => show _ = _; kernel_rfl
  | 3, _ => show _ = _; kernel_rfl
  | 4, _ => show _ = _; kernel_rfl
  | 5, _ => show _ = _; kernel_rfl
  | 6, _ => show _ = _; kernel_rfl
  | 7, _ => show _ = _; kernel_rfl
  | 8, _ => show _ = _; kernel_rfl
  | 9, _ => show _ = _; kernel_rfl
  | 10, _ => show _ = _; kernel_rfl
  | 11, _ => show _ = _; kernel_rfl
  | 12, _ => show _ = _; kernel_rfl
theorem blk_drew {w : World} {b : Nat} {cs : Array Value} {t : TypeId} (h : blk w b cs t) : blk w.drew b cs t := h
theorem blk_other {w : World} {b : Nat} {cs : Array Value} {t : TypeId} (h : blk w b cs t) {c i : Nat} (hne : c ≠ b) (v : Value) : blk (w.setCell ⟨c, i, none⟩ v) b cs t :=
  (Below.heap_setCell _ _ _ _ (show b ≠ c by omega)).trans h
theorem join_wrt (m : Nat) : Lib.join (([⟨(prt m 3).toArray⟩, ⟨(prt m 2).toArray⟩, ⟨(prt m 1).toArray⟩, ⟨(prt m 0).toArray⟩] : List ByteArray).map (·.data.toList)) (ByteArray.mk #[46]).data.toList = wrt m := by
  simp only [List.map_cons, List.map_nil]
  rw [Lib.join_cons]
  simp [Lib.joinTail, wrt]
/-- Between two rounds: the parts' characters that have come. -/
def wrI (w : World) (m : Nat) (i : Nat) (W : World) : Prop := blk W w.heap.size (prtC ((cds m).take i)) 61 ∧ blk W (w.heap.size + 1) #[.int .u64 m] 37 ∧ Below w.heap.size w W
set_option maxRecDepth 100000 in
set_option maxHeartbeats 4000000 in
theorem write_yes (m : Nat) (hm : m < 4503599627370496) (w : World) :
    Calls Tryd.prog 38 #[.int .u64 m] w fun e w' => e = .returned (.tuple #[strv (wrt m), .int .i64 0]) ∧ Below w.heap.size w w' := by
  have R := Lib.hid (rightMask_yes m hm)
  refine (callsIn_wide (n := 3)).1 ?_
  refine callsIn_of_wp_marks Tryd.func38 rfl trivial ?_ rfl
  refine wpIn_wide.2 ?_
  simp only [Tryd.ntmps38, List.size_toArray, List.length_cons, List.length_nil, Nat.reduceAdd, Nat.reduceSub, Array.replicate_succ, Array.replicate_zero, List.push_toArray, List.append_toArray, List.nil_append, List.cons_append]
  go_wp2_with (first | (go_at_call 51; refine (R.out _).mono ?_; rintro e w1 ⟨rfl, rfl⟩) | (go_at_call 52; refine (cards_calls m _).mono ?_; rintro e w1 ⟨rfl, rfl⟩))
  have z0 : blk ((w.alloc (.cells #[.string ⟨#[]⟩, .string ⟨#[]⟩, .string ⟨#[]⟩, .string ⟨#[]⟩] 61)).alloc (.cells #[.int .u64 m] 37)) w.heap.size (prtC []) 61 := blk_alloc (blk_new _ _ _) _
  have z1 : blk ((w.alloc (.cells #[.string ⟨#[]⟩, .string ⟨#[]⟩, .string ⟨#[]⟩, .string ⟨#[]⟩] 61)).alloc (.cells #[.int .u64 m] 37)) (w.heap.size + 1) #[.int .u64 m] 37 := blk_at _ _ _ (by simp)
  have zb : Below w.heap.size w ((w.alloc (.cells #[.string ⟨#[]⟩, .string ⟨#[]⟩, .string ⟨#[]⟩, .string ⟨#[]⟩] 61)).alloc (.cells #[.int .u64 m] 37)) := by repeat (first | (with_reducible exact Below.refl _ _) | ((with_reducible refine below_grow ?_ ?_); rotate_left; focus (first | omega | (simp [go_sem]; done) | (simp [go_sem]; omega))) | ((with_reducible refine Below.alloc ?_ ?_ _); rotate_left; focus (first | omega | (simp [go_sem]; done) | (simp [go_sem]; omega))) | ((with_reducible refine Below.setCell ?_ ?_ _); rotate_left; focus (first | omega | (simp [go_sem]; done) | (simp [go_sem]; omega))) | (with_reducible refine Below.drew ?_) | (with_reducible refine below_drewN _ ?_))
  have zs : ((w.alloc (.cells #[.string ⟨#[]⟩, .string ⟨#[]⟩, .string ⟨#[]⟩, .string ⟨#[]⟩] 61)).alloc (.cells #[.int .u64 m] 37)).heap.size = w.heap.size + 2 := by simp
  generalize ((w.alloc (.cells #[.string ⟨#[]⟩, .string ⟨#[]⟩, .string ⟨#[]⟩, .string ⟨#[]⟩] 61)).alloc (.cells #[.int .u64 m] 37)) = W at *
  refine range_seq (gf := 70) (lb := #[.pointer (some ⟨w.heap.size + 1, 0, none⟩)]) rfl (enters_of Tryd.func70 (by kernel_rfl) rfl) rfl
    ((cds m).map u8v) (wrI w m) ?hI ⟨z0, z1, zb⟩ ?seq 5 ?assign ?body ?done
  case hI =>
    rintro i X Y ⟨h1, h2, h3⟩ hb hk
    exact ⟨blk_keep h1 hk, blk_keep h2 hk, h3.trans (hb.mono (by omega))⟩
  case seq =>
    intro l J X hJI hY h0
    rw [List.length_map]
    refine cards1_calls l (w.heap.size + 1) m hm J ?_ X ?_ h0
    · intro i v Y hv hJi
      exact hY i _ Y (by rw [List.getElem?_map, hv]; rfl) hJi
    · obtain ⟨⟨c0, c1, cb⟩, hs⟩ := hJI 0 X h0
      rw [blk_cell c1]
      rfl
  case assign =>
    intro l x X KK hK'
    simp only [List.setIfInBounds_toArray, List.set_cons_zero, List.set_cons_succ] at hK' ⊢
    gi_wp2
    exact hK'
  case body =>
    rintro l i x X hx ⟨hp, hc, hb⟩ hsz
    rw [List.getElem?_map] at hx
    obtain ⟨c, hc1, rfl⟩ := Option.map_eq_some_iff.1 hx
    have hc52 : c < 52 := (cds_mem.1 (List.mem_of_getElem? hc1)).1
    have hil := (List.getElem?_eq_some_iff.1 hc1).1
    have S := Lib.hid (suit_yes c hc52)
    have K := Lib.hid (rank_yes c hc52)
    simp only [List.setIfInBounds_toArray, List.set_cons_zero, List.set_cons_succ]
    have hnext : (cds m).take (i + 1) = (cds m).take i ++ [c] := by rw [List.take_add_one, hc1]; rfl
    have hL : ∀ s, (chs ((cds m).take i) s).length ≤ 52 := fun s => by
      have h1 := cds_length_le m
      unfold chs
      rw [List.length_map]
      have h2 := List.length_filter_le (fun c => c / 13 == s) ((cds m).take i)
      have h3 : ((cds m).take i).length ≤ (cds m).length := by rw [List.length_take]; omega
      omega
    obtain ⟨s, hs⟩ : ∃ s, c / 13 = s := ⟨_, rfl⟩
    obtain ⟨r, hr⟩ : ∃ r, c % 13 = r := ⟨_, rfl⟩
    have hs4 : s < 4 := by omega
    have hr13 : r < 13 := by omega
    have P := Lib.hid (place_calls s hs4)
    rw [hs] at S
    rw [hr] at K
    have hsn := fun t => chs_snoc ((cds m).take i) c t
    rw [hs, hr] at hsn
    have hsl := slice_chr r hr13
    have HL := Lib.hid hL
    have HN := Lib.hid hnext
    have HS := Lib.hid hsn
    clear hL hnext hsn
    have hmx : Tryd.prog.follows .mixedOrders = true := by kernel_rfl
    match s, hs4 with
    | 0, _ =>
      have k0 := (blk_cell hp 3).trans (show _ = some (strv (chs ((cds m).take i) 0)) from rfl)
      have f0 := blk_free hp 3
      have l0 : (chs ((cds m).take i) 0).length ≤ 52 := HL.out 0
      have hA := add_op (chs ((cds m).take i) 0) [chr r] (by omega) (by simp)
      have hB := add_strv (chs ((cds m).take i) 0) [chr r] (by omega) (by simp)
      clear l0
      gi_wp2_with (refine ⟨trivial, ?_⟩; gi_at_call 53; refine (CallsIn.inRound l (callsIn_wide.2 (K.out _))).mono ?_; rintro e w1 ⟨rfl, rfl⟩)
      refine wpIn_round_any hmx (by kernel_rfl) ?_
      refine wpAnyIn_take (i := 0) (v := ?v0q0) rfl rfl (by kernel_rfl) (by kernel_rfl) (by kernel_rfl) (fun _ _ _ h => h) ⟨Or.inl ⟨by rfl, ?y0q0⟩, fun _ => rfl⟩ ?r0q0
      case y0q0 => intro W; go_simp; try with_reducible rfl
      refine wpAnyIn_take (i := 5) (v := ?v5q0) rfl rfl (by kernel_rfl) (by kernel_rfl) (by kernel_rfl) (fun _ _ _ h => h) ⟨Or.inl ⟨by rfl, ?y5q0⟩, fun _ => rfl⟩ ?r5q0
      case y5q0 => intro W; go_simp; try with_reducible rfl
      refine wpAnyIn_take (i := 6) (v := ?v6q0) rfl rfl (by kernel_rfl) (by kernel_rfl) (by kernel_rfl) (fun _ _ _ h => h) ⟨Or.inl ⟨by rfl, ?y6q0⟩, fun _ => rfl⟩ ?r6q0
      case y6q0 => intro W; go_simp; try with_reducible rfl
      refine wpAnyIn_take (i := 7) (v := ?v7q0) rfl rfl (by kernel_rfl) (by kernel_rfl) (by kernel_rfl) (fun _ _ _ h => h) ⟨Or.inl ⟨by rfl, ?y7q0⟩, fun _ => rfl⟩ ?r7q0
      case y7q0 => intro W; go_simp; try with_reducible rfl
      refine wpAnyIn_take (i := 8) (v := ?v8q0) rfl rfl (by kernel_rfl) (by kernel_rfl) (by kernel_rfl) (fun _ _ _ h => h) ⟨Or.inl ⟨by rfl, ?y8q0⟩, fun _ => rfl⟩ ?r8q0
      case y8q0 => intro W; go_simp; try with_reducible rfl
      refine wpAnyIn_ready (rs := [1]) (by kernel_rfl) (by simp) ?_
      refine AllReadyIn.cons rfl (fun K hK => ?_) AllReadyIn.nil
      go_simp
      refine ⟨trivial, ?_⟩; gi_at_call 55; refine (callsIn_wide.2 (S.out _)).mono ?_; rintro e w1 ⟨rfl, rfl⟩
      refine hK _ _ ?_; clear hK K
      refine wpAnyIn_ready (rs := [2]) (by kernel_rfl) (by simp) ?_
      refine AllReadyIn.cons rfl (fun K hK => ?_) AllReadyIn.nil
      go_simp
      refine ⟨trivial, ?_⟩; gi_at_call 54; refine (callsIn_wide.2 (P.out _)).mono ?_; rintro e w1 ⟨rfl, rfl⟩
      refine hK _ _ ?_; clear hK K
      refine wpAnyIn_ready (rs := [3]) (by kernel_rfl) (by simp) ?_
      refine AllReadyIn.cons rfl (fun K hK => ?_) AllReadyIn.nil
      go_simp
      refine hK _ _ ?_; clear hK K
      refine wpAnyIn_ready (rs := [4]) (by kernel_rfl) (by simp) ?_
      refine AllReadyIn.cons rfl (fun K hK => ?_) AllReadyIn.nil
      go_simp
      refine hK _ _ ?_; clear hK K
      refine wpAnyIn_ready (rs := [9]) (by kernel_rfl) (by simp) ?_
      refine AllReadyIn.cons rfl (fun K hK => ?_) AllReadyIn.nil
      go_simp
      refine hK _ _ ?_; clear hK K
      refine wpAnyIn_ready (rs := [10]) (by kernel_rfl) (by simp) ?_
      refine AllReadyIn.cons rfl (fun K hK => ?_) AllReadyIn.nil
      go_simp
      refine hK _ _ ?_; clear hK K
      refine wpAnyIn_ready (rs := [11]) (by kernel_rfl) (by simp) ?_
      refine AllReadyIn.cons rfl (fun K hK => ?_) AllReadyIn.nil
      go_simp
      refine hK _ _ ?_; clear hK K
      refine wpAnyIn_done (by kernel_rfl) ?_ _
      change KeepsOthers X _ ∧ wrI w m (i + 1) _
      refine ⟨(KeepsOthers.drew _).trans (KeepsOthers.setCell _ _ _), ?_, blk_other (blk_drew hc) (by omega) _, by repeat (first | (with_reducible exact hb) | ((with_reducible refine below_grow ?_ ?_); rotate_left; focus (first | omega | (simp [go_sem]; done) | (simp [go_sem]; omega))) | ((with_reducible refine Below.alloc ?_ ?_ _); rotate_left; focus (first | omega | (simp [go_sem]; done) | (simp [go_sem]; omega))) | ((with_reducible refine Below.setCell ?_ ?_ _); rotate_left; focus (first | omega | (simp [go_sem]; done) | (simp [go_sem]; omega))) | (with_reducible refine Below.drew ?_) | (with_reducible refine below_drewN _ ?_))⟩
      have h := blk_set (blk_drew hp) 3 (strv (chs ((cds m).take i) 0 ++ [chr r]))
      rw [HN.out]
      have e : prtC ((cds m).take i ++ [c]) = (prtC ((cds m).take i)).setIfInBounds 3 (strv (chs ((cds m).take i) 0 ++ [chr r])) := by
        unfold prtC
        rw [HS.out 0, HS.out 1, HS.out 2, HS.out 3]
        rfl
      rw [e]
      exact h
    | 1, _ =>
      have k0 := (blk_cell hp 2).trans (show _ = some (strv (chs ((cds m).take i) 1)) from rfl)
      have f0 := blk_free hp 2
      have l0 : (chs ((cds m).take i) 1).length ≤ 52 := HL.out 1
      have hA := add_op (chs ((cds m).take i) 1) [chr r] (by omega) (by simp)
      have hB := add_strv (chs ((cds m).take i) 1) [chr r] (by omega) (by simp)
      clear l0
      gi_wp2_with (refine ⟨trivial, ?_⟩; gi_at_call 53; refine (CallsIn.inRound l (callsIn_wide.2 (K.out _))).mono ?_; rintro e w1 ⟨rfl, rfl⟩)
      refine wpIn_round_any hmx (by kernel_rfl) ?_
      refine wpAnyIn_take (i := 0) (v := ?v0q1) rfl rfl (by kernel_rfl) (by kernel_rfl) (by kernel_rfl) (fun _ _ _ h => h) ⟨Or.inl ⟨by rfl, ?y0q1⟩, fun _ => rfl⟩ ?r0q1
      case y0q1 => intro W; go_simp; try with_reducible rfl
      refine wpAnyIn_take (i := 5) (v := ?v5q1) rfl rfl (by kernel_rfl) (by kernel_rfl) (by kernel_rfl) (fun _ _ _ h => h) ⟨Or.inl ⟨by rfl, ?y5q1⟩, fun _ => rfl⟩ ?r5q1
      case y5q1 => intro W; go_simp; try with_reducible rfl
      refine wpAnyIn_take (i := 6) (v := ?v6q1) rfl rfl (by kernel_rfl) (by kernel_rfl) (by kernel_rfl) (fun _ _ _ h => h) ⟨Or.inl ⟨by rfl, ?y6q1⟩, fun _ => rfl⟩ ?r6q1
      case y6q1 => intro W; go_simp; try with_reducible rfl
      refine wpAnyIn_take (i := 7) (v := ?v7q1) rfl rfl (by kernel_rfl) (by kernel_rfl) (by kernel_rfl) (fun _ _ _ h => h) ⟨Or.inl ⟨by rfl, ?y7q1⟩, fun _ => rfl⟩ ?r7q1
      case y7q1 => intro W; go_simp; try with_reducible rfl
      refine wpAnyIn_take (i := 8) (v := ?v8q1) rfl rfl (by kernel_rfl) (by kernel_rfl) (by kernel_rfl) (fun _ _ _ h => h) ⟨Or.inl ⟨by rfl, ?y8q1⟩, fun _ => rfl⟩ ?r8q1
      case y8q1 => intro W; go_simp; try with_reducible rfl
      refine wpAnyIn_ready (rs := [1]) (by kernel_rfl) (by simp) ?_
      refine AllReadyIn.cons rfl (fun K hK => ?_) AllReadyIn.nil
      go_simp
      refine ⟨trivial, ?_⟩; gi_at_call 55; refine (callsIn_wide.2 (S.out _)).mono ?_; rintro e w1 ⟨rfl, rfl⟩
      refine hK _ _ ?_; clear hK K
      refine wpAnyIn_ready (rs := [2]) (by kernel_rfl) (by simp) ?_
      refine AllReadyIn.cons rfl (fun K hK => ?_) AllReadyIn.nil
      go_simp
      refine ⟨trivial, ?_⟩; gi_at_call 54; refine (callsIn_wide.2 (P.out _)).mono ?_; rintro e w1 ⟨rfl, rfl⟩
      refine hK _ _ ?_; clear hK K
      refine wpAnyIn_ready (rs := [3]) (by kernel_rfl) (by simp) ?_
      refine AllReadyIn.cons rfl (fun K hK => ?_) AllReadyIn.nil
      go_simp
      refine hK _ _ ?_; clear hK K
      refine wpAnyIn_ready (rs := [4]) (by kernel_rfl) (by simp) ?_
      refine AllReadyIn.cons rfl (fun K hK => ?_) AllReadyIn.nil
      go_simp
      refine hK _ _ ?_; clear hK K
      refine wpAnyIn_ready (rs := [9]) (by kernel_rfl) (by simp) ?_
      refine AllReadyIn.cons rfl (fun K hK => ?_) AllReadyIn.nil
      go_simp
      refine hK _ _ ?_; clear hK K
      refine wpAnyIn_ready (rs := [10]) (by kernel_rfl) (by simp) ?_
      refine AllReadyIn.cons rfl (fun K hK => ?_) AllReadyIn.nil
      go_simp
      refine hK _ _ ?_; clear hK K
      refine wpAnyIn_ready (rs := [11]) (by kernel_rfl) (by simp) ?_
      refine AllReadyIn.cons rfl (fun K hK => ?_) AllReadyIn.nil
      go_simp
      refine hK _ _ ?_; clear hK K
      refine wpAnyIn_done (by kernel_rfl) ?_ _
      change KeepsOthers X _ ∧ wrI w m (i + 1) _
      refine ⟨(KeepsOthers.drew _).trans (KeepsOthers.setCell _ _ _), ?_, blk_other (blk_drew hc) (by omega) _, by repeat (first | (with_reducible exact hb) | ((with_reducible refine below_grow ?_ ?_); rotate_left; focus (first | omega | (simp [go_sem]; done) | (simp [go_sem]; omega))) | ((with_reducible refine Below.alloc ?_ ?_ _); rotate_left; focus (first | omega | (simp [go_sem]; done) | (simp [go_sem]; omega))) | ((with_reducible refine Below.setCell ?_ ?_ _); rotate_left; focus (first | omega | (simp [go_sem]; done) | (simp [go_sem]; omega))) | (with_reducible refine Below.drew ?_) | (with_reducible refine below_drewN _ ?_))⟩
      have h := blk_set (blk_drew hp) 2 (strv (chs ((cds m).take i) 1 ++ [chr r]))
      rw [HN.out]
      have e : prtC ((cds m).take i ++ [c]) = (prtC ((cds m).take i)).setIfInBounds 2 (strv (chs ((cds m).take i) 1 ++ [chr r])) := by
        unfold prtC
        rw [HS.out 0, HS.out 1, HS.out 2, HS.out 3]
        rfl
      rw [e]
      exact h
    | 2, _ =>
      have k0 := (blk_cell hp 1).trans (show _ = some (strv (chs ((cds m).take i) 2)) from rfl)
      have f0 := blk_free hp 1
      have l0 : (chs ((cds m).take i) 2).length ≤ 52 := HL.out 2
      have hA := add_op (chs ((cds m).take i) 2) [chr r] (by omega) (by simp)
      have hB := add_strv (chs ((cds m).take i) 2) [chr r] (by omega) (by simp)
      clear l0
      gi_wp2_with (refine ⟨trivial, ?_⟩; gi_at_call 53; refine (CallsIn.inRound l (callsIn_wide.2 (K.out _))).mono ?_; rintro e w1 ⟨rfl, rfl⟩)
      refine wpIn_round_any hmx (by kernel_rfl) ?_
      refine wpAnyIn_take (i := 0) (v := ?v0q2) rfl rfl (by kernel_rfl) (by kernel_rfl) (by kernel_rfl) (fun _ _ _ h => h) ⟨Or.inl ⟨by rfl, ?y0q2⟩, fun _ => rfl⟩ ?r0q2
      case y0q2 => intro W; go_simp; try with_reducible rfl
      refine wpAnyIn_take (i := 5) (v := ?v5q2) rfl rfl (by kernel_rfl) (by kernel_rfl) (by kernel_rfl) (fun _ _ _ h => h) ⟨Or.inl ⟨by rfl, ?y5q2⟩, fun _ => rfl⟩ ?r5q2
      case y5q2 => intro W; go_simp; try with_reducible rfl
      refine wpAnyIn_take (i := 6) (v := ?v6q2) rfl rfl (by kernel_rfl) (by kernel_rfl) (by kernel_rfl) (fun _ _ _ h => h) ⟨Or.inl ⟨by rfl, ?y6q2⟩, fun _ => rfl⟩ ?r6q2
      case y6q2 => intro W; go_simp; try with_reducible rfl
      refine wpAnyIn_take (i := 7) (v := ?v7q2) rfl rfl (by kernel_rfl) (by kernel_rfl) (by kernel_rfl) (fun _ _ _ h => h) ⟨Or.inl ⟨by rfl, ?y7q2⟩, fun _ => rfl⟩ ?r7q2
      case y7q2 => intro W; go_simp; try with_reducible rfl
      refine wpAnyIn_take (i := 8) (v := ?v8q2) rfl rfl (by kernel_rfl) (by kernel_rfl) (by kernel_rfl) (fun _ _ _ h => h) ⟨Or.inl ⟨by rfl, ?y8q2⟩, fun _ => rfl⟩ ?r8q2
      case y8q2 => intro W; go_simp; try with_reducible rfl
      refine wpAnyIn_ready (rs := [1]) (by kernel_rfl) (by simp) ?_
      refine AllReadyIn.cons rfl (fun K hK => ?_) AllReadyIn.nil
      go_simp
      refine ⟨trivial, ?_⟩; gi_at_call 55; refine (callsIn_wide.2 (S.out _)).mono ?_; rintro e w1 ⟨rfl, rfl⟩
      refine hK _ _ ?_; clear hK K
      refine wpAnyIn_ready (rs := [2]) (by kernel_rfl) (by simp) ?_
      refine AllReadyIn.cons rfl (fun K hK => ?_) AllReadyIn.nil
      go_simp
      refine ⟨trivial, ?_⟩; gi_at_call 54; refine (callsIn_wide.2 (P.out _)).mono ?_; rintro e w1 ⟨rfl, rfl⟩
      refine hK _ _ ?_; clear hK K
      refine wpAnyIn_ready (rs := [3]) (by kernel_rfl) (by simp) ?_
      refine AllReadyIn.cons rfl (fun K hK => ?_) AllReadyIn.nil
      go_simp
      refine hK _ _ ?_; clear hK K
      refine wpAnyIn_ready (rs := [4]) (by kernel_rfl) (by simp) ?_
      refine AllReadyIn.cons rfl (fun K hK => ?_) AllReadyIn.nil
      go_simp
      refine hK _ _ ?_; clear hK K
      refine wpAnyIn_ready (rs := [9]) (by kernel_rfl) (by simp) ?_
      refine AllReadyIn.cons rfl (fun K hK => ?_) AllReadyIn.nil
      go_simp
      refine hK _ _ ?_; clear hK K
      refine wpAnyIn_ready (rs := [10]) (by kernel_rfl) (by simp) ?_
      refine AllReadyIn.cons rfl (fun K hK => ?_) AllReadyIn.nil
      go_simp
      refine hK _ _ ?_; clear hK K
      refine wpAnyIn_ready (rs := [11]) (by kernel_rfl) (by simp) ?_
      refine AllReadyIn.cons rfl (fun K hK => ?_) AllReadyIn.nil
      go_simp
      refine hK _ _ ?_; clear hK K
      refine wpAnyIn_done (by kernel_rfl) ?_ _
      change KeepsOthers X _ ∧ wrI w m (i + 1) _
      refine ⟨(KeepsOthers.drew _).trans (KeepsOthers.setCell _ _ _), ?_, blk_other (blk_drew hc) (by omega) _, by repeat (first | (with_reducible exact hb) | ((with_reducible refine below_grow ?_ ?_); rotate_left; focus (first | omega | (simp [go_sem]; done) | (simp [go_sem]; omega))) | ((with_reducible refine Below.alloc ?_ ?_ _); rotate_left; focus (first | omega | (simp [go_sem]; done) | (simp [go_sem]; omega))) | ((with_reducible refine Below.setCell ?_ ?_ _); rotate_left; focus (first | omega | (simp [go_sem]; done) | (simp [go_sem]; omega))) | (with_reducible refine Below.drew ?_) | (with_reducible refine below_drewN _ ?_))⟩
      have h := blk_set (blk_drew hp) 1 (strv (chs ((cds m).take i) 2 ++ [chr r]))
      rw [HN.out]
      have e : prtC ((cds m).take i ++ [c]) = (prtC ((cds m).take i)).setIfInBounds 1 (strv (chs ((cds m).take i) 2 ++ [chr r])) := by
        unfold prtC
        rw [HS.out 0, HS.out 1, HS.out 2, HS.out 3]
        rfl
      rw [e]
      exact h
    | 3, _ =>
      have k0 := (blk_cell hp 0).trans (show _ = some (strv (chs ((cds m).take i) 3)) from rfl)
      have f0 := blk_free hp 0
      have l0 : (chs ((cds m).take i) 3).length ≤ 52 := HL.out 3
      have hA := add_op (chs ((cds m).take i) 3) [chr r] (by omega) (by simp)
      have hB := add_strv (chs ((cds m).take i) 3) [chr r] (by omega) (by simp)
      clear l0
      gi_wp2_with (refine ⟨trivial, ?_⟩; gi_at_call 53; refine (CallsIn.inRound l (callsIn_wide.2 (K.out _))).mono ?_; rintro e w1 ⟨rfl, rfl⟩)
      refine wpIn_round_any hmx (by kernel_rfl) ?_
      refine wpAnyIn_take (i := 0) (v := ?v0q3) rfl rfl (by kernel_rfl) (by kernel_rfl) (by kernel_rfl) (fun _ _ _ h => h) ⟨Or.inl ⟨by rfl, ?y0q3⟩, fun _ => rfl⟩ ?r0q3
      case y0q3 => intro W; go_simp; try with_reducible rfl
      refine wpAnyIn_take (i := 5) (v := ?v5q3) rfl rfl (by kernel_rfl) (by kernel_rfl) (by kernel_rfl) (fun _ _ _ h => h) ⟨Or.inl ⟨by rfl, ?y5q3⟩, fun _ => rfl⟩ ?r5q3
      case y5q3 => intro W; go_simp; try with_reducible rfl
      refine wpAnyIn_take (i := 6) (v := ?v6q3) rfl rfl (by kernel_rfl) (by kernel_rfl) (by kernel_rfl) (fun _ _ _ h => h) ⟨Or.inl ⟨by rfl, ?y6q3⟩, fun _ => rfl⟩ ?r6q3
      case y6q3 => intro W; go_simp; try with_reducible rfl
      refine wpAnyIn_take (i := 7) (v := ?v7q3) rfl rfl (by kernel_rfl) (by kernel_rfl) (by kernel_rfl) (fun _ _ _ h => h) ⟨Or.inl ⟨by rfl, ?y7q3⟩, fun _ => rfl⟩ ?r7q3
      case y7q3 => intro W; go_simp; try with_reducible rfl
      refine wpAnyIn_take (i := 8) (v := ?v8q3) rfl rfl (by kernel_rfl) (by kernel_rfl) (by kernel_rfl) (fun _ _ _ h => h) ⟨Or.inl ⟨by rfl, ?y8q3⟩, fun _ => rfl⟩ ?r8q3
      case y8q3 => intro W; go_simp; try with_reducible rfl
      refine wpAnyIn_ready (rs := [1]) (by kernel_rfl) (by simp) ?_
      refine AllReadyIn.cons rfl (fun K hK => ?_) AllReadyIn.nil
      go_simp
      refine ⟨trivial, ?_⟩; gi_at_call 55; refine (callsIn_wide.2 (S.out _)).mono ?_; rintro e w1 ⟨rfl, rfl⟩
      refine hK _ _ ?_; clear hK K
      refine wpAnyIn_ready (rs := [2]) (by kernel_rfl) (by simp) ?_
      refine AllReadyIn.cons rfl (fun K hK => ?_) AllReadyIn.nil
      go_simp
      refine ⟨trivial, ?_⟩; gi_at_call 54; refine (callsIn_wide.2 (P.out _)).mono ?_; rintro e w1 ⟨rfl, rfl⟩
      refine hK _ _ ?_; clear hK K
      refine wpAnyIn_ready (rs := [3]) (by kernel_rfl) (by simp) ?_
      refine AllReadyIn.cons rfl (fun K hK => ?_) AllReadyIn.nil
      go_simp
      refine hK _ _ ?_; clear hK K
      refine wpAnyIn_ready (rs := [4]) (by kernel_rfl) (by simp) ?_
      refine AllReadyIn.cons rfl (fun K hK => ?_) AllReadyIn.nil
      go_simp
      refine hK _ _ ?_; clear hK K
      refine wpAnyIn_ready (rs := [9]) (by kernel_rfl) (by simp) ?_
      refine AllReadyIn.cons rfl (fun K hK => ?_) AllReadyIn.nil
      go_simp
      refine hK _ _ ?_; clear hK K
      refine wpAnyIn_ready (rs := [10]) (by kernel_rfl) (by simp) ?_
      refine AllReadyIn.cons rfl (fun K hK => ?_) AllReadyIn.nil
      go_simp
      refine hK _ _ ?_; clear hK K
      refine wpAnyIn_ready (rs := [11]) (by kernel_rfl) (by simp) ?_
      refine AllReadyIn.cons rfl (fun K hK => ?_) AllReadyIn.nil
      go_simp
      refine hK _ _ ?_; clear hK K
      refine wpAnyIn_done (by kernel_rfl) ?_ _
      change KeepsOthers X _ ∧ wrI w m (i + 1) _
      refine ⟨(KeepsOthers.drew _).trans (KeepsOthers.setCell _ _ _), ?_, blk_other (blk_drew hc) (by omega) _, by repeat (first | (with_reducible exact hb) | ((with_reducible refine below_grow ?_ ?_); rotate_left; focus (first | omega | (simp [go_sem]; done) | (simp [go_sem]; omega))) | ((with_reducible refine Below.alloc ?_ ?_ _); rotate_left; focus (first | omega | (simp [go_sem]; done) | (simp [go_sem]; omega))) | ((with_reducible refine Below.setCell ?_ ?_ _); rotate_left; focus (first | omega | (simp [go_sem]; done) | (simp [go_sem]; omega))) | (with_reducible refine Below.drew ?_) | (with_reducible refine below_drewN _ ?_))⟩
      have h := blk_set (blk_drew hp) 0 (strv (chs ((cds m).take i) 3 ++ [chr r]))
      rw [HN.out]
      have e : prtC ((cds m).take i ++ [c]) = (prtC ((cds m).take i)).setIfInBounds 0 (strv (chs ((cds m).take i) 3 ++ [chr r])) := by
        unfold prtC
        rw [HS.out 0, HS.out 1, HS.out 2, HS.out 3]
        rfl
      rw [e]
      exact h
  case done =>
    rintro D X ⟨hp, hc, hb⟩ hD hX
    rw [List.length_map, List.take_of_length_le (Nat.le_refl _)] at hp
    have hlt := blk_lt hp
    have k0 := (blk_cell hp 0).trans (show _ = some (strv (chs (cds m) 3)) from rfl)
    have k1 := (blk_cell hp 1).trans (show _ = some (strv (chs (cds m) 2)) from rfl)
    have k2 := (blk_cell hp 2).trans (show _ = some (strv (chs (cds m) 1)) from rfl)
    have k3 := (blk_cell hp 3).trans (show _ = some (strv (chs (cds m) 0)) from rfl)
    have J := Lib.hid (Tryd.strings_Join w.heap.size 0 4 [⟨(prt m 3).toArray⟩, ⟨(prt m 2).toArray⟩, ⟨(prt m 1).toArray⟩, ⟨(prt m 0).toArray⟩] ⟨#[46]⟩ X (by
      intro j x hj
      rw [chs_cds m 0 (by decide)] at k3
      rw [chs_cds m 1 (by decide)] at k2
      rw [chs_cds m 2 (by decide)] at k1
      rw [chs_cds m 3 (by decide)] at k0
      rw [Nat.zero_add]
      match j, hj with
      | 0, hj => rw [k0]; cases hj; rfl
      | 1, hj => rw [k1]; cases hj; rfl
      | 2, hj => rw [k2]; cases hj; rfl
      | 3, hj => rw [k3]; cases hj; rfl) hlt (by simp) (by simp) (by
        have := wrt_length m
        have h2 := cds_length_le m
        rw [join_wrt]
        omega))
    rw [join_wrt] at J
    clear k0 k1 k2 k3
    have hXlt := (Array.getElem?_eq_some_iff.1 hX).1
    go_wp2_with (go_at_call 33; refine J.out.mono ?_; rintro e w5 ⟨rfl, hb5⟩)
    have hX5 := (hb5.block D hXlt).trans hX
    have hs5 := hb5.size
    have hbY : Below w.heap.size w (w5.putObj D (.deferred none)) := (hb.trans (hb5.mono hb.size)).trans (below_putObj _ _ _ _ (by omega))
    refine ⟨by simp, .inl ⟨_, _, rfl, run_takeDeferred hX5, ?_⟩⟩
    refine ⟨_, ?_, rfl, hbY⟩
    simp [results, Tryd.results38, go_sem]
theorem write_no (m : Nat) (hm : ¬ m < 4503599627370496) (w : World) :
    Calls Tryd.prog 38 #[.int .u64 m] w fun e w' => e = .returned (.tuple #[.string ⟨#[]⟩, .int .i64 41]) ∧ w = w' := by
  have R := Lib.hid (rightMask_no m hm)
  go_enter Tryd.func38, Tryd.ntmps38
  go_wp2_with (first | (go_at_call 51; refine (R.out _).mono ?_; rintro e w1 ⟨rfl, rfl⟩))
  refine bodyPost_ret (by simp [results, Tryd.results38, go_sem]) rfl ⟨rfl, rfl⟩
end Go.Proofs.YtalklogopepjpaaDoor.Ca
