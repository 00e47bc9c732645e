/- The variables that the program reads; a record's fault; its text. -/
import Derived.Test.YtalklogopepjpaaDoorBI
import Derived.Test.YtalklogopepjpaaDoorYK
import Derived.Test.YtalklogopepjpaaDoorYP
import Derived.Test.YtalklogopepjpaaDoorBD
import Derived.Lib.ItoaLen
namespace Go.Proofs.YtalklogopepjpaaDoor.Ca
open Go.RowKit
open Go.Proofs.DB (Pd Rd dlr vul)

/-- The words of the vulnerabilities, the letters of the dealers. -/
def side : Nat → List UInt8
  | 0 => [110, 111, 110, 101]
  | 1 => [78, 83]
  | 2 => [69, 87]
  | _ => [98, 111, 116, 104]
def dltr : Nat → UInt8
  | 0 => 78
  | 1 => 69
  | 2 => 83
  | _ => 87
/-- What the variables must hold. -/
structure EnvB (w : World) : Prop where
  tab : Lib.TabIs Tryd.prog w "internal/strconv.uint64pow10" .u64 Lib.pow10Tab
  ml : ∃ m, w.cell? ⟨4, 0, none⟩ = some (.int .i64 m)
  es : ∃ te pe, w.cell? ⟨1, 0, none⟩ = some (.iface te pe)
  er : ∃ te pe, w.cell? ⟨2, 0, none⟩ = some (.iface te pe)
  sd : ∀ j, j < 4 → w.cell? ⟨0, j, none⟩ = some (strv (side j))
theorem tabIs_below {P : Program} {w w' : World} {name : String} {k : IntKind} {zs : List Int} (h : Lib.TabIs P w name k zs) (hb : Below w.heap.size w w') : Lib.TabIs P w' name k zs := by
  unfold Lib.TabIs World.var? at *
  cases hg : P.globalNamed name with
  | none => simp [hg] at h
  | some g =>
    simp only [hg, Option.bind_some] at h ⊢
    have hlt : g < w.heap.size := by
      rcases Nat.lt_or_ge g w.heap.size with h' | h'
      · exact h'
      · rw [Array.getElem?_eq_none h'] at h; simp at h
    rw [hb.block g hlt]
    exact h
theorem EnvB.below {w w' : World} (h : EnvB w) (hb : Below w.heap.size w w') : EnvB w' :=
  ⟨tabIs_below h.tab hb, let ⟨m, hm⟩ := h.ml; ⟨m, (hb.cell (World.block_lt_of_cell? w _ hm)).trans hm⟩, let ⟨m, p, hm⟩ := h.es; ⟨m, p, (hb.cell (World.block_lt_of_cell? w _ hm)).trans hm⟩, let ⟨m, p, hm⟩ := h.er; ⟨m, p, (hb.cell (World.block_lt_of_cell? w _ hm)).trans hm⟩,
    fun j hj => (hb.cell (World.block_lt_of_cell? w _ (h.sd j hj))).trans (h.sd j hj)⟩
theorem below_kgrow {B : Nat} {a w : World} (k : Nat) (os : Array Obj) (h : Below B a w) (hB : B ≤ w.heap.size) : Below B a (Go.Sort.grow (w.drewN k) os) := by
  refine h.trans ⟨rfl, rfl, rfl, ?_, fun i hi => ?_⟩
  · simp [Go.Sort.grow, World.drewN]
  · simp [Go.Sort.grow, World.drewN, Array.getElem?_append_left (show i < w.heap.size by omega)]

theorem itoa_calls (n : Int) (h0 : -9223372036854775808 ≤ n) (h1 : n ≤ 9223372036854775807) (w : World) (he : EnvB w) :
    Calls Tryd.prog 32 #[.int .i64 n] w fun e w' => e = .returned (strv (Lib.itoa n)) ∧ Below w.heap.size w w' :=
  (Tryd.strconv_Itoa n h0 h1 w he.tab).mono fun e w' ⟨h, k, os, hw⟩ => ⟨h, by rw [hw]; exact below_kgrow k os (Below.refl _ _) (Nat.le_refl _)⟩
/-- A record as a value: `@RV`. -/
theorem fault_yes (n : Nat) (h1 : 1 ≤ n) (h2 : n ≤ 128) (p : Nat → Nat) (hp : Rd p) (w : World) : Calls Tryd.prog 31 #[.agg #[.int .i64 n, .int .u64 (p 0 : Nat), .int .u64 (p 1 : Nat), .int .u64 (p 2 : Nat), .int .u64 (p 3 : Nat)]] w fun e w' => e = .returned (.int .i64 0) ∧ Below w.heap.size w w' := by
  have B := Lib.hid (isBoard_yes n h1 h2)
  have P := Lib.hid (dright_of p hp)
  clear h1 h2 hp
  go_enter Tryd.func31, Tryd.ntmps31
  go_wp2_with (first | (go_at_call 24; refine (B.out _).mono ?_; rintro e w9 ⟨rfl, rfl⟩) | (go_at_call 28; refine (P.out _).mono ?_; rintro e w9 ⟨rfl, hbel⟩; obtain ⟨o1, j1, rfl⟩ := grow_of_below hbel; clear hbel))
  refine bodyPost_ret (by simp [results, Tryd.results31, go_sem]) rfl ⟨rfl, ?_⟩
  repeat (first | (with_reducible exact Below.refl _ _) | ((with_reducible refine below_grow ?_ ?_); rotate_left; focus (first | omega | (simp [go_sem]; done) | (simp [go_sem]; omega))) | ((with_reducible refine Below.alloc ?_ ?_ _); rotate_left; focus (first | omega | (simp [go_sem]; done) | (simp [go_sem]; omega))) | ((with_reducible refine Below.setCell ?_ ?_ _); rotate_left; focus (first | omega | (simp [go_sem]; done) | (simp [go_sem]; omega))) | (with_reducible refine Below.drew ?_) | (with_reducible refine below_drewN _ ?_))
theorem fault_board (n : Int) (h : n < 1 ∨ 128 < n) (p : Nat → Nat) (w : World) : Calls Tryd.prog 31 #[.agg #[.int .i64 n, .int .u64 (p 0 : Nat), .int .u64 (p 1 : Nat), .int .u64 (p 2 : Nat), .int .u64 (p 3 : Nat)]] w fun e w' => e = .returned (.int .i64 70) ∧ Below w.heap.size w w' := by
  have B := Lib.hid (isBoard_no n h)
  clear h
  go_enter Tryd.func31, Tryd.ntmps31
  go_wp2_with (go_at_call 24; refine (B.out _).mono ?_; rintro e w9 ⟨rfl, rfl⟩)
  refine bodyPost_ret (by simp [results, Tryd.results31, go_sem]) rfl ⟨rfl, ?_⟩
  repeat (first | (with_reducible exact Below.refl _ _) | ((with_reducible refine below_grow ?_ ?_); rotate_left; focus (first | omega | (simp [go_sem]; done) | (simp [go_sem]; omega))) | ((with_reducible refine Below.alloc ?_ ?_ _); rotate_left; focus (first | omega | (simp [go_sem]; done) | (simp [go_sem]; omega))) | ((with_reducible refine Below.setCell ?_ ?_ _); rotate_left; focus (first | omega | (simp [go_sem]; done) | (simp [go_sem]; omega))) | (with_reducible refine Below.drew ?_) | (with_reducible refine below_drewN _ ?_))
theorem fault_deal (n : Nat) (h1 : 1 ≤ n) (h2 : n ≤ 128) (p : Nat → Nat) (h64 : ∀ i, i < 4 → p i < 18446744073709551616) (hp : ¬ Rd p) (w : World) : Calls Tryd.prog 31 #[.agg #[.int .i64 n, .int .u64 (p 0 : Nat), .int .u64 (p 1 : Nat), .int .u64 (p 2 : Nat), .int .u64 (p 3 : Nat)]] w fun e w' => e = .returned (.int .i64 60) ∧ Below w.heap.size w w' := by
  have B := Lib.hid (isBoard_yes n h1 h2)
  have P := Lib.hid (dright_not p h64 hp)
  clear h1 h2 hp
  go_enter Tryd.func31, Tryd.ntmps31
  go_wp2_with (first | (go_at_call 24; refine (B.out _).mono ?_; rintro e w9 ⟨rfl, rfl⟩) | (go_at_call 28; refine (P.out _).mono ?_; rintro e w9 ⟨rfl, hbel⟩; obtain ⟨o1, j1, rfl⟩ := grow_of_below hbel; clear hbel))
  refine bodyPost_ret (by simp [results, Tryd.results31, go_sem]) rfl ⟨rfl, ?_⟩
  repeat (first | (with_reducible exact Below.refl _ _) | ((with_reducible refine below_grow ?_ ?_); rotate_left; focus (first | omega | (simp [go_sem]; done) | (simp [go_sem]; omega))) | ((with_reducible refine Below.alloc ?_ ?_ _); rotate_left; focus (first | omega | (simp [go_sem]; done) | (simp [go_sem]; omega))) | ((with_reducible refine Below.setCell ?_ ?_ _); rotate_left; focus (first | omega | (simp [go_sem]; done) | (simp [go_sem]; omega))) | (with_reducible refine Below.drew ?_) | (with_reducible refine below_drewN _ ?_))
end Go.Proofs.YtalklogopepjpaaDoor.Ca
