/- Dealt: the walk. -/
import Derived.Test.YtalklogopepjpaaDoorMJ
import Derived.Test.YtalklogopepjpaaDoorMI
import Derived.BigQuiet
import Derived.Lib.MinMax
import Derived.Deep.DeepCutAuto
import Derived.Shelf.Abstract
import Derived.Deep.RegionHeld3
import Derived.StillTailTactics
import Derived.Laws.BytesArg
import Derived.Laws.OwnMore
import Derived.Deep.LoopGhost
import Derived.Deep.Cut
namespace Go.Proofs.YtalklogopepjpaaDoor.Ha
open Go.RowKit Go.Proofs.DB

theorem wrap_pow (g : Nat) (hg : g < 64) : IntKind.u64.wrap ((2 : Int) ^ g) = ((2 ^ g : Nat) : Int) := by
  have h2 : 2 ^ g < 2 ^ 64 := Nat.pow_lt_pow_right (by decide) hg
  have e : ((2 : Int) ^ g) = ((2 ^ g : Nat) : Int) := by simp
  rw [e, IntKind.wrap_u64]
  generalize 2 ^ g = p at h2
  omega
def blk (w : World) (b : Nat) (cs : Array Value) (t : TypeId) : Prop := w.heap[b]? = some (.cells cs t (0, 0))
theorem blk_cell {w : World} {b : Nat} {cs : Array Value} {t : TypeId} (h : blk w b cs t) (i : Nat) : w.cell? ⟨b, i, none⟩ = cs[i]? := by
  unfold blk at h; exact cell_of_row w b i cs t (0, 0) h
theorem blk_free {w : World} {b : Nat} {cs : Array Value} {t : TypeId} (h : blk w b cs t) (i : Nat) : w.frozen? ⟨b, i, none⟩ = false := frozen_of_row w b i cs t h
theorem blk_lt {w : World} {b : Nat} {cs : Array Value} {t : TypeId} (h : blk w b cs t) : b < w.heap.size := (Array.getElem?_eq_some_iff.1 h).1
theorem blk_set {w : World} {b : Nat} {cs : Array Value} {t : TypeId} (h : blk w b cs t) (i : Nat) (v : Value) : blk (w.setCell ⟨b, i, none⟩ v) b (cs.setIfInBounds i v) t := heap_setCell_same w b i cs t v h
theorem blk_other {w : World} {b : Nat} {cs : Array Value} {t : TypeId} (h : blk w b cs t) {a : Addr} (hne : b ≠ a.block) (v : Value) : blk (w.setCell a v) b cs t := (heap_setCell_other w a b v hne).trans h
theorem blk_alloc {w : World} {b : Nat} {cs : Array Value} {t : TypeId} (h : blk w b cs t) (o : Obj) : blk (w.alloc o) b cs t := by
  have := blk_lt h
  unfold blk at *
  rw [show (w.alloc o).heap = w.heap.push o from rfl, Array.getElem?_push, if_neg (by omega)]
  exact h
theorem blk_new (w : World) (cs : Array Value) (t : TypeId) : blk (w.alloc (.cells cs t)) w.heap.size cs t := by
  show (w.heap.push _)[w.heap.size]? = _
  simp
theorem blk_new2 (w : World) {cs cs' : Array Value} {t : TypeId} {b : Nat} (hb : b = w.heap.size) (e : cs = cs') : blk (w.alloc (.cells cs t)) b cs' t := by
  subst hb e
  exact blk_new w cs t
/-- The row of the order. -/
def rowA (f : Nat → Nat) : Array Value := (Array.range 52).map fun j => .int .i64 (f j : Nat)
theorem rowA_get (f : Nat → Nat) (j : Nat) (hj : j < 52) : (rowA f)[j]? = some (.int .i64 (f j : Nat)) := by simp [rowA, hj]
theorem rowA_size (f : Nat → Nat) : (rowA f).size = 52 := by simp [rowA]
theorem rowA_set (f g : Nat → Nat) (i n : Nat) (h : ∀ j, g j = if j = i then n else f j) : (rowA f).setIfInBounds i (.int .i64 (n : Nat)) = rowA g := by
  apply Array.ext
  · simp [rowA]
  · intro j h1 h2
    rw [Array.getElem_setIfInBounds]
    · by_cases e : i = j
      · subst e; simp [rowA, h]
      · have : ¬ j = i := fun x => e x.symm
        simp [rowA, h, e, this]
    · simpa [rowA] using h2
def row4 (d : Nat → Nat) : Array Value := #[.int .u64 (d 0 : Nat), .int .u64 (d 1 : Nat), .int .u64 (d 2 : Nat), .int .u64 (d 3 : Nat)]
theorem row4_get (d : Nat → Nat) (q : Nat) (hq : q < 4) : (row4 d)[q]? = some (.int .u64 (d q : Nat)) := by
  match q, hq with
  | 0, _ => rfl
  | 1, _ => rfl
  | 2, _ => rfl
  | 3, _ => rfl
theorem row4_set (d e : Nat → Nat) (q n : Nat) (hq : q < 4) (h : ∀ j, e j = if j = q then n else d j) : (row4 d).setIfInBounds q (.int .u64 (n : Nat)) = row4 e := by
  match q, hq with
  | 0, _ => simp [row4, h]
  | 1, _ => simp [row4, h]
  | 2, _ => simp [row4, h]
  | 3, _ => simp [row4, h]
theorem index_row (f : Nat → Nat) (i : Nat) (hi : i < 52) (W : World) : (Instr.index 86 (.agg (rowA f)) (.int .i64 i)).run Tryd.prog W = .ok (.int .i64 (f i : Nat)) W := by
  have u := run_underlying Tryd.underlying86 W
  have z := Tryd.sizeOf3 W
  have a := Tryd.isAgg3 W
  have hi2 : (i : Int) < 52 := by omega
  have g := rowA_get f i hi
  simp [Instr.index, Sem.run_bind, u, z, g, go_sem]
  intro h
  omega
theorem rowA_congr {f g : Nat → Nat} (h : ∀ j, j < 52 → f j = g j) : rowA f = rowA g := by
  unfold rowA
  apply Array.ext
  · simp
  · intro i h1 h2
    have : i < 52 := by simpa using h1
    simp [h i this]
/-- The order behind i exchanges. -/
def shf (xs : List Nat) : Nat → Nat → Nat
  | 0 => fun j => j
  | i + 1 => xch (shf xs i) i (i + (xs[i]?.getD 0) % (52 - i))
def od (xs : List Nat) : Nat → Nat := shf xs (min xs.length 52)
theorem shf_ord (xs : List Nat) : ∀ i, i ≤ 52 → Ord (shf xs i)
  | 0, _ => Ord.id
  | i + 1, h => (shf_ord xs i (by omega)).xch (by omega) (by have := Nat.mod_lt (xs[i]?.getD 0) (show 0 < 52 - i by omega); omega)
theorem od_ord (xs : List Nat) : Ord (od xs) := shf_ord xs _ (Nat.min_le_right _ _)
/-- A slice that holds a list of bytes. -/
def SlB (W : World) (v : Value) (xs : List Nat) : Prop := ∃ p c, v = .slice p xs.length c ∧ xs.length ≤ c ∧ (xs ≠ [] → ∃ b off, p = some ⟨b, off, none⟩ ∧ b < W.heap.size ∧ ∀ j x, xs[j]? = some x → W.cell? ⟨b, off + j, none⟩ = some (.int .u8 (x : Nat)))
theorem slb_slice {W : World} {v : Value} {xs : List Nat} (h : SlB W v xs) (m : Nat) (hm : m ≤ xs.length) : ∃ p c, (∀ w, (Instr.slice 36 v none (some (.int .i64 m)) none).run Tryd.prog w = .ok (.slice p m c) w) ∧ (0 < m → ∃ b off, p = some ⟨b, off, none⟩ ∧ b < W.heap.size ∧ ∀ j, j < m → ∃ x, xs[j]? = some x ∧ W.cell? ⟨b, off + j, none⟩ = some (.int .u8 (x : Nat))) := by
  obtain ⟨p, c, rfl, hc, hr⟩ := h
  have z := Tryd.sizeOf5
  have u := Tryd.underlying36
  have hm2 : (m : Int) ≤ c := by omega
  refine ⟨if c = 0 then p else p.map (·.add 0), c, fun w => by simp [go_sem, *], fun h0 => ?_⟩
  have hne : xs ≠ [] := by rintro rfl; simp at hm; omega
  obtain ⟨b, off, rfl, hb, hcell⟩ := hr hne
  have hc0 : ¬ c = 0 := by
    have : 0 < xs.length := List.length_pos_iff.2 hne
    omega
  refine ⟨b, off, by rw [if_neg hc0]; simp [Addr.add], hb, fun j hj => ⟨xs[j], List.getElem?_eq_getElem (by omega), hcell j _ (List.getElem?_eq_getElem (by omega))⟩⟩
theorem Tryd.info54 : (Tryd.prog.info? 86).map (·.size) = some 52 := by kernel_rfl
set_option maxRecDepth 100000 in
set_option maxHeartbeats 8000000 in
theorem dealt_calls (v : Value) (xs : List Nat) (hx8 : ∀ x ∈ xs, x < 256) (w : World) (hS : SlB w v xs) :
    Calls Tryd.prog 27 #[v] w fun e w' => e = .returned (.agg #[.int .u64 (dl (od xs) 0 52), .int .u64 (dl (od xs) 1 52), .int .u64 (dl (od xs) 2 52), .int .u64 (dl (od xs) 3 52)]) ∧ Below w.heap.size w w' := by
  have hS' := hS
  obtain ⟨p0, c0, hv, hc, _⟩ := hS'
  obtain ⟨p, c, sl, hp⟩ := slb_slice hS (min xs.length 52) (Nat.min_le_left _ _)
  have HX := Lib.hid hx8
  rw [hv] at sl
  subst hv
  obtain ⟨n, hn⟩ : ∃ n, xs.length = n := ⟨_, rfl⟩
  rw [hn] at sl hp ⊢
  have mn : min (n : Int) 52 = ((min n 52 : Nat) : Int) := by omega
  have ml : min n 52 ≤ 52 := Nat.min_le_right _ _
  have hod : od xs = shf xs (min n 52) := by unfold od; rw [hn]
  rw [hod]
  obtain ⟨m, hm⟩ : ∃ m, min n 52 = m := ⟨_, rfl⟩
  rw [hm] at sl hp mn ml ⊢
  have HP := Lib.hid hp
  clear hp hS hc hx8 hn hm hod
  go_enter Tryd.func27, Tryd.ntmps27
  go_upto_region 3 with fail
  generalize hW : World.alloc (World.alloc w _) _ = W
  have bW : blk W (w.heap.size + 1) (rowA fun _ => 0) 86 := by
    rw [← hW]
    refine blk_new2 _ (by simp) ?_
    kernel_rfl
  have bR : blk W w.heap.size #[.int .u64 0, .int .u64 0, .int .u64 0, .int .u64 0] 38 := by
    rw [← hW]
    exact blk_alloc (blk_new _ _ _) _
  have bel : Below w.heap.size w W := by rw [← hW]; repeat (first | (with_reducible exact Below.refl _ _) | ((with_reducible refine below_grow ?_ ?_); rotate_left; focus (first | omega | (simp [go_sem]; done) | (simp [go_sem]; omega))) | ((with_reducible refine Below.alloc ?_ ?_ _); rotate_left; focus (first | omega | (simp [go_sem]; done) | (simp [go_sem]; omega))) | ((with_reducible refine Below.setCell ?_ ?_ _); rotate_left; focus (first | omega | (simp [go_sem]; done) | (simp [go_sem]; omega))) | (with_reducible refine Below.drew ?_) | (with_reducible refine below_drewN _ ?_))
  clear hW
  have hsz := bel.size
  have hbl := blk_lt bW
  generalize hg : w.heap.size + 1 = g at *
  have HG := Lib.hid hg
  have BEL := Lib.hid bel
  have HBR := Lib.hid bR
  clear bR bel
  go_loopw [4, 11] (fun s4 s11 wr => ∃ (i : Nat) (f : Nat → Nat), s11 = .int .i64 i ∧ i ≤ 52 ∧ (∀ j, j < i → f j = j) ∧ blk wr g (rowA f) 86 ∧ Below g W wr ∧ wr.heap.size = W.heap.size) (fun _ s11 _ => 52 - (intOf s11).toNat)
  case atStart => exact ⟨0, _, rfl, by decide, fun j hj => by omega, bW, Below.refl _ _, rfl⟩
  case round =>
    obtain ⟨i, f, rfl, hi, hf, hb, hw, hz⟩ := hrel
    by_cases hlt : i < 52
    · have hlt2 : (i : Int) < 52 := by omega
      have e1 : IntKind.i64.wrap ((i : Int) + 1) = (i : Int) + 1 := IntWalk.i64_in _ (by omega)
      have c1 := (blk_cell hb i).trans (rowA_get f i hlt)
      have c2 := blk_free hb i
      have st := blk_set hb i (.int .i64 (i : Nat))
      rw [rowA_set f (fun j => if j = i then i else f j) i i (fun j => rfl)] at st
      have wb : Below g W (wr.setCell ⟨g, i, none⟩ (.int .i64 (i : Nat))) := hw.setCell (Nat.le_refl _) _
      have HST := Lib.hid st
      have HWB := Lib.hid wb
      have HL := Lib.hid hlt
      have HF := Lib.hid hf
      have HZ := Lib.hid hz
      clear hb hf hi hlt st wb hz hw
      go_wp2
      go_roundw
      case rel => exact ⟨i + 1, _, by go_num, HL.out, fun j hj => by
        by_cases e : j = i
        · rw [if_pos e]; exact e.symm
        · rw [if_neg e]; exact HF.out j (by omega), HST.out, HWB.out, by simp [World.setCell, HZ.out]⟩
      case measure => simp [intOf]; have := HL.out; omega
    · obtain rfl : i = 52 := by omega
      rw [rowA_congr (g := shf xs 0) hf] at hb
      have hO : Ord (shf xs 0) := Ord.id
      obtain ⟨f, hfe⟩ : ∃ f, shf xs 0 = f := ⟨_, rfl⟩
      rw [hfe] at hb hO
      clear hf hi hlt bW
      go_upto_region 8 with fail
      go_loopw [5, 6, 7, 24] (fun s5 s6 s7 s24 wq => ∃ (i : Nat) (f : Nat → Nat), s24 = .int .i64 i ∧ i ≤ m ∧ shf xs i = f ∧ Ord f ∧ blk wq g (rowA f) 86 ∧ Below g W wq ∧ wq.heap.size = W.heap.size) (fun _ _ _ s24 _ => m - (intOf s24).toNat)
      case atStart => exact ⟨0, f, rfl, Nat.zero_le _, hfe, hO, hb, hw, hz⟩
      case round =>
        clear hfe hO hb hw hz f
        obtain ⟨i, f, rfl, hi, hfe, hO, hb, hw, hz⟩ := hrel
        by_cases hlt : i < m
        · have hlt2 : (i : Int) < m := by omega
          obtain ⟨b, off, rfl, hbl2, hcell⟩ := HP.out (by omega)
          obtain ⟨x, hx, hc⟩ := hcell i hlt
          have hx256 := HX.out x (List.mem_of_getElem? hx)
          have hg2 := HG.out
          have c0' : wr.cell? ⟨b, off + i, none⟩ = some (.int .u8 (x : Nat)) :=
            (hw.cell (p := ⟨b, off + i, none⟩) (by show b < g; omega)).trans ((BEL.out.cell (p := ⟨b, off + i, none⟩) (by show b < w.heap.size; omega)).trans hc)
          have e1 : IntKind.i64.wrap ((i : Int) + 1) = (i : Int) + 1 := IntWalk.i64_in _ (by omega)
          have e2 : IntKind.i64.wrap (52 - (i : Int)) = ((52 - i : Nat) : Int) := by rw [IntWalk.i64_in _ (by omega)]; omega
          have e0 : IntKind.i64.wrap (x : Int) = x := IntWalk.i64_in _ (by omega)
          have e3 : (x : Int).tmod ((52 - i : Nat) : Int) = ((x % (52 - i) : Nat) : Int) := rfl
          have e3' : (x : Int) % ((52 - i : Nat) : Int) = ((x % (52 - i) : Nat) : Int) := rfl
          have hk : i + x % (52 - i) < 52 := by have := Nat.mod_lt x (show 0 < 52 - i by omega); omega
          have e4 : IntKind.i64.wrap ((i : Int) + ((x % (52 - i) : Nat) : Int)) = ((i + x % (52 - i) : Nat) : Int) := by rw [IntWalk.i64_in _ (by omega)]; omega
          have e5 : ¬ ((52 - i : Nat) : Int) = 0 := by omega
          obtain ⟨r, hr⟩ : ∃ r, 52 - i = r := ⟨_, rfl⟩
          rw [hr] at e2 e3 e3' e4 e5 hk
          obtain ⟨y, hy⟩ : ∃ y, x % r = y := ⟨_, rfl⟩
          rw [hy] at e3 e3' e4 hk
          obtain ⟨k, hkk⟩ : ∃ k, i + y = k := ⟨_, rfl⟩
          rw [hkk] at e4 hk
          have hi52 : i < 52 := by omega
          have ci := (blk_cell hb i).trans (rowA_get f i hi52)
          have ck := (blk_cell hb k).trans (rowA_get f k hk)
          have fz := fun j => blk_free hb j
          have st1 := blk_set hb i (.int .i64 (f k : Nat))
          rw [rowA_set f (fun j => if j = i then f k else f j) i (f k) (fun j => rfl)] at st1
          have st2 := blk_set st1 k (.int .i64 (f i : Nat))
          rw [rowA_set _ (xch f i k) k (f i) (fun j => rfl)] at st2
          obtain ⟨val, ck2⟩ : ∃ val, (wr.setCell ⟨g, i, none⟩ (.int .i64 (f k : Nat))).cell? ⟨g, k, none⟩ = some val := ⟨_, (blk_cell st1 k).trans (rowA_get _ k hk)⟩
          have HST := Lib.hid st2
          have fi := fz i
          have fk := fz k
          have i52 : (i : Int) < 52 := by omega
          have k52 : (k : Int) < 52 := by omega
          have HL := Lib.hid hlt
          have HO := Lib.hid (hO.xch hi52 hk)
          have HFE : shf xs (i + 1) = xch f i k := by
            show xch (shf xs i) i (i + (xs[i]?.getD 0) % (52 - i)) = _
            rw [hfe, hx, Option.getD_some, hr, hy, hkk]
          have HFE := Lib.hid HFE
          clear hfe
          have HB := Lib.hid hb
          have HW := Lib.hid hw
          have HZ := Lib.hid hz
          clear st1 st2 hr hy hkk hb hO hw hz hi hlt hc hx256 hbl2 hcell hx fz
          go_upto_region 11 with fail
          go_region
          all_goals go_wp2
          all_goals go_roundw
          case rel => exact ⟨i + 1, xch f i k, by go_num, HL.out, HFE.out, HO.out, HST.out, Below.drew ((HW.out.setCell (p := ⟨g, i, none⟩) (Nat.le_refl g) _).setCell (p := ⟨g, k, none⟩) (Nat.le_refl g) _), by simp [World.setCell, HZ.out]⟩
          case measure => simp [intOf]; have := HL.out; omega
        · obtain rfl : i = m := by omega
          clear hlt hi
          have OL := fun q i (hi : i ≤ 52) => dl_lt hO q i hi
          have FL := hO.lt
          have HO := Lib.hid hO
          have i54 := Tryd.info54
          go_upto_region 13 with fail
          go_upto_region 14 with fail
          generalize hV : World.alloc wr _ = V
          have hz2 : W.heap.size = wr.heap.size := hz.symm
          have b8 : blk V W.heap.size (row4 fun q => dl f q 0) 38 := by rw [← hV]; exact blk_new2 _ hz2 rfl
          have bg : blk V g (rowA f) 86 := by rw [← hV]; exact blk_alloc hb _
          have hgl := HG.out
          have b2 : blk V w.heap.size #[.int .u64 0, .int .u64 0, .int .u64 0, .int .u64 0] 38 := by
            rw [← hV]
            refine blk_alloc ?_ _
            exact (hw.block _ (by omega)).trans HBR.out
          have bV : Below w.heap.size w V := by
            rw [← hV]
            refine (BEL.out.trans (hw.mono (by omega))).alloc ?_ _
            have := BEL.out.size
            omega
          have hR : w.heap.size < W.heap.size := blk_lt HBR.out
          clear hV hb hw hz hz2
          refine wp_region_lit ?_
          refine wpList_load_row rfl _ _ rfl g rfl 86 (rowA f) (0, 0) _ bg Tryd.underlying86 rfl (by rw [i54, rowA_size]) ?_
          have HR := Lib.hid hR
          clear bg i54 hgl hR
          go_upto_region 15 with fail
          generalize W.heap.size = N8 at *
          have IXH := Lib.hid (index_row f)
          have OLH := Lib.hid OL
          have FLH := Lib.hid FL
          have BVH := Lib.hid bV
          clear OL FL bV hO HP sl mn ml HX BEL HBR hsz hbl
          go_loopw [9, 10, 48] (fun s9 s10 s48 wq => ∃ i : Nat, s48 = .int .i64 i ∧ i ≤ 52 ∧ blk wq N8 (row4 fun q => dl f q i) 38 ∧ blk wq w.heap.size #[.int .u64 0, .int .u64 0, .int .u64 0, .int .u64 0] 38 ∧ Below w.heap.size w wq) (fun _ _ s48 _ => 52 - (intOf s48).toNat)
          case atStart => exact ⟨0, rfl, by decide, b8, b2, BVH.out⟩
          case round =>
            clear b8 b2
            obtain ⟨i, rfl, hi, b8, b2, bw⟩ := hrel
            by_cases hlt : i < 52
            · have hlt2 : (i : Int) < 52 := by omega
              have ix := IXH.out i hlt
              have e1 : IntKind.i64.wrap ((i : Int) + 1) = (i : Int) + 1 := IntWalk.i64_in _ (by omega)
              have e2 : (i : Int).tdiv 13 = ((i / 13 : Nat) : Int) := by rw [Int.tdiv_eq_ediv_of_nonneg (by omega)]; omega
              have e2' : (i : Int) / 13 = ((i / 13 : Nat) : Int) := by omega
              have hq4 : i / 13 < 4 := by omega
              have fl := FLH.out i hlt
              have ol := OLH.out (i / 13) i hi
              have p2 : 2 ^ f i < 2 ^ 52 := Nat.pow_lt_pow_right (by decide) fl
              have e3 : IntKind.u64.wrap ((2 : Int) ^ f i) = ((2 ^ f i : Nat) : Int) := wrap_pow (f i) (by omega)
              have hmn : min (f i) 64 = f i := by omega
              have e4 : bits .or .u64 (dl f (i / 13) i : Int) ((2 ^ f i : Nat) : Int) = (dl f (i / 13) (i + 1) : Int) := by
                rw [dl_succ, if_pos rfl]
                exact u64_or_nat _ _ (by omega) (by omega)
              have st := blk_set b8 (i / 13) (.int .u64 (dl f (i / 13) (i + 1) : Nat))
              rw [row4_set _ (fun q => dl f q (i + 1)) (i / 13) _ hq4 (fun j => by
                by_cases ej : j = i / 13
                · rw [if_pos ej, ej]
                · rw [if_neg ej, dl_succ, if_neg (fun x => ej x.symm)])] at st
              have c8 := (blk_cell b8 (i / 13)).trans (row4_get _ _ hq4)
              have f8 := blk_free b8 (i / 13)
              have s2 := blk_other b2 (a := ⟨N8, i / 13, none⟩) (by have := HR.out; show w.heap.size ≠ N8; omega) (.int .u64 (dl f (i / 13) (i + 1) : Nat))
              obtain ⟨q, hq⟩ : ∃ q, i / 13 = q := ⟨_, rfl⟩
              rw [hq] at e2 e2' hq4 e4 st c8 f8 s2
              have q4 : (q : Int) < 4 := by omega
              obtain ⟨d, hd⟩ : ∃ d, dl f q i = d := ⟨_, rfl⟩
              obtain ⟨d', hd'⟩ : ∃ d, dl f q (i + 1) = d := ⟨_, rfl⟩
              obtain ⟨z, hz⟩ : ∃ z, 2 ^ f i = z := ⟨_, rfl⟩
              rw [hd] at e4 c8
              rw [hd'] at e4 s2 st
              rw [hz] at e3 e4
              obtain ⟨c, hc⟩ : ∃ c, f i = c := ⟨_, rfl⟩
              rw [hc] at ix e3 hmn
              have HST := Lib.hid st
              have HS2 := Lib.hid s2
              have HL := Lib.hid hlt
              have HBW := Lib.hid bw
              clear st s2 hlt hi fl ol p2 hq hd hd' hz hc b8 b2 bw hq4
              go_upto_region 17 with fail
              go_region
              all_goals go_wp2
              all_goals go_roundw
              case rel => exact ⟨i + 1, by go_num, HL.out, HST.out, HS2.out, Below.drew (HBW.out.setCell (p := ⟨N8, q, none⟩) (Nat.le_of_lt HR.out) _)⟩
              case measure => simp [intOf]; have := HL.out; omega
            · obtain rfl : i = 52 := by omega
              have r0 : wr.cell? ⟨w.heap.size, 0, none⟩ = some (.int .u64 0) := blk_cell b2 0
              have r1 : wr.cell? ⟨w.heap.size, 1, none⟩ = some (.int .u64 0) := blk_cell b2 1
              have r2 : wr.cell? ⟨w.heap.size, 2, none⟩ = some (.int .u64 0) := blk_cell b2 2
              have r3 : wr.cell? ⟨w.heap.size, 3, none⟩ = some (.int .u64 0) := blk_cell b2 3
              have rf := fun j => blk_free b2 j
              have k0 : wr.cell? ⟨N8, 0, none⟩ = some (.int .u64 (dl f 0 52 : Nat)) := blk_cell b8 0
              have k1 : wr.cell? ⟨N8, 1, none⟩ = some (.int .u64 (dl f 1 52 : Nat)) := blk_cell b8 1
              have k2 : wr.cell? ⟨N8, 2, none⟩ = some (.int .u64 (dl f 2 52 : Nat)) := blk_cell b8 2
              have k3 : wr.cell? ⟨N8, 3, none⟩ = some (.int .u64 (dl f 3 52 : Nat)) := blk_cell b8 3
              have hsz := bw.size
              clear b8 b2 hlt hi
              go_wp2
              refine bodyPost_ret (v := .agg #[.int .u64 (dl f 0 52 : Nat), .int .u64 (dl f 1 52 : Nat), .int .u64 (dl f 2 52 : Nat), .int .u64 (dl f 3 52 : Nat)]) (by simp [results, Tryd.results27, go_sem, r0, r1, r2, r3]) rfl ⟨by rw [hfe], ?_⟩
              repeat (first | (with_reducible exact bw) | ((with_reducible refine below_grow ?_ ?_); rotate_left; focus (first | omega | (simp [go_sem]; done) | (simp [go_sem]; omega))) | ((with_reducible refine Below.alloc ?_ ?_ _); rotate_left; focus (first | omega | (simp [go_sem]; done) | (simp [go_sem]; omega))) | ((with_reducible refine Below.setCell ?_ ?_ _); rotate_left; focus (first | omega | (simp [go_sem]; done) | (simp [go_sem]; omega))) | (with_reducible refine Below.drew ?_) | (with_reducible refine below_drewN _ ?_))
end Go.Proofs.YtalklogopepjpaaDoor.Ha
