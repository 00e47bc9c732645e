/- finessekit's lists of bytes: marks, lent, kept, written over. -/
import Derived.Test.YtacgikhedhiaaaaDoorKY
import Derived.OwnWalk
namespace Go.Proofs.YtacgikhedhiaaaaDoor
open Go.RowKit

def mrk (k i : Nat) : Nat := 1000003 * (k + 7) + i
def mb (k i : Nat) : Nat := mrk k i * 11400714819323198485 % 18446744073709551616 / 72057594037927936
theorem mb_lt (k i : Nat) : mb k i < 256 := by
  unfold mb
  have : mrk k i * 11400714819323198485 % 18446744073709551616 < 18446744073709551616 := Nat.mod_lt _ (by decide)
  omega
theorem mark_calls (k i : Nat) (hk : k ≤ 1000000) (hi : i ≤ 1000000) (w : World) : Calls Tryd.prog 79 #[.int .i64 k, .int .i64 i] w fun e w' => e = .returned (.int .i64 (mrk k i : Nat)) ∧ w = w' := by
  have e1 : IntKind.i64.wrap ((k : Int) + 7) = (k : Int) + 7 := IntWalk.i64_in _ (by omega)
  have e2 : IntKind.i64.wrap (1000003 * ((k : Int) + 7)) = 1000003 * ((k : Int) + 7) := IntWalk.i64_in _ (by omega)
  have e3 : IntKind.i64.wrap (1000003 * ((k : Int) + 7) + i) = (mrk k i : Nat) := by rw [IntWalk.i64_in _ (by omega)]; unfold mrk; omega
  go_enter Tryd.func79, Tryd.ntmps79
  go_wp2
  go_ret
  exact ⟨rfl, rfl⟩
theorem markByte_calls (k i : Nat) (hk : k ≤ 1000000) (hi : i ≤ 1000000) (w : World) : Calls Tryd.prog 59 #[.int .i64 k, .int .i64 i] w fun e w' => e = .returned (.int .u8 (mb k i : Nat)) ∧ w = w' := by
  have M := Lib.hid (mark_calls k i hk hi)
  have hb := mb_lt k i
  have hm : mb k i = mrk k i * 11400714819323198485 % 18446744073709551616 / 72057594037927936 := rfl
  have hr : mrk k i < 18446744073709551616 := by unfold mrk; omega
  obtain ⟨r, hr'⟩ : ∃ r, mrk k i = r := ⟨_, rfl⟩
  obtain ⟨v, hv⟩ : ∃ r, mb k i = r := ⟨_, rfl⟩
  rw [hv] at hb hm ⊢
  rw [hr'] at M hm hr
  have e1 : IntKind.u64.wrap (r : Int) = r := by rw [IntKind.wrap_u64]; omega
  obtain ⟨p, hp⟩ : ∃ p, r * 11400714819323198485 % 18446744073709551616 = p := ⟨_, rfl⟩
  have e2 : IntKind.u64.wrap ((r : Int) * 11400714819323198485) = p := by rw [IntKind.wrap_u64]; omega
  rw [hp] at hm
  have e3 : (p : Int) / 72057594037927936 = v := by omega
  have e4 : IntKind.u8.wrap (v : Int) = v := u8_wrap (by omega) (by omega)
  have e5 : IntKind.u64.wrap (v : Int) = v := by rw [IntKind.wrap_u64]; omega
  clear hm hr hr' hv hp
  go_enter Tryd.func59, Tryd.ntmps59
  go_wp2_with (go_at_call 79; refine (M.out _).mono ?_; rintro e w9 ⟨rfl, rfl⟩)
  go_ret
  exact ⟨rfl, rfl⟩
theorem append_nil {w : World} (base : Nat) (t ty e : TypeId) (i : TypeInfo) (size c : Nat) (ht : Tryd.prog.underlying t = some (.slice e)) (hi : Tryd.prog.info? e = some i)
    (v : Value) (n : Nat) (xs : List Value) (hown : w.ownsRow base e size v n xs) :
    (Builtin.append_ #[t, t] ty #[v, .slice none 0 c]).run Tryd.prog w = .ok v w := by
  rcases hown.2 with ⟨rfl, rfl⟩ | ⟨g, cap, cur, rfl, _, _, hnc, _⟩
  · simp [Builtin.append_, run_underlying ht, sizeOf, typeInfo, hi, Builtin.lenOf, Builtin.firstCells]
  · simp [Builtin.append_, run_underlying ht, sizeOf, typeInfo, hi, Builtin.lenOf, Builtin.firstCells, hnc, storeCells]
theorem run_append_slb (W : World) (base : Nat) (ty : TypeId) (i : TypeInfo) (hi : Tryd.prog.info? 5 = some i) (hz : i.zero = some (.int .u8 0)) (h4 : i.size = 1) (h5 : i.bytes = 1) (v : Value) (n : Nat) (xs : List Value) (hown : W.ownsRow base 5 1 v n xs)
    (x : Value) (ys : List Nat) (hx : SlB W x ys) (hb1 : n + ys.length ≤ 140737488355328) (hb : base ≤ W.heap.size) :
    ∃ v' w', (Builtin.append_ #[22, 22] ty #[v, x]).run Tryd.prog W = .ok v' w' ∧ w'.ownsRow base 5 1 v' (n + ys.length) (xs ++ ys.map u8v) ∧ Below base W w' := by
  obtain ⟨p, c, rfl, hc, hr⟩ := hx
  have main : ∀ ad, p = some ad → (∀ (j : Nat) (u : Value), (ys.map u8v)[j]? = some u → W.cell? (ad.add j) = some u) → ∃ v' w', (Builtin.append_ #[22, 22] ty #[v, .slice p ys.length c]).run Tryd.prog W = .ok v' w' ∧ w'.ownsRow base 5 1 v' (n + ys.length) (xs ++ ys.map u8v) ∧ Below base W w' := by
    intro ad hp hcell
    subst hp
    obtain ⟨v', w', r1, r2, r3, _⟩ := run_append_own (P := Tryd.prog) W base 22 ty 5 i (.int .u8 0) 1 1 Tryd.underlying22 hi hz h4 h5 rfl (by decide) v n xs hown ad ys.length c (ys.map u8v) (by simp) hcell (fun u hu => by obtain ⟨x, _, rfl⟩ := List.mem_map.1 hu; rfl) (by unfold maxLen; omega) (by omega) hb
    exact ⟨v', w', r1, r2, Below.grown (Below.refl _ _) r3 hb (fun k hk => own_block_ge hown hk)⟩
  by_cases h0 : ys = []
  · subst h0
    cases p with
    | none => exact ⟨v, W, append_nil base 22 ty 5 i 1 c Tryd.underlying22 hi v n xs hown, by simpa using hown, Below.refl _ _⟩
    | some ad => exact main ad rfl (fun j u hu => by simp at hu)
  · obtain ⟨b, off, rfl, hb', hcell⟩ := hr h0
    refine main _ rfl fun j u hu => ?_
    rw [List.getElem?_map] at hu
    obtain ⟨x, hx, rfl⟩ := Option.map_eq_some_iff.1 hu
    rw [show (⟨b, off, none⟩ : Addr).add j = ⟨b, off + j, none⟩ by unfold Addr.add; split <;> simp_all]
    exact hcell j x hx
theorem wpList_append_slb {ops : Array Oper} {rest : List Oper} {o : Oper} {a : Act} {Q : Exit → Act → World → Prop} {W : World} (hw : Region.wanted o (yielded ops a.tmps) = true) (s x : Operand)
    (ho : o.op = .call { callee := .builtin .append, args := #[s, x], argTypes := #[22, 22] })
    (base : Nat) (i : TypeInfo) (hi : Tryd.prog.info? 5 = some i) (hz : i.zero = some (.int .u8 0)) (h4 : i.size = 1) (h5 : i.bytes = 1)
    (v : Value) (n : Nat) (xs : List Value) (hs : a.eval s = v) (hown : W.ownsRow base 5 1 v n xs) (y : Value) (ys : List Nat) (hy : a.eval x = y) (hx : SlB W y ys) (hb1 : n + ys.length ≤ 140737488355328) (hb : base ≤ W.heap.size)
    (h : ∀ v' w', w'.ownsRow base 5 1 v' (n + ys.length) (xs ++ ys.map u8v) → Below base W w' → wpList Tryd.prog ops Q rest (a.put o.dst v') w') : wpList Tryd.prog ops Q (o :: rest) a W :=
  wpList_step fun K hK => by
    rw [if_pos hw]
    obtain ⟨v', w', hr, h2, h3⟩ := run_append_slb W base o.type i hi hz h4 h5 v n xs hown y ys hx hb1 hb
    unfold Oper.wp execOp
    simp only [ho, resolve, invoke, builtin, Sem.run_bind, Sem.run_pure, Result.andThen_ok, List.map_toArray, List.map_cons, List.map_nil, hs, hy, hr]
    exact hK _ _ (h v' w' h2 h3)
theorem own_cap {w : World} {B g n cap : Nat} {e : TypeId} {cs : List Value} (h : w.ownsRow B e 1 (.slice (some ⟨g, 0, none⟩) n cap) n cs) : n ≤ cap := by
  rcases h.2 with ⟨h1, _⟩ | ⟨g', cap', cur, h1, _, _, h2, _⟩
  · cases h1
  · simp only [Value.slice.injEq] at h1
    obtain ⟨_, _, rfl⟩ := h1
    exact h2
/-- The marks of list k. -/
def mbs (k n : Nat) : List Nat := (List.range n).map (mb k)
theorem mbs_length (k n : Nat) : (mbs k n).length = n := by simp [mbs]
theorem mbs_succ (k n : Nat) : mbs k (n + 1) = mbs k n ++ [mb k n] := by simp [mbs, List.range_succ]
theorem mbs_at (k n i : Nat) (h : i < n) : (mbs k n)[i]? = some (mb k i) := by simp [mbs, h]
set_option maxRecDepth 100000 in
set_option maxHeartbeats 4000000 in
theorem lent_calls (v : Value) (xs : List Nat) (w : World) (hn : xs.length ≤ 10000) (hS : SlB w v xs) :
    Calls Tryd.prog 28 #[v] w fun e w' => ∃ g cap, e = .returned (.slice (some ⟨g, 0, none⟩) xs.length cap) ∧ w'.ownsRow w.heap.size 5 1 (.slice (some ⟨g, 0, none⟩) (xs.length + 12) cap) (xs.length + 12) ((xs ++ mbs 1 12).map u8v) ∧ Below w.heap.size w w' := by
  obtain ⟨i0, hi, hz0, hz1, hz2⟩ := info_parts Tryd.infoU
  have HS := Lib.hid hS
  obtain ⟨p, c, rfl, -, -⟩ := hS
  obtain ⟨n, hnn⟩ : ∃ n, xs.length = n := ⟨_, rfl⟩
  rw [hnn] at hn HS ⊢
  have e0 : IntKind.i64.wrap ((n : Int) + 12) = ((n + 12 : Nat) : Int) := by rw [IntWalk.i64_in _ (by omega)]; omega
  have M1 : n + 12 ≤ maxLen := by unfold maxLen; omega
  go_enter Tryd.func28, Tryd.ntmps28
  go_upto_region 2 with (first | (at_make; refine wpList_make_own _ rfl _ _ 22 rfl w.heap.size 5 i0 _ 1 Tryd.underlying22 hi hz0 hz1 _ _ _ (n + 12) rfl rfl (by simp) (by rw [hz2]; omega) M1 (Nat.le_refl _) ?_; intro w1 hown1 hgrow1))
  have hb1 : Below w.heap.size w w1 := (Below.refl _ w).grown hgrow1 (Nat.le_refl _) (fun k e => by cases e)
  have HS1 := Lib.hid (slb_below HS.out hb1)
  have hbs1 := hb1.size
  clear hgrow1 HS
  go_upto_region 3 with (first | (at_builtin; refine wpList_append_slb rfl _ _ rfl w.heap.size i0 hi hz0 hz1 hz2 _ _ _ rfl hown1 _ xs rfl HS1.out (by omega) hbs1 ?_; intro v2 w2 hown2 hb12))
  have hb2 : Below w.heap.size w w2 := hb1.trans hb12
  rw [hnn] at hown2
  rw [Nat.zero_add, List.nil_append] at hown2
  clear hb12 hown1 hb1 HS1
  go_upto_region 4 with fail
  go_loopw [4, 3] (fun s4 s3 wr => ∃ i : Nat, s4 = .int .i64 i ∧ i ≤ 12 ∧ wr.ownsRow w.heap.size 5 1 s3 (n + i) ((xs ++ mbs 1 i).map u8v) ∧ Below w.heap.size w wr) (fun s4 _ _ => 12 - (intOf s4).toNat)
  case atStart => exact ⟨0, rfl, by decide, by simpa [mbs] using hown2, hb2⟩
  case round =>
    obtain ⟨i, rfl, hi12, hown, hbr⟩ := hrel
    have hbs := hbr.size
    by_cases hlt : i < 12
    · have h1 : (i : Int) < 12 := by omega
      have H1 : Hid (∀ w : World, Calls Tryd.prog 59 #[.int .i64 1, .int .i64 i] w fun e w' => e = .returned (.int .u8 (mb 1 i : Nat)) ∧ w = w') := Lib.hid (markByte_calls 1 i (by decide) (by omega))
      obtain ⟨x, hx⟩ : ∃ x, mb 1 i = x := ⟨_, rfl⟩
      rw [hx] at H1
      have M4 : n + i + 1 ≤ maxLen := by unfold maxLen; omega
      have M5 : (n + i + 1) * 1 ≤ 140737488355328 := by omega
      go_wp2_with (first | (go_at_call 59; refine (H1.out _).mono ?_; rintro e w9 ⟨rfl, rfl⟩) | (at_builtin; refine wpList_append_own _ rfl _ _ 22 rfl w.heap.size 5 i0 (.int .u8 0) 1 1 Tryd.underlying22 hi hz0 hz1 hz2 rfl (by decide) u3 (n + i) _ rfl (hown.alloc _) ⟨wr.heap.size, 0, none⟩ 1 1 [u8v x] rfl rfl (news1 _ _ _ _ rfl rfl) (fun u hu => by simp only [List.mem_singleton] at hu; subst hu; rfl) M4 M5 (by simp; omega) ?_; intro v' w4 hown' hgrow _))
      go_roundw
      case rel => exact ⟨i + 1, by go_num, by omega, by rw [mbs_succ, ← List.append_assoc, List.map_append, hx]; exact hown', Below.grown (by repeat (first | (with_reducible exact hbr) | ((with_reducible refine below_grow ?_ ?_); rotate_left; focus (first | omega | (simp [go_sem]; done) | (simp [go_sem]; omega))) | ((with_reducible refine Below.alloc ?_ ?_ _); rotate_left; focus (first | omega | (simp [go_sem]; done) | (simp [go_sem]; omega))) | ((with_reducible refine Below.setCell ?_ ?_ _); rotate_left; focus (first | omega | (simp [go_sem]; done) | (simp [go_sem]; omega))) | (with_reducible refine Below.drew ?_) | (with_reducible refine below_drewN _ ?_))) hgrow (by simp; omega) (fun k hk => (hown.lt k hk).1)⟩
      case measure => simp [intOf]; omega
    · obtain rfl : i = 12 := by omega
      obtain ⟨g, cap, rfl⟩ : ∃ g cap, u3 = .slice (some ⟨g, 0, none⟩) (n + 12) cap := ownsRow_succ hown
      have hcap := own_cap hown
      have c1 : (n : Int) ≤ cap := by omega
      have c2 : n ≤ cap := by omega
      go_wp2
      refine bodyPost_ret (by simp [results, Tryd.results28, go_sem]) rfl ⟨g, cap, rfl, hown, hbr⟩
end Go.Proofs.YtacgikhedhiaaaaDoor
