/- Jump. -/
import Derived.Test.YtcgecgagecobeaaSC
namespace Go.Proofs.Ytcgecgagecobeaa
open Go.RowKit Go.Shelf
attribute [local go_sem] Oper.semAt_some

theorem blk_other {w : World} {b c i : Nat} {cs : Array Value} {t : TypeId} (h : blk w b cs t) (hne : b ≠ c) (v : Value) : blk (w.setCell ⟨c, i, none⟩ v) b cs t := by
  unfold blk at *
  rw [Below.heap_setCell _ _ _ _ hne]
  exact h
theorem prod_num (s p : Nat) (hs : s < 2147483647) (h : p < 2147483647) : IntKind.i64.wrap ((s : Int) * p) = (s : Int) * p ∧ ((s : Int) * p).tmod 2147483647 = (times s p : Int) := by
  have h1 : s * p ≤ 2147483646 * 2147483646 := Nat.mul_le_mul (by omega) (by omega)
  have e : (s : Int) * p = ((s * p : Nat) : Int) := (Int.natCast_mul s p).symm
  rw [e]
  refine ⟨IntWalk.i64_in _ (by omega), ?_⟩
  rw [Int.tmod_eq_emod_of_nonneg (by omega)]
  unfold times
  omega
theorem fold_snoc (l : List Nat) (i v s : Nat) (h : l[i]? = some v) : (l.take (i + 1)).foldl times s = times ((l.take i).foldl times s) v := by
  have : l.take (i + 1) = l.take i ++ [v] := by
    rw [List.take_add_one, h]
    rfl
  rw [this, List.foldl_append]
  rfl
theorem fold_lt (l : List Nat) : ∀ s, s < 2147483647 → l.foldl times s < 2147483647 := by
  induction l with
  | nil => exact fun s h => h
  | cons x l ih => exact fun s _ => ih _ (Nat.mod_lt _ (by decide))
/-- Behind i rounds of a jump's loop. -/
def jpI (w : World) (s k i : Nat) (X : World) : Prop := blk X w.heap.size #[.int .i64 ((((pows 48271 k).take i).foldl times s : Nat) : Int)] 22 ∧ blk X (w.heap.size + 1) #[.int .i64 k] 3 ∧ Below w.heap.size w X
theorem jpI_below (w W : World) (s k : Nat) (hs : W.heap.size = w.heap.size + 2) (i : Nat) (X Y : World) (h : jpI w s k i X) (hb : Below W.heap.size X Y) : jpI w s k i Y := by
  obtain ⟨c0, c1, cb⟩ := h
  exact ⟨blk_below c0 hb (by omega), blk_below c1 hb (by omega), cb.trans (hb.mono (by omega))⟩
def jpRel (k i : Nat) (x : Value) (_ : World) : Prop := ∃ v : Nat, x = .int .i64 v ∧ (pows 48271 k)[i]? = some v
set_option maxRecDepth 100000 in
set_option maxHeartbeats 4000000 in
theorem jump_yes (s : Nat) (hs : St s) (n : Int) (w : World) :
    Calls Try.prog 14 #[.int .i64 s, .int .i64 n] w fun e w' => e = .returned (.tuple #[.int .i64 (jmp s (stp n)), .int .i64 0]) ∧ Below w.heap.size w w' := by
  obtain ⟨k, hk⟩ : ∃ k, stp n = k := ⟨_, rfl⟩
  have hk1 : k < 2147483646 := by rw [← hk]; exact stp_lt n
  have hs1 : s < 2147483647 := by unfold St at hs; omega
  have R1 := Lib.hid (right_yes s hs)
  have R2 := Lib.hid (remainder_calls n)
  rw [hk] at R2 ⊢
  refine (callsIn_wide (n := 3)).1 ?_
  refine callsIn_of_wp_marks Try.func14 rfl trivial ?_ rfl
  refine wpIn_wide.2 ?_
  simp only [Try.ntmps14, List.size_toArray, List.length_cons, List.length_nil, Nat.reduceAdd, Nat.reduceSub, Array.replicate_succ, Array.replicate_zero, List.push_toArray, List.append_toArray, List.nil_append, List.cons_append]
  go_wp2_with (first | (go_at_call 16; refine (R1.out _).mono ?_; rintro e w1 ⟨rfl, rfl⟩) | (go_at_call 37; refine (R2.out _).mono ?_; rintro e w1 ⟨rfl, rfl⟩) | (go_at_call 38; refine (powers_calls _ _).mono ?_; rintro e w1 ⟨rfl, rfl⟩))
  clear R1 R2
  have z0 : blk ((w.alloc (.cells #[.int .i64 s] 22)).alloc (.cells #[.int .i64 k] 3)) w.heap.size #[.int .i64 s] 22 := blk_alloc (blk_new _ _ _) _
  have z1 : blk ((w.alloc (.cells #[.int .i64 s] 22)).alloc (.cells #[.int .i64 k] 3)) (w.heap.size + 1) #[.int .i64 k] 3 := blk_at _ _ _ (by simp)
  have zb : Below w.heap.size w ((w.alloc (.cells #[.int .i64 s] 22)).alloc (.cells #[.int .i64 k] 3)) := by repeat (first | (with_reducible exact Below.refl _ _) | ((with_reducible refine below_grow ?_ ?_); rotate_left; focus (first | omega | (simp [go_sem]; done) | (simp [go_sem]; omega))) | ((with_reducible refine Below.alloc ?_ ?_ _); rotate_left; focus (first | omega | (simp [go_sem]; done) | (simp [go_sem]; omega))) | ((with_reducible refine Below.setCell ?_ ?_ _); rotate_left; focus (first | omega | (simp [go_sem]; done) | (simp [go_sem]; omega))) | (with_reducible refine Below.drew ?_) | (with_reducible refine below_drewN _ ?_))
  have zs : ((w.alloc (.cells #[.int .i64 s] 22)).alloc (.cells #[.int .i64 k] 3)).heap.size = w.heap.size + 2 := by simp
  generalize ((w.alloc (.cells #[.int .i64 s] 22)).alloc (.cells #[.int .i64 k] 3)) = W at *
  refine range_idx (gf := 64) (lb := #[.pointer (some ⟨w.heap.size + 1, 0, none⟩)]) rfl (enters_of Try.func64 (by kernel_rfl) rfl) rfl
    (jpI w s k) (jpI_below w W s k zs) (jpRel k) (fun _ _ _ _ h _ => h) (pows 48271 k).length ⟨z0, z1, zb⟩ ?seq 6 ?assign ?body ?done
  case seq =>
    intro l J X hl hJ hJI hY h0
    refine powers1_calls l (w.heap.size + 1) (W.heap.size + 2) k hk1 J ?_ X ?_ h0
    · intro i v Y hv hJi
      exact hY i _ Y (List.getElem?_eq_some_iff.1 hv).1 hJi ⟨v, rfl, hv⟩
    · obtain ⟨⟨c0, c1, cb⟩, hs⟩ := hJI 0 X h0
      rw [blk_cell c1]
      rfl
  case assign =>
    intro l i x X KK hr hK'
    simp only [List.setIfInBounds_toArray, List.set_cons_zero, List.set_cons_succ] at hK' ⊢
    gi_wp2
    exact hK'
  case body =>
    rintro l i x X hi ⟨c0, c1, cb⟩ ⟨v, rfl, hv⟩
    simp only [List.setIfInBounds_toArray, List.set_cons_zero, List.set_cons_succ]
    have k0 := blk_cell c0 0
    simp only [List.getElem?_toArray, List.getElem?_cons_zero] at k0
    have f0 := blk_free c0 0
    have hv1 : v < 2147483647 := pows_lt k 48271 (by decide) v (List.mem_of_getElem? hv)
    have hf := fold_lt ((pows 48271 k).take i) s hs1
    obtain ⟨q0, q1⟩ := prod_num _ v hf hv1
    have hsn := fold_snoc (pows 48271 k) i v s hv
    gi_wp2
    refine ⟨KeepsOthers.setCell _ _ _, keepA_set _ _ (by omega), ?_, blk_other c1 (by omega) _, by repeat (first | (with_reducible exact cb) | ((with_reducible refine below_grow ?_ ?_); rotate_left; focus (first | omega | (simp [go_sem]; done) | (simp [go_sem]; omega))) | ((with_reducible refine Below.alloc ?_ ?_ _); rotate_left; focus (first | omega | (simp [go_sem]; done) | (simp [go_sem]; omega))) | ((with_reducible refine Below.setCell ?_ ?_ _); rotate_left; focus (first | omega | (simp [go_sem]; done) | (simp [go_sem]; omega))) | (with_reducible refine Below.drew ?_) | (with_reducible refine below_drewN _ ?_))⟩
    rw [hsn]
    exact blk_set c0 0 _
  case done =>
    rintro D X ⟨c0, c1, cb⟩ hD hX
    rw [List.take_of_length_le (Nat.le_refl _), jmp_fold s k hs1] at c0
    have k0 := blk_cell c0 0
    simp only [List.getElem?_toArray, List.getElem?_cons_zero] at k0
    go_wp2
    have hbY : Below w.heap.size w (X.putObj D (.deferred none)) := cb.trans (below_putObj _ _ _ _ (by omega))
    refine ⟨by simp, .inl ⟨_, _, rfl, run_takeDeferred hX, ?_⟩⟩
    refine ⟨_, ?_, rfl, hbY⟩
    simp [results, Try.results14, go_sem, *]
theorem jump_no (s : Int) (h : ¬ (1 ≤ s ∧ s ≤ 2147483646)) (n : Int) (w : World) :
    Calls Try.prog 14 #[.int .i64 s, .int .i64 n] w fun e w' => e = .returned (.tuple #[.int .i64 0, .int .i64 2]) ∧ Below w.heap.size w w' := by
  go_enter Try.func14, Try.ntmps14
  go_wp2_with (first | (go_at_call 16; refine (right_no _ h _).mono ?_; rintro e w1 ⟨rfl, rfl⟩))
  refine bodyPost_ret (by simp [results, Try.results14, go_sem]) rfl ⟨rfl, ?_⟩
  repeat (first | (with_reducible exact Below.refl _ _) | ((with_reducible refine below_grow ?_ ?_); rotate_left; focus (first | omega | (simp [go_sem]; done) | (simp [go_sem]; omega))) | ((with_reducible refine Below.alloc ?_ ?_ _); rotate_left; focus (first | omega | (simp [go_sem]; done) | (simp [go_sem]; omega))) | ((with_reducible refine Below.setCell ?_ ?_ _); rotate_left; focus (first | omega | (simp [go_sem]; done) | (simp [go_sem]; omega))) | (with_reducible refine Below.drew ?_) | (with_reducible refine below_drewN _ ?_))
end Go.Proofs.Ytcgecgagecobeaa
