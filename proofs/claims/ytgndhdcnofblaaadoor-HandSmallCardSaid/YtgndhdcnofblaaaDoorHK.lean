/- The closure of Suits, insertionSortCmpFunc, stableCmpFunc, SortStableFunc. -/
import Derived.Test.YtgndhdcnofblaaaDoorHJ
namespace Go.Proofs.YtgndhdcnofblaaaDoor
open Go.RowKit Go.Sort

def vals4 (l : Fin 4 → Nat) : Fin 4 → Value := fun i => .int .i64 (l i : Nat)
set_option maxRecDepth 100000 in
set_option maxHeartbeats 2000000 in
theorem clo_calls (l : Fin 4 → Nat) (x y : Fin 4) (b : Nat) (W : World) (hc : ∀ i : Fin 4, W.cell? ⟨b, i.val, none⟩ = some (.int .i64 (l i : Nat))) :
    Calls Tryd.prog 48 #[encS x, encS y, .pointer (some ⟨b, 0, none⟩)] W fun e w' => e = .returned (.int .i64 (cfS l x y)) ∧ w' = W.drew := by
  have C := Lib.hid fun W => Tryd.cmp_Compare_int (l y : Nat) (l x : Nat) W
  unfold cfS
  have hx := hc x
  have hy := hc y
  have bx := x.isLt
  have bY := y.isLt
  unfold encS
  obtain ⟨p, hp⟩ : ∃ p, x.val = p := ⟨_, rfl⟩
  obtain ⟨q, hq⟩ : ∃ p, y.val = p := ⟨_, rfl⟩
  rw [hp] at hx bx ⊢
  rw [hq] at hy bY ⊢
  have bx2 : (p : Int) < 4 := by omega
  have by2 : (q : Int) < 4 := by omega
  obtain ⟨u, hu⟩ : ∃ u, l x = u := ⟨_, rfl⟩
  obtain ⟨v, hv⟩ : ∃ u, l y = u := ⟨_, rfl⟩
  rw [hu] at hx C ⊢
  rw [hv] at hy C ⊢
  obtain ⟨z, hz⟩ : ∃ z, Lib.compareInt (v : Int) (u : Int) = z := ⟨_, rfl⟩
  rw [hz] at C ⊢
  clear hc hp hq hu hv hz bx bY
  go_enter Tryd.func48, Tryd.ntmps48
  go_wp2
  go_region_with (go_at_call 49; refine (C.out _).mono ?_; rintro e w1 ⟨rfl, rfl⟩)
  all_goals go_wp2
  all_goals (go_ret; exact ⟨rfl, rfl⟩)
theorem eg_clo (args : Array Value) (w : World) : (callFunc 48 args).run Tryd.prog w = .ok (.enter 48 args) w := by simp [go_sem]
theorem sortWorld_cell {enc : Fin 4 → Value} {W : World} {blk m : Nat} {dk : Array (Fin 4)} {os : Array Obj} {b i : Nat} (hb : b < W.heap.size) (hne : b ≠ blk) :
    (sortWorld enc W blk 0 m dk os).cell? ⟨b, i, none⟩ = W.cell? ⟨b, i, none⟩ := by
  unfold sortWorld
  rw [cell?_grow _ _ _ (by simpa using hb), cell?_putRow_other _ _ _ _ _ _ (Or.inl hne), cell?_ahead]
theorem cmpReads4 (l : Fin 4 → Nat) (blk b : Nat) (W : World) (hc : ∀ i : Fin 4, W.cell? ⟨b, i.val, none⟩ = some (.int .i64 (l i : Nat))) (hb : b < W.heap.size) (hne : b ≠ blk) :
    CmpReads Tryd.prog 48 #[.pointer (some ⟨b, 0, none⟩)] encS (cfS l) blk 0 4 W := fun m os dk _ x y =>
  (clo_calls l x y b _ (fun i => (sortWorld_cell hb hne).trans (hc i))).mono fun e w' ⟨he, hw⟩ => ⟨he, 1, hw⟩
/-- What the sort leaves: the four suits in order in their block; all other cells as they were. -/
structure Sorted4 (l : Fin 4 → Nat) (blk : Nat) (W W' : World) : Prop where
  below : Below blk W W'
  size : W'.heap.size = W.heap.size
  other : ∀ b i, b ≠ blk → W'.cell? ⟨b, i, none⟩ = W.cell? ⟨b, i, none⟩
  froz : ∀ a, W'.frozen? a = W.frozen? a
  row : ∃ a b c d : Fin 4, insertionSort (ltOf (cfS l)) #[3, 2, 1, 0] 0 4 = #[a, b, c, d] ∧ W'.cell? ⟨blk, 0, none⟩ = some (encS a) ∧ W'.cell? ⟨blk, 1, none⟩ = some (encS b) ∧ W'.cell? ⟨blk, 2, none⟩ = some (encS c) ∧ W'.cell? ⟨blk, 3, none⟩ = some (encS d) ∧
    4 * l b + b.val < 4 * l a + a.val ∧ 4 * l c + c.val < 4 * l b + b.val ∧ 4 * l d + d.val < 4 * l c + c.val
theorem putRow_below {α : Type} [Inhabited α] (enc : α → Value) (W : World) (blk : Nat) (d : Array α) (n : Nat) : Below blk W ((putRow enc W blk 0 d).drewN n) :=
  ⟨rfl, rfl, rfl, by simp [World.drewN], fun k hk => by
    show (putRow enc W blk 0 d).heap[k]? = _
    simp [putRow, mapBlock, Array.getElem?_modify, show ¬ blk = k by omega]⟩
theorem ins_calls (l : Fin 4 → Nat) (blk b : Nat) (W : World) (hc : ∀ i : Fin 4, W.cell? ⟨b, i.val, none⟩ = some (.int .i64 (l i : Nat))) (hb : b < W.heap.size) (hne : b ≠ blk)
    (h0 : W.cell? ⟨blk, 0, none⟩ = some (.int .u8 3)) (h1 : W.cell? ⟨blk, 1, none⟩ = some (.int .u8 2)) (h2 : W.cell? ⟨blk, 2, none⟩ = some (.int .u8 1)) (h3 : W.cell? ⟨blk, 3, none⟩ = some (.int .u8 0))
    (f : ∀ i, W.frozen? ⟨blk, i, none⟩ = false) :
    Calls Tryd.prog 64 #[.slice (some ⟨blk, 0, none⟩) 4 4, .int .i64 0, .int .i64 4, .func (.func 48) #[] #[.pointer (some ⟨b, 0, none⟩)]] W fun e W' => e = .returned (.tuple #[]) ∧ Sorted4 l blk W W' := by
  have hH : Holds encS W blk 0 #[3, 2, 1, 0] := fun j hj => by
    have hj : j < 4 := hj
    match j, hj with
    | 0, _ => exact ⟨h0, f _⟩
    | 1, _ => exact ⟨h1, f _⟩
    | 2, _ => exact ⟨h2, f _⟩
    | 3, _ => exact ⟨h3, f _⟩
  refine (Tryd.insertionSortCmpFunc_one encS encS_one (cfS l) 48 #[.pointer (some ⟨b, 0, none⟩)] blk 0 4 0 4 #[3, 2, 1, 0] W eg_clo (cmpReads4 l blk b W hc hb hne) hH (by decide) (by decide) (by decide)).mono ?_
  rintro e W' ⟨rfl, n, rfl⟩
  obtain ⟨a, b', c, d, he, k1, k2, k3⟩ := insS l
  rw [he]
  have hC := cell?_putRow encS W blk 0 #[3, 2, 1, 0] #[a, b', c, d] hH rfl
  refine ⟨rfl, putRow_below _ _ _ _ _, by simp [World.drewN], fun b i hb => cell?_putRow_other _ _ _ _ _ _ (Or.inl hb), fun x => frozen?_putRow _ _ _ _ _ _, a, b', c, d, he, ?_, ?_, ?_, ?_, k1, k2, k3⟩
  · exact hC 0 (by simp)
  · exact hC 1 (by simp)
  · exact hC 2 (by simp)
  · exact hC 3 (by simp)
theorem stable_calls (l : Fin 4 → Nat) (blk b : Nat) (W : World) (hc : ∀ i : Fin 4, W.cell? ⟨b, i.val, none⟩ = some (.int .i64 (l i : Nat))) (hb : b < W.heap.size) (hne : b ≠ blk)
    (h0 : W.cell? ⟨blk, 0, none⟩ = some (.int .u8 3)) (h1 : W.cell? ⟨blk, 1, none⟩ = some (.int .u8 2)) (h2 : W.cell? ⟨blk, 2, none⟩ = some (.int .u8 1)) (h3 : W.cell? ⟨blk, 3, none⟩ = some (.int .u8 0))
    (f : ∀ i, W.frozen? ⟨blk, i, none⟩ = false) :
    Calls Tryd.prog 59 #[.slice (some ⟨blk, 0, none⟩) 4 4, .int .i64 4, .func (.func 48) #[] #[.pointer (some ⟨b, 0, none⟩)]] W fun e W' => e = .returned (.tuple #[]) ∧ Sorted4 l blk W W' := by
  have I := Lib.hid (ins_calls l blk b W hc hb hne h0 h1 h2 h3 f)
  clear hc hb hne h0 h1 h2 h3 f
  go_enter Tryd.func59, Tryd.ntmps59
  go_wp2
  refine wp_loop_rounds 1 ?_
  rw [rounds_succ]
  go_wp2_with (go_at_call 64; refine I.out.mono ?_; rintro e w1 ⟨rfl, S⟩)
  refine wp_loop_rounds 1 ?_
  rw [rounds_succ]
  go_wp2
  go_end0
  exact ⟨rfl, S⟩
theorem sortStable_calls (l : Fin 4 → Nat) (blk b : Nat) (W : World) (hc : ∀ i : Fin 4, W.cell? ⟨b, i.val, none⟩ = some (.int .i64 (l i : Nat))) (hb : b < W.heap.size) (hne : b ≠ blk)
    (h0 : W.cell? ⟨blk, 0, none⟩ = some (.int .u8 3)) (h1 : W.cell? ⟨blk, 1, none⟩ = some (.int .u8 2)) (h2 : W.cell? ⟨blk, 2, none⟩ = some (.int .u8 1)) (h3 : W.cell? ⟨blk, 3, none⟩ = some (.int .u8 0))
    (f : ∀ i, W.frozen? ⟨blk, i, none⟩ = false) :
    Calls Tryd.prog 47 #[.slice (some ⟨blk, 0, none⟩) 4 4, .func (.func 48) #[] #[.pointer (some ⟨b, 0, none⟩)]] W fun e W' => e = .returned (.tuple #[]) ∧ Sorted4 l blk W W' := by
  have I := Lib.hid (stable_calls l blk b W hc hb hne h0 h1 h2 h3 f)
  clear hc hb hne h0 h1 h2 h3 f
  go_enter Tryd.func47, Tryd.ntmps47
  go_wp2_with (go_at_call 59; refine I.out.mono ?_; rintro e w1 ⟨rfl, S⟩)
  go_end0
  exact ⟨rfl, S⟩
end Go.Proofs.YtgndhdcnofblaaaDoor
