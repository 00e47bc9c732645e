/- An append that keeps the list; CardSmall: the rounds of the second part. -/
import Derived.Test.YtcfkcfbgnciccaaDoorCZn
import Derived.Test.YtcfkcfbgnciccaaDoorCX
import Derived.ArgAppend
namespace Go.Proofs.YtcfkcfbgnciccaaDoor
open Go.RowKit

theorem own_head {W : World} {B n : Nat} {g : Option Addr} {cap : Nat} {xs : List Value} {x : Value} (h : W.ownsRow B 5 1 (.slice g (n + 1) cap) (n + 1) (xs ++ [x])) : W.ownsRow B 5 1 (.slice g n cap) n xs := by
  have hl : xs.length = n := by have := h.1; simp at this; omega
  refine ⟨by omega, ?_⟩
  rcases h.2 with ⟨_, h0⟩ | ⟨b, c, cur, hv, h1, h2, h3, h4, h5, h6⟩
  · omega
  · simp only [Value.slice.injEq, true_and] at hv
    obtain ⟨rfl, rfl⟩ := hv
    refine .inr ⟨b, cap, cur, rfl, h1, h2, by omega, h4, h5, ?_⟩
    have h7 := congrArg (List.take n) h6
    rw [List.take_take, List.take_left' hl] at h7
    rw [← h7]
    congr 1
    omega
theorem run_append_keep (W : World) (base : Nat) (ty : TypeId) (i : TypeInfo) (hi : Tryd.prog.info? 5 = some i) (hz : i.zero = some (.int .u8 0)) (h4 : i.size = 1) (h5 : i.bytes = 1) (v : Value) (n : Nat) (xs : List Value) (hown : W.ownsRow base 5 1 v n xs)
    (b : Nat) (y : Nat) (hy : blk W b #[u8v y] 5) (hb1 : n ≤ 1000000) (hb : base ≤ W.heap.size) :
    ∃ v' w', (Builtin.append_ #[25, 25] ty #[v, .slice (some ⟨b, 0, none⟩) 1 1]).run Tryd.prog W = .ok v' w' ∧ w'.ownsRow base 5 1 v' (n + 1) (xs ++ [u8v y]) ∧ Below base W w' ∧ w'.ownsRow base 5 1 v n xs := by
  have hnews : ∀ (j : Nat) u, [u8v y][j]? = some u → W.cell? ((⟨b, 0, none⟩ : Addr).add j) = some u := fun j u hj => by
    rw [show (⟨b, 0, none⟩ : Addr).add j = ⟨b, j, none⟩ by unfold Addr.add; split <;> simp_all, blk_cell hy j]
    simpa using hj
  have hone : ∀ u ∈ [u8v y], u.oneCell' = true := fun u hu => by simp only [List.mem_singleton] at hu; subst hu; rfl
  have hown0 := hown
  rcases hown.2 with ⟨rfl, rfl⟩ | ⟨g, cap, cur, rfl, c1, c2, c3, c4, c5, c6⟩
  · obtain ⟨v', w', r1, r2, r3, _⟩ := run_append_own (P := Tryd.prog) W base 25 ty 5 i (.int .u8 0) 1 1 Tryd.underlying25 hi hz h4 h5 rfl (by decide) _ 0 xs hown ⟨b, 0, none⟩ 1 1 [u8v y] rfl hnews hone (by unfold maxLen; omega) (by omega) hb
    have hx : xs = [] := List.length_eq_zero_iff.1 (by have := hown0.1; omega)
    subst hx
    exact ⟨v', w', r1, r2, Below.grown (Below.refl _ _) r3 hb (fun k hk => own_block_ge hown0 hk), World.ownsRow_nil _ _ _ _⟩
  · by_cases hroom : n + 1 ≤ cap
    · obtain ⟨w', r1, r2, r3⟩ := run_append_fits (P := Tryd.prog) W base 25 ty 5 i 1 Tryd.underlying25 hi h4 g n cap xs hown ⟨b, 0, none⟩ 1 1 [u8v y] rfl hnews hone hroom
      exact ⟨_, w', r1, r2, Below.grown (Below.refl _ _) r3 hb (fun k hk => by cases hk; exact c1), own_head r2⟩
    · obtain ⟨v', w', r1, r2, r3⟩ := run_append_arg_grows (P := Tryd.prog) W 25 ty 5 i (.int .u8 0) 1 1 Tryd.underlying25 hi hz h4 h5 rfl (by decide) ⟨g, 0, none⟩ n cap xs hown0.1 (hown0.cells rfl) ⟨b, 0, none⟩ 1 1 [u8v y] rfl hnews (by omega) (by unfold maxLen; omega) (by omega)
      exact ⟨v', w', r1, own_base (C := W.heap.size - base) (by rw [Nat.add_sub_cancel' hb]; exact r2), Below.grown (Below.refl _ _) r3 hb (fun k hk => by cases hk), hown0.kept r3 (.inr (by simp [Value.ownBlock]))⟩
theorem wpList_append_keep {ops : Array Oper} {rest : List Oper} {o : Oper} {a : Act} {Q : Exit → Act → World → Prop} {W : World} (hw : Region.wanted o (yielded ops a.tmps) = true) (s x : Operand)
    (ho : o.op = .call { callee := .builtin .append, args := #[s, x], argTypes := #[25, 25] })
    (base : Nat) (i : TypeInfo) (hi : Tryd.prog.info? 5 = some i) (hz : i.zero = some (.int .u8 0)) (h4 : i.size = 1) (h5 : i.bytes = 1)
    (v : Value) (n : Nat) (xs : List Value) (hs : a.eval s = v) (hown : W.ownsRow base 5 1 v n xs) (b : Nat) (y : Nat) (hx : a.eval x = .slice (some ⟨b, 0, none⟩) 1 1) (hy : blk W b #[u8v y] 5) (hb1 : n ≤ 1000000) (hb : base ≤ W.heap.size)
    (h : ∀ v' w', w'.ownsRow base 5 1 v' (n + 1) (xs ++ [u8v y]) → Below base W w' → w'.ownsRow base 5 1 v n xs → wpList Tryd.prog ops Q rest (a.put o.dst v') w') : wpList Tryd.prog ops Q (o :: rest) a W :=
  wpList_step fun K hK => by
    rw [if_pos hw]
    obtain ⟨v', w', hr, h2, h3, h6⟩ := run_append_keep W base o.type i hi hz h4 h5 v n xs hown b y hy hb1 hb
    unfold Oper.wp execOp
    simp only [ho, resolve, invoke, builtin, Sem.run_bind, Sem.run_pure, Result.andThen_ok, List.map_toArray, List.map_cons, List.map_nil, hs, hx, hr]
    exact hK _ _ (h v' w' h2 h3 h6)
end Go.Proofs.YtcfkcfbgnciccaaDoor
