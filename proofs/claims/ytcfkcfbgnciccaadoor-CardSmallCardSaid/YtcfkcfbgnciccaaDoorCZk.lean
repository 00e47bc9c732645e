/- Lists of cards as values; same; append of a list to an own row. -/
import Derived.Test.YtcfkcfbgnciccaaDoorCZj
namespace Go.Proofs.YtcfkcfbgnciccaaDoor
open Go.RowKit

/-- A slice that holds a list of cards. -/
def Sl (W : World) (v : Value) (xs : List Nat) : Prop := (xs = [] ∧ (v = .slice none 0 0 ∨ ∃ a c, v = .slice (some a) 0 c)) ∨ ∃ b off c, v = .slice (some ⟨b, off, none⟩) xs.length c ∧ b < W.heap.size ∧ Rd8 W b off xs
theorem Sl.below {W W' : World} {v : Value} {xs : List Nat} (h : Sl W v xs) (hb : Below W.heap.size W W') : Sl W' v xs := by
  rcases h with h | ⟨b, off, c, h1, h2, h3⟩
  · exact .inl h
  · exact .inr ⟨b, off, c, h1, Nat.lt_of_lt_of_le h2 hb.size, h3.below hb h2⟩
theorem sl_own {W : World} {base n : Nat} {v : Value} {xs : List Nat} (h : W.ownsRow base 5 1 v n (xs.map u8v)) : Sl W v xs := by
  have hn : xs.length = n := by have := h.1; rw [List.length_map] at this; omega
  rcases h.2 with ⟨rfl, h0⟩ | ⟨g, cap, cur, rfl, hbg, hg, h1, h2, h3, h4⟩
  · exact .inl ⟨List.length_eq_zero_iff.1 (by omega), .inl rfl⟩
  · refine .inr ⟨g, 0, cap, by rw [hn], lt_of_block hg, fun j x hj => ?_⟩
    have hc := h.cells (g := g) rfl j (u8v x) (by rw [List.getElem?_map, hj]; rfl)
    rw [show (⟨g, 0 + j, none⟩ : Addr) = (⟨g, 0, none⟩ : Addr).add j by unfold Addr.add; split <;> simp_all]
    exact hc
theorem conv_sl {W : World} {v : Value} {xs : List Nat} (h : Sl W v xs) (hx : ∀ x ∈ xs, x < 256) : (convert 25 9 v).run Tryd.prog W = .ok (strv (xs.map UInt8.ofNat)) W := by
  rcases h with ⟨rfl, rfl | ⟨a, c, rfl⟩⟩ | ⟨b, off, c, rfl, h2, h3⟩
  · rw [run_convert_bytes_string W 25 9 5 none 0 0 Tryd.underlying25 Tryd.underlying5 Tryd.underlying9]
    simp [Conv.bytesToString, loadCells]
    rfl
  · rw [run_convert_bytes_string W 25 9 5 (some a) 0 c Tryd.underlying25 Tryd.underlying5 Tryd.underlying9]
    simp [Conv.bytesToString, loadCells]
    rfl
  · have hl : xs.length = (xs.map UInt8.ofNat).length := by rw [List.length_map]
    rw [hl]
    refine run_convert_bytes_back _ 25 9 5 ⟨b, off, none⟩ c (xs.map UInt8.ofNat) Tryd.underlying25 Tryd.underlying5 Tryd.underlying9 fun j hj => ?_
    have hj' : j < xs.length := by rw [hl]; exact hj
    have hc := h3 j xs[j] (List.getElem?_eq_getElem hj')
    have hp : (⟨b, off, none⟩ : Addr).add j = ⟨b, off + j, none⟩ := by unfold Addr.add; split <;> simp_all
    rw [hp, hc, List.getElem_map]
    have h8 := hx xs[j] (List.getElem_mem hj')
    unfold u8v
    rw [UInt8.toNat_ofNat', Nat.mod_eq_of_lt (by omega)]
theorem same_calls {v1 v2 : Value} {xs : List Nat} (hx : ∀ x ∈ xs, x < 256) (w : World) (h1 : Sl w v1 xs) (h2 : Sl w v2 xs) : Calls Tryd.prog 35 #[v1, v2] w fun e w' => e = .returned (.bool true) ∧ w = w' := by
  have c1 := conv_sl h1 hx
  have c2 := conv_sl h2 hx
  clear h1 h2 hx
  go_enter Tryd.func35, Tryd.ntmps35
  go_wp2
  refine bodyPost_ret (by simp [results, Tryd.results35, go_sem]) rfl ⟨rfl, ?_⟩
  rfl
theorem run_append_sl (W : World) (base : Nat) (ty : TypeId) (i : TypeInfo) (hi : Tryd.prog.info? 5 = some i) (hz : i.zero = some (.int .u8 0)) (h4 : i.size = 1) (h5 : i.bytes = 1) (v : Value) (n : Nat) (xs : List Value) (hown : W.ownsRow base 5 1 v n xs)
    (x : Value) (ys : List Nat) (hx : Sl W x ys) (hb1 : n + ys.length ≤ 140737488355328) (hb : base ≤ W.heap.size) :
    ∃ v' w', (Builtin.append_ #[25, 25] ty #[v, x]).run Tryd.prog W = .ok v' w' ∧ w'.ownsRow base 5 1 v' (n + ys.length) (xs ++ ys.map u8v) ∧ Below base W w' := by
  rcases hx with ⟨rfl, rfl | ⟨a, c, rfl⟩⟩ | ⟨b, off, c, rfl, h2, h3⟩
  rotate_left
  · obtain ⟨v', w', r1, r2, r3, _⟩ := run_append_own (P := Tryd.prog) W base 25 ty 5 i (.int .u8 0) 1 1 Tryd.underlying25 hi hz h4 h5 rfl (by decide) v n xs hown a 0 c [] (by simp) (fun j u hj => by simp at hj) (fun u hu => by simp at hu) (by unfold maxLen; simp at hb1; omega) (by simp at hb1; omega) hb
    exact ⟨v', w', r1, r2, Below.grown (Below.refl _ _) r3 hb (fun k hk => own_block_ge hown hk)⟩
  rotate_left
  · refine ⟨v, W, run_append_owned_none (P := Tryd.prog) W base 25 ty 5 i 1 Tryd.underlying25 hi v n xs hown, by simpa using hown, Below.refl _ _⟩
  · obtain ⟨v', w', r1, r2, r3, _⟩ := run_append_own (P := Tryd.prog) W base 25 ty 5 i (.int .u8 0) 1 1 Tryd.underlying25 hi hz h4 h5 rfl (by decide) v n xs hown ⟨b, off, none⟩ ys.length c (ys.map u8v) (by simp) (fun j u hj => by
      rw [List.getElem?_map] at hj
      obtain ⟨x, hx, rfl⟩ := Option.map_eq_some_iff.1 hj
      rw [show (⟨b, off, none⟩ : Addr).add j = ⟨b, off + j, none⟩ by unfold Addr.add; split <;> simp_all]
      exact h3 j x hx) (fun u hu => by obtain ⟨x, _, rfl⟩ := List.mem_map.1 hu; rfl) (by unfold maxLen; omega) (by omega) hb
    exact ⟨v', w', r1, r2, Below.grown (Below.refl _ _) r3 hb (fun k hk => own_block_ge hown hk)⟩
theorem wpList_append_sl {ops : Array Oper} {rest : List Oper} {o : Oper} {a : Act} {Q : Exit → Act → World → Prop} {W : World} (hw : Region.wanted o (yielded ops a.tmps) = true) (s x : Operand)
    (ho : o.op = .call { callee := .builtin .append, args := #[s, x], argTypes := #[25, 25] })
    (base : Nat) (i : TypeInfo) (hi : Tryd.prog.info? 5 = some i) (hz : i.zero = some (.int .u8 0)) (h4 : i.size = 1) (h5 : i.bytes = 1)
    (v : Value) (n : Nat) (xs : List Value) (hs : a.eval s = v) (hown : W.ownsRow base 5 1 v n xs) (y : Value) (ys : List Nat) (hy : a.eval x = y) (hx : Sl W y ys) (hb1 : n + ys.length ≤ 140737488355328) (hb : base ≤ W.heap.size)
    (h : ∀ v' w', w'.ownsRow base 5 1 v' (n + ys.length) (xs ++ ys.map u8v) → Below base W w' → wpList Tryd.prog ops Q rest (a.put o.dst v') w') : wpList Tryd.prog ops Q (o :: rest) a W :=
  wpList_step fun K hK => by
    rw [if_pos hw]
    obtain ⟨v', w', hr, h2, h3⟩ := run_append_sl W base o.type i hi hz h4 h5 v n xs hown y ys hx hb1 hb
    unfold Oper.wp execOp
    simp only [ho, resolve, invoke, builtin, Sem.run_bind, Sem.run_pure, Result.andThen_ok, List.map_toArray, List.map_cons, List.map_nil, hs, hy, hr]
    exact hK _ _ (h v' w' h2 h3)
end Go.Proofs.YtcfkcfbgnciccaaDoor
