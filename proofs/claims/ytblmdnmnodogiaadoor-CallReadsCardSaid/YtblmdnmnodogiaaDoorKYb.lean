/- CallReads: made; what is trimmed. -/
import Derived.Test.YtblmdnmnodogiaaDoorKY
import Derived.Test.YtblmdnmnodogiaaDoorKH
namespace Go.Proofs.YtblmdnmnodogiaaDoor
open Go.RowKit

def mk (xs : List Nat) : List Nat := (xs.take 319).map (· % 38)
theorem mk_lt (xs : List Nat) : ∀ c ∈ mk xs, c < 38 := by
  intro c hc
  obtain ⟨x, _, rfl⟩ := List.mem_map.1 hc
  exact Nat.mod_lt _ (by decide)
theorem mk_len (xs : List Nat) : (mk xs).length ≤ 319 := by
  unfold mk
  rw [List.length_map, List.length_take]
  omega
theorem slice_u8 {p : Option Addr} {n c : Nat} (m : Nat) (hm : m ≤ n) (hnc : n ≤ c) : ∃ p', ∀ w, (Instr.slice 24 (.slice p n c) none (some (.int .i64 m)) none).run Tryd.prog w = .ok (.slice p' m c) w ∧ (∀ b off, p = some ⟨b, off, none⟩ → 0 < m → p' = p) := by
  have z := Tryd.sizeOf5
  have u := Tryd.underlying24
  have hm2 : (m : Int) ≤ c := by omega
  refine ⟨if c = 0 then p else p.map (·.add 0), fun w => ⟨by simp [go_sem, *], fun b off hp h0 => ?_⟩⟩
  subst hp
  rw [if_neg (by omega)]
  simp [Addr.add]
set_option maxRecDepth 100000 in
set_option maxHeartbeats 8000000 in
theorem made_calls (v : Value) (xs : List Nat) (h8 : ∀ x ∈ xs, x < 256) (w : World) (hS : SlB w v xs) :
    Calls Tryd.prog 14 #[v] w fun e w' => (∃ v', e = .returned v' ∧ w'.ownsRow w.heap.size 5 1 v' (mk xs).length ((mk xs).map u8v)) ∧ Below w.heap.size w w' := by
  obtain ⟨i0, hi, hz0, hz1, hz2⟩ := info_parts Tryd.infoU
  obtain ⟨p, c, rfl, hc, hxc⟩ := hS
  obtain ⟨n, hxn⟩ : ∃ n, xs.length = n := ⟨_, rfl⟩
  obtain ⟨m, hm⟩ : ∃ m, min n 319 = m := ⟨_, rfl⟩
  rw [hxn] at hc ⊢
  obtain ⟨p', hsl⟩ := slice_u8 (p := p) (n := n) (c := c) m (by omega) hc
  have hsl1 := fun w => (hsl w).1
  have e0 : min (n : Int) 319 = m := by omega
  have hlen : (mk xs).length = m := by unfold mk; rw [List.length_map, List.length_take]; omega
  have HX := Lib.hid (fun (h : 0 < m) => hxc (by rintro rfl; simp at hxn; omega))
  have HP := Lib.hid (fun b off h h0 => (hsl w).2 b off h h0)
  have HM := Lib.hid (show m ≤ 319 ∧ m ≤ n by omega)
  clear hsl hxc hm
  go_enter Tryd.func14, Tryd.ntmps14
  go_wp2

  go_loopw [3, 5, 12] (fun s3 _ s12 wr => ∃ i : Nat, s12 = .int .i64 i ∧ i ≤ m ∧ wr.ownsRow w.heap.size 5 1 s3 i (((mk xs).take i).map u8v) ∧ Below w.heap.size w wr) (fun _ _ s12 _ => m - (intOf s12).toNat)
  case atStart => exact ⟨0, rfl, Nat.zero_le _, World.ownsRow_nil _ _ _ _, Below.refl _ _⟩
  case round =>
    obtain ⟨i, rfl, hi2, hrow, cb⟩ := hrel
    by_cases hlt : i < m
    · have hlt2 : (i : Int) < m := by omega
      obtain ⟨b, off, rfl, hb, hx⟩ := HX.out (by omega)
      obtain rfl := HP.out b off rfl (by omega)
      have hm2 := HM.out
      obtain ⟨a, ha⟩ : ∃ a, xs[i]? = some a := ⟨_, List.getElem?_eq_getElem (by omega)⟩
      have ha8 := h8 a (List.mem_of_getElem? ha)
      have k1 : wr.cell? ⟨b, off + i, none⟩ = some (.int .u8 a) := (cb.cell (p := ⟨b, off + i, none⟩) hb).trans (hx i a ha)
      have e1 : IntKind.i64.wrap ((i : Int) + 1) = (i : Int) + 1 := IntWalk.i64_in _ (by omega)
      obtain ⟨r, hr⟩ : ∃ r, a % 38 = r := ⟨_, rfl⟩
      have f1 : (a : Int).tmod 38 = r := by rw [Int.tmod_eq_emod_of_nonneg (by omega)]; omega
      have f1' : (a : Int) % 38 = r := by omega
      have f2 : IntKind.u8.wrap (r : Int) = r := u8_wrap (by omega) (by omega)
      have ht : (mk xs)[i]? = some r := by
        unfold mk
        rw [List.getElem?_map, List.getElem?_take, if_pos (by omega), ha, ← hr]; rfl
      obtain ⟨A, cap, rfl, hA⟩ := own_slice hrow
      have HT := Lib.hid ht
      have HR := Lib.hid hrow
      have CB := Lib.hid cb
      have hbs := cb.size
      clear ha ha8 hr ht hrow cb hx hA hm2
      go_wp2_with (at_builtin; refine wpList_append_own _ rfl _ _ 24 rfl w.heap.size 5 i0 (.int .u8 0) 1 1 Tryd.underlying24 hi hz0 hz1 hz2 rfl (by decide) _ _ _ rfl (HR.out.alloc _) ⟨wr.heap.size, 0, none⟩ 1 1 [u8v r] rfl rfl (news1 _ _ _ _ rfl rfl) (fun u hu => by simp only [List.mem_singleton] at hu; subst hu; rfl) (by have := HM.out; unfold maxLen; omega) (by have := HM.out; omega) (by simp; omega) ?_; intro v' w1 hown' hgrow _)
      go_roundw
      case rel =>
        refine ⟨i + 1, by go_num, by omega, ?_, Below.grown (by repeat (first | (with_reducible exact CB.out) | ((with_reducible refine below_grow ?_ ?_); rotate_left; focus (first | omega | (simp [go_sem]; done) | (simp [go_sem]; omega))) | ((with_reducible refine Below.alloc ?_ ?_ _); rotate_left; focus (first | omega | (simp [go_sem]; done) | (simp [go_sem]; omega))) | ((with_reducible refine Below.setCell ?_ ?_ _); rotate_left; focus (first | omega | (simp [go_sem]; done) | (simp [go_sem]; omega))) | (with_reducible refine Below.drew ?_) | (with_reducible refine below_drewN _ ?_))) hgrow (by simp; omega) (fun k e => own_block_ge HR.out e)⟩
        rw [List.take_add_one, HT.out, List.map_append]
        exact hown'
      case measure => simp [intOf]; omega
    · obtain rfl : i = m := by omega
      go_wp2
      refine bodyPost_ret (by simp [results, Tryd.results14, go_sem]; rfl) rfl ⟨⟨_, rfl, ?_⟩, cb⟩
      rw [hlen]
      rw [List.take_of_length_le (by omega)] at hrow
      exact hrow
end Go.Proofs.YtblmdnmnodogiaaDoor
