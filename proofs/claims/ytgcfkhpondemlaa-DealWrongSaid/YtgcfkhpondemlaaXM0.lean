/- The examples of the chapter: the numbers. -/
import Derived.Test.YtgcfkhpondemlaaXL
import Derived.Test.YtgcfkhpondemlaaXK
import Derived.Test.YtgcfkhpondemlaaXG
import Derived.Test.YtgcfkhpondemlaaXJ
namespace Go.Proofs.Ytgcfkhpondemlaa.Ca
open Go.RowKit
open Go.Proofs.DB (ct bt Pd Rd lack)

/-- Pascal's rows as lists. -/
def pascal : Nat → List Nat
  | 0 => [1]
  | i + 1 => 1 :: List.zipWith (· + ·) (pascal i) ((pascal i).tail ++ [0])
theorem pascal_len : ∀ i, (pascal i).length = i + 1
  | 0 => rfl
  | i + 1 => by simp [pascal, pascal_len i]
theorem pascal_at : ∀ i j : Nat, j ≤ i → (pascal i)[j]? = some (bin i j)
  | 0, 0, _ => rfl
  | i + 1, 0, _ => by simp [pascal, bin]
  | i + 1, j + 1, h => by
    have hj : j ≤ i := by omega
    have hl := pascal_len i
    have h1 := pascal_at i j hj
    have h2 : ((pascal i).tail ++ [0])[j]? = some (bin i (j + 1)) := by
      by_cases e : j = i
      · subst e
        rw [(pas_bin.self j).2 (j + 1) (by omega), List.getElem?_append_right (by simp [hl])]
        simp [hl]
      · rw [List.getElem?_append_left (by simp [hl]; omega), List.getElem?_tail, pascal_at i (j + 1) (by omega)]
    simp only [pascal, List.getElem?_cons_succ, List.getElem?_zipWith, h1, h2, bin]
def fb (n k : Nat) : Nat := ((pascal n)[k]?).getD 0
theorem bin_fb : bin = fb := funext fun n => funext fun k => by
  unfold fb
  by_cases h : k ≤ n
  · rw [pascal_at n k h]; rfl
  · rw [List.getElem?_eq_none (by rw [pascal_len]; omega), (pas_bin.self n).2 k (by omega)]; rfl
theorem comp_of {p d : Nat → Nat} {n : Nat} (hp : Pd p) (hd : Rd d) (h : DB.In p d) (hn : DB.index bin p d = n) : (∀ i, i < 4 → d i = DB.complete bin p n i) ∧ n < DB.ways bin p := by
  subst hn
  exact ⟨fun i hi => (DB.complete_index pas_bin hp hd h i hi).symm, DB.index_lt pas_bin hp hd h⟩
def zD : Nat → Nat := fun _ => 0
theorem in_zD (d : Nat → Nat) : DB.In zD d := fun i _ j => by show bt 0 j ≤ _; rw [show bt 0 j = 0 by simp [bt]]; exact Nat.zero_le _
def A0 : Nat := 53644737765488792839237440000
def sD : Nat → Nat
  | 0 => 8191
  | 1 => 67100672
  | 2 => 549688705024
  | _ => 4503049871556608
def oD : Nat → Nat
  | 0 => 8191
  | 1 => 67100672
  | 2 => 824566611968
  | _ => 4502774993649664
def lD : Nat → Nat
  | 0 => 4503049871556608
  | 1 => 549688705024
  | 2 => 67100672
  | _ => 8191
def pD : Nat → Nat
  | 0 => 8190
  | 1 => 2251250057871360
  | 2 => 549688705024
  | _ => 67100672
def qD : Nat → Nat
  | 0 => 8191
  | 1 => 4503049871556608
  | 2 => 549688705024
  | _ => 67100672
theorem zD_pd : Pd zD := by decide +kernel
theorem sD_rd : Rd sD := by decide +kernel
theorem oD_rd : Rd oD := by decide +kernel
theorem lD_rd : Rd lD := by decide +kernel
theorem qD_rd : Rd qD := by decide +kernel
theorem pD_pd : Pd pD := by decide +kernel
theorem in_of {p d : Nat → Nat} (h : ∀ i, i < 4 → p i &&& d i = p i) : DB.In p d := fun i hi j => by
  have e := h i hi
  have := DB.bt_and (p i) (d i) j
  rw [e] at this
  omega
theorem pq_in : DB.In pD qD := in_of (by decide +kernel)
theorem waysA : DB.ways bin zD = A0 := by rw [bin_fb]; decide +kernel
theorem ix_s : DB.index bin zD sD = 0 := by rw [bin_fb]; decide +kernel
theorem ix_o : DB.index bin zD oD = 1 := by rw [bin_fb]; decide +kernel
theorem ix_l : DB.index bin zD lD = A0 - 1 := by rw [bin_fb]; decide +kernel
theorem waysP : DB.ways bin pD = 2 := by rw [bin_fb]; decide +kernel
theorem ix_q : DB.index bin pD qD = 0 := by rw [bin_fb]; decide +kernel
theorem fs1 : Se.fsN (Se.limV 2 1) 1 100 1 = (48271, 48270) := by
  unfold Se.fsN
  rw [show Se.numb 1 1 = 48270 by decide +kernel, show Se.jmp 1 1 = 48271 by decide +kernel, if_pos (by decide +kernel)]
theorem dg2 : dg 2 = 1 := if_pos (by rw [Se.vp_one]; decide)
theorem rS2 : rS 1 2 = 48271 := by unfold rS; rw [dg2, fs1]
theorem rV2 : rV 1 2 = 0 := by unfold rV; rw [dg2, fs1]; rfl
theorem isN_A0 : isN A0 := by decide +kernel
theorem isN_A1 : isN (A0 - 1) := by decide +kernel
theorem kWays (w : World) : Calls Try.prog 10 #[.agg #[.int .u64 0, .int .u64 0, .int .u64 0, .int .u64 0]] w fun e w' => e = .returned (.tuple #[.agg #[.int .u32 (pt A0 0), .int .u32 (pt A0 1), .int .u32 (pt A0 2), .int .u32 (pt A0 3)], .int .i64 0]) ∧ Below w.heap.size w w' := by
  have h := ways_yes zD zD_pd w
  rw [waysA] at h
  exact h
theorem kC0 (w : World) : Calls Try.prog 12 #[.agg #[.int .u64 0, .int .u64 0, .int .u64 0, .int .u64 0], .agg #[.int .u32 0, .int .u32 0, .int .u32 0, .int .u32 0]] w fun e w' => e = .returned (.tuple #[.agg #[.int .u64 8191, .int .u64 67100672, .int .u64 549688705024, .int .u64 4503049871556608], .int .i64 0]) ∧ Below w.heap.size w w' := by
  obtain ⟨a, b⟩ := comp_of zD_pd sD_rd (in_zD _) ix_s
  have h := complete_yes zD 0 zD_pd b sD a w
  simp only [pt_zero] at h
  exact h
theorem kC1 (w : World) : Calls Try.prog 12 #[.agg #[.int .u64 0, .int .u64 0, .int .u64 0, .int .u64 0], .agg #[.int .u32 1, .int .u32 0, .int .u32 0, .int .u32 0]] w fun e w' => e = .returned (.tuple #[.agg #[.int .u64 8191, .int .u64 67100672, .int .u64 824566611968, .int .u64 4502774993649664], .int .i64 0]) ∧ Below w.heap.size w w' := by
  obtain ⟨a, b⟩ := comp_of zD_pd oD_rd (in_zD _) ix_o
  exact complete_yes zD 1 zD_pd b oD a w
theorem kCl (w : World) : Calls Try.prog 12 #[.agg #[.int .u64 0, .int .u64 0, .int .u64 0, .int .u64 0], .agg #[.int .u32 (pt (A0 - 1) 0), .int .u32 (pt (A0 - 1) 1), .int .u32 (pt (A0 - 1) 2), .int .u32 (pt (A0 - 1) 3)]] w fun e w' => e = .returned (.tuple #[.agg #[.int .u64 4503049871556608, .int .u64 549688705024, .int .u64 67100672, .int .u64 8191], .int .i64 0]) ∧ Below w.heap.size w w' := by
  obtain ⟨a, b⟩ := comp_of zD_pd lD_rd (in_zD _) ix_l
  exact complete_yes zD (A0 - 1) zD_pd b lD a w
theorem kCa (w : World) : Calls Try.prog 12 #[.agg #[.int .u64 0, .int .u64 0, .int .u64 0, .int .u64 0], .agg #[.int .u32 (pt A0 0), .int .u32 (pt A0 1), .int .u32 (pt A0 2), .int .u32 (pt A0 3)]] w fun e w' => e = .returned (.tuple #[.agg #[.int .u64 0, .int .u64 0, .int .u64 0, .int .u64 0], .int .i64 6]) ∧ Below w.heap.size w w' := by
  exact complete_big zD A0 zD_pd isN_A0 (by rw [waysA]; exact Nat.lt_irrefl _) w
theorem kNT (w : World) : Calls Try.prog 37 #[.agg #[.int .u32 (pt A0 0), .int .u32 (pt A0 1), .int .u32 (pt A0 2), .int .u32 (pt A0 3)]] w fun e w' => e = .returned (.string ⟨#[53, 51, 54, 52, 52, 55, 51, 55, 55, 54, 53, 52, 56, 56, 55, 57, 50, 56, 51, 57, 50, 51, 55, 52, 52, 48, 48, 48, 48]⟩) ∧ Below w.heap.size w w' := by
  have h := text_calls A0 isN_A0 w
  rw [show decD A0 = [53, 51, 54, 52, 52, 55, 51, 55, 55, 54, 53, 52, 56, 56, 55, 57, 50, 56, 51, 57, 50, 51, 55, 52, 52, 48, 48, 48, 48] by decide +kernel] at h
  exact h
theorem kSub (w : World) : Calls Try.prog 40 #[.agg #[.int .u32 (pt A0 0), .int .u32 (pt A0 1), .int .u32 (pt A0 2), .int .u32 (pt A0 3)], .agg #[.int .u32 1, .int .u32 0, .int .u32 0, .int .u32 0]] w fun e w' => e = .returned (.tuple #[.agg #[.int .u32 (pt (A0 - 1) 0), .int .u32 (pt (A0 - 1) 1), .int .u32 (pt (A0 - 1) 2), .int .u32 (pt (A0 - 1) 3)], .int .i64 0]) ∧ Below w.heap.size w w' := by
  exact Se.sub_hyp A0 1 (A0 - 1) isN_A0 (by decide) rfl (by decide +kernel) w
theorem kText (w : World) : Calls Try.prog 26 #[.agg #[.int .u64 8191, .int .u64 67100672, .int .u64 824566611968, .int .u64 4502774993649664]] w fun e w' => e = .returned (.tuple #[.string ⟨#[78, 58, 46, 46, 46, 65, 75, 81, 74, 84, 57, 56, 55, 54, 53, 52, 51, 50, 32, 46, 46, 65, 75, 81, 74, 84, 57, 56, 55, 54, 53, 52, 51, 50, 46, 32, 50, 46, 75, 81, 74, 84, 57, 56, 55, 54, 53, 52, 51, 50, 46, 46, 32, 65, 75, 81, 74, 84, 57, 56, 55, 54, 53, 52, 51, 46, 65, 46, 46]⟩, .int .i64 0]) ∧ Below w.heap.size w w' := by
  have h := text_yes oD oD_rd.toPd w
  rw [show 78 :: 58 :: dtx oD = [78, 58, 46, 46, 46, 65, 75, 81, 74, 84, 57, 56, 55, 54, 53, 52, 51, 50, 32, 46, 46, 65, 75, 81, 74, 84, 57, 56, 55, 54, 53, 52, 51, 50, 46, 32, 50, 46, 75, 81, 74, 84, 57, 56, 55, 54, 53, 52, 51, 50, 46, 46, 32, 65, 75, 81, 74, 84, 57, 56, 55, 54, 53, 52, 51, 46, 65, 46, 46] by decide +kernel] at h
  exact h
theorem kWp (w : World) : Calls Try.prog 10 #[.agg #[.int .u64 8190, .int .u64 2251250057871360, .int .u64 549688705024, .int .u64 67100672]] w fun e w' => e = .returned (.tuple #[.agg #[.int .u32 2, .int .u32 0, .int .u32 0, .int .u32 0], .int .i64 0]) ∧ Below w.heap.size w w' := by
  have h := ways_yes pD pD_pd w
  rw [waysP] at h
  exact h
theorem kRnd (w : World) : Calls Try.prog 23 #[.int .i64 1, .agg #[.int .u64 8190, .int .u64 2251250057871360, .int .u64 549688705024, .int .u64 67100672]] w fun e w' => e = .returned (.tuple #[.int .i64 48271, .agg #[.int .u64 8191, .int .u64 4503049871556608, .int .u64 549688705024, .int .u64 67100672], .int .i64 0]) ∧ Below w.heap.size w w' := by
  have h := random_yes 1 pD (by unfold Se.St; decide) pD_pd qD (by rw [waysP, rV2]; exact (comp_of pD_pd qD_rd pq_in ix_q).1) w
  rw [waysP, rS2] at h
  exact h
theorem kTurn (w : World) : Calls Try.prog 21 #[.agg #[.int .u64 8191, .int .u64 4503049871556608, .int .u64 549688705024, .int .u64 67100672], .int .i64 1] w fun e w' => e = .returned (.agg #[.int .u64 67100672, .int .u64 8191, .int .u64 4503049871556608, .int .u64 549688705024]) ∧ Below w.heap.size w w' := by
  exact turn_calls qD 1 (by decide) (by decide) w
theorem suits_calls (w : World) : Calls Try.prog 38 #[] w fun e w' => e = .returned (.agg #[.int .u64 8191, .int .u64 67100672, .int .u64 549688705024, .int .u64 4503049871556608]) ∧ Below w.heap.size w w' := by
  go_enter Try.func38, Try.ntmps38
  go_wp2
  refine bodyPost_ret (by simp [results, Try.results38, go_sem]) rfl ⟨rfl, ?_⟩
  repeat (first | (with_reducible exact Below.refl _ _) | ((with_reducible refine below_grow ?_ ?_); rotate_left; focus (first | omega | (simp [go_sem]; done) | (simp [go_sem]; omega))) | ((with_reducible refine Below.alloc ?_ ?_ _); rotate_left; focus (first | omega | (simp [go_sem]; done) | (simp [go_sem]; omega))) | ((with_reducible refine Below.setCell ?_ ?_ _); rotate_left; focus (first | omega | (simp [go_sem]; done) | (simp [go_sem]; omega))) | (with_reducible refine Below.drew ?_) | (with_reducible refine below_drewN _ ?_))
theorem kLaw (w : World) : Calls Try.prog 39 #[.agg #[.int .u64 8191, .int .u64 67100672, .int .u64 824566611968, .int .u64 4502774993649664]] w fun e w' => e = .returned (.string ⟨#[78, 58, 46, 46, 46, 65, 75, 81, 74, 84, 57, 56, 55, 54, 53, 52, 51, 50, 32, 46, 46, 65, 75, 81, 74, 84, 57, 56, 55, 54, 53, 52, 51, 50, 46, 32, 50, 46, 75, 81, 74, 84, 57, 56, 55, 54, 53, 52, 51, 50, 46, 46, 32, 65, 75, 81, 74, 84, 57, 56, 55, 54, 53, 52, 51, 46, 65, 46, 46]⟩) ∧ Below w.heap.size w w' := by
  have T := Lib.hid kText
  go_enter Try.func39, Try.ntmps39
  go_wp2_with (go_at_call 26; refine (T.out _).mono ?_; rintro e w9 ⟨rfl, hbel⟩; obtain ⟨o1, j1, rfl⟩ := grow_of_below hbel; clear hbel)
  refine bodyPost_ret (by simp [results, Try.results39, go_sem]) rfl ⟨rfl, ?_⟩
  repeat (first | (with_reducible exact Below.refl _ _) | ((with_reducible refine below_grow ?_ ?_); rotate_left; focus (first | omega | (simp [go_sem]; done) | (simp [go_sem]; omega))) | ((with_reducible refine Below.alloc ?_ ?_ _); rotate_left; focus (first | omega | (simp [go_sem]; done) | (simp [go_sem]; omega))) | ((with_reducible refine Below.setCell ?_ ?_ _); rotate_left; focus (first | omega | (simp [go_sem]; done) | (simp [go_sem]; omega))) | (with_reducible refine Below.drew ?_) | (with_reducible refine below_drewN _ ?_))
theorem eqD (a0 a1 a2 a3 b0 b1 b2 b3 : Int) (w : World) : (Op.equalIn 10000 28 (.agg #[.int .u64 a0, .int .u64 a1, .int .u64 a2, .int .u64 a3]) (.agg #[.int .u64 b0, .int .u64 b1, .int .u64 b2, .int .u64 b3])).run Try.prog w = .ok (decide (a0 = b0 ∧ a1 = b1 ∧ a2 = b2 ∧ a3 = b3)) w := by
  have u3 := Try.underlying23
  have a3' := Try.isAgg23
  have z3 := Try.sizeOf23
  rw [show (10000 : Nat) = 9999 + 1 from rfl, Op.equalIn]
  simp only [Sem.run_bind, run_underlying Try.underlying28, Result.andThen_ok]
  simp only [Std.Legacy.Range.forIn_eq_forIn_range', Std.Legacy.Range.size, Nat.sub_zero, Nat.add_sub_cancel, Nat.div_one, List.range'_succ, List.range'_zero, List.forIn_cons, List.forIn_nil]
  go_simp
  by_cases h1 : a0 = b0 <;> by_cases h2 : a1 = b1 <;> by_cases h3 : a2 = b2 <;> by_cases h4 : a3 = b3 <;> simp [h1, h2, h3, h4]
end Go.Proofs.Ytgcfkhpondemlaa.Ca
