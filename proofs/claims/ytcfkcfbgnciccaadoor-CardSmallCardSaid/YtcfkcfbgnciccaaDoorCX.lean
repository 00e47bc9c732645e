/- strings.Split at a point, for three points, however long the string is. -/
import Derived.Test.YtcfkcfbgnciccaaDoorCVa
import Derived.Laws.MakeOwn
namespace Go.Proofs.YtcfkcfbgnciccaaDoor
open Go.RowKit

theorem index_dot (a r : List UInt8) (h : 46 ∉ a) : Lib.index (a ++ 46 :: r) [46] = a.length := by
  rw [Lib.index_one]
  induction a with
  | nil => rfl
  | cons x a ih =>
    have ih := ih (fun e => h (List.mem_cons_of_mem _ e))
    have hx : (x == 46) = false := by
      rw [beq_eq_false_iff_ne]
      rintro rfl
      exact h List.mem_cons_self
    simp only [List.cons_append, Lib.indexByte, hx, ih]
    have : ((a.length : Int) == -1) = false := by rw [beq_eq_false_iff_ne]; omega
    simp [this]
theorem index_dot_calls (a r : List UInt8) (h : 46 ∉ a) (w : World) : Calls Tryd.prog 68 #[strv (a ++ 46 :: r), .string ⟨#[46]⟩] w fun e w' => e = .returned (.int .i64 (a.length : Int)) ∧ w = w' := by
  have H := Tryd.strings_Index_one ⟨(a ++ 46 :: r).toArray⟩ 46 w
  refine H.mono fun e w' h' => ⟨?_, ?_⟩
  · have := h'.1
    have h2 := index_dot a r h
    rw [Lib.index_one] at h2
    simp only [h2] at this
    exact this
  · exact h'.2.symm
theorem take_dot (a r : List UInt8) (W : World) : (Instr.slice 9 (strv (a ++ 46 :: r)) none (some (.int .i64 (a.length : Int))) none).run Tryd.prog W = .ok (strv a) W := by
  have h := slice_take (a ++ 46 :: r) a.length (by simp) W
  rwa [List.take_left] at h
theorem drop_dot (a r : List UInt8) (W : World) : (Instr.slice 9 (strv (a ++ 46 :: r)) (some (.int .i64 ((a.length : Int) + 1))) none none).run Tryd.prog W = .ok (strv r) W := by
  have h := slice_drop (a ++ 46 :: r) (a.length + 1) (by simp) W
  rw [show (a ++ 46 :: r).drop (a.length + 1) = r by rw [List.drop_append]; simp] at h
  simpa using h
theorem Tryd.infoStr : (Tryd.prog.info? 9).map (fun i => (i.zero, i.size, i.bytes)) = some (some (.string ByteArray.empty), 1, 16) := by kernel_rfl
theorem make_four (W : World) : (Instr.makeSlice 31 (.int .i64 4) (.int .i64 4)).run Tryd.prog W = .ok (.slice (some ⟨W.heap.size, 0, none⟩) 4 4) (W.alloc (.cells #[.string ⟨#[]⟩, .string ⟨#[]⟩, .string ⟨#[]⟩, .string ⟨#[]⟩] 9)) := by
  obtain ⟨i0, hi, hz0, hz1, hz2⟩ := info_parts Tryd.infoStr
  have h := run_makeSlice (P := Tryd.prog) W 31 9 i0 _ Tryd.underlying31 hi hz0 .i64 .i64 4 4 (by decide) (by decide) (by rw [hz1]; decide) (by rw [hz2]; decide) (by decide)
  rw [h, hz1]
  show _ = _
  kernel_rfl
set_option maxRecDepth 100000 in
set_option maxHeartbeats 8000000 in
theorem genSplit_dots (a b c d : List UInt8) (na : 46 ∉ a) (nb : 46 ∉ b) (nc : 46 ∉ c) (nd : 46 ∉ d) (hl : (a ++ 46 :: (b ++ 46 :: (c ++ 46 :: d))).length ≤ 140737488355328) (w : World) :
    Calls Tryd.prog 69 #[strv (a ++ 46 :: (b ++ 46 :: (c ++ 46 :: d))), .string ⟨#[46]⟩, .int .i64 0, .int .i64 (-1)] w fun e w' =>
      e = .returned (.slice (some ⟨w.heap.size, 0, none⟩) 4 4) ∧ w' = w.alloc (.cells #[strv a, strv b, strv c, strv d] 9) := by
  have X2 := Lib.hid (index_dot_calls c d nc)
  have T2 := take_dot c d
  have D2 := drop_dot c d
  obtain ⟨S2, hS2⟩ : ∃ S, c ++ 46 :: d = S := ⟨_, rfl⟩
  have X1 := Lib.hid (index_dot_calls b (c ++ 46 :: d) nb)
  have T1 := take_dot b (c ++ 46 :: d)
  have D1 := drop_dot b (c ++ 46 :: d)
  rw [hS2] at X1 T1 D1 X2 T2 D2
  obtain ⟨S1, hS1⟩ : ∃ S, b ++ 46 :: S2 = S := ⟨_, rfl⟩
  have X0 := Lib.hid (index_dot_calls a (b ++ 46 :: (c ++ 46 :: d)) na)
  have T0 := take_dot a (b ++ 46 :: (c ++ 46 :: d))
  have D0 := drop_dot a (b ++ 46 :: (c ++ 46 :: d))
  rw [hS2, hS1] at X0 T0 D0
  rw [hS1] at X1 T1 D1
  have hcnt : (a ++ 46 :: (b ++ 46 :: (c ++ 46 :: d))).count 46 = 3 := by
    simp [List.count_append, List.count_cons, List.count_eq_zero_of_not_mem na, List.count_eq_zero_of_not_mem nb, List.count_eq_zero_of_not_mem nc, List.count_eq_zero_of_not_mem nd]
  have hl3 : 3 ≤ (a ++ 46 :: (b ++ 46 :: (c ++ 46 :: d))).length := by simp; omega
  have hla : a.length + b.length + c.length + 3 ≤ 140737488355328 := by
    simp only [List.length_append, List.length_cons] at hl
    omega
  rw [hS2, hS1] at hl hcnt hl3 ⊢
  obtain ⟨S0, hS0⟩ : ∃ S, a ++ 46 :: S1 = S := ⟨_, rfl⟩
  rw [hS0] at X0 T0 D0 hl hcnt hl3 ⊢
  have C : ∀ w, Calls Tryd.prog 59 #[strv S0, .string ⟨#[46]⟩] w fun e w' => e = .returned (.int .i64 3) ∧ w = w' := fun w => by
    have h := count_calls ⟨S0.toArray⟩ w
    simp only [hcnt] at h
    exact h
  have C := Lib.hid C
  obtain ⟨L, hL⟩ : ∃ L, S0.length = L := ⟨_, rfl⟩
  obtain ⟨la, hla1⟩ : ∃ L, a.length = L := ⟨_, rfl⟩
  obtain ⟨lb, hlb1⟩ : ∃ L, b.length = L := ⟨_, rfl⟩
  obtain ⟨lc, hlc1⟩ : ∃ L, c.length = L := ⟨_, rfl⟩
  rw [hla1] at X0 T0 D0
  rw [hlb1] at X1 T1 D1
  rw [hlc1] at X2 T2 D2
  rw [hla1, hlb1, hlc1] at hla
  rw [hL] at hl hl3
  have l1 : IntKind.i64.wrap ((L : Int) + 1) = (L : Int) + 1 := IntWalk.i64_in _ (by omega)
  have l2 : min (4 : Int) ((L : Int) + 1) = 4 := by omega
  have w0 : IntKind.i64.wrap (la : Int) = la := IntWalk.i64_in _ (by omega)
  have w1 : IntKind.i64.wrap (lb : Int) = lb := IntWalk.i64_in _ (by omega)
  have w2 : IntKind.i64.wrap (lc : Int) = lc := IntWalk.i64_in _ (by omega)
  have v0 : IntKind.i64.wrap ((la : Int) + 1) = (la : Int) + 1 := IntWalk.i64_in _ (by omega)
  have v1 : IntKind.i64.wrap ((lb : Int) + 1) = (lb : Int) + 1 := IntWalk.i64_in _ (by omega)
  have v2 : IntKind.i64.wrap ((lc : Int) + 1) = (lc : Int) + 1 := IntWalk.i64_in _ (by omega)
  have p0 : ¬ (la : Int) < 0 := by omega
  have p1 : ¬ (lb : Int) < 0 := by omega
  have p2 : ¬ (lc : Int) < 0 := by omega
  clear hS0 hS1 hS2 hcnt hl3 hl hla na nb nc nd hla1 hlb1 hlc1
  have MK := make_four
  go_enter Tryd.func69, Tryd.ntmps69
  go_upto_region 8 with (go_at_call 59; refine (C.out _).mono ?_; rintro e w1 ⟨rfl, rfl⟩)
  go_wp2
  refine wp_loop_rounds 4 ?_
  rw [rounds_succ]
  go_wp2_with (first | (go_at_call_of 68 (strv S0); refine (X0.out _).mono ?_; rintro e w1 ⟨rfl, rfl⟩) | (go_at_call_of 68 (strv S1); refine (X1.out _).mono ?_; rintro e w1 ⟨rfl, rfl⟩) | (go_at_call_of 68 (strv S2); refine (X2.out _).mono ?_; rintro e w1 ⟨rfl, rfl⟩))
  rw [rounds_succ]
  go_wp2_with (first | (go_at_call_of 68 (strv S0); refine (X0.out _).mono ?_; rintro e w1 ⟨rfl, rfl⟩) | (go_at_call_of 68 (strv S1); refine (X1.out _).mono ?_; rintro e w1 ⟨rfl, rfl⟩) | (go_at_call_of 68 (strv S2); refine (X2.out _).mono ?_; rintro e w1 ⟨rfl, rfl⟩))
  rw [rounds_succ]
  go_wp2_with (first | (go_at_call_of 68 (strv S0); refine (X0.out _).mono ?_; rintro e w1 ⟨rfl, rfl⟩) | (go_at_call_of 68 (strv S1); refine (X1.out _).mono ?_; rintro e w1 ⟨rfl, rfl⟩) | (go_at_call_of 68 (strv S2); refine (X2.out _).mono ?_; rintro e w1 ⟨rfl, rfl⟩))
  rw [rounds_succ]
  go_wp2
  go_ret
  exact ⟨rfl, rfl⟩
end Go.Proofs.YtcfkcfbgnciccaaDoor
