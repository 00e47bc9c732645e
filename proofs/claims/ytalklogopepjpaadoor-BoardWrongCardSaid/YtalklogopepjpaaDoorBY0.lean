/- BoardBack: what is written is read back (plain mathematics). -/
import Derived.Test.YtalklogopepjpaaDoorBQ
import Derived.Test.YtalklogopepjpaaDoorBW0
namespace Go.Proofs.YtalklogopepjpaaDoor.Ca
open Go.RowKit
open Go.Proofs.DB (Pd Rd Same dlr vul)

theorem chr_sp : ∀ r : Fin 13, chr r.val ≠ 32 := by decide
theorem prt_sp (m s : Nat) : (32 : UInt8) ∉ prt m s := fun h => by
  unfold prt at h
  obtain ⟨x, hx, e⟩ := List.mem_map.1 h
  exact chr_sp ⟨x, (cdsF_mem.1 hx).1⟩ e
theorem wrt_sp (m : Nat) : (32 : UInt8) ∉ wrt m := fun h => by
  unfold wrt at h
  have a := prt_sp m 3
  have b := prt_sp m 2
  have c := prt_sp m 1
  have d := prt_sp m 0
  simp only [List.mem_append, List.mem_cons] at h
  rcases h with h | h | h | h | h | h | h
  · exact a h
  · exact absurd h (by decide)
  · exact b h
  · exact absurd h (by decide)
  · exact c h
  · exact absurd h (by decide)
  · exact d h
theorem idx_none : ∀ l : List UInt8, (32 : UInt8) ∉ l → Lib.indexByte l 32 = -1
  | [], _ => rfl
  | b :: l, h => by
    have ih := idx_none l (fun e => h (List.mem_cons_of_mem _ e))
    have hb : (b == 32) = false := by rw [beq_eq_false_iff_ne]; rintro rfl; exact h List.mem_cons_self
    simp [Lib.indexByte, hb, ih]
theorem idx_hit : ∀ a r : List UInt8, (32 : UInt8) ∉ a → Lib.indexByte (a ++ 32 :: r) 32 = a.length
  | [], r, _ => by simp [Lib.indexByte]
  | b :: a, r, h => by
    have ih := idx_hit a r (fun e => h (List.mem_cons_of_mem _ e))
    have hb : (b == 32) = false := by rw [beq_eq_false_iff_ne]; rintro rfl; exact h List.mem_cons_self
    have h2 : ((a.length : Int) == -1) = false := by rw [beq_eq_false_iff_ne]; omega
    simp [Lib.indexByte, hb, ih, h2]
theorem splitK_cons {a r : List UInt8} (k : Nat) (h : (32 : UInt8) ∉ a) : Lib.splitK [32] 0 (k + 1) (a ++ 32 :: r) = a :: Lib.splitK [32] 0 k r := by
  rw [splitK_hit (idx_hit a r h)]
  simp
theorem quad_same (p : Nat → Nat) : Same (quad (p 0) (p 1) (p 2) (p 3)) p := ⟨rfl, rfl, rfl, rfl⟩
theorem rd_same {p q : Nat → Nat} (s : Same p q) (h : Rd q) : Rd p :=
  ⟨⟨fun i hi => by rw [s.at i hi]; exact h.lt i hi, fun i hi => by rw [s.at i hi]; exact h.few i hi, fun i j hij hj => by rw [s.at i (by omega), s.at j hj]; exact h.dj i j hij hj⟩, fun i hi => by rw [s.at i hi]; exact h.all i hi⟩
theorem dtx_same {p q : Nat → Nat} (s : Same p q) : dtx p = dtx q := by
  unfold dtx DB.four
  obtain ⟨a, b, c, d⟩ := s
  simp only [a, b, c, d]
theorem rtx_same {p q : Nat → Nat} (n : Nat) (s : Same p q) : rtx n p = rtx n q := by
  unfold rtx
  rw [dtx_same s]
theorem dtx_split (p : Nat → Nat) : Lib.splitN (dtx p) [32] 5 = [wrt (p 0), wrt (p 1), wrt (p 2), wrt (p 3)] := by
  have e : dtx p = wrt (p 0) ++ 32 :: (wrt (p 1) ++ 32 :: (wrt (p 2) ++ 32 :: wrt (p 3))) := rfl
  have hl : 4 ≤ (dtx p).length := by
    rw [e]
    have h3 : 3 ≤ (wrt (p 0)).length := by have := wrt_length (p 0); omega
    simp only [List.length_append, List.length_cons]
    omega
  rw [splitN_K, show min 5 ((dtx p).length + 1) - 1 = 4 by omega, e, splitK_cons 3 (wrt_sp _), splitK_cons 2 (wrt_sp _), splitK_cons 1 (wrt_sp _), splitK_none (idx_none _ (wrt_sp _))]
theorem rdD_dtx {p : Nat → Nat} (hp : Rd p) : rdD (78 :: 58 :: dtx p) = some (quad (p 0) (p 1) (p 2) (p 3)) := by
  have h1 : Lib.hasPrefix (78 :: 58 :: dtx p) [78, 58] = true := by simp [Lib.hasPrefix]
  have h2 : Lib.trimPrefix (78 :: 58 :: dtx p) [78, 58] = dtx p := by simp [Lib.trimPrefix, Lib.hasPrefix]
  unfold rdD
  rw [if_pos h1, h2, dtx_split]
  simp only [prs_wrt (p 0) (hp.lt 0 (by decide)), prs_wrt (p 1) (hp.lt 1 (by decide)), prs_wrt (p 2) (hp.lt 2 (by decide)), prs_wrt (p 3) (hp.lt 3 (by decide))]
  rw [if_pos (rd_same (quad_same p) hp).toPd]
theorem itoa_sp : ∀ n : Fin 129, 1 ≤ n.val → (32 : UInt8) ∉ Lib.itoa ((n.val : Nat) : Int) ∧ bnum (Lib.itoa ((n.val : Nat) : Int)) = n.val ∧ 1 ≤ (Lib.itoa ((n.val : Nat) : Int)).length := by decide +kernel
theorem side_sp (v : Nat) : (32 : UInt8) ∉ side v := by
  unfold side
  split <;> decide
theorem dltr_sp (d : Nat) : (32 : UInt8) ∉ [dltr d] := by
  unfold dltr
  split <;> decide
theorem rdB_rtx {n : Nat} (h1 : 1 ≤ n) (h2 : n ≤ 128) {p : Nat → Nat} (hp : Rd p) : rdB (rtx n p) = some (n, quad (p 0) (p 1) (p 2) (p 3)) := by
  obtain ⟨a1, a2, a3⟩ := itoa_sp ⟨n, by omega⟩ h1
  dsimp only at a1 a2 a3
  have e : rtx n p = Lib.itoa (n : Int) ++ 32 :: ([dltr (dlr n)] ++ 32 :: (side (vul n) ++ 32 :: (78 :: 58 :: dtx p))) := rfl
  have hl : 4 ≤ (rtx n p).length := by
    rw [e]
    simp only [List.length_append, List.length_cons]
    omega
  have hs : Lib.splitN (rtx n p) [32] 4 = [Lib.itoa (n : Int), [dltr (dlr n)], side (vul n), 78 :: 58 :: dtx p] := by
    rw [splitN_K, show min 4 ((rtx n p).length + 1) - 1 = 3 by omega, e, splitK_cons 2 a1, splitK_cons 1 (dltr_sp _), splitK_cons 0 (side_sp _)]
    rfl
  have hr : rdP (78 :: 58 :: dtx p) = quad (p 0) (p 1) (p 2) (p 3) := by unfold rdP; rw [rdD_dtx hp]; rfl
  unfold rdB
  rw [hs]
  simp only [a2, hr, Int.toNat_natCast]
  rw [if_pos ⟨by omega, by omega, rd_same (quad_same p) hp, rtx_same n (quad_same p)⟩]
theorem rtx_inj {n m : Nat} (hn1 : 1 ≤ n) (hn2 : n ≤ 128) (hm1 : 1 ≤ m) (hm2 : m ≤ 128) {p q : Nat → Nat} (hp : Rd p) (hq : Rd q) : rtx n p = rtx m q ↔ n = m ∧ Same p q := by
  constructor
  · intro h
    have a := rdB_rtx hn1 hn2 hp
    rw [h, rdB_rtx hm1 hm2 hq] at a
    simp only [Option.some.injEq, Prod.mk.injEq] at a
    obtain ⟨a1, a2⟩ := a
    exact ⟨a1.symm, (congrFun a2 0).symm, (congrFun a2 1).symm, (congrFun a2 2).symm, (congrFun a2 3).symm⟩
  · rintro ⟨rfl, s⟩
    exact rtx_same n s
/-- What is read has the text that was read. -/
theorem rdB_text {l : List UInt8} {n : Nat} {p : Nat → Nat} (h : rdB l = some (n, p)) : 1 ≤ n ∧ n ≤ 128 ∧ Rd p ∧ rtx n p = l := by
  unfold rdB at h
  split at h
  · split at h
    · rename_i hc
      simp only [Option.some.injEq, Prod.mk.injEq] at h
      obtain ⟨rfl, rfl⟩ := h
      exact ⟨by omega, by omega, hc.2.2.1, hc.2.2.2⟩
    · cases h
  · cases h
theorem bturn_yes (n : Nat) (h1 : 1 ≤ n) (h2 : n ≤ 128) (p : Nat → Nat) (hp : Rd p) (w : World) : Calls Tryd.prog 22 #[.agg #[.int .i64 n, .int .u64 (p 0 : Nat), .int .u64 (p 1 : Nat), .int .u64 (p 2 : Nat), .int .u64 (p 3 : Nat)], .int .i64 1] w fun e w' =>
    e = .returned (.tuple #[.agg #[.int .i64 n, .int .u64 (tn p 1 0 : Nat), .int .u64 (tn p 1 1 : Nat), .int .u64 (tn p 1 2 : Nat), .int .u64 (tn p 1 3 : Nat)], .int .i64 0]) ∧ Below w.heap.size w w' := by
  have F := Lib.hid (fault_yes n h1 h2 p hp)
  have T := Lib.hid (turn_calls p 1 (by decide) (by decide))
  clear h1 h2 hp
  go_enter Tryd.func22, Tryd.ntmps22
  go_upto_region 4 with (go_at_call 31; refine (F.out _).mono ?_; rintro e w9 ⟨rfl, hbel⟩; obtain ⟨o1, j1, rfl⟩ := grow_of_below hbel; clear hbel)
  generalize hW : grow _ o1 j1 = W
  have b0 : blk W w.heap.size #[.int .i64 n, .int .u64 (p 0 : Nat), .int .u64 (p 1 : Nat), .int .u64 (p 2 : Nat), .int .u64 (p 3 : Nat)] 53 := by rw [← hW]; exact blk_grow (blk_alloc (blk_new _ _ _) _) _ _
  have b1 : blk W (w.heap.size + 1) #[.int .i64 0, .int .u64 0, .int .u64 0, .int .u64 0, .int .u64 0] 53 := by rw [← hW]; exact blk_grow (blk_at _ _ _ (by simp)) _ _
  have bb : Below w.heap.size w W := by rw [← hW]; repeat (first | (with_reducible exact Below.refl _ _) | ((with_reducible refine below_grow ?_ ?_); rotate_left; focus (first | omega | (simp [go_sem]; done) | (simp [go_sem]; omega))) | ((with_reducible refine Below.alloc ?_ ?_ _); rotate_left; focus (first | omega | (simp [go_sem]; done) | (simp [go_sem]; omega))) | ((with_reducible refine Below.setCell ?_ ?_ _); rotate_left; focus (first | omega | (simp [go_sem]; done) | (simp [go_sem]; omega))) | (with_reducible refine Below.drew ?_) | (with_reducible refine below_drewN _ ?_))
  clear hW F
  have k0 : W.cell? ⟨w.heap.size, 0, none⟩ = some (.int .i64 n) := blk_cell b0 0
  have k1 : W.cell? ⟨w.heap.size, 1, none⟩ = some (.int .u64 (p 0 : Nat)) := blk_cell b0 1
  have k2 : W.cell? ⟨w.heap.size, 2, none⟩ = some (.int .u64 (p 1 : Nat)) := blk_cell b0 2
  have k3 : W.cell? ⟨w.heap.size, 3, none⟩ = some (.int .u64 (p 2 : Nat)) := blk_cell b0 3
  have k4 : W.cell? ⟨w.heap.size, 4, none⟩ = some (.int .u64 (p 3 : Nat)) := blk_cell b0 4
  have f1 : ∀ j, W.frozen? ⟨w.heap.size + 1, j, none⟩ = false := fun j => blk_free b1 j
  have r0 := blk_cell b1 0; have r1 := blk_cell b1 1; have r2 := blk_cell b1 2; have r3 := blk_cell b1 3; have r4 := blk_cell b1 4
  simp only [List.getElem?_toArray, List.getElem?_cons_zero, List.getElem?_cons_succ] at r0 r1 r2 r3 r4
  haveI i0 : NeZero (inW w.heap.size W) := inW_mk (blk_lt b0)
  haveI i1 : NeZero (inW (w.heap.size + 1) W) := inW_mk (blk_lt b1)
  have hbs := bb.size
  have l1 := blk_lt b1
  have BB' := Lib.hid bb
  clear b0 b1 bb
  go_region_held3 (fun w' => w'.cell? ⟨w.heap.size, 0, none⟩ = some (.int .i64 n) ∧ w'.cell? ⟨w.heap.size, 1, none⟩ = some (.int .u64 (p 0 : Nat)) ∧ w'.cell? ⟨w.heap.size, 2, none⟩ = some (.int .u64 (p 1 : Nat)) ∧ w'.cell? ⟨w.heap.size, 3, none⟩ = some (.int .u64 (p 2 : Nat)) ∧ w'.cell? ⟨w.heap.size, 4, none⟩ = some (.int .u64 (p 3 : Nat))) (simp [*, go_sem]) (first | (go_at_call 18; refine (T.out _).mono ?_; rintro e w9 ⟨rfl, hbel⟩; obtain ⟨o2, j2, rfl⟩ := grow_of_below hbel; clear hbel))
  go_wp2
  refine bodyPost_ret (by simp [results, Tryd.results22, go_sem, r0, r1, r2, r3, r4]) rfl ⟨rfl, ?_⟩
  repeat (first | (with_reducible exact BB'.out) | ((with_reducible refine below_grow ?_ ?_); rotate_left; focus (first | omega | (simp [go_sem]; done) | (simp [go_sem]; omega))) | ((with_reducible refine Below.alloc ?_ ?_ _); rotate_left; focus (first | omega | (simp [go_sem]; done) | (simp [go_sem]; omega))) | ((with_reducible refine Below.setCell ?_ ?_ _); rotate_left; focus (first | omega | (simp [go_sem]; done) | (simp [go_sem]; omega))) | (with_reducible refine Below.drew ?_) | (with_reducible refine below_drewN _ ?_))
theorem eqD9 (a0 a1 a2 a3 b0 b1 b2 b3 : Int) (w : World) : (Op.equalIn 9999 39 (.agg #[.int .u64 a0, .int .u64 a1, .int .u64 a2, .int .u64 a3]) (.agg #[.int .u64 b0, .int .u64 b1, .int .u64 b2, .int .u64 b3])).run Tryd.prog w = .ok (decide (a0 = b0 ∧ a1 = b1 ∧ a2 = b2 ∧ a3 = b3)) w := by
  have u3 := Tryd.underlying37
  have a3' := Tryd.isAgg37
  have z3 := Tryd.sizeOf37
  rw [show (9999 : Nat) = 9998 + 1 from rfl, Op.equalIn]
  simp only [Sem.run_bind, run_underlying Tryd.underlying39, Result.andThen_ok]
  simp only [Std.Legacy.Range.forIn_eq_forIn_range', Std.Legacy.Range.size, Nat.sub_zero, Nat.add_sub_cancel, Nat.div_one, List.range'_succ, List.range'_zero, List.forIn_cons, List.forIn_nil]
  go_simp
  by_cases h1 : a0 = b0 <;> by_cases h2 : a1 = b1 <;> by_cases h3 : a2 = b2 <;> by_cases h4 : a3 = b3 <;> simp [h1, h2, h3, h4]
theorem eqRc (a0 a1 a2 a3 a4 b0 b1 b2 b3 b4 : Int) (w : World) : (Op.equalIn 10000 53 (.agg #[.int .i64 a0, .int .u64 a1, .int .u64 a2, .int .u64 a3, .int .u64 a4]) (.agg #[.int .i64 b0, .int .u64 b1, .int .u64 b2, .int .u64 b3, .int .u64 b4])).run Tryd.prog w = .ok (decide (a0 = b0 ∧ a1 = b1 ∧ a2 = b2 ∧ a3 = b3 ∧ a4 = b4)) w := by
  have u3 := Tryd.underlying3
  have a3' := Tryd.isAgg3
  have z3 := Tryd.sizeOf3
  have a4' := Tryd.isAgg39
  have z4 := Tryd.sizeOf39
  have e := eqD9
  rw [show (10000 : Nat) = 9999 + 1 from rfl, Op.equalIn]
  simp only [Sem.run_bind, run_underlying Tryd.underlying53, Result.andThen_ok]
  go_simp
  by_cases h1 : a0 = b0 <;> by_cases h2 : a1 = b1 <;> by_cases h3 : a2 = b2 <;> by_cases h4 : a3 = b3 <;> by_cases h5 : a4 = b4 <;> simp [h1, h2, h3, h4, h5]
theorem tn1_rd {d : Nat → Nat} (h : Rd d) : Rd (tn d 1) := by
  have hlt : ∀ i : Nat, (((i : Int) - 1) % 4).toNat < 4 := fun i => by omega
  refine ⟨⟨fun i _ => h.lt _ (hlt i), fun i _ => h.few _ (hlt i), fun i j hij hj => ?_⟩, fun i _ => h.all _ (hlt i)⟩
  have hne : (((i : Int) - 1) % 4).toNat ≠ (((j : Int) - 1) % 4).toNat := by omega
  unfold tn
  rcases Nat.lt_or_gt_of_ne hne with l | l
  · exact h.dj _ _ l (hlt j)
  · exact (h.dj _ _ l (hlt i)).symm
end Go.Proofs.YtalklogopepjpaaDoor.Ca
