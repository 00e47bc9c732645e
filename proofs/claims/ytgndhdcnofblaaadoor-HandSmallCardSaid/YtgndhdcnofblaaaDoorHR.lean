/- HandSuits: the walk. -/
import Derived.Test.YtgndhdcnofblaaaDoorHR0
import Derived.Test.YtgndhdcnofblaaaDoorHP
import Derived.BigQuiet
import Derived.Deep.LoopGhost
import Derived.Laws.IdiomStrings
namespace Go.Proofs.YtgndhdcnofblaaaDoor
open Go.RowKit

theorem sui_ix (v0 v1 v2 v3 : Nat) (l : Nat → Nat) (h0 : l 0 = v0) (h1 : l 1 = v1) (h2 : l 2 = v2) (h3 : l 3 = v3) (i : Nat) (hi : i < 4) (W : World) : (Instr.index 42 (.agg #[.int .u8 v0, .int .u8 v1, .int .u8 v2, .int .u8 v3]) (.int .i64 i)).run Tryd.prog W = .ok (.int .u8 (l i : Nat)) W := by
  subst h0 h1 h2 h3
  generalize l = l
  match i, hi with
  | 0, _ => exact (show (Instr.index 42 (.agg #[.int .u8 (l 0 : Nat), .int .u8 (l 1 : Nat), .int .u8 (l 2 : Nat), .int .u8 (l 3 : Nat)]) (.int .i64 0)).run Tryd.prog W = .ok (.int .u8 (l 0 : Nat)) W by kernel_rfl)
  | 1, _ => exact (show (Instr.index 42 (.agg #[.int .u8 (l 0 : Nat), .int .u8 (l 1 : Nat), .int .u8 (l 2 : Nat), .int .u8 (l 3 : Nat)]) (.int .i64 1)).run Tryd.prog W = .ok (.int .u8 (l 1 : Nat)) W by kernel_rfl)
  | 2, _ => exact (show (Instr.index 42 (.agg #[.int .u8 (l 0 : Nat), .int .u8 (l 1 : Nat), .int .u8 (l 2 : Nat), .int .u8 (l 3 : Nat)]) (.int .i64 2)).run Tryd.prog W = .ok (.int .u8 (l 2 : Nat)) W by kernel_rfl)
  | 3, _ => exact (show (Instr.index 42 (.agg #[.int .u8 (l 0 : Nat), .int .u8 (l 1 : Nat), .int .u8 (l 2 : Nat), .int .u8 (l 3 : Nat)]) (.int .i64 3)).run Tryd.prog W = .ok (.int .u8 (l 3 : Nat)) W by kernel_rfl)
theorem conv1 (W : World) (b : Nat) (hb : b < 256) (g : Nat) (hg : g = W.heap.size) :
    (convert 36 9 (.slice (some ⟨g, 0, none⟩) 1 1)).run Tryd.prog (W.alloc (.cells #[.int .u8 b] 5)) = .ok (.string ⟨#[UInt8.ofNat b]⟩) (W.alloc (.cells #[.int .u8 b] 5)) := by
  subst hg
  refine run_convert_bytes_back (W.alloc (.cells #[.int .u8 b] 5)) 36 9 5 ⟨W.heap.size, 0, none⟩ 1 [UInt8.ofNat b] Tryd.underlying36 Tryd.underlying5 Tryd.underlying9 fun j hj => ?_
  have hp : (⟨W.heap.size, 0, none⟩ : Addr).add j = ⟨W.heap.size, 0 + j, none⟩ := by unfold Addr.add; split <;> simp_all
  have h0 : j = 0 := by simpa using hj
  subst h0
  rw [hp]
  have hb2 : (UInt8.ofNat b).toNat = b := by rw [UInt8.toNat_ofNat']; omega
  simp [hb2]
theorem cells4 {W : World} {B : Nat} {v : Nat → Value} (h0 : W.cell? ⟨B, 0, none⟩ = some (v 0)) (h1 : W.cell? ⟨B, 1, none⟩ = some (v 1)) (h2 : W.cell? ⟨B, 2, none⟩ = some (v 2)) (h3 : W.cell? ⟨B, 3, none⟩ = some (v 3)) (i : Nat) (hi : i < 4) : W.cell? ⟨B, i, none⟩ = some (v i) := by
  match i, hi with
  | 0, _ => exact h0
  | 1, _ => exact h1
  | 2, _ => exact h2
  | 3, _ => exact h3
set_option maxRecDepth 100000 in
set_option maxHeartbeats 8000000 in
theorem handSuits_nat (a0 : Int) (M : Nat) (hM : M < 4503599627370496) (h0 : a0.tmod 4503599627370496 = (M : Int)) (w : World) :
    Calls Tryd.prog 10 #[.int .u64 a0] w fun e w' => e = .returned (.bool true) ∧ Below w.heap.size w w' := by
  obtain ⟨a, b, c, d, hs, k1, k2, k3⟩ := srt_key M
  have S := Lib.hid (shape_calls M (by omega))
  have U := Lib.hid (suits_at hs (by omega))
  have P := pattern_calls M (by omega)
  rw [pat_txt hs] at P
  have P := Lib.hid P
  have AW := Lib.hid awake_calls
  have HM := met_all k1 k2 k3
  have key : ∀ p, p + 1 < 4 → 4 * len (hol M (at4 a b c d (p + 1))) + at4 a b c d (p + 1) < 4 * len (hol M (at4 a b c d p)) + at4 a b c d p := fun p hp => by
    match p, hp with
    | 0, _ => exact k1
    | 1, _ => exact k2
    | 2, _ => exact k3
  have IX := sui_ix a.val b.val c.val d.val (at4 a b c d) rfl rfl rfl rfl
  have SL := at4_lt a b c d
  have ML := met_lt (at4 a b c d) SL
  unfold shp at S
  unfold sui4 encS at U
  have V0 : at4 a b c d 0 = a.val := rfl
  have V1 : at4 a b c d 1 = b.val := rfl
  have V2 : at4 a b c d 2 = c.val := rfl
  have V3 : at4 a b c d 3 = d.val := rfl
  generalize at4 a b c d = sv at *
  have NL : ∀ s, len (hol M s) ≤ 13 := fun s => len_le _
  have TL := txt_len (fun i => len (hol M (sv i)))
  have NN : ∃ nv : Nat → Nat, nv = fun s => len (hol M s) := ⟨_, rfl⟩
  obtain ⟨nv, hnv⟩ := NN
  have e0 : len (hol M 0) = nv 0 := by rw [hnv]
  have e1 : len (hol M 1) = nv 1 := by rw [hnv]
  have e2 : len (hol M 2) = nv 2 := by rw [hnv]
  have e3 : len (hol M 3) = nv 3 := by rw [hnv]
  have eT : (fun i => len (hol M (sv i))) = fun i => nv (sv i) := by rw [hnv]
  rw [e0, e1, e2, e3] at S
  rw [eT] at P TL
  have key : ∀ p, p + 1 < 4 → 4 * nv (sv (p + 1)) + sv (p + 1) < 4 * nv (sv p) + sv p := by rw [hnv]; exact key
  have NL : ∀ s, nv s ≤ 13 := by rw [hnv]; exact NL
  clear hnv e0 e1 e2 e3 eT k1 k2 k3 hs
  generalize a.val = a' at *
  generalize b.val = b' at *
  generalize c.val = c' at *
  generalize d.val = d' at *
  clear a b c d
  have CS : ∀ (W : World) (B : Nat), W.cell? ⟨B, 0, none⟩ = some (.int .u8 a') → W.cell? ⟨B, 1, none⟩ = some (.int .u8 b') → W.cell? ⟨B, 2, none⟩ = some (.int .u8 c') → W.cell? ⟨B, 3, none⟩ = some (.int .u8 d') → ∀ i, i < 4 → W.cell? ⟨B, i, none⟩ = some (.int .u8 (sv i : Nat)) := fun W B h0 h1 h2 h3 =>
    cells4 (v := fun i => .int .u8 (sv i : Nat)) (by rw [V0]; exact h0) (by rw [V1]; exact h1) (by rw [V2]; exact h2) (by rw [V3]; exact h3)
  have CN : ∀ (W : World) (B : Nat), W.cell? ⟨B, 0, none⟩ = some (.int .i64 (nv 0 : Nat)) → W.cell? ⟨B, 1, none⟩ = some (.int .i64 (nv 1 : Nat)) → W.cell? ⟨B, 2, none⟩ = some (.int .i64 (nv 2 : Nat)) → W.cell? ⟨B, 3, none⟩ = some (.int .i64 (nv 3 : Nat)) → ∀ i, i < 4 → W.cell? ⟨B, i, none⟩ = some (.int .i64 (nv i : Nat)) := fun W B h0 h1 h2 h3 =>
    cells4 (v := fun i => .int .i64 (nv i : Nat)) h0 h1 h2 h3
  have KEY := Lib.hid key
  have NLH := Lib.hid NL
  have TLH := Lib.hid TL
  have IXH := Lib.hid IX
  have SLH := Lib.hid SL
  have MLH := Lib.hid ML
  have CSH := Lib.hid CS
  have CNH := Lib.hid CN
  have HMH := Lib.hid HM
  clear key NL TL IX SL ML CS CN HM V0 V1 V2 V3
  go_enter Tryd.func10, Tryd.ntmps10
  go_upto_region 6 with (first | (go_at_call 26; refine (S.out _).mono ?_; rintro e w1 ⟨rfl, hbel⟩; obtain ⟨o1, j1, rfl⟩ := grow_of_below hbel; clear hbel) | (go_at_call 28; refine (U.out _).mono ?_; rintro e w1 ⟨rfl, hbel⟩; obtain ⟨o2, j2, rfl⟩ := grow_of_below hbel; clear hbel))
  generalize hW : World.alloc (World.alloc _ _) _ = W
  have bel : Below w.heap.size w W := by rw [← hW]; repeat (first | (with_reducible exact Below.refl _ _) | ((with_reducible refine below_grow ?_ ?_); rotate_left; focus (first | omega | (simp [go_sem]; done) | (simp [go_sem]; omega))) | ((with_reducible refine Below.alloc ?_ ?_ _); rotate_left; focus (first | omega | (simp [go_sem]; done) | (simp [go_sem]; omega))) | ((with_reducible refine Below.setCell ?_ ?_ _); rotate_left; focus (first | omega | (simp [go_sem]; done) | (simp [go_sem]; omega))) | (with_reducible refine Below.drew ?_) | (with_reducible refine below_drewN _ ?_))
  have hlt : w.heap.size + sz (o1 ++ o2) + 1 < W.heap.size := by rw [← hW]; simp [go_sem]
  have cn := CNH.out W (w.heap.size + sz (o1 ++ o2)) (by rw [← hW]; simp [go_sem]) (by rw [← hW]; simp [go_sem]) (by rw [← hW]; simp [go_sem]) (by rw [← hW]; simp [go_sem])
  have cs := CSH.out W (w.heap.size + sz (o1 ++ o2) + 1) (by rw [← hW]; simp [go_sem]) (by rw [← hW]; simp [go_sem]) (by rw [← hW]; simp [go_sem]) (by rw [← hW]; simp [go_sem])
  clear hW
  generalize hA : w.heap.size + sz (o1 ++ o2) = A at *
  have CNW := Lib.hid cn
  have CSW := Lib.hid cs
  have BW := Lib.hid bel
  have HA := Lib.hid hlt
  clear CNH CSH S U cn cs bel hA hlt
  go_loopw [5, 6, 16] (fun s5 s6 s16 wr => ∃ i : Nat, s5 = .int .i64 (met sv i) ∧ s6 = .string ⟨(txt (fun i => nv (sv i)) i).toArray⟩ ∧ s16 = .int .i64 i ∧ i ≤ 4 ∧ Below W.heap.size W wr) (fun _ _ s16 _ => 4 - (intOf s16).toNat)
  case atStart => exact ⟨0, rfl, rfl, rfl, by decide, Below.refl _ _⟩
  case round =>
    obtain ⟨i, rfl, rfl, rfl, hi, hb⟩ := hrel
    by_cases hlt : i < 4
    · have hlt2 : (i : Int) < 4 := by omega
      have ix := IXH.out i hlt
      have sl := SLH.out i
      have nl := NLH.out (sv i)
      have tl := TLH.out i
      have ml := MLH.out i
      have hA := HA.out
      have c1 : wr.cell? ⟨A, sv i, none⟩ = some (.int .i64 (nv (sv i) : Nat)) := (hb.cell (p := ⟨A, sv i, none⟩) (by show A < _; omega)).trans (CNW.out _ sl)
      have hmn : met sv (i + 1) = met sv i ||| 2 ^ sv i := rfl
      have htn : txt (fun i => nv (sv i)) (i + 1) = txt (fun i => nv (sv i)) i ++ (if 0 < i then [45] else []) ++ dig (nv (sv i)) := rfl
      have os : bits .or .i64 (met sv i : Int) ((2 ^ sv i : Nat) : Int) = ((met sv i ||| 2 ^ sv i : Nat) : Int) := or_small ⟨met sv i, ml⟩ ⟨sv i, sl⟩
      have p2 : 2 ^ sv i < 2 ^ 4 := Nat.pow_lt_pow_right (by decide) sl
      have e1 : IntKind.i64.wrap ((i : Int) + 1) = (i : Int) + 1 := IntWalk.i64_in _ (by omega)
      have e2 : IntKind.i64.wrap ((2 : Int) ^ sv i) = ((2 ^ sv i : Nat) : Int) := by
        have e : ((2 : Int) ^ sv i) = ((2 ^ sv i : Nat) : Int) := by simp
        rw [e]
        generalize 2 ^ sv i = p at p2
        exact IntWalk.i64_in _ (by omega)
      have HMN := Lib.hid hmn
      have pv : 0 < i → wr.cell? ⟨A + 1, i - 1, none⟩ = some (.int .u8 (sv (i - 1) : Nat)) ∧ wr.cell? ⟨A, sv (i - 1), none⟩ = some (.int .i64 (nv (sv (i - 1)) : Nat)) := fun h =>
        ⟨(hb.cell (p := ⟨A + 1, i - 1, none⟩) (by show A + 1 < _; omega)).trans (CSW.out _ (by omega)), (hb.cell (p := ⟨A, sv (i - 1), none⟩) (by show A < _; omega)).trans (CNW.out _ (SLH.out _))⟩
      have kv : 0 < i → 4 * nv (sv i) + sv i < 4 * nv (sv (i - 1)) + sv (i - 1) := fun h => by
        have := KEY.out (i - 1) (by omega)
        rwa [Nat.sub_add_cancel h] at this
      have pl := SLH.out (i - 1)
      obtain ⟨mt, hmt⟩ : ∃ x, met sv i = x := ⟨_, rfl⟩
      obtain ⟨tx, htx⟩ : ∃ x, txt (fun i => nv (sv i)) i = x := ⟨_, rfl⟩
      rw [htx] at htn tl ⊢
      rw [hmt] at os HMN ⊢
      obtain ⟨s, hs⟩ : ∃ x, sv i = x := ⟨_, rfl⟩
      rw [hs] at c1 ix sl nl htn os p2 e2 kv HMN
      obtain ⟨n, hn⟩ : ∃ x, nv s = x := ⟨_, rfl⟩
      rw [hn] at c1 nl htn kv
      obtain ⟨q, hq⟩ : ∃ x, sv (i - 1) = x := ⟨_, rfl⟩
      rw [hq] at pv kv pl
      obtain ⟨k, hk⟩ : ∃ x, nv q = x := ⟨_, rfl⟩
      rw [hk] at pv kv
      obtain ⟨z, hz⟩ : ∃ x, 2 ^ s = x := ⟨_, rfl⟩
      rw [hz] at os p2 e2 HMN
      obtain ⟨o, ho⟩ : ∃ x, mt ||| z = x := ⟨_, rfl⟩
      rw [ho] at os HMN
      have hms : min s 64 = s := by omega
      have s3 : ¬ (s : Int) > 3 := by omega
      have s3d : decide ((s : Int) > 3) = false := decide_eq_false s3
      have s4 : (s : Int) < 4 := by omega
      have d1 : (n : Int).tmod 10 = ((n % 10 : Nat) : Int) := by rw [Int.tmod_eq_emod_of_nonneg (by omega)]; omega
      have d1' : (n : Int) % 10 = ((n % 10 : Nat) : Int) := by omega
      have d2 : IntKind.i64.wrap (48 + ((n % 10 : Nat) : Int)) = ((48 + n % 10 : Nat) : Int) := by rw [IntWalk.i64_in _ (by omega)]; omega
      have d3 : IntKind.u8.wrap ((48 + n % 10 : Nat) : Int) = ((48 + n % 10 : Nat) : Int) := by rw [IntKind.wrap_u8', Int.emod_eq_of_lt (by omega) (by omega)]
      have d4 : 48 + n % 10 < 256 := by omega
      unfold dig at htn
      obtain ⟨m10, hm10⟩ : ∃ x, n % 10 = x := ⟨_, rfl⟩
      rw [hm10] at d1 d1' d2 d3 d4 htn
      obtain ⟨y, hy⟩ : ∃ x, 48 + m10 = x := ⟨_, rfl⟩
      rw [hy] at d2 d3 d4 htn
      have cv : ∀ k, (convert 36 9 (.slice (some ⟨wr.heap.size, 0, none⟩) 1 1)).run Tryd.prog ((wr.drewN k).alloc (.cells #[.int .u8 y] 5)) = .ok (.string ⟨#[UInt8.ofNat y]⟩) ((wr.drewN k).alloc (.cells #[.int .u8 y] 5)) := fun k => conv1 (wr.drewN k) y d4 _ rfl
      have HL := Lib.hid hlt
      have hsz := hb.size
      have HPV := Lib.hid pv
      have HKV := Lib.hid kv
      clear hmt htx hs hn hq hk hz ho hm10 hy ml hmn pv kv p2 d4 sl
      by_cases hi0 : 0 < i
      · have hi1 : (i : Int) > 0 := by omega
        have hi1d : decide ((i : Int) > 0) = true := decide_eq_true hi1
        have hi1n : decide (0 < i) = true := decide_eq_true hi0
        obtain ⟨p1, p2⟩ := HPV.out hi0
        have hkv := HKV.out hi0
        have e3 : IntKind.i64.wrap ((i : Int) - 1) = ((i - 1 : Nat) : Int) := by rw [IntWalk.i64_in _ (by omega)]; omega
        have e4 : ((i - 1 : Nat) : Int) < 4 := by omega
        have e5 : ((q : Nat) : Int) < 4 := by omega
        obtain ⟨pi, hpi⟩ : ∃ x, i - 1 = x := ⟨_, rfl⟩
        rw [hpi] at p1 e3 e4
        rw [if_pos hi0] at htn
        have g1 : ¬ (n : Int) > k := by omega
        have g1d : decide ((n : Int) > k) = false := decide_eq_false g1
        have g1n : decide (k < n) = false := decide_eq_false (by omega)
        have g2 : ¬ k < n := by omega
        have a1 := fun W => run_string_add_lists (P := Tryd.prog) (w := W) tx [45] (by omega) (by simp)
        obtain ⟨t1, ht1⟩ : ∃ x, tx ++ [45] = x := ⟨_, rfl⟩
        have l1 : t1.length ≤ 13 := by rw [← ht1]; simp; omega
        rw [ht1] at a1 htn
        by_cases h9 : 9 < n
        · have h9' : (n : Int) > 9 := by omega
          rw [if_pos h9] at htn
          have a2 := fun W => run_string_add_lists (P := Tryd.prog) (w := W) t1 [49] (by omega) (by simp)
          obtain ⟨t2, ht2⟩ : ∃ x, t1 ++ [49] = x := ⟨_, rfl⟩
          have l2 : t2.length ≤ 14 := by rw [← ht2]; simp; omega
          rw [← List.append_assoc, ht2] at htn
          rw [ht2] at a2
          have a3 := fun W => run_string_add_lists (P := Tryd.prog) (w := W) t2 [UInt8.ofNat y] (by omega) (by simp)
          obtain ⟨t3, ht3⟩ : ∃ x, t2 ++ [UInt8.ofNat y] = x := ⟨_, rfl⟩
          rw [ht3] at a3 htn
          have HTN := Lib.hid htn
          by_cases hnk : n = k
          · subst hnk
            have g3 : ¬ (s : Int) > q := by omega
            have g3d : decide ((s : Int) > q) = false := decide_eq_false g3
            have g3n : decide (q < s) = false := decide_eq_false (by omega)
            have g5 : ((n : Int) == n) = true := by simp
            have g4 : ¬ q < s := by omega
            clear ht1 ht2 ht3 htn l1 l2 h9 hi0 hpi hkv hlt hi pl nl tl
            go_upto_region 8 with fail
            go_quiet (fail)
            go_wp2
            go_roundw
            case rel => exact ⟨i + 1, by rw [HMN.out], by rw [HTN.out], by go_num, by have := HL.out; omega, by repeat (first | (with_reducible exact hb) | ((with_reducible refine below_grow ?_ ?_); rotate_left; focus (first | omega | (simp [go_sem]; done) | (simp [go_sem]; omega))) | ((with_reducible refine Below.alloc ?_ ?_ _); rotate_left; focus (first | omega | (simp [go_sem]; done) | (simp [go_sem]; omega))) | ((with_reducible refine Below.setCell ?_ ?_ _); rotate_left; focus (first | omega | (simp [go_sem]; done) | (simp [go_sem]; omega))) | (with_reducible refine Below.drew ?_) | (with_reducible refine below_drewN _ ?_))⟩
            case measure => simp [intOf]; have := HL.out; omega
          · have g3 : ¬ (n : Int) = k := by omega
            have g3d : ((n : Int) == k) = false := by rw [beq_eq_false_iff_ne]; exact g3
            have g3n : (n == k) = false := by rw [beq_eq_false_iff_ne]; exact hnk
            have g3m : decide (n = k) = false := decide_eq_false hnk
            clear ht1 ht2 ht3 htn l1 l2 h9 hi0 hpi hkv hlt hi pl nl tl
            go_upto_region 8 with fail
            go_quiet (fail)
            go_wp2
            go_roundw
            case rel => exact ⟨i + 1, by rw [HMN.out], by rw [HTN.out], by go_num, by have := HL.out; omega, by repeat (first | (with_reducible exact hb) | ((with_reducible refine below_grow ?_ ?_); rotate_left; focus (first | omega | (simp [go_sem]; done) | (simp [go_sem]; omega))) | ((with_reducible refine Below.alloc ?_ ?_ _); rotate_left; focus (first | omega | (simp [go_sem]; done) | (simp [go_sem]; omega))) | ((with_reducible refine Below.setCell ?_ ?_ _); rotate_left; focus (first | omega | (simp [go_sem]; done) | (simp [go_sem]; omega))) | (with_reducible refine Below.drew ?_) | (with_reducible refine below_drewN _ ?_))⟩
            case measure => simp [intOf]; have := HL.out; omega
        · have h9' : ¬ (n : Int) > 9 := by omega
          rw [if_neg h9, List.nil_append] at htn
          have a3 := fun W => run_string_add_lists (P := Tryd.prog) (w := W) t1 [UInt8.ofNat y] (by omega) (by simp)
          obtain ⟨t3, ht3⟩ : ∃ x, t1 ++ [UInt8.ofNat y] = x := ⟨_, rfl⟩
          rw [ht3] at a3 htn
          have HTN := Lib.hid htn
          by_cases hnk : n = k
          · subst hnk
            have g3 : ¬ (s : Int) > q := by omega
            have g3d : decide ((s : Int) > q) = false := decide_eq_false g3
            have g3n : decide (q < s) = false := decide_eq_false (by omega)
            have g5 : ((n : Int) == n) = true := by simp
            have g4 : ¬ q < s := by omega
            clear ht1 ht3 htn l1 h9 hi0 hpi hkv hlt hi pl nl tl
            go_upto_region 8 with fail
            go_quiet (fail)
            go_wp2
            go_roundw
            case rel => exact ⟨i + 1, by rw [HMN.out], by rw [HTN.out], by go_num, by have := HL.out; omega, by repeat (first | (with_reducible exact hb) | ((with_reducible refine below_grow ?_ ?_); rotate_left; focus (first | omega | (simp [go_sem]; done) | (simp [go_sem]; omega))) | ((with_reducible refine Below.alloc ?_ ?_ _); rotate_left; focus (first | omega | (simp [go_sem]; done) | (simp [go_sem]; omega))) | ((with_reducible refine Below.setCell ?_ ?_ _); rotate_left; focus (first | omega | (simp [go_sem]; done) | (simp [go_sem]; omega))) | (with_reducible refine Below.drew ?_) | (with_reducible refine below_drewN _ ?_))⟩
            case measure => simp [intOf]; have := HL.out; omega
          · have g3 : ¬ (n : Int) = k := by omega
            have g3d : ((n : Int) == k) = false := by rw [beq_eq_false_iff_ne]; exact g3
            have g3n : (n == k) = false := by rw [beq_eq_false_iff_ne]; exact hnk
            have g3m : decide (n = k) = false := decide_eq_false hnk
            clear ht1 ht3 htn l1 h9 hi0 hpi hkv hlt hi pl nl tl
            go_upto_region 8 with fail
            go_quiet (fail)
            go_wp2
            go_roundw
            case rel => exact ⟨i + 1, by rw [HMN.out], by rw [HTN.out], by go_num, by have := HL.out; omega, by repeat (first | (with_reducible exact hb) | ((with_reducible refine below_grow ?_ ?_); rotate_left; focus (first | omega | (simp [go_sem]; done) | (simp [go_sem]; omega))) | ((with_reducible refine Below.alloc ?_ ?_ _); rotate_left; focus (first | omega | (simp [go_sem]; done) | (simp [go_sem]; omega))) | ((with_reducible refine Below.setCell ?_ ?_ _); rotate_left; focus (first | omega | (simp [go_sem]; done) | (simp [go_sem]; omega))) | (with_reducible refine Below.drew ?_) | (with_reducible refine below_drewN _ ?_))⟩
            case measure => simp [intOf]; have := HL.out; omega
      · have hi1 : ¬ (i : Int) > 0 := by omega
        have hi1d : decide ((i : Int) > 0) = false := decide_eq_false hi1
        have hi1n : decide (0 < i) = false := decide_eq_false hi0
        rw [if_neg hi0, List.append_nil] at htn
        by_cases h9 : 9 < n
        · have h9' : (n : Int) > 9 := by omega
          rw [if_pos h9] at htn
          have a2 := fun W => run_string_add_lists (P := Tryd.prog) (w := W) tx [49] (by omega) (by simp)
          obtain ⟨t2, ht2⟩ : ∃ x, tx ++ [49] = x := ⟨_, rfl⟩
          have l2 : t2.length ≤ 14 := by rw [← ht2]; simp; omega
          rw [← List.append_assoc, ht2] at htn
          rw [ht2] at a2
          have a3 := fun W => run_string_add_lists (P := Tryd.prog) (w := W) t2 [UInt8.ofNat y] (by omega) (by simp)
          obtain ⟨t3, ht3⟩ : ∃ x, t2 ++ [UInt8.ofNat y] = x := ⟨_, rfl⟩
          rw [ht3] at a3 htn
          have HTN := Lib.hid htn
          clear ht2 ht3 htn l2 h9 hi0 hlt hi pl nl tl
          go_upto_region 8 with fail
          go_quiet (fail)
          go_wp2
          go_roundw
          case rel => exact ⟨i + 1, by rw [HMN.out], by rw [HTN.out], by go_num, by have := HL.out; omega, by repeat (first | (with_reducible exact hb) | ((with_reducible refine below_grow ?_ ?_); rotate_left; focus (first | omega | (simp [go_sem]; done) | (simp [go_sem]; omega))) | ((with_reducible refine Below.alloc ?_ ?_ _); rotate_left; focus (first | omega | (simp [go_sem]; done) | (simp [go_sem]; omega))) | ((with_reducible refine Below.setCell ?_ ?_ _); rotate_left; focus (first | omega | (simp [go_sem]; done) | (simp [go_sem]; omega))) | (with_reducible refine Below.drew ?_) | (with_reducible refine below_drewN _ ?_))⟩
          case measure => simp [intOf]; have := HL.out; omega
        · have h9' : ¬ (n : Int) > 9 := by omega
          rw [if_neg h9, List.nil_append] at htn
          have a3 := fun W => run_string_add_lists (P := Tryd.prog) (w := W) tx [UInt8.ofNat y] (by omega) (by simp)
          obtain ⟨t3, ht3⟩ : ∃ x, tx ++ [UInt8.ofNat y] = x := ⟨_, rfl⟩
          rw [ht3] at a3 htn
          have HTN := Lib.hid htn
          clear ht3 htn h9 hi0 hlt hi pl nl tl
          go_upto_region 8 with fail
          go_quiet (fail)
          go_wp2
          go_roundw
          case rel => exact ⟨i + 1, by rw [HMN.out], by rw [HTN.out], by go_num, by have := HL.out; omega, by repeat (first | (with_reducible exact hb) | ((with_reducible refine below_grow ?_ ?_); rotate_left; focus (first | omega | (simp [go_sem]; done) | (simp [go_sem]; omega))) | ((with_reducible refine Below.alloc ?_ ?_ _); rotate_left; focus (first | omega | (simp [go_sem]; done) | (simp [go_sem]; omega))) | ((with_reducible refine Below.setCell ?_ ?_ _); rotate_left; focus (first | omega | (simp [go_sem]; done) | (simp [go_sem]; omega))) | (with_reducible refine Below.drew ?_) | (with_reducible refine below_drewN _ ?_))⟩
          case measure => simp [intOf]; have := HL.out; omega
    · obtain rfl : i = 4 := by omega
      rw [HMH.out]
      have tb := TLH.out 4
      obtain ⟨tx, htx⟩ : ∃ t, txt (fun i => nv (sv i)) 4 = t := ⟨_, rfl⟩
      rw [htx] at P ⊢
      have hsz := hb.size
      have hb2 := BW.out.trans (hb.mono BW.out.size)
      go_wp2_with (first | (go_at_call 23; refine (P.out _).mono ?_; rintro e w1 ⟨rfl, hbel⟩; obtain ⟨o2, j2, rfl⟩ := grow_of_below hbel; clear hbel) | (go_at_call 14; refine (AW.out _).mono ?_; rintro e w1 ⟨rfl, hbel⟩; obtain ⟨o3, j3, rfl⟩ := grow_of_below hbel; clear hbel))
      go_ret
      have hz2 := hb2.size
      exact ⟨rfl, by repeat (first | (with_reducible exact hb2) | ((with_reducible refine below_grow ?_ ?_); rotate_left; focus (first | omega | (simp [go_sem]; done) | (simp [go_sem]; omega))) | ((with_reducible refine Below.alloc ?_ ?_ _); rotate_left; focus (first | omega | (simp [go_sem]; done) | (simp [go_sem]; omega))) | ((with_reducible refine Below.setCell ?_ ?_ _); rotate_left; focus (first | omega | (simp [go_sem]; done) | (simp [go_sem]; omega))) | (with_reducible refine Below.drew ?_) | (with_reducible refine below_drewN _ ?_))⟩
theorem handSuits_walk (a0 : Int) (b0 : 0 ≤ a0 ∧ a0 ≤ 18446744073709551615) (w : World) :
    Calls Tryd.prog 10 #[.int .u64 a0] w fun e w' => e = .returned (.bool true) ∧ Below w.heap.size w w' := by
  obtain ⟨n, rfl⟩ : ∃ n : Nat, a0 = n := ⟨a0.toNat, by omega⟩
  refine handSuits_nat _ (n % 4503599627370496) (Nat.mod_lt _ (by decide)) ?_ w
  rw [Int.tmod_eq_emod_of_nonneg (by omega)]; omega
end Go.Proofs.YtgndhdcnofblaaaDoor
