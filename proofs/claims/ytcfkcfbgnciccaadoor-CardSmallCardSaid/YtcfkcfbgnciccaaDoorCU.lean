/- CardOrder: the walk. -/
import Derived.Test.YtcfkcfbgnciccaaDoorCS
import Derived.OwnWalk
namespace Go.Proofs.YtcfkcfbgnciccaaDoor
open Go.RowKit

theorem cds_at {m i c : Nat} (h : (cds m)[i]? = some c) : c < 52 ∧ m.testBit c = true := cds_mem.1 (List.mem_of_getElem? h)
theorem cds_desc {m i p c : Nat} (hp : (cds m)[i]? = some p) (hc : (cds m)[i + 1]? = some c) : c < p := by
  obtain ⟨h1, rfl⟩ := List.getElem?_eq_some_iff.1 hp
  obtain ⟨h2, rfl⟩ := List.getElem?_eq_some_iff.1 hc
  exact List.pairwise_iff_getElem.1 (cds_pair m) i (i + 1) h1 h2 (by omega)
abbrev flt (s : Nat) (l : List Nat) : List Nat := l.filter (fun c => c / 13 == s)
theorem flt_snoc (s : Nat) (l : List Nat) (c : Nat) : flt s (l ++ [c]) = if c / 13 = s then flt s l ++ [c] else flt s l := by
  unfold flt
  rw [List.filter_append]
  by_cases e : c / 13 = s <;> simp [e]
theorem take_snoc {l : List Nat} {i c : Nat} (h : l[i]? = some c) : l.take (i + 1) = l.take i ++ [c] := by rw [List.take_add_one, h]; rfl
set_option maxRecDepth 100000 in
set_option maxHeartbeats 16000000 in
theorem cardOrder_nat (a0 : Int) (m : Nat) (hm : m < 4503599627370496) (h0 : a0.tmod 4503599627370496 = (m : Int)) (w : World) (he : Env w) :
    Calls Tryd.prog 8 #[.int .u64 a0] w fun e w' => e = .returned (.bool true) ∧ Below w.heap.size w w' := by
  have L := Lib.hid (list_yes m hm)
  have C := Lib.hid (count4_calls m hm)
  have hn52 := cds_length_le m
  obtain ⟨n, hn⟩ : ∃ n, (cds m).length = n := ⟨_, rfl⟩
  rw [hn] at L C hn52
  have HM := Lib.hid hm
  have HN := Lib.hid hn
  obtain ⟨i0, hi, hz0, hz1, hz2⟩ := info_parts Tryd.infoU
  clear hm hn
  go_enter Tryd.func8, Tryd.ntmps8
  go_upto_region 5 with (first | (go_at_call 18; refine (L.out _).mono ?_; rintro e w1 ⟨v, rfl, hown, hbel⟩; obtain ⟨A, cap, rfl, hA⟩ := own_slice hown) | (go_at_call 19; refine (C.out _).mono ?_; rintro e w2 ⟨rfl, hb2⟩; obtain ⟨o2, j2, rfl⟩ := grow_of_below hb2))
  have hown2 := own_grow hown o2 j2
  have hbw : Below w.heap.size w (grow w1 o2 j2) := hbel.trans (hb2.mono hbel.size)
  clear hown hbel hb2
  generalize grow w1 o2 j2 = W2 at *
  have HO := Lib.hid hown2
  have hA2 := Lib.hid hA
  clear hown2 hA
  have hcell : ∀ wr, Below W2.heap.size W2 wr → ∀ (i c : Nat), (cds m)[i]? = some c → ∃ g, A = some ⟨g, 0, none⟩ ∧ wr.cell? ⟨g, i, none⟩ = some (u8v c) := by
    intro wr hb i c hc
    have hil := (List.getElem?_eq_some_iff.1 hc).1
    have := HN.out
    rcases hA2.out with h | ⟨g, rfl⟩
    · omega
    · have hc2 := HO.out.cellAt i (by omega)
      rw [List.getElem?_map, hc] at hc2
      exact ⟨g, rfl, (hb.cell (p := ⟨g, i, none⟩) (HO.out.lt g rfl).2).trans hc2⟩
  have HC := Lib.hid hcell
  clear hcell
  go_wp2
  go_loopw [33] (fun s33 wr => ∃ i : Nat, s33 = .int .i64 i ∧ i ≤ n ∧ Below W2.heap.size W2 wr) (fun s33 _ => n - (intOf s33).toNat)
  case atStart => exact ⟨0, rfl, Nat.zero_le _, Below.refl _ _⟩
  case round =>
    obtain ⟨i, rfl, hin, hb⟩ := hrel
    by_cases hlt : i < n
    · obtain ⟨c, hc⟩ : ∃ c, (cds m)[i]? = some c := ⟨_, List.getElem?_eq_getElem (by rw [HN.out]; exact hlt)⟩
      obtain ⟨g, rfl, k0⟩ := HC.out wr hb i c hc
      obtain ⟨hc52, hbit⟩ := cds_at hc
      have b0 := bit_num m c HM.out hc52
      rw [hbit, if_pos rfl] at b0
      have hmn : min c 64 = c := by omega
      have hlt2 : (i : Int) < n := by omega
      have e1 : IntKind.i64.wrap ((i : Int) + 1) = (i : Int) + 1 := IntWalk.i64_in _ (by omega)
      by_cases hz : i = 0
      · subst hz
        clear hc52 hbit
        go_wp2
        go_roundw
        case rel => exact ⟨1, by go_num, by omega, hb⟩
        case measure => simp [intOf]; omega
      · obtain ⟨ip, hip⟩ : ∃ ip, ip + 1 = i := ⟨i - 1, by omega⟩
        obtain ⟨p, hp⟩ : ∃ p, (cds m)[ip]? = some p := ⟨_, List.getElem?_eq_getElem (by rw [HN.out]; omega)⟩
        obtain ⟨g', hg', k1⟩ := HC.out wr hb ip p hp
        cases hg'
        have hp52 := (cds_at hp).1
        have hlp := cds_desc hp (by rw [hip]; exact hc)
        have S1 := Lib.hid (suit_yes p hp52)
        have S2 := Lib.hid (suit_yes c hc52)
        have R1 := Lib.hid (rank_yes p hp52)
        have R2 := Lib.hid (rank_yes c hc52)
        have hle : ¬ ((p / 13 : Nat) : Int) < ((c / 13 : Nat) : Int) := by omega
        have hrk : ((p / 13 : Nat) : Int) = ((c / 13 : Nat) : Int) → ¬ ((p % 13 : Nat) : Int) ≤ ((c % 13 : Nat) : Int) := by omega
        obtain ⟨p1, hp1⟩ : ∃ q, p / 13 = q := ⟨_, rfl⟩
        obtain ⟨c1, hc1⟩ : ∃ q, c / 13 = q := ⟨_, rfl⟩
        obtain ⟨p2, hp2⟩ : ∃ q, p % 13 = q := ⟨_, rfl⟩
        obtain ⟨c2, hc2⟩ : ∃ q, c % 13 = q := ⟨_, rfl⟩
        rw [hp1] at S1 hle hrk
        rw [hc1] at S2 hle hrk
        rw [hp2] at R1 hrk
        rw [hc2] at R2 hrk
        have e2 : IntKind.i64.wrap ((i : Int) - 1) = (ip : Int) := by rw [IntWalk.i64_in _ (by omega)]; omega
        have e3 : (0 : Int) < (i : Int) := by omega
        have e4 : (ip : Int) < n := by omega
        have e5 : (0 : Int) ≤ (ip : Int) := by omega
        have HI := Lib.hid (And.intro hin (And.intro hlt hip))
        clear hc52 hbit hp52 hlp hp1 hc1 hp2 hc2 hin hlt hc hp hip hz
        by_cases heq : (p1 : Int) = c1
        · have hr2 := hrk heq
          clear hrk
          go_wp2_with (first | (go_at_call_of 22 (u8v p); refine (S1.out _).mono ?_; rintro e w3 ⟨rfl, rfl⟩) | (go_at_call_of 22 (u8v c); refine (S2.out _).mono ?_; rintro e w3 ⟨rfl, rfl⟩) | (go_at_call_of 23 (u8v p); refine (R1.out _).mono ?_; rintro e w3 ⟨rfl, rfl⟩) | (go_at_call_of 23 (u8v c); refine (R2.out _).mono ?_; rintro e w3 ⟨rfl, rfl⟩))
          go_roundw
          case rel => exact ⟨i + 1, by go_num, by have := HI.out; omega, hb⟩
          case measure => simp [intOf]; have := HI.out; omega
        · clear hrk
          go_wp2_with (first | (go_at_call_of 22 (u8v p); refine (S1.out _).mono ?_; rintro e w3 ⟨rfl, rfl⟩) | (go_at_call_of 22 (u8v c); refine (S2.out _).mono ?_; rintro e w3 ⟨rfl, rfl⟩))
          go_roundw
          case rel => exact ⟨i + 1, by go_num, by have := HI.out; omega, hb⟩
          case measure => simp [intOf]; have := HI.out; omega
    · obtain rfl : n = i := by omega
      have HB := Lib.hid hb
      clear hlt hin
      go_wp2
      go_loopw [7] (fun s7 wq => ∃ s : Nat, s7 = .int .u8 s ∧ s ≤ 4 ∧ Below W2.heap.size W2 wq) (fun s7 _ => 4 - (intOf s7).toNat)
      case atStart => exact ⟨0, rfl, by decide, hb⟩
      case round =>
        obtain ⟨s, rfl, hs, hbs⟩ := hrel
        have hsz := hbs.size
        by_cases hs4 : s < 4
        · have hs5 : (s : Int) < 4 := by omega
          have e8 : IntKind.u8.wrap ((s : Int) + 1) = (s : Int) + 1 := u8_wrap (by omega) (by omega)
          have HS := Lib.hid (And.intro hs4 hs)
          clear hs4 hs
          go_wp2
          go_loopw [87, 8] (fun s87 s8 wi => ∃ i : Nat, s87 = .int .i64 i ∧ i ≤ n ∧ wi.ownsRow W2.heap.size 5 1 s8 (flt s ((cds m).take i)).length ((flt s ((cds m).take i)).map u8v) ∧ Below W2.heap.size W2 wi) (fun s87 _ _ => n - (intOf s87).toNat)
          case atStart => exact ⟨0, rfl, Nat.zero_le _, World.ownsRow_nil _ _ _ _, hbs⟩
          case round =>
            obtain ⟨i, rfl, hin, hown, hbi⟩ := hrel
            have hszi := hbi.size
            by_cases hlt : i < n
            · obtain ⟨c, hc⟩ : ∃ c, (cds m)[i]? = some c := ⟨_, List.getElem?_eq_getElem (by rw [HN.out]; exact hlt)⟩
              obtain ⟨g, rfl, k0⟩ := HC.out wr hbi i c hc
              have hc52 := (cds_at hc).1
              have S := Lib.hid (suit_yes c hc52)
              have hlt2 : (i : Int) < n := by omega
              have e1 : IntKind.i64.wrap ((i : Int) + 1) = (i : Int) + 1 := IntWalk.i64_in _ (by omega)
              have htk := take_snoc hc
              have hfl := flt_snoc s ((cds m).take i) c
              have hlen : (flt s ((cds m).take i)).length ≤ 52 := by
                have h1 : (flt s ((cds m).take i)).length ≤ ((cds m).take i).length := List.length_filter_le _ _
                have h2 : ((cds m).take i).length ≤ (cds m).length := by rw [List.length_take]; omega
                have := HN.out
                omega
              obtain ⟨q, hq⟩ : ∃ q, c / 13 = q := ⟨_, rfl⟩
              rw [hq] at S hfl
              rw [← htk] at hfl
              obtain ⟨A8, cap8, rfl, hA8⟩ := own_slice hown
              by_cases hqs : q = s
              · rw [if_pos hqs] at hfl
                have hqs2 : (q : Int) = s := by omega
                have HF := Lib.hid hfl
                have HI := Lib.hid (And.intro hin hlt)
                clear hfl htk hin hlt hc hc52 hq hqs
                go_wp2_with (first | (go_at_call 22; refine (S.out _).mono ?_; rintro e w3 ⟨rfl, rfl⟩) | (at_builtin; refine wpList_append_own _ rfl _ _ 25 rfl W2.heap.size 5 i0 (.int .u8 0) 1 1 Tryd.underlying25 hi hz0 hz1 hz2 rfl (by decide) (.slice A8 (flt s ((cds m).take i)).length cap8) (flt s ((cds m).take i)).length _ rfl (hown.alloc _) ⟨wr.heap.size, 0, none⟩ 1 1 [u8v c] rfl rfl (news1 _ _ _ _ rfl rfl) (fun u hu => by simp only [List.mem_singleton] at hu; subst hu; rfl) (by unfold maxLen; omega) (by omega) (by simp; omega) ?_; intro v' w4 hown' hgrow _))
                go_roundw
                case rel =>
                  refine ⟨i + 1, by go_num, by have := HI.out; omega, ?_, Below.grown (by repeat (first | (with_reducible exact hbi) | ((with_reducible refine below_grow ?_ ?_); rotate_left; focus (first | omega | (simp [go_sem]; done) | (simp [go_sem]; omega))) | ((with_reducible refine Below.alloc ?_ ?_ _); rotate_left; focus (first | omega | (simp [go_sem]; done) | (simp [go_sem]; omega))) | ((with_reducible refine Below.setCell ?_ ?_ _); rotate_left; focus (first | omega | (simp [go_sem]; done) | (simp [go_sem]; omega))) | (with_reducible refine Below.drew ?_) | (with_reducible refine below_drewN _ ?_))) hgrow (by simp; omega) (fun k hk => own_block_ge hown hk)⟩
                  rw [HF.out, List.map_append, List.length_append]
                  exact hown'
                case measure => simp [intOf]; have := HI.out; omega
              · rw [if_neg hqs] at hfl
                have hqs2 : ¬ (q : Int) = s := by omega
                have HF := Lib.hid hfl
                have HI := Lib.hid (And.intro hin hlt)
                clear hfl htk hin hlt hc hc52 hq hqs
                go_wp2_with (first | (go_at_call 22; refine (S.out _).mono ?_; rintro e w3 ⟨rfl, rfl⟩))
                go_roundw
                case rel =>
                  refine ⟨i + 1, by go_num, by have := HI.out; omega, ?_, hbi⟩
                  rw [HF.out]
                  exact hown
                case measure => simp [intOf]; have := HI.out; omega
            · obtain rfl : n = i := by omega
              rw [List.take_of_length_le (by rw [HN.out]; exact Nat.le_refl _), show flt s (cds m) = cds (sui m s) from (cds_sui m s).symm] at hown
              obtain ⟨A8, cap8, rfl, hA8⟩ := own_slice hown
              clear hlt hin
              by_cases hz : sui m s = 0
              · have T := Lib.hid (top_none m s (by have := HS.out; omega) (fun _ => hz))
                have LO := Lib.hid (low_none m s (by have := HS.out; omega) (fun _ => hz))
                rw [hz, cds_zero] at hown
                rw [hz, cds_zero]
                clear hz
                go_wp2_with (first | (go_at_call 27; refine (T.out _).mono ?_; rintro e w5 ⟨rfl, rfl⟩) | (go_at_call 28; refine (LO.out _).mono ?_; rintro e w5 ⟨rfl, rfl⟩))
                go_roundw
                case rel => exact ⟨s + 1, by go_num, by have := HS.out; omega, hbi⟩
                case measure => simp [intOf]; have := HS.out; omega
              · have T := Lib.hid (top_some m s HM.out HS.out.1 hz)
                have LO := Lib.hid (fun w he => low_some m s HM.out HS.out.1 hz w he)
                have hne := cds_ne hz (sui_lt HM.out s)
                have hco := (cds_cons hz (sui_lt HM.out s)).1
                have hla := cds_last hz (sui_lt HM.out s)
                have hle := cds_length_le (sui m s)
                obtain ⟨k, hk⟩ : ∃ k, (cds (sui m s)).length = k + 1 := ⟨(cds (sui m s)).length - 1, by have := List.length_pos_iff.2 hne; omega⟩
                have hc0 : (cds (sui m s))[0]? = some (grt (sui m s)) := by rw [hco]; rfl
                have hc1 : (cds (sui m s))[k]? = some (lst (sui m s)) := by rw [← hla, List.getLast?_eq_getElem?, hk]; rfl
                rw [hk] at hown hle hA8 ⊢
                obtain ⟨g8, rfl⟩ : ∃ g, A8 = some ⟨g, 0, none⟩ := by rcases hA8 with h | h; (· omega); (· exact h)
                have d0 : wr.cell? ⟨g8, 0, none⟩ = some (u8v (grt (sui m s))) := by rw [hown.cellAt 0 (by omega), List.getElem?_map, hc0]; rfl
                have d1 : wr.cell? ⟨g8, k, none⟩ = some (u8v (lst (sui m s))) := by rw [hown.cellAt k (by omega), List.getElem?_map, hc1]; rfl
                obtain ⟨x, hx⟩ : ∃ x, grt (sui m s) = x := ⟨_, rfl⟩
                obtain ⟨y, hy⟩ : ∃ y, lst (sui m s) = y := ⟨_, rfl⟩
                rw [hx] at T d0
                rw [hy] at LO d1
                obtain ⟨k1, hk1⟩ : ∃ k1, k + 1 = k1 := ⟨_, rfl⟩
                have e9 : IntKind.i64.wrap ((k1 : Int) - 1) = (k : Int) := by rw [IntWalk.i64_in _ (by omega)]; omega
                have e10 : (0 : Int) < k1 := by omega
                have e11 : (k : Int) < k1 := by omega
                rw [hk1]
                have HE := Lib.hid (he.below (hbw.trans (hbi.mono hbw.size)))
                clear hz hne hco hla hle hk hc0 hc1 hx hy hown hA8 hk1
                go_wp2_with (first | (go_at_call 27; refine (T.out _).mono ?_; rintro e w5 ⟨rfl, rfl⟩) | (go_at_call 28; refine (LO.out _ HE.out).mono ?_; rintro e w5 ⟨rfl, rfl⟩))
                go_roundw
                case rel => exact ⟨s + 1, by go_num, by have := HS.out; omega, hbi⟩
                case measure => simp [intOf]; have := HS.out; omega
        · obtain rfl : s = 4 := by omega
          have hbf := hbw.trans (hbs.mono hbw.size)
          go_wp2_with (go_at_call 12; refine (awake_calls _ (he.below hbf)).mono ?_; rintro e w4 ⟨rfl, hb4⟩)
          go_ret
          exact ⟨rfl, hbf.trans (hb4.mono hbf.size)⟩
theorem cardOrder_walk (a0 : Int) (b0 : 0 ≤ a0 ∧ a0 ≤ 18446744073709551615) (w : World) (he : Env w) :
    Calls Tryd.prog 8 #[.int .u64 a0] w fun e w' => e = .returned (.bool true) ∧ Below w.heap.size w w' := by
  obtain ⟨n, rfl⟩ : ∃ n : Nat, a0 = n := ⟨a0.toNat, by omega⟩
  refine cardOrder_nat _ (n % 4503599627370496) (Nat.mod_lt _ (by decide)) ?_ w he
  rw [Int.tmod_eq_emod_of_nonneg (by omega)]; omega
end Go.Proofs.YtcfkcfbgnciccaaDoor
