/- The reference's TextAll. -/
import Derived.Test.YtblmdnmnodogiaaDoorKV
namespace Go.Proofs.YtblmdnmnodogiaaDoor
open Go.RowKit

theorem tx_snoc {l : List Nat} (c : Nat) (h : l ≠ []) : tx (l ++ [c]) = tx l ++ 32 :: nm c := by
  rw [tx_append h (by simp)]
  rfl
theorem tx_one (c : Nat) : tx [c] = nm c := rfl
theorem ref_many (v : Value) (xs : List Nat) (hn : 319 < xs.length) (w : World) (hS : SlB w v xs) :
    Calls Tryd.prog 33 #[v] w fun e w' => e = .returned (.tuple #[strv [], .int .i64 5]) ∧ Below w.heap.size w w' := by
  obtain ⟨p, c, rfl, -, -⟩ := hS
  have h1 : (319 : Int) < xs.length := by omega
  go_enter Tryd.func33, Tryd.ntmps33
  go_wp2
  refine bodyPost_ret (by simp [results, Tryd.results33, go_sem]) rfl ⟨rfl, Below.refl _ _⟩
set_option maxRecDepth 100000 in
set_option maxHeartbeats 8000000 in
theorem ref_few (v : Value) (xs : List Nat) (h8 : ∀ x ∈ xs, x < 256) (hn : xs.length ≤ 319) (w : World) (hS : SlB w v xs) :
    Calls Tryd.prog 33 #[v] w fun e w' => e = .returned (.tuple #[strv (if okA xs then tx xs else []), .int .i64 (if okA xs then 0 else 80)]) ∧ Below w.heap.size w w' := by
  obtain ⟨p, c, rfl, hcap, hcell⟩ := hS
  obtain ⟨n, hnn⟩ : ∃ n, xs.length = n := ⟨_, rfl⟩
  rw [hnn] at hn hcap ⊢
  have h1 : ¬ (319 : Int) < n := by omega
  obtain ⟨S, hS⟩ : ∃ S, (if okA xs then tx xs else []) = S := ⟨_, rfl⟩
  obtain ⟨E, hE⟩ : ∃ E, (if okA xs then (0 : Int) else 80) = E := ⟨_, rfl⟩
  rw [hS, hE]
  have HS := Lib.hid hS
  have HE := Lib.hid hE
  have HX := Lib.hid (fun (h : 0 < n) => hcell (by rintro rfl; simp at hnn; omega))
  have N := Lib.hid names_calls
  have R := Lib.hid ref_right
  clear hS hE hcell
  go_enter Tryd.func33, Tryd.ntmps33
  go_wp2
  go_loopw [4, 5] (fun s4 s5 wr => ∃ i : Nat, s5 = .int .i64 i ∧ i ≤ n ∧ s4 = strv (tx (xs.take i)) ∧ okA (xs.take i) = true ∧ Below w.heap.size w wr) (fun _ s5 _ => n - (intOf s5).toNat)
  case atStart => exact ⟨0, rfl, Nat.zero_le _, rfl, rfl, Below.refl _ _⟩
  case round =>
    obtain ⟨i, rfl, hi, rfl, hok, cb⟩ := hrel
    by_cases hlt : i < n
    · have hlt2 : (i : Int) < n := by omega
      obtain ⟨b, off, rfl, hb, hx⟩ := HX.out (by omega)
      obtain ⟨d, hd⟩ : ∃ d, xs[i]? = some d := ⟨_, List.getElem?_eq_getElem (by omega)⟩
      have hd8 := h8 d (List.mem_of_getElem? hd)
      have f0 := hx i d hd
      have k0 : wr.cell? ⟨b, off + i, none⟩ = some (.int .u8 d) := (cb.cell (p := ⟨b, off + i, none⟩) hb).trans f0
      have u1 : IntKind.i64.wrap ((i : Int) + 1) = (i : Int) + 1 := IntWalk.i64_in _ (by omega)
      have RD := Lib.hid (R.out d hd8 wr)
      have CB := Lib.hid cb
      have hbw := Nat.lt_of_lt_of_le hb cb.size
      have ht : xs.take (i + 1) = xs.take i ++ [d] := by rw [List.take_add_one, hd]; rfl
      by_cases h38 : d < 38
      · rw [decide_eq_true h38] at RD
        have hok2 : okA (xs.take (i + 1)) = true := by
          rw [ht]
          unfold okA at hok ⊢
          rw [List.all_append, hok]
          simp [h38]
        have hl1 := tx_length (okA_iff.1 hok)
        have hl2 : (xs.take i).length ≤ 319 := by rw [List.length_take]; omega
        have hl3 := nm_len d h38
        have k1 := txA_get d h38
        obtain ⟨t, htt⟩ : ∃ t, tx (xs.take i) = t := ⟨_, rfl⟩
        obtain ⟨q, hq⟩ : ∃ t, nm d = t := ⟨_, rfl⟩
        rw [htt] at hl1 ⊢
        rw [hq] at hl3 k1
        have HO := Lib.hid hok2
        by_cases hi0 : 0 < i
        · have hi0' : (0 : Int) < i := by omega
          have hT : tx (xs.take (i + 1)) = t ++ [32] ++ q := by
            rw [ht, tx_snoc d (by intro e; have := congrArg List.length e; rw [List.length_take, hnn] at this; simp at this; omega), htt, hq]
            simp
          have HT := Lib.hid hT
          have S1 := add_strv t [32] (by omega) (by decide)
          have S2 := add_op t [32] (by omega) (by decide)
          have S3 := add_strv (t ++ [32]) q (by rw [List.length_append, List.length_singleton]; omega) (by omega)
          have S4 := add_op (t ++ [32]) q (by rw [List.length_append, List.length_singleton]; omega) (by omega)
          clear hd hd8 f0 cb hok hok2 hT htt hq hl1 hl2 hl3 ht hx
          go_upto_region 11 with (go_at_call 31; refine RD.out.mono ?_; rintro e w9 ⟨rfl, hb9⟩)
          have k2 : w9.cell? ⟨b, off + i, none⟩ = some (.int .u8 d) := (hb9.cell (p := ⟨b, off + i, none⟩) hbw).trans k0
          have z9 := CB.out.trans (hb9.mono CB.out.size)
          have hz9 := z9.size
          clear k0 hb9 CB
          have iB : NeZero (inW b w9) := inW_mk (World.block_lt_of_cell? w9 _ k2)
          go_region_with (first | (go_at_call 52; refine (N.out _).mono ?_; rintro e w8 ⟨rfl, rfl⟩))
          all_goals go_wp2
          all_goals exact ⟨⟨i + 1, by go_num, by omega, by rw [HT.out]; simp, HO.out, by repeat (first | (with_reducible exact z9) | ((with_reducible refine below_grow ?_ ?_); rotate_left; focus (first | omega | (simp [go_sem]; done) | (simp [go_sem]; omega))) | ((with_reducible refine Below.alloc ?_ ?_ _); rotate_left; focus (first | omega | (simp [go_sem]; done) | (simp [go_sem]; omega))) | ((with_reducible refine Below.setCell ?_ ?_ _); rotate_left; focus (first | omega | (simp [go_sem]; done) | (simp [go_sem]; omega))) | (with_reducible refine Below.drew ?_) | (with_reducible refine below_drewN _ ?_))⟩, by simp [intOf]; omega⟩
        · obtain rfl : i = 0 := by omega
          have hi0' : ¬ (0 : Int) < ((0 : Nat) : Int) := by decide
          have ht0 : t = [] := by rw [← htt]; rfl
          have hT : tx (xs.take (0 + 1)) = q := by rw [ht, List.take_zero, List.nil_append, tx_one, hq]
          have HT := Lib.hid hT
          subst ht0
          have k00 : wr.cell? ⟨b, off, none⟩ = some (.int .u8 d) := k0
          have S3 := add_strv [] q (by decide) (by omega)
          have S4 := add_op [] q (by decide) (by omega)
          clear hd hd8 f0 cb hok hok2 hT htt hq hl1 hl2 hl3 ht hx
          go_upto_region 11 with (go_at_call 31; refine RD.out.mono ?_; rintro e w9 ⟨rfl, hb9⟩)
          have k2 : w9.cell? ⟨b, off, none⟩ = some (.int .u8 d) := (hb9.cell (p := ⟨b, off, none⟩) hbw).trans k00
          have k3 : w9.cell? ⟨b, off, none⟩ = some (.int .u8 d) := k2
          have z9 := CB.out.trans (hb9.mono CB.out.size)
          have hz9 := z9.size
          clear k0 k00 hb9 CB
          have iB : NeZero (inW b w9) := inW_mk (World.block_lt_of_cell? w9 _ k2)
          go_region_with (first | (go_at_call 52; refine (N.out _).mono ?_; rintro e w8 ⟨rfl, rfl⟩))
          all_goals go_wp2
          all_goals exact ⟨⟨1, by go_num, by omega, by rw [HT.out], HO.out, by repeat (first | (with_reducible exact z9) | ((with_reducible refine below_grow ?_ ?_); rotate_left; focus (first | omega | (simp [go_sem]; done) | (simp [go_sem]; omega))) | ((with_reducible refine Below.alloc ?_ ?_ _); rotate_left; focus (first | omega | (simp [go_sem]; done) | (simp [go_sem]; omega))) | ((with_reducible refine Below.setCell ?_ ?_ _); rotate_left; focus (first | omega | (simp [go_sem]; done) | (simp [go_sem]; omega))) | (with_reducible refine Below.drew ?_) | (with_reducible refine below_drewN _ ?_))⟩, by simp [intOf]; omega⟩
      · rw [decide_eq_false h38] at RD
        have hno : okA xs = false := by
          cases e : okA xs with
          | false => rfl
          | true => exact absurd (okA_iff.1 e d (List.mem_of_getElem? hd)) h38
        rw [hno, if_neg (by decide)] at HS HE
        have hS := HS.out
        have hE := HE.out
        subst hS hE
        clear hd hd8 f0 cb hok ht hx hno HS HE
        go_wp2_with (go_at_call 31; refine RD.out.mono ?_; rintro e w9 ⟨rfl, hb9⟩)
        refine bodyPost_ret (by simp [results, Tryd.results33, go_sem]) rfl ⟨rfl, CB.out.trans (hb9.mono CB.out.size)⟩
    · obtain rfl : i = n := by omega
      rw [List.take_of_length_le (by omega)] at hok ⊢
      rw [hok, if_pos rfl] at HS HE
      rw [HS.out]
      have hE := HE.out
      subst hE
      clear HS HE
      go_wp2
      refine bodyPost_ret (by simp [results, Tryd.results33, go_sem]) rfl ⟨rfl, cb⟩
end Go.Proofs.YtblmdnmnodogiaaDoor
