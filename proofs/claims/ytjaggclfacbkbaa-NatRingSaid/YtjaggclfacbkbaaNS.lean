/- The examples of the chapter: awake. -/
import Derived.Test.YtjaggclfacbkbaaMD
namespace Go.Proofs.Ytjaggclfacbkbaa
open Go.RowKit

/-- Pascal's rows as lists. -/
def pascal : Nat → List Nat
  | 0 => [1]
  | i + 1 => 1 :: List.zipWith (· + ·) (pascal i) ((pascal i).tail ++ [0])
theorem pascal_len : ∀ i, (pascal i).length = i + 1
  | 0 => rfl
  | i + 1 => by simp [pascal, pascal_len i]
theorem bin_big : ∀ i j : Nat, i < j → bin i j = 0
  | 0, j + 1, _ => rfl
  | i + 1, j + 1, h => by simp only [bin]; rw [bin_big i j (by omega), bin_big i (j + 1) (by omega)]
theorem pascal_at : ∀ i j : Nat, j ≤ i → (pascal i)[j]? = some (bin i j)
  | 0, 0, _ => rfl
  | i + 1, 0, _ => by simp [pascal, bin]
  | i + 1, j + 1, h => by
    have hj : j ≤ i := by omega
    have hl := pascal_len i
    have h1 := pascal_at i j hj
    have h2 : ((pascal i).tail ++ [0])[j]? = some (bin i (j + 1)) := by
      by_cases e : j = i
      · subst e
        rw [bin_big j (j + 1) (by omega), List.getElem?_append_right (by simp [hl])]
        simp [hl]
      · rw [List.getElem?_append_left (by simp [hl]; omega), List.getElem?_tail, pascal_at i (j + 1) (by omega)]
    simp only [pascal, List.getElem?_cons_succ, List.getElem?_zipWith, h1, h2, bin]
def allN : Nat := 340282366920938463463374607431768211455
def qN : Nat := 7922816251426433759354395033
def cN : Nat := 635013559600
theorem bin_52 : bin 52 (min 13 (52 - 13)) = cN := by
  have h := pascal_at 52 13 (by decide)
  have e : (pascal 52)[13]? = some cN := by decide +kernel
  rw [e] at h
  exact (Option.some.inj h).symm
theorem allN_isN : isN allN := by decide +kernel
theorem qN_isN : isN qN := by decide +kernel
theorem cN_isN : isN cN := by decide +kernel
theorem mulK1a : pt 18446744073709551616 0 = 0 ∧ pt 18446744073709551616 1 = 0 ∧ pt 18446744073709551616 2 = 1 ∧ pt 18446744073709551616 3 = 0 := by decide +kernel
theorem mulK1b : pt 18446744073709551616 0 = 0 ∧ pt 18446744073709551616 1 = 0 ∧ pt 18446744073709551616 2 = 1 ∧ pt 18446744073709551616 3 = 0 := by decide +kernel
theorem mulK1 (p : Nat) (w : World) [iP : NeZero (inW p w)] (p0 : w.cell? ⟨p, 0, none⟩ = some (.int .u32 0)) (p1 : w.cell? ⟨p, 1, none⟩ = some (.int .u32 0)) (p2 : w.cell? ⟨p, 2, none⟩ = some (.int .u32 1)) (p3 : w.cell? ⟨p, 3, none⟩ = some (.int .u32 0)) (p4 : w.cell? ⟨p, 4, none⟩ = some (.int .u32 0)) (p5 : w.cell? ⟨p, 5, none⟩ = some (.int .u32 0)) (p6 : w.cell? ⟨p, 6, none⟩ = some (.int .u32 1)) (p7 : w.cell? ⟨p, 7, none⟩ = some (.int .u32 0)) :
    Calls Try.prog 19 #[.slice (some ⟨p, 0, none⟩) 2 2] w fun e w' => e = .returned (.tuple #[.agg #[.int .u32 0, .int .u32 0, .int .u32 0, .int .u32 0], .int .i64 3]) ∧ Below w.heap.size w w' := by
  have ka := mulK1a
  have kb := mulK1b
  have h := mul_calls 18446744073709551616 18446744073709551616 p (by decide +kernel) (by decide +kernel) w (by rw [(ka).1]; exact p0) (by rw [(ka).2.1]; exact p1) (by rw [(ka).2.2.1]; exact p2) (by rw [(ka).2.2.2]; exact p3) (by rw [(kb).1]; exact p4) (by rw [(kb).2.1]; exact p5) (by rw [(kb).2.2.1]; exact p6) (by rw [(kb).2.2.2]; exact p7)
  have e1 : mulR 18446744073709551616 18446744073709551616 = 0 := by decide +kernel
  have e2 : mulE 18446744073709551616 18446744073709551616 = 3 := by decide +kernel
  rw [e1, e2] at h
  simp only [pt_zero] at h
  exact h
theorem mulK2a : pt 18446744073709551615 0 = 4294967295 ∧ pt 18446744073709551615 1 = 4294967295 ∧ pt 18446744073709551615 2 = 0 ∧ pt 18446744073709551615 3 = 0 := by decide +kernel
theorem mulK2b : pt 18446744073709551617 0 = 1 ∧ pt 18446744073709551617 1 = 0 ∧ pt 18446744073709551617 2 = 1 ∧ pt 18446744073709551617 3 = 0 := by decide +kernel
theorem mulK2 (p : Nat) (w : World) [iP : NeZero (inW p w)] (p0 : w.cell? ⟨p, 0, none⟩ = some (.int .u32 4294967295)) (p1 : w.cell? ⟨p, 1, none⟩ = some (.int .u32 4294967295)) (p2 : w.cell? ⟨p, 2, none⟩ = some (.int .u32 0)) (p3 : w.cell? ⟨p, 3, none⟩ = some (.int .u32 0)) (p4 : w.cell? ⟨p, 4, none⟩ = some (.int .u32 1)) (p5 : w.cell? ⟨p, 5, none⟩ = some (.int .u32 0)) (p6 : w.cell? ⟨p, 6, none⟩ = some (.int .u32 1)) (p7 : w.cell? ⟨p, 7, none⟩ = some (.int .u32 0)) :
    Calls Try.prog 19 #[.slice (some ⟨p, 0, none⟩) 2 2] w fun e w' => e = .returned (.tuple #[.agg #[.int .u32 (pt allN 0), .int .u32 (pt allN 1), .int .u32 (pt allN 2), .int .u32 (pt allN 3)], .int .i64 0]) ∧ Below w.heap.size w w' := by
  have ka := mulK2a
  have kb := mulK2b
  have h := mul_calls 18446744073709551615 18446744073709551617 p (by decide +kernel) (by decide +kernel) w (by rw [(ka).1]; exact p0) (by rw [(ka).2.1]; exact p1) (by rw [(ka).2.2.1]; exact p2) (by rw [(ka).2.2.2]; exact p3) (by rw [(kb).1]; exact p4) (by rw [(kb).2.1]; exact p5) (by rw [(kb).2.2.1]; exact p6) (by rw [(kb).2.2.2]; exact p7)
  have e1 : mulR 18446744073709551615 18446744073709551617 = allN := by decide +kernel
  have e2 : mulE 18446744073709551615 18446744073709551617 = 0 := by decide +kernel
  rw [e1, e2] at h
  exact h
theorem subKa : pt 5 0 = 5 ∧ pt 5 1 = 0 ∧ pt 5 2 = 0 ∧ pt 5 3 = 0 := by decide +kernel
theorem subKb : pt 7 0 = 7 ∧ pt 7 1 = 0 ∧ pt 7 2 = 0 ∧ pt 7 3 = 0 := by decide +kernel
theorem subK (w : World) :
    Calls Try.prog 23 #[.agg #[.int .u32 5, .int .u32 0, .int .u32 0, .int .u32 0], .agg #[.int .u32 7, .int .u32 0, .int .u32 0, .int .u32 0]] w fun e w' => e = .returned (.tuple #[.agg #[.int .u32 0, .int .u32 0, .int .u32 0, .int .u32 0], .int .i64 21]) ∧ Below w.heap.size w w' := by
  obtain ⟨a0, a1, a2, a3⟩ := subKa
  obtain ⟨b0, b1, b2, b3⟩ := subKb
  have h := sub_calls 5 7 (by decide +kernel) (by decide +kernel) w
  have e1 : subR 5 7 = 0 := by decide +kernel
  have e2 : subE 5 7 = 21 := by decide +kernel
  rw [e1, e2] at h
  simp only [a0, a1, a2, a3, b0, b1, b2, b3, pt_zero] at h
  exact h
theorem six : pt 6 0 = 6 ∧ pt 6 1 = 0 ∧ pt 6 2 = 0 ∧ pt 6 3 = 0 := by decide +kernel
theorem divKa : pt 79228162514264337593543950336 0 = 0 ∧ pt 79228162514264337593543950336 1 = 0 ∧ pt 79228162514264337593543950336 2 = 0 ∧ pt 79228162514264337593543950336 3 = 1 := by decide +kernel
theorem divKb : pt 10 0 = 10 ∧ pt 10 1 = 0 ∧ pt 10 2 = 0 ∧ pt 10 3 = 0 := by decide +kernel
theorem divK (w : World) :
    Calls Try.prog 21 #[.agg #[.int .u32 0, .int .u32 0, .int .u32 0, .int .u32 1], .agg #[.int .u32 10, .int .u32 0, .int .u32 0, .int .u32 0]] w fun e w' => e = .returned (.tuple #[.agg #[.int .u32 (pt qN 0), .int .u32 (pt qN 1), .int .u32 (pt qN 2), .int .u32 (pt qN 3)], .agg #[.int .u32 6, .int .u32 0, .int .u32 0, .int .u32 0], .int .i64 0]) ∧ Below w.heap.size w w' := by
  obtain ⟨a0, a1, a2, a3⟩ := divKa
  obtain ⟨b0, b1, b2, b3⟩ := divKb
  have h := div_calls 79228162514264337593543950336 10 (by decide +kernel) (by decide +kernel) (by decide) w
  have e1 : 79228162514264337593543950336 / 10 = qN := by decide +kernel
  have e2 : 79228162514264337593543950336 % 10 = 6 := by decide +kernel
  rw [e1, e2] at h
  simp only [a0, a1, a2, a3, b0, b1, b2, b3, six.1, six.2.1, six.2.2.1, six.2.2.2] at h
  exact h
theorem gcdKa : pt 12 0 = 12 ∧ pt 12 1 = 0 ∧ pt 12 2 = 0 ∧ pt 12 3 = 0 := by decide +kernel
theorem gcdKb : pt 18 0 = 18 ∧ pt 18 1 = 0 ∧ pt 18 2 = 0 ∧ pt 18 3 = 0 := by decide +kernel
theorem gcdK (w : World) :
    Calls Try.prog 20 #[.agg #[.int .u32 12, .int .u32 0, .int .u32 0, .int .u32 0], .agg #[.int .u32 18, .int .u32 0, .int .u32 0, .int .u32 0]] w fun e w' => e = .returned (.agg #[.int .u32 6, .int .u32 0, .int .u32 0, .int .u32 0]) ∧ Below w.heap.size w w' := by
  obtain ⟨a0, a1, a2, a3⟩ := gcdKa
  obtain ⟨b0, b1, b2, b3⟩ := gcdKb
  have h := gcd_calls 12 18 (by decide +kernel) (by decide +kernel) w
  have e1 : Nat.gcd 12 18 = 6 := by decide +kernel
  rw [e1] at h
  simp only [a0, a1, a2, a3, b0, b1, b2, b3, six.1, six.2.1, six.2.2.1, six.2.2.2] at h
  exact h
theorem chooseK1 (w : World) : Calls Try.prog 24 #[.int .i64 52, .int .i64 13] w fun e w' => e = .returned (.tuple #[.agg #[.int .u32 (pt cN 0), .int .u32 (pt cN 1), .int .u32 (pt cN 2), .int .u32 (pt cN 3)], .int .i64 0]) ∧ Below w.heap.size w w' := by
  have h := choose_good 52 13 (by decide) (by decide) w
  rw [bin_52] at h
  exact h
theorem chooseK2 (w : World) : Calls Try.prog 24 #[.int .i64 5, .int .i64 6] w fun e w' => e = .returned (.tuple #[.agg #[.int .u32 0, .int .u32 0, .int .u32 0, .int .u32 0], .int .i64 0]) ∧ Below w.heap.size w w' := by
  have h := choose_bad 5 6 (by decide) (by decide) (by decide) (by decide) (by decide) w
  simp only [pt_zero] at h
  exact h
theorem chooseK3 (w : World) : Calls Try.prog 24 #[.int .i64 129, .int .i64 1] w fun e w' => e = .returned (.tuple #[.agg #[.int .u32 0, .int .u32 0, .int .u32 0, .int .u32 0], .int .i64 5]) ∧ Below w.heap.size w w' := by
  have h := choose_bad 129 1 (by decide) (by decide) (by decide) (by decide) (by decide) w
  simp only [pt_zero] at h
  exact h
theorem readK1 (w : World) : Calls Try.prog 26 #[.string { data := #[51, 52, 48, 50, 56, 50, 51, 54, 54, 57, 50, 48, 57, 51, 56, 52, 54, 51, 52, 54, 51, 51, 55, 52, 54, 48, 55, 52, 51, 49, 55, 54, 56, 50, 49, 49, 52, 53, 54] }] w fun e w' => e = .returned (.tuple #[.agg #[.int .u32 0, .int .u32 0, .int .u32 0, .int .u32 0], .int .i64 3]) ∧ Below w.heap.size w w' := by
  have h := read_calls { data := #[51, 52, 48, 50, 56, 50, 51, 54, 54, 57, 50, 48, 57, 51, 56, 52, 54, 51, 52, 54, 51, 51, 55, 52, 54, 48, 55, 52, 51, 49, 55, 54, 56, 50, 49, 49, 52, 53, 54] } (by decide) w
  have e1 : readR (({ data := #[51, 52, 48, 50, 56, 50, 51, 54, 54, 57, 50, 48, 57, 51, 56, 52, 54, 51, 52, 54, 51, 51, 55, 52, 54, 48, 55, 52, 51, 49, 55, 54, 56, 50, 49, 49, 52, 53, 54] } : ByteArray).data.toList) = 0 := by decide +kernel
  have e2 : readE (({ data := #[51, 52, 48, 50, 56, 50, 51, 54, 54, 57, 50, 48, 57, 51, 56, 52, 54, 51, 52, 54, 51, 51, 55, 52, 54, 48, 55, 52, 51, 49, 55, 54, 56, 50, 49, 49, 52, 53, 54] } : ByteArray).data.toList) = 3 := by decide +kernel
  rw [e1, e2] at h
  simp only [pt_zero] at h
  exact h
theorem readK2 (w : World) : Calls Try.prog 26 #[.string { data := #[48, 49] }] w fun e w' => e = .returned (.tuple #[.agg #[.int .u32 0, .int .u32 0, .int .u32 0, .int .u32 0], .int .i64 20]) ∧ Below w.heap.size w w' := by
  have h := read_calls { data := #[48, 49] } (by decide) w
  have e1 : readR (({ data := #[48, 49] } : ByteArray).data.toList) = 0 := by decide +kernel
  have e2 : readE (({ data := #[48, 49] } : ByteArray).data.toList) = 20 := by decide +kernel
  rw [e1, e2] at h
  simp only [pt_zero] at h
  exact h
theorem textK1 (w : World) : Calls Try.prog 25 #[.agg #[.int .u32 (pt allN 0), .int .u32 (pt allN 1), .int .u32 (pt allN 2), .int .u32 (pt allN 3)]] w fun e w' => e = .returned (.string { data := #[51, 52, 48, 50, 56, 50, 51, 54, 54, 57, 50, 48, 57, 51, 56, 52, 54, 51, 52, 54, 51, 51, 55, 52, 54, 48, 55, 52, 51, 49, 55, 54, 56, 50, 49, 49, 52, 53, 53] }) ∧ Below w.heap.size w w' := by
  have h := text_calls allN allN_isN w
  have e1 : decD allN = [51, 52, 48, 50, 56, 50, 51, 54, 54, 57, 50, 48, 57, 51, 56, 52, 54, 51, 52, 54, 51, 51, 55, 52, 54, 48, 55, 52, 51, 49, 55, 54, 56, 50, 49, 49, 52, 53, 53] := by decide +kernel
  rw [e1] at h
  exact h
theorem textK2 (w : World) : Calls Try.prog 25 #[.agg #[.int .u32 (pt qN 0), .int .u32 (pt qN 1), .int .u32 (pt qN 2), .int .u32 (pt qN 3)]] w fun e w' => e = .returned (.string { data := #[55, 57, 50, 50, 56, 49, 54, 50, 53, 49, 52, 50, 54, 52, 51, 51, 55, 53, 57, 51, 53, 52, 51, 57, 53, 48, 51, 51] }) ∧ Below w.heap.size w w' := by
  have h := text_calls qN qN_isN w
  have e1 : decD qN = [55, 57, 50, 50, 56, 49, 54, 50, 53, 49, 52, 50, 54, 52, 51, 51, 55, 53, 57, 51, 53, 52, 51, 57, 53, 48, 51, 51] := by decide +kernel
  rw [e1] at h
  exact h
theorem textK3 (w : World) : Calls Try.prog 25 #[.agg #[.int .u32 (pt cN 0), .int .u32 (pt cN 1), .int .u32 (pt cN 2), .int .u32 (pt cN 3)]] w fun e w' => e = .returned (.string { data := #[54, 51, 53, 48, 49, 51, 53, 53, 57, 54, 48, 48] }) ∧ Below w.heap.size w w' := by
  have h := text_calls cN cN_isN w
  have e1 : decD cN = [54, 51, 53, 48, 49, 51, 53, 53, 57, 54, 48, 48] := by decide +kernel
  rw [e1] at h
  exact h
set_option maxRecDepth 100000 in
set_option maxHeartbeats 8000000 in
theorem awake_calls (w : World) :
    Calls Try.prog 13 #[] w fun x w' => x = .returned (.bool true) ∧ Below w.heap.size w w' := by
  have hE := eqN
  have hZ := eqZZ
  go_enter Try.func13, Try.ntmps13
  go_upto_region 3 with (first | (go_at_call 19; refine (mulK1 _ _ (by simp [go_sem]) (by simp [go_sem]) (by simp [go_sem]) (by simp [go_sem]) (by simp [go_sem]) (by simp [go_sem]) (by simp [go_sem]) (by simp [go_sem])).mono ?_; rintro e w1 ⟨rfl, hbel⟩; obtain ⟨o1, j1, rfl⟩ := grow_of_below hbel; clear hbel))
  go_upto_region 4 with (first | (go_at_call 19; refine (mulK2 _ _ (by simp [go_sem]) (by simp [go_sem]) (by simp [go_sem]) (by simp [go_sem]) (by simp [go_sem]) (by simp [go_sem]) (by simp [go_sem]) (by simp [go_sem])).mono ?_; rintro e w2 ⟨rfl, hbel⟩; obtain ⟨o2, j2, rfl⟩ := grow_of_below hbel; clear hbel))
  go_upto_region 5 with (first | (go_at_call 23; refine (subK _).mono ?_; rintro e w3 ⟨rfl, hbel⟩; obtain ⟨o3, j3, rfl⟩ := grow_of_below hbel; clear hbel))
  go_upto_region 6 with (first | (go_at_call 21; refine (divK _).mono ?_; rintro e w4 ⟨rfl, hbel⟩; obtain ⟨o4, j4, rfl⟩ := grow_of_below hbel; clear hbel))
  go_upto_region 7 with (first | (go_at_call 24; refine (chooseK1 _).mono ?_; rintro e w5 ⟨rfl, hbel⟩; obtain ⟨o5, j5, rfl⟩ := grow_of_below hbel; clear hbel))
  go_upto_region 8 with (first | (go_at_call 24; refine (chooseK2 _).mono ?_; rintro e w6 ⟨rfl, hbel⟩; obtain ⟨o6, j6, rfl⟩ := grow_of_below hbel; clear hbel))
  go_upto_region 9 with (first | (go_at_call 24; refine (chooseK3 _).mono ?_; rintro e w7 ⟨rfl, hbel⟩; obtain ⟨o7, j7, rfl⟩ := grow_of_below hbel; clear hbel))
  go_upto_region 10 with (first | (go_at_call 26; refine (readK1 _).mono ?_; rintro e w8 ⟨rfl, hbel⟩; obtain ⟨o8, j8, rfl⟩ := grow_of_below hbel; clear hbel))
  go_upto_region 11 with (first | (go_at_call 26; refine (readK2 _).mono ?_; rintro e w9 ⟨rfl, hbel⟩; obtain ⟨o9, j9, rfl⟩ := grow_of_below hbel; clear hbel))
  go_upto_region 13 with fail
  go_wp2_with (first | (go_at_call_of 25 (pt allN 0); refine (textK1 _).mono ?_; rintro e w10 ⟨rfl, hbel⟩; obtain ⟨o10, j10, rfl⟩ := grow_of_below hbel; clear hbel) | (go_at_call_of 25 (pt qN 0); refine (textK2 _).mono ?_; rintro e w11 ⟨rfl, hbel⟩; obtain ⟨o11, j11, rfl⟩ := grow_of_below hbel; clear hbel) | (go_at_call_of 25 (pt cN 0); refine (textK3 _).mono ?_; rintro e w12 ⟨rfl, hbel⟩; obtain ⟨o12, j12, rfl⟩ := grow_of_below hbel; clear hbel) | (go_at_call 20; refine (gcdK _).mono ?_; rintro e w13 ⟨rfl, hbel⟩; obtain ⟨o13, j13, rfl⟩ := grow_of_below hbel; clear hbel))
  go_ret
  exact ⟨rfl, by repeat (first | (with_reducible exact Below.refl _ _) | ((with_reducible refine below_grow ?_ ?_); rotate_left; focus (first | omega | (simp [go_sem]; done) | (simp [go_sem]; omega))) | ((with_reducible refine Below.alloc ?_ ?_ _); rotate_left; focus (first | omega | (simp [go_sem]; done) | (simp [go_sem]; omega))) | ((with_reducible refine Below.setCell ?_ ?_ _); rotate_left; focus (first | omega | (simp [go_sem]; done) | (simp [go_sem]; omega))) | (with_reducible refine Below.drew ?_) | (with_reducible refine below_drewN _ ?_))⟩
end Go.Proofs.Ytjaggclfacbkbaa
