/- The texts of fractions: read as they were, different for different fractions; what no fraction's text is. -/
import Derived.Test.YtignphcnjgbikaaDoorR
import Derived.Lib.ItoaLen
namespace Go.Proofs.YtignphcnjgbikaaDoor
open Go.RowKit Go.Shelf
theorem dig_nat {k : Nat} (h : k < 10) : (UInt8.ofNat (48 + k)).toNat = 48 + k := by
  simp [UInt8.toNat_ofNat']
  omega
theorem digits_all : ∀ (u : Nat) (b : UInt8), b ∈ Lib.decDigits u → 48 ≤ b.toNat ∧ b.toNat ≤ 57 := by
  intro u
  induction u using Nat.strongRecOn with
  | ind u ih =>
    intro b hb
    rw [Lib.decDigits] at hb
    split at hb
    · rename_i h
      simp only [List.mem_singleton] at hb
      subst hb
      rw [dig_nat h]; omega
    · rename_i h
      rcases List.mem_append.1 hb with hb | hb
      · exact ih (u / 10) (by omega) b hb
      · simp only [List.mem_singleton] at hb
        subst hb
        rw [dig_nat (by omega)]; omega
theorem digits_ne (u : Nat) : Lib.decDigits u ≠ [] := by
  rw [Lib.decDigits]
  split <;> simp
theorem digits_zero : ∀ (u : Nat) (r : List UInt8) (c : UInt8), c.toNat = 48 → Lib.decDigits u = c :: r → u = 0 := by
  intro u
  induction u using Nat.strongRecOn with
  | ind u ih =>
    intro r c hc hb
    rw [Lib.decDigits] at hb
    split at hb
    · rename_i h
      simp only [List.cons.injEq] at hb
      have := dig_nat h
      rw [hb.1, hc] at this
      omega
    · rename_i h
      exfalso
      cases hd : Lib.decDigits (u / 10) with
      | nil => exact digits_ne _ hd
      | cons x y =>
        rw [hd] at hb
        simp only [List.cons_append, List.cons.injEq] at hb
        have := ih (u / 10) (by omega) y c hc (by rw [hd, hb.1])
        omega
theorem parse_more (c : UInt8) (v : Nat) (h1 : 48 ≤ c.toNat) (h2 : c.toNat ≤ 57) (h3 : v * 10 + (c.toNat - 48) < 18446744073709551616) : ∀ (l : List UInt8) (acc : Nat), Lib.parseUint10 acc l = .ok v → Lib.parseUint10 acc (l ++ [c]) = .ok (v * 10 + (c.toNat - 48))
  | [], acc, h => by
    simp only [Lib.parseUint10] at h
    injection h with h
    subst h
    simp only [List.nil_append, Lib.parseUint10]
    rw [if_pos ⟨h1, h2⟩, if_neg (by omega), if_neg (by omega)]
  | x :: l, acc, h => by
    simp only [Lib.parseUint10] at h
    simp only [List.cons_append, Lib.parseUint10]
    split at h
    · rename_i g
      rw [if_pos g]
      split at h
      · cases h
      · rename_i g1
        rw [if_neg g1]
        split at h
        · cases h
        · rename_i g2
          rw [if_neg g2]
          exact parse_more c v h1 h2 h3 l _ h
    · cases h
theorem parse_digits : ∀ u : Nat, u < 18446744073709551616 → Lib.parseUint10 0 (Lib.decDigits u) = .ok u := by
  intro u
  induction u using Nat.strongRecOn with
  | ind u ih =>
    intro hu
    rw [Lib.decDigits]
    split
    · rename_i h
      have := dig_nat h
      have := parse_more (UInt8.ofNat (48 + u)) 0 (by omega) (by omega) (by omega) [] 0 (by simp [Lib.parseUint10])
      rw [List.nil_append] at this
      rw [this, dig_nat h]
      congr 1; omega
    · rename_i h
      have e := dig_nat (k := u % 10) (by omega)
      have := parse_more (UInt8.ofNat (48 + u % 10)) (u / 10) (by omega) (by omega) (by omega) (Lib.decDigits (u / 10)) 0 (ih (u / 10) (by omega) (by omega))
      rw [this, e]
      congr 1; omega
theorem mag_digits (u : Nat) (hu : u < 18446744073709551616) : Lib.parseMag (Lib.decDigits u) = .ok u := by
  unfold Lib.parseMag
  rw [if_neg (digits_ne u)]
  exact parse_digits u hu
theorem atoi_itoa (n : Int) (h0 : -9223372036854775808 ≤ n) (h1 : n ≤ 9223372036854775807) : Lib.atoiAll (Lib.itoa n) = .ok n := by
  unfold Lib.itoa
  split
  · rename_i hn
    unfold Lib.atoiAll
    have e : (45 : UInt8).toNat = 45 := rfl
    simp only [e, or_true, if_true]
    rw [mag_digits _ (by omega)]
    simp only [not_true, false_and, if_false, true_and]
    rw [if_neg (by omega)]
    congr 1; omega
  · rename_i hn
    have hm := mag_digits n.toNat (by omega)
    have hall := digits_all n.toNat
    cases hd : Lib.decDigits n.toNat with
    | nil => exact absurd hd (digits_ne _)
    | cons c r =>
      rw [hd] at hm hall
      have hc := hall c (List.mem_cons_self)
      unfold Lib.atoiAll
      have g : ¬ (c.toNat = 43 ∨ c.toNat = 45) := by omega
      have g2 : ¬ c.toNat = 45 := by omega
      simp only [if_neg g]
      rw [hm]
      simp only [g2, not_false_eq_true, true_and, false_and, if_false]
      rw [if_neg (by omega)]
      congr 1; omega
/-- the bytes of a numeral -/
theorem itoa_bytes (n : Int) (b : UInt8) (h : b ∈ Lib.itoa n) : b.toNat = 45 ∨ (48 ≤ b.toNat ∧ b.toNat ≤ 57) := by
  unfold Lib.itoa at h
  split at h
  · rcases List.mem_cons.1 h with rfl | h
    · exact .inl rfl
    · exact .inr (digits_all _ _ h)
  · exact .inr (digits_all _ _ h)
theorem itoa_ne (n : Int) : Lib.itoa n ≠ [] := by
  unfold Lib.itoa
  split
  · simp
  · exact digits_ne _
theorem no47 (n : Int) : (47 : UInt8) ∉ Lib.itoa n := fun h => by
  have := itoa_bytes n 47 h
  have e : (47 : UInt8).toNat = 47 := rfl
  omega
theorem itoa_last (n : Int) (l : List UInt8) (x : UInt8) (h : Lib.itoa n = l ++ [x]) : 48 ≤ x.toNat ∧ x.toNat ≤ 57 := by
  unfold Lib.itoa at h
  split at h
  · cases l with
    | nil =>
      simp only [List.nil_append, List.cons.injEq] at h
      exact absurd h.2 (digits_ne _)
    | cons y l =>
      simp only [List.cons_append, List.cons.injEq] at h
      exact digits_all _ _ (by rw [h.2]; simp)
  · exact digits_all _ _ (by rw [h]; simp)
theorem itoa_zero (n : Int) (r : List UInt8) (h : Lib.itoa n = 48 :: r) : n = 0 := by
  unfold Lib.itoa at h
  split at h
  · simp only [List.cons.injEq] at h
    exact absurd h.1 (by decide)
  · have := digits_zero _ _ _ rfl h
    omega
theorem index_none47 : ∀ l : List UInt8, (47 : UInt8) ∉ l → Lib.index l [47] = -1
  | [], _ => rfl
  | b :: l, h => by
    simp only [List.mem_cons, not_or] at h
    unfold Lib.index
    have : ([47] : List UInt8).isPrefixOf (b :: l) = false := by
      simp [List.isPrefixOf, h.1]
    rw [this, index_none47 l h.2]
    rfl
theorem index_at47 : ∀ a b : List UInt8, (47 : UInt8) ∉ a → Lib.index (a ++ 47 :: b) [47] = a.length
  | [], b, _ => by
    unfold Lib.index
    simp [List.isPrefixOf]
  | x :: a, b, h => by
    simp only [List.mem_cons, not_or] at h
    simp only [List.cons_append]
    unfold Lib.index
    have : ([47] : List UInt8).isPrefixOf (x :: (a ++ 47 :: b)) = false := by
      simp [List.isPrefixOf, h.1]
    rw [this, index_at47 a b h.2]
    have e : ((a.length : Int) == -1) = false := by rw [beq_eq_false_iff_ne]; omega
    simp [e]
theorem cut_none (l : List UInt8) (h : (47 : UInt8) ∉ l) : Lib.cut l [47] = (l, [], false) := by
  unfold Lib.cut
  rw [index_none47 l h]; rfl
theorem cut_at (a b : List UInt8) (h : (47 : UInt8) ∉ a) : Lib.cut (a ++ 47 :: b) [47] = (a, b, true) := by
  unfold Lib.cut
  rw [index_at47 a b h, if_pos (by omega)]
  have e : ((a.length : Int)).toNat = a.length := by omega
  have e2 : ((a.length : Int)).toNat + ([47] : List UInt8).length = a.length + 1 := by simp
  rw [e2, e]
  simp [List.drop_append]
theorem itoa_inj (n m : Int) (hn : -9223372036854775808 ≤ n ∧ n ≤ 9223372036854775807) (hm : -9223372036854775808 ≤ m ∧ m ≤ 9223372036854775807) (h : Lib.itoa n = Lib.itoa m) : n = m := by
  have h1 := atoi_itoa n hn.1 hn.2
  rw [h, atoi_itoa m hm.1 hm.2] at h1
  injection h1 with h1
  exact h1.symm
theorem text_one (n : Int) : textZ n 1 = Lib.itoa n := by unfold textZ; rw [if_pos rfl]
theorem text_more (n d : Int) (h : ¬ d = 1) : textZ n d = Lib.itoa n ++ 47 :: Lib.itoa d := by unfold textZ; rw [if_neg h]
theorem text_bytes (n d : Int) (b : UInt8) (h : b ∈ textZ n d) : b.toNat = 45 ∨ b.toNat = 47 ∨ (48 ≤ b.toNat ∧ b.toNat ≤ 57) := by
  unfold textZ at h
  split at h
  · have := itoa_bytes _ _ h; omega
  · rcases List.mem_append.1 h with h | h
    · have := itoa_bytes _ _ h; omega
    · rcases List.mem_cons.1 h with rfl | h
      · exact .inr (.inl rfl)
      · have := itoa_bytes _ _ h; omega
theorem text_ne (n d : Int) : textZ n d ≠ [] := by
  unfold textZ
  split
  · exact itoa_ne n
  · simp
theorem text_last (n d : Int) (l : List UInt8) (x : UInt8) (h : textZ n d = l ++ [x]) : 48 ≤ x.toNat ∧ x.toNat ≤ 57 := by
  unfold textZ at h
  split at h
  · exact itoa_last n l x h
  · have h1 : ∃ m, Lib.itoa d = m ++ [x] := by
      have hl : (Lib.itoa n ++ 47 :: Lib.itoa d).getLast (by simp) = x := by simp [h]
      rw [List.getLast_append_of_ne_nil (by simp) (by simp), List.getLast_cons (itoa_ne d)] at hl
      exact ⟨(Lib.itoa d).dropLast, by rw [← hl]; exact (List.dropLast_concat_getLast (itoa_ne d)).symm⟩
    obtain ⟨m, hm⟩ := h1
    exact itoa_last d m x hm
theorem text_head (n d : Int) (c : UInt8) (r : List UInt8) (h : textZ n d = c :: r) : c.toNat = 45 ∨ (48 ≤ c.toNat ∧ c.toNat ≤ 57) := by
  unfold textZ at h
  split at h
  · exact itoa_bytes n c (by rw [h]; simp)
  · cases hi : Lib.itoa n with
    | nil => exact absurd hi (itoa_ne n)
    | cons x y =>
      rw [hi] at h
      simp only [List.cons_append, List.cons.injEq] at h
      exact itoa_bytes n c (by rw [hi, h.1]; simp)
/-- no right fraction has the text l -/
def NoText (l : List UInt8) : Prop := ∀ n d, I64 n → I64 d → rightB n d = true → textZ n d ≠ l
theorem no_zero (n d : Int) : NoText (48 :: textZ n d) := fun m e _ _ hr h => by
  by_cases he : e = 1
  · subst he
    rw [text_one] at h
    have := itoa_zero _ _ h
    subst this
    have e0 : Lib.itoa 0 = [48] := by decide +kernel
    rw [e0] at h
    simp only [List.cons.injEq, true_and] at h
    exact text_ne n d h.symm
  · rw [text_more _ _ he] at h
    cases hi : Lib.itoa m with
    | nil => exact itoa_ne m hi
    | cons x y =>
      rw [hi] at h
      simp only [List.cons_append, List.cons.injEq] at h
      have h0 := itoa_zero m y (by rw [hi, h.1])
      subst h0
      unfold rightB at hr
      simp only [decide_eq_true_eq] at hr
      have : (Int.gcd 0 e : Int) = e.natAbs := by simp
      omega
theorem no_head (c : UInt8) (hc : c = 32 ∨ c = 43) (l : List UInt8) : NoText (c :: l) := fun m e _ _ _ h => by
  have := text_head _ _ _ _ h
  rcases hc with rfl | rfl
  · have e : (32 : UInt8).toNat = 32 := rfl
    omega
  · have e : (43 : UInt8).toNat = 43 := rfl
    omega
theorem no_last (c : UInt8) (hc : c = 32 ∨ c = 47) (l : List UInt8) : NoText (l ++ [c]) := fun m e _ _ _ h => by
  have := text_last _ _ _ _ h
  rcases hc with rfl | rfl
  · have e : (32 : UInt8).toNat = 32 := rfl
    omega
  · have e : (47 : UInt8).toNat = 47 := rfl
    omega
theorem no_one (n d : Int) : NoText (textZ n d ++ [47, 49]) := fun m e _ ie _ h => by
  have hin : (47 : UInt8) ∈ textZ n d ++ [47, 49] := by simp
  by_cases he : e = 1
  · subst he
    rw [text_one] at h
    rw [← h] at hin
    exact no47 m hin
  · rw [text_more _ _ he] at h
    by_cases hd : d = 1
    · subst hd
      rw [text_one] at h
      have c1 := cut_at (Lib.itoa m) (Lib.itoa e) (no47 m)
      have c2 := cut_at (Lib.itoa n) [49] (no47 n)
      rw [h, c2] at c1
      simp only [Prod.mk.injEq] at c1
      have e1 : Lib.itoa 1 = [49] := by decide +kernel
      exact he (itoa_inj e 1 ie ⟨by omega, by omega⟩ (by rw [e1, ← c1.2.1]))
    · rw [text_more _ _ hd] at h
      have c1 := cut_at (Lib.itoa m) (Lib.itoa e) (no47 m)
      have c2 := cut_at (Lib.itoa n) (Lib.itoa d ++ [47, 49]) (no47 n)
      rw [h] at c1
      simp only [List.append_assoc, List.cons_append] at c1
      rw [c2] at c1
      simp only [Prod.mk.injEq] at c1
      have : (47 : UInt8) ∈ Lib.itoa e := by rw [← c1.2.1]; simp
      exact no47 e this
theorem text_inj (n d m e : Int) (hn : I64 n) (hd : I64 d) (hm : I64 m) (he : I64 e) (h : textZ n d = textZ m e) : n = m ∧ d = e := by
  by_cases h1 : d = 1
  · subst h1
    rw [text_one] at h
    by_cases h2 : e = 1
    · subst h2
      rw [text_one] at h
      exact ⟨itoa_inj n m hn hm h, rfl⟩
    · rw [text_more _ _ h2] at h
      exact absurd (show (47 : UInt8) ∈ Lib.itoa n by rw [h]; simp) (no47 n)
  · rw [text_more _ _ h1] at h
    by_cases h2 : e = 1
    · subst h2
      rw [text_one] at h
      exact absurd (show (47 : UInt8) ∈ Lib.itoa m by rw [← h]; simp) (no47 m)
    · rw [text_more _ _ h2] at h
      have c1 := cut_at (Lib.itoa n) (Lib.itoa d) (no47 n)
      rw [h, cut_at (Lib.itoa m) (Lib.itoa e) (no47 m)] at c1
      simp only [Prod.mk.injEq] at c1
      exact ⟨itoa_inj n m hn hm c1.1.symm, itoa_inj d e hd he c1.2.1.symm⟩
theorem text_len (n d : Int) (hn : I64 n) (hd : I64 d) : (textZ n d).length ≤ 43 := by
  have h1 := Lib.itoa_length_le n hn.1 hn.2
  have h2 := Lib.itoa_length_le d hd.1 hd.2
  unfold textZ
  split
  · omega
  · simp only [List.length_append, List.length_cons]; omega
theorem read_back (n d : Int) (hr : rightB n d = true) (hn : I64 n) (hd : I64 d) (w : World) (he : EnvE w) :
    Calls Tryd.prog 31 #[.string ⟨(textZ n d).toArray⟩] w fun e w' => e = .returned (.tuple #[.agg #[.int .i64 n, .int .i64 d], .int .i64 0]) ∧ Below w.heap.size w w' := by
  have hl := text_len n d hn hd
  by_cases h1 : d = 1
  · subst h1
    have hl' := hl
    rw [text_one] at hl'
    have h := read_parts (textZ n 1) (Lib.itoa n) [] false (by omega) (by omega) (by simp) (Lib.hid (by rw [text_one]; exact cut_none _ (no47 n))) w he
    have e1 : Lib.atoiAll [49] = .ok 1 := atoi_one
    simp only [atoi_itoa n hn.1 hn.2, Bool.false_eq_true, if_false, e1, hr, true_and, if_true] at h
    exact h
  · have hl' := hl
    rw [text_more _ _ h1] at hl'
    simp only [List.length_append, List.length_cons] at hl'
    have h := read_parts (textZ n d) (Lib.itoa n) (Lib.itoa d) true (by omega) (by omega) (by omega) (Lib.hid (by rw [text_more _ _ h1]; exact cut_at _ _ (no47 n))) w he
    simp only [atoi_itoa n hn.1 hn.2, atoi_itoa d hd.1 hd.2, if_true, hr, true_and] at h
    exact h
theorem read_none (l : List UInt8) (hl : l.length ≤ 100) (h : NoText l) (w : World) (he : EnvE w) :
    Calls Tryd.prog 31 #[.string ⟨l.toArray⟩] w fun e w' => e = .returned (.tuple #[.agg #[.int .i64 0, .int .i64 0], .int .i64 10]) ∧ Below w.heap.size w w' := by
  obtain ⟨a, b, f, hc⟩ : ∃ a b f, Lib.cut l [47] = (a, b, f) := ⟨_, _, _, rfl⟩
  have hab : a.length ≤ 100 ∧ b.length ≤ 100 := by
    unfold Lib.cut at hc
    split at hc
    · simp only [Prod.mk.injEq] at hc
      obtain ⟨rfl, rfl, _⟩ := hc
      simp only [List.length_take, List.length_drop]
      omega
    · simp only [Prod.mk.injEq] at hc
      obtain ⟨rfl, rfl, _⟩ := hc
      exact ⟨hl, by simp⟩
  refine (read_parts l a b f hl hab.1 hab.2 (Lib.hid hc) w he).mono fun e w' ⟨h1, h2⟩ => ⟨?_, h2⟩
  rw [h1]
  cases ha : Lib.atoiAll a with
  | ok n =>
    cases hb : Lib.atoiAll (if f then b else [49]) with
    | ok d =>
      simp only []
      rw [if_neg]
      rintro ⟨g1, g2⟩
      exact h n d (atoi_i64 ha) (atoi_i64 hb) g1 g2
    | range => rfl
    | _ => rfl
  | range => rfl
  | _ => rfl
/-- What Make returns for any two integers. -/
theorem make_any (a b : Int) (ha : I64 a) (hb : I64 b) : ∃ n d e : Int, (∀ w, Calls Tryd.prog 22 #[.int .i64 a, .int .i64 b] w fun x w' => x = .returned (.tuple #[.agg #[.int .i64 n, .int .i64 d], .int .i64 e]) ∧ Below w.heap.size w w') ∧
    I64 n ∧ I64 d ∧ ((e = 0 ∧ rightB n d = true) ∨ ¬ e = 0) := by
  by_cases h0 : b = 0
  · subst h0
    exact ⟨0, 0, 2, fun w => make_zero a w, by unfold I64; omega, by unfold I64; omega, .inr (by omega)⟩
  · refine ⟨_, _, _, fun w => make_calls a b ha hb h0 w, ?_⟩
    unfold outN outD outE
    by_cases hf : fitsR (Rat.divInt a b)
    · simp only [if_pos hf]
      exact ⟨(fits64 hf).1, (fits64 hf).2.1, .inl ⟨trivial, right_rat _⟩⟩
    · simp only [if_neg hf]
      exact ⟨by unfold I64; omega, by unfold I64; omega, .inr (by omega)⟩
end Go.Proofs.YtignphcnjgbikaaDoor
