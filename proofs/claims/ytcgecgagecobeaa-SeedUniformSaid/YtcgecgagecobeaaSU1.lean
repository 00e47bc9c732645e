/- Many steps at once: states lie side by side in one number, 48 bits each; the kernel's own arithmetic moves all of them. -/
import Derived.Test.YtcgecgagecobeaaSA
namespace Go.Proofs.Ytcgecgagecobeaa

def pk : List Nat → Nat
  | [] => 0
  | x :: l => x + 281474976710656 * pk l
theorem pk_mul {α : Type} (l : List α) (f : α → Nat) (c : Nat) : pk (l.map f) * c = pk (l.map fun v => f v * c) := by
  induction l with
  | nil => simp [pk]
  | cons v l ih => simp only [List.map_cons, pk, ← ih, Nat.add_mul, Nat.mul_assoc]
theorem pk_add {α : Type} (l : List α) (f g : α → Nat) : pk (l.map f) + pk (l.map g) = pk (l.map fun v => f v + g v) := by
  induction l with
  | nil => rfl
  | cons v l ih =>
    simp only [List.map_cons, pk, ← ih, Nat.mul_add]
    omega
theorem and_split (x y r s : Nat) (hx : x < 281474976710656) (hy : y < 281474976710656) : (x + 281474976710656 * r) &&& (y + 281474976710656 * s) = (x &&& y) + 281474976710656 * (r &&& s) := by
  have e : (281474976710656 : Nat) = 2 ^ 48 := rfl
  rw [e] at *
  have h1 := @Nat.and_mod_two_pow (x + 2 ^ 48 * r) (y + 2 ^ 48 * s) 48
  have h2 := @Nat.and_div_two_pow (x + 2 ^ 48 * r) (y + 2 ^ 48 * s) 48
  rw [Nat.add_mul_mod_self_left, Nat.add_mul_mod_self_left, Nat.mod_eq_of_lt hx, Nat.mod_eq_of_lt hy] at h1
  rw [Nat.add_mul_div_left _ _ (by decide), Nat.add_mul_div_left _ _ (by decide), Nat.div_eq_of_lt hx, Nat.div_eq_of_lt hy, Nat.zero_add, Nat.zero_add] at h2
  rw [← h1, ← h2, Nat.mod_add_div]
theorem pk_and {α : Type} (l : List α) (f g : α → Nat) (hf : ∀ v ∈ l, f v < 281474976710656) (hg : ∀ v ∈ l, g v < 281474976710656) : Nat.land (pk (l.map f)) (pk (l.map g)) = pk (l.map fun v => f v &&& g v) := by
  induction l with
  | nil => simp only [List.map_nil, pk]; decide
  | cons v l ih =>
    have h := ih (fun u hu => hf u (List.mem_cons_of_mem _ hu)) (fun u hu => hg u (List.mem_cons_of_mem _ hu))
    simp only [List.map_cons, pk, ← h]
    exact and_split _ _ _ _ (hf v (List.mem_cons_self ..)) (hg v (List.mem_cons_self ..))
theorem shift_split (x r s : Nat) (hx : x < 281474976710656) : ((x + 281474976710656 * r) >>> 31) &&& (131071 + 281474976710656 * s) = x / 2147483648 + 281474976710656 * ((r >>> 31) &&& s) := by
  rw [Nat.shiftRight_eq_div_pow, Nat.shiftRight_eq_div_pow]
  have e : (x + 281474976710656 * r) / 2 ^ 31 = x / 2147483648 + 131072 * r := by
    rw [show (2 : Nat) ^ 31 = 2147483648 from rfl]
    omega
  rw [e]
  have e2 : x / 2147483648 + 131072 * r = (x / 2147483648 + 131072 * r) % 281474976710656 + 281474976710656 * (r / 2 ^ 31) := by
    rw [show (2 : Nat) ^ 31 = 2147483648 from rfl]
    omega
  rw [e2, and_split _ _ _ _ (by omega) (by decide)]
  have e3 : (x / 2147483648 + 131072 * r) % 281474976710656 &&& 131071 = x / 2147483648 := by
    have h := Nat.and_two_pow_sub_one_eq_mod ((x / 2147483648 + 131072 * r) % 281474976710656) 17
    rw [show (2 : Nat) ^ 17 = 131072 from rfl] at h
    rw [show (131071 : Nat) = 131072 - 1 from rfl, h]
    omega
  rw [e3]
theorem pk_shift {α : Type} (l : List α) (f : α → Nat) (hf : ∀ v ∈ l, f v < 281474976710656) : Nat.land (Nat.shiftRight (pk (l.map f)) 31) (pk (l.map fun _ => 131071)) = pk (l.map fun v => f v / 2147483648) := by
  induction l with
  | nil => simp only [List.map_nil, pk]; decide
  | cons v l ih =>
    have h := ih (fun u hu => hf u (List.mem_cons_of_mem _ hu))
    simp only [List.map_cons, pk, ← h]
    exact shift_split _ _ _ (hf v (List.mem_cons_self ..))
theorem pk_zero {α : Type} (l : List α) (f : α → Nat) (h : pk (l.map f) = 0) : ∀ v ∈ l, f v = 0 := by
  induction l with
  | nil => intro v hv; cases hv
  | cons v l ih =>
    simp only [List.map_cons, pk] at h
    intro u hu
    rcases List.mem_cons.1 hu with e | hu
    · rw [e]; omega
    · exact ih (by omega) u hu
/-- n times the number m. -/
def rp (n m : Nat) : Nat := Nat.mul m (Nat.div (Nat.sub (Nat.pow 281474976710656 n) 1) 281474976710655)
theorem pk_one {α : Type} (l : List α) : 281474976710655 * pk (l.map fun _ => 1) + 1 = 281474976710656 ^ l.length := by
  induction l with
  | nil => rfl
  | cons v l ih =>
    simp only [List.map_cons, pk, List.length_cons, Nat.pow_succ, ← ih]
    omega
theorem pk_rp {α : Type} (l : List α) (n m : Nat) (hn : l.length = n) : rp n m = pk (l.map fun _ => m) := by
  have h1 := pk_one l
  have h2 := pk_mul l (fun _ => 1) m
  simp only [Nat.one_mul] at h2
  rw [← h2]
  unfold rp
  show m * ((281474976710656 ^ n - 1) / 281474976710655) = _
  rw [← hn, ← h1, Nat.add_sub_cancel, Nat.mul_div_cancel_left _ (by decide), Nat.mul_comm]
/-- One step, not wholly reduced. -/
def fl (y : Nat) : Nat := y * 48271 % 2147483648 + y * 48271 / 2147483648
def bd (y : Nat) : Prop := y < 2147614720
theorem fl_bd {y : Nat} (h : bd y) : bd (fl y) := by unfold fl bd at *; omega
theorem fl_mod (y : Nat) : fl y % 2147483647 = y * 48271 % 2147483647 := by unfold fl; omega
def fstep (n X : Nat) : Nat := let Y := Nat.mul X 48271; Nat.add (Nat.land Y (rp n 2147483647)) (Nat.land (Nat.shiftRight Y 31) (rp n 131071))
theorem fstep_pk {α : Type} (l : List α) (n : Nat) (hn : l.length = n) (f : α → Nat) (hf : ∀ v ∈ l, bd (f v)) : fstep n (pk (l.map f)) = pk (l.map fun v => fl (f v)) := by
  unfold fstep
  rw [pk_rp l n _ hn, pk_rp l n _ hn]
  show Nat.land (pk (l.map f) * 48271) (pk (l.map fun _ => 2147483647)) + Nat.land (Nat.shiftRight (pk (l.map f) * 48271) 31) (pk (l.map fun _ => 131071)) = _
  have hb : ∀ v ∈ l, f v * 48271 < 281474976710656 := fun v hv => by have := hf v hv; unfold bd at this; omega
  rw [pk_mul, pk_and l _ _ hb (fun _ _ => by decide), pk_shift l _ hb, pk_add]
  congr 1
  apply List.map_congr_left
  intro v _
  have h := Nat.and_two_pow_sub_one_eq_mod (f v * 48271) 31
  rw [show (2 : Nat) ^ 31 = 2147483648 from rfl] at h
  rw [show (2147483647 : Nat) = 2147483648 - 1 from rfl, h]
  rfl
def itx : Nat → Nat → Nat
  | 0, v => v
  | t + 1, v => itx t (fl v)
def itf : Nat → Nat → Nat → Nat
  | 0, _, f => f
  | t + 1, v, f => itf t (fl v) (f &&& fl v)
theorem itx_add : ∀ (i j v : Nat), itx (i + j) v = itx j (itx i v)
  | 0, j, v => by rw [Nat.zero_add]; rfl
  | i + 1, j, v => by rw [show i + 1 + j = (i + j) + 1 from by omega]; exact itx_add i j (fl v)
theorem itx_bd : ∀ (t v : Nat), bd v → bd (itx t v)
  | 0, _, h => h
  | t + 1, v, h => itx_bd t _ (fl_bd h)
theorem itx_mod : ∀ (t v : Nat), itx t v % 2147483647 = v * 48271 ^ t % 2147483647
  | 0, v => by rw [Nat.pow_zero, Nat.mul_one]; rfl
  | t + 1, v => by
    show itx t (fl v) % 2147483647 = _
    rw [itx_mod t (fl v), Nat.mul_mod, fl_mod, ← Nat.mul_mod, Nat.mul_assoc, Nat.pow_succ, Nat.mul_comm 48271]
/-- Low, modulo 2^31 - 1. -/
def low (y : Nat) : Prop := y % 2147483647 < 1073741824
theorem bit_low (y : Nat) (hy : bd y) (h : y.testBit 30 = false) : low y := by
  rw [Nat.testBit_eq_decide_div_mod_eq, show (2 : Nat) ^ 30 = 1073741824 from rfl] at h
  have := of_decide_eq_false h
  unfold low bd at *
  omega
theorem itf_bit : ∀ (t v f : Nat), bd v → (itf t v f).testBit 30 = false → f.testBit 30 = false ∨ ∃ j, 1 ≤ j ∧ j ≤ t ∧ low (itx j v)
  | 0, _, _, _, h => .inl h
  | t + 1, v, f, hv, h => by
    have hb := fl_bd hv
    rcases itf_bit t (fl v) _ hb h with h1 | ⟨j, h1, h2, h3⟩
    · rw [Nat.testBit_and] at h1
      cases hf : f.testBit 30 with
      | false => exact .inl rfl
      | true =>
        rw [hf, Bool.true_and] at h1
        exact .inr ⟨1, Nat.le_refl _, by omega, bit_low _ hb h1⟩
    · exact .inr ⟨j + 1, by omega, by omega, h3⟩
noncomputable def blkrun (n : Nat) (k : Nat → Nat → Bool) (t : Nat) : Nat → Nat → Bool :=
  Nat.rec (motive := fun _ => Nat → Nat → Bool) k (fun _ ih X F => let Z := fstep n X; ih Z (Nat.land F Z)) t
theorem itf_lt : ∀ (t v f : Nat), f < 281474976710656 → itf t v f < 281474976710656
  | 0, _, _, h => h
  | t + 1, v, f, h => itf_lt t _ _ (Nat.lt_of_le_of_lt Nat.and_le_left h)
theorem blkrun_pk {α : Type} (l : List α) (n : Nat) (hn : l.length = n) (k : Nat → Nat → Bool) : ∀ (t : Nat) (x f : α → Nat), (∀ v ∈ l, bd (x v)) → (∀ v ∈ l, f v < 281474976710656) →
    blkrun n k t (pk (l.map x)) (pk (l.map f)) = k (pk (l.map fun v => itx t (x v))) (pk (l.map fun v => itf t (x v) (f v)))
  | 0, _, _, _, _ => rfl
  | t + 1, x, f, hx, hf => by
    have h1 : ∀ v ∈ l, bd (fl (x v)) := fun v hv => fl_bd (hx v hv)
    show blkrun n k t (fstep n (pk (l.map x))) (Nat.land (pk (l.map f)) (fstep n (pk (l.map x)))) = _
    rw [fstep_pk l n hn x hx]
    rw [pk_and l _ _ hf (fun v hv => by have := h1 v hv; unfold bd at this; omega)]
    exact blkrun_pk l n hn k t _ _ h1 (fun v hv => Nat.lt_of_le_of_lt Nat.and_le_left (hf v hv))
/-- Behind a block: each state has been low; the next block. -/
noncomputable def after (n : Nat) (ih : Nat → Bool) (X F : Nat) : Bool :=
  Nat.rec (motive := fun _ => Bool) (Nat.rec (motive := fun _ => Bool) false (fun y _ => ih (Nat.succ y)) X) (fun _ _ => false) (Nat.land F (rp n 1073741824))
noncomputable def run (n : Nat) (b : Nat) : Nat → Bool :=
  Nat.rec (motive := fun _ => Nat → Bool) (fun _ => true) (fun _ ih X => blkrun n (after n ih) 50 X (rp n 2147483647)) b
theorem after_true {n : Nat} {ih : Nat → Bool} {X F : Nat} (h : after n ih X F = true) : Nat.land F (rp n 1073741824) = 0 ∧ ih X = true := by
  unfold after at h
  cases hF : Nat.land F (rp n 1073741824) with
  | zero =>
    rw [hF] at h
    cases X with
    | zero => cases h
    | succ y => exact ⟨rfl, h⟩
  | succ y => rw [hF] at h; cases h
theorem run_pk {α : Type} (l : List α) (n : Nat) (hn : l.length = n) : ∀ (b : Nat) (x : α → Nat), (∀ v ∈ l, bd (x v)) → run n b (pk (l.map x)) = true →
    ∀ v ∈ l, ∀ c, c < b → ∃ j, 50 * c < j ∧ j ≤ 50 * c + 50 ∧ low (itx j (x v))
  | 0, _, _, _ => fun _ _ c hc => absurd hc (Nat.not_lt_zero c)
  | b + 1, x, hx, h => by
    have h : blkrun n (after n (run n b)) 50 (pk (l.map x)) (rp n 2147483647) = true := h
    rw [pk_rp l n 2147483647 hn, blkrun_pk l n hn _ 50 x _ hx (fun _ _ => by decide)] at h
    have hz := after_true h
    obtain ⟨h1, h2⟩ := hz
    rw [pk_rp l n _ hn, pk_and l _ _ (fun v _ => itf_lt _ _ _ (by decide)) (fun _ _ => by decide)] at h1
    have h3 := pk_zero l _ h1
    have ih := run_pk l n hn b (fun v => itx 50 (x v)) (fun v hv => itx_bd 50 _ (hx v hv)) h2
    intro v hv c hc
    cases c with
    | zero =>
      have h4 : (itf 50 (x v) 2147483647 &&& 1073741824).testBit 30 = false := by rw [h3 v hv]; decide
      rw [Nat.testBit_and, show (1073741824 : Nat).testBit 30 = true from by decide, Bool.and_true] at h4
      rcases itf_bit 50 (x v) _ (hx v hv) h4 with h5 | ⟨j, h5, h6, h7⟩
      · exact absurd h5 (by decide)
      · exact ⟨j, by omega, by omega, h7⟩
    | succ c =>
      obtain ⟨j, h4, h5, h6⟩ := ih v hv c (by omega)
      refine ⟨50 + j, by omega, by omega, ?_⟩
      rw [itx_add]
      exact h6
/-- n states, each c times the one before it. -/
def mkL : Nat → Nat → Nat → List Nat → List Nat
  | 0, _, _, l => l
  | i + 1, s, c, l => mkL i (s * c % 2147483647) c (s :: l)
theorem mkL_mem : ∀ (n s c : Nat) (l : List Nat), s < 2147483647 → (∀ v ∈ l, v ∈ mkL n s c l) ∧ ∀ i, i < n → s * c ^ i % 2147483647 ∈ mkL n s c l
  | 0, _, _, l, _ => ⟨fun v hv => hv, fun i hi => absurd hi (Nat.not_lt_zero i)⟩
  | n + 1, s, c, l, hs => by
    obtain ⟨h1, h2⟩ := mkL_mem n (s * c % 2147483647) c (s :: l) (Nat.mod_lt _ (by decide))
    refine ⟨fun v hv => h1 v (List.mem_cons_of_mem _ hv), fun i hi => ?_⟩
    cases i with
    | zero =>
      rw [Nat.pow_zero, Nat.mul_one, Nat.mod_eq_of_lt hs]
      exact h1 s (List.mem_cons_self ..)
    | succ i =>
      have h := h2 i (by omega)
      have e : s * c % 2147483647 * c ^ i % 2147483647 = s * c ^ (i + 1) % 2147483647 := by
        rw [Nat.mul_mod, Nat.mod_mod, ← Nat.mul_mod, Nat.mul_assoc, Nat.pow_succ, Nat.mul_comm c]
      rw [← e]
      exact h
theorem mkL_length : ∀ (n s c : Nat) (l : List Nat), (mkL n s c l).length = n + l.length
  | 0, _, _, l => by rw [Nat.zero_add]; rfl
  | n + 1, s, c, l => by show (mkL n _ c (s :: l)).length = _; rw [mkL_length, List.length_cons]; omega
theorem mkL_bd : ∀ (n s c : Nat) (l : List Nat), bd s → (∀ v ∈ l, bd v) → ∀ v ∈ mkL n s c l, bd v
  | 0, _, _, _, _, h => h
  | n + 1, s, c, l, hs, h => mkL_bd n _ c (s :: l) (by have := Nat.mod_lt (s * c) (show 0 < 2147483647 by decide); unfold bd; omega) (fun v hv => by
    rcases List.mem_cons.1 hv with e | hv
    · rw [e]; exact hs
    · exact h v hv)
noncomputable def mkAfter (ih : Nat → Nat → Bool) (s acc : Nat) : Bool :=
  Nat.rec (motive := fun _ => Bool) false (fun y _ => Nat.rec (motive := fun _ => Bool) false (fun z _ => ih (Nat.succ y) (Nat.succ z)) acc) s
noncomputable def mk (k : Nat → Bool) (c n : Nat) : Nat → Nat → Bool :=
  Nat.rec (motive := fun _ => Nat → Nat → Bool) (fun _ acc => k acc) (fun _ ih s acc => mkAfter ih (Nat.mod (Nat.mul s c) 2147483647) (Nat.add s (Nat.mul 281474976710656 acc))) n
theorem mkAfter_true {ih : Nat → Nat → Bool} {s acc : Nat} (h : mkAfter ih s acc = true) : ih s acc = true := by
  unfold mkAfter at h
  cases s with
  | zero => cases h
  | succ y =>
    cases acc with
    | zero => cases h
    | succ z => exact h
theorem mk_pk (k : Nat → Bool) : ∀ (n s c : Nat) (l : List Nat), mk k c n s (pk l) = true → k (pk (mkL n s c l)) = true
  | 0, _, _, _, h => h
  | n + 1, s, c, l, h => by
    have h' : mkAfter (mk k c n) (s * c % 2147483647) (pk (s :: l)) = true := h
    exact mk_pk k n (s * c % 2147483647) c (s :: l) (mkAfter_true h')
theorem mm (A B : Nat) : A * B % 2147483647 = A % 2147483647 * B % 2147483647 := by simp [Nat.mul_mod]
noncomputable def chunk (n b c s : Nat) : Bool := mk (run n b) c n s 0
theorem chunk_low (n b c s : Nat) (hs : s < 2147483647) (h : chunk n b c s = true) : ∀ i, i < n → ∀ d, d < b → ∃ j, 50 * d < j ∧ j ≤ 50 * d + 50 ∧ s * c ^ i * 48271 ^ j % 2147483647 < 1073741824 := by
  intro i hi d hd
  have h1 := mk_pk (run n b) n s c [] h
  have h2 := run_pk (mkL n s c []) n (by rw [mkL_length]; rfl) b id (mkL_bd n s c [] (by unfold bd; omega) (fun v hv => by cases hv)) (by rw [List.map_id]; exact h1) _ ((mkL_mem n s c [] hs).2 i hi) d hd
  obtain ⟨j, h3, h4, h5⟩ := h2
  refine ⟨j, h3, h4, ?_⟩
  have h6 := itx_mod j (s * c ^ i % 2147483647)
  have h5' : low (itx j (s * c ^ i % 2147483647)) := h5
  have e : s * c ^ i * 48271 ^ j % 2147483647 = s * c ^ i % 2147483647 * 48271 ^ j % 2147483647 := mm _ _
  rw [e, ← h6]
  exact h5'
/-- k chunks, the first state of each d times that of the one before it. -/
noncomputable def chunks (n b c d k : Nat) : Nat → Bool :=
  Nat.rec (motive := fun _ => Nat → Bool) (fun _ => true) (fun _ ih s => Bool.rec (motive := fun _ => Bool) false (ih (Nat.mod (Nat.mul s d) 2147483647)) (chunk n b c s)) k
theorem chunks_true {n b c d k s : Nat} (h : chunks n b c d (k + 1) s = true) : chunk n b c s = true ∧ chunks n b c d k (s * d % 2147483647) = true := by
  have h' : Bool.rec (motive := fun _ => Bool) false (chunks n b c d k (s * d % 2147483647)) (chunk n b c s) = true := h
  cases hc : chunk n b c s with
  | false => rw [hc] at h'; cases h'
  | true => rw [hc] at h'; exact ⟨rfl, h'⟩
theorem chunks_low (n b c d : Nat) : ∀ (k s : Nat), s < 2147483647 → chunks n b c d k s = true → ∀ r, r < k → ∀ i, i < n → ∀ e, e < b → ∃ j, 50 * e < j ∧ j ≤ 50 * e + 50 ∧ s * d ^ r * c ^ i * 48271 ^ j % 2147483647 < 1073741824
  | 0, _, _, _ => fun r hr => absurd hr (Nat.not_lt_zero r)
  | k + 1, s, hs, h => by
    obtain ⟨h1, h2⟩ := chunks_true h
    intro r hr i hi e he
    cases r with
    | zero =>
      rw [Nat.pow_zero, Nat.mul_one]
      exact chunk_low n b c s hs h1 i hi e he
    | succ r =>
      obtain ⟨j, h3, h4, h5⟩ := chunks_low n b c d k _ (Nat.mod_lt _ (by decide)) h2 r (by omega) i hi e he
      refine ⟨j, h3, h4, ?_⟩
      have e1 : s * d ^ (r + 1) * c ^ i * 48271 ^ j = s * d * (d ^ r * c ^ i * 48271 ^ j) := by
        rw [Nat.pow_succ, Nat.mul_comm (d ^ r) d, ← Nat.mul_assoc s d, Nat.mul_assoc (s * d), Nat.mul_assoc (s * d)]
      have e2 : s * d % 2147483647 * d ^ r * c ^ i * 48271 ^ j = s * d % 2147483647 * (d ^ r * c ^ i * 48271 ^ j) := by
        rw [Nat.mul_assoc (s * d % 2147483647), Nat.mul_assoc (s * d % 2147483647)]
      rw [e2] at h5
      rw [e1, mm]
      exact h5
end Go.Proofs.Ytcgecgagecobeaa
