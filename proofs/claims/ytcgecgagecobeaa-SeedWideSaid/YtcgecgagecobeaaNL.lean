import Derived.Test.YtcgecgagecobeaaNA
namespace Go.Proofs.Ytcgecgagecobeaa
open Go.RowKit
/-- L is how many bits n has. -/
def isLen (n L : Nat) : Prop := n < 2 ^ L ∧ (n = 0 → L = 0) ∧ (n ≠ 0 → 1 ≤ L ∧ 2 ^ (L - 1) ≤ n)
instance (n L : Nat) : Decidable (isLen n L) := by unfold isLen; infer_instance
def tab8 : ByteArray := { data := #[0, 1, 2, 2, 3, 3, 3, 3, 4, 4, 4, 4, 4, 4, 4, 4, 5, 5, 5, 5, 5, 5, 5, 5, 5, 5, 5, 5, 5, 5, 5, 5, 6, 6, 6, 6, 6, 6, 6, 6, 6, 6, 6, 6, 6, 6, 6, 6, 6, 6, 6, 6, 6, 6, 6, 6, 6, 6, 6, 6, 6, 6, 6, 6, 7, 7, 7, 7, 7, 7, 7, 7, 7, 7, 7, 7, 7, 7, 7, 7, 7, 7, 7, 7, 7, 7, 7, 7, 7, 7, 7, 7, 7, 7, 7, 7, 7, 7, 7, 7, 7, 7, 7, 7, 7, 7, 7, 7, 7, 7, 7, 7, 7, 7, 7, 7, 7, 7, 7, 7, 7, 7, 7, 7, 7, 7, 7, 7, 8, 8, 8, 8, 8, 8, 8, 8, 8, 8, 8, 8, 8, 8, 8, 8, 8, 8, 8, 8, 8, 8, 8, 8, 8, 8, 8, 8, 8, 8, 8, 8, 8, 8, 8, 8, 8, 8, 8, 8, 8, 8, 8, 8, 8, 8, 8, 8, 8, 8, 8, 8, 8, 8, 8, 8, 8, 8, 8, 8, 8, 8, 8, 8, 8, 8, 8, 8, 8, 8, 8, 8, 8, 8, 8, 8, 8, 8, 8, 8, 8, 8, 8, 8, 8, 8, 8, 8, 8, 8, 8, 8, 8, 8, 8, 8, 8, 8, 8, 8, 8, 8, 8, 8, 8, 8, 8, 8, 8, 8, 8, 8, 8, 8, 8, 8, 8, 8, 8, 8, 8, 8, 8, 8, 8, 8, 8, 8] }
set_option maxRecDepth 100000 in
theorem tab8_size : tab8.size = 256 := by decide
set_option maxRecDepth 10000 in
theorem tab8_all : ∀ k : Fin 256, isLen k.1 (tab8.data[k.1]!).toNat ∧ (tab8.data[k.1]!).toNat ≤ 8 := by decide
theorem tab8_at (k : Nat) (h : k < tab8.size) : isLen k (tab8[k]'h).toNat ∧ (tab8[k]'h).toNat ≤ 8 := by
  have h1 : k < 256 := by rw [tab8_size] at h; exact h
  have h2 := tab8_all ⟨k, h1⟩
  have h3 : k < tab8.data.size := h
  have e : tab8.data[k]! = tab8[k]'h := by rw [getElem!_pos tab8.data k h3]; rfl
  simp only [e] at h2
  exact h2
theorem isLen_shift (x s t : Nat) (h : isLen (x / 2 ^ s) t) (hne : x / 2 ^ s ≠ 0) : isLen x (s + t) := by
  obtain ⟨h1, _, h3⟩ := h
  obtain ⟨h4, h5⟩ := h3 hne
  have hp : 0 < 2 ^ s := Nat.pow_pos (by decide)
  refine ⟨?_, fun e => by subst e; simp at hne, fun _ => ⟨by omega, ?_⟩⟩
  · rw [Nat.div_lt_iff_lt_mul hp] at h1
    rw [Nat.add_comm, Nat.pow_add]; exact h1
  · rw [Nat.le_div_iff_mul_le hp] at h5
    rw [show s + t - 1 = (t - 1) + s from by omega, Nat.pow_add]; exact h5
def lenP (x : Int) (s : Int) : Prop := ∃ n L : Nat, x = n ∧ s = L ∧ isLen n L ∧ L ≤ 32
theorem lenP_0 (x : Int) (h : x.toNat < tab8.size) (h0 : 0 ≤ x) : lenP x (wrap64 (wrap64 ((tab8[x.toNat]'h).toNat : Int))) := by
  obtain ⟨h1, h2⟩ := tab8_at _ h
  refine ⟨x.toNat, _, by omega, ?_, h1, by omega⟩
  unfold wrap64; omega
theorem lenP_s (s : Nat) (hs : s ≤ 24) (P : Int) (hP : P = (2 ^ s : Nat)) (x : Int) (h : (x / P).toNat < tab8.size) (h0 : 0 ≤ x) (h1 : 1 ≤ x / P) : lenP x (wrap64 (s + wrap64 ((tab8[(x / P).toNat]'h).toNat : Int))) := by
  obtain ⟨h2, h3⟩ := tab8_at _ h
  subst hP
  obtain ⟨n, rfl⟩ := Int.eq_ofNat_of_zero_le h0
  have e : ((n : Int) / (2 ^ s : Nat)).toNat = n / 2 ^ s := by rw [← Int.natCast_ediv]; rfl
  refine ⟨n, s + (tab8[((n : Int) / (2 ^ s : Nat)).toNat]'h).toNat, rfl, ?_, isLen_shift _ _ _ ?_ ?_, by omega⟩
  · unfold wrap64; omega
  · rw [← e]; exact h2
  · rw [← e]; omega
theorem lenP_24 (x : Int) (h : (x / 65536 / 256).toNat < tab8.size) (h0 : 0 ≤ x) (h1 : 256 ≤ x / 65536) : lenP x (wrap64 (24 + wrap64 ((tab8[(x / 65536 / 256).toNat]'h).toNat : Int))) := by
  have e : x / 65536 / 256 = x / 16777216 := by omega
  have := lenP_s 24 (by decide) 16777216 (by decide) x (by rw [← e]; exact h) h0 (by omega)
  simp only [e]
  exact this
theorem lenP_16 (x : Int) (h : (x / 65536).toNat < tab8.size) (h0 : 0 ≤ x) (h1 : 65536 ≤ x) : lenP x (wrap64 (16 + wrap64 ((tab8[(x / 65536).toNat]'h).toNat : Int))) :=
  lenP_s 16 (by decide) 65536 (by decide) x h h0 (by omega)
theorem lenP_8 (x : Int) (h : (x / 256).toNat < tab8.size) (h0 : 0 ≤ x) (h1 : 256 ≤ x) : lenP x (wrap64 (8 + wrap64 ((tab8[(x / 256).toNat]'h).toNat : Int))) :=
  lenP_s 8 (by decide) 256 (by decide) x h h0 (by omega)
def LenPost (x : Int) (w : World) (e : Ending) (w' : World) : Prop := ∃ s : Int, e = .returned (.int .i64 s) ∧ lenP x s ∧ w = w'
set_option maxRecDepth 100000 in
set_option maxHeartbeats 1000000 in
theorem len32_calls (x : Int) (hx : 0 ≤ x ∧ x ≤ 4294967295) (w : World) :
    Calls Try.prog 97 #[.int .u32 x] w (LenPost x w) := by
  by_cases h1 : 65536 ≤ x
  · by_cases h2 : 256 ≤ x / 65536
    · go_enter Try.func97, Try.ntmps97
      go_wp2
      go_ret
      exact ⟨_, rfl, lenP_24 x (by rw [tab8_size]; omega) hx.1 h2, rfl⟩
    · go_enter Try.func97, Try.ntmps97
      go_wp2
      go_ret
      exact ⟨_, rfl, lenP_16 x (by rw [tab8_size]; omega) hx.1 h1, rfl⟩
  · by_cases h2 : 256 ≤ x
    · go_enter Try.func97, Try.ntmps97
      go_wp2
      go_ret
      exact ⟨_, rfl, lenP_8 x (by rw [tab8_size]; omega) hx.1 h2, rfl⟩
    · go_enter Try.func97, Try.ntmps97
      go_wp2
      go_ret
      exact ⟨_, rfl, lenP_0 x (by rw [tab8_size]; omega) hx.1, rfl⟩
end Go.Proofs.Ytcgecgagecobeaa
