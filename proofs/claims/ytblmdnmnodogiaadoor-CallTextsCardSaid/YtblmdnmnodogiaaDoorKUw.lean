/- CallTexts: the string of calls, and the calls with a string, are as the reference has them; the argument is not modified, results share no memory. -/
import Derived.Test.YtblmdnmnodogiaaDoorKU
namespace Go.Proofs.YtblmdnmnodogiaaDoor
open Go.RowKit

set_option maxRecDepth 100000 in
set_option maxHeartbeats 8000000 in
theorem callTexts_walk (v : Value) (xs : List Nat) (s : ByteArray) (h8 : ∀ x ∈ xs, x < 256) (_hs : s.size ≤ 140737488355328) (w : World) (hS : SlB w v xs) (he : Env w) :
    Calls Tryd.prog 4 #[v, .string s] w fun e w' => e = .returned (.bool true) ∧ Below w.heap.size w w' := by
  have AW := Lib.hid (fun W (hb : Below w.heap.size w W) => awake_calls W (he.below hb))
  obtain ⟨l, hl⟩ : ∃ l, s.data.toList = l := ⟨_, rfl⟩
  have hsl : s = ⟨l.toArray⟩ := by rw [← hl]
  subst hsl
  clear hl
  have S0 := hS
  obtain ⟨p, c, rfl, -, -⟩ := S0
  obtain ⟨n, hn⟩ : ∃ n, xs.length = n := ⟨_, rfl⟩
  obtain ⟨m, hm⟩ : ∃ n, l.length = n := ⟨_, rfl⟩
  by_cases h1 : 400 < n
  · have h1' : (400 : Int) < n := by omega
    rw [hn]
    clear hS he hm
    go_enter Tryd.func4, Tryd.ntmps4
    go_wp2_with (go_at_call 11; refine (AW.out _ (Below.refl _ _)).mono ?_; rintro e w1 ⟨rfl, hb1⟩)
    refine bodyPost_ret (by simp [results, Tryd.results4, go_sem]) rfl ⟨rfl, ?_⟩
    exact hb1
  · by_cases h2 : 1300 < m
    · have h1' : ¬ (400 : Int) < n := by omega
      have h2' : (1300 : Int) < l.length := by omega
      rw [hn]
      clear hS he hm
      go_enter Tryd.func4, Tryd.ntmps4
      go_wp2_with (go_at_call 11; refine (AW.out _ (Below.refl _ _)).mono ?_; rintro e w1 ⟨rfl, hb1⟩)
      refine bodyPost_ret (by simp [results, Tryd.results4, go_sem]) rfl ⟨rfl, ?_⟩
      exact hb1
    · have h1' : ¬ (400 : Int) < n := by omega
      have h2' : ¬ (1300 : Int) < l.length := by omega
      have T := Lib.hid (texts_calls _ xs l h8 (by omega) (by omega) w hS he)
      rw [hn] at T ⊢
      clear hS he hm
      go_enter Tryd.func4, Tryd.ntmps4
      go_wp2_with (first | (go_at_call 12; refine T.out.mono ?_; rintro e w1 ⟨rfl, hb1⟩) | (go_at_call 11; refine (AW.out _ hb1).mono ?_; rintro e w2 ⟨rfl, hb2⟩))
      refine bodyPost_ret (by simp [results, Tryd.results4, go_sem]) rfl ⟨rfl, ?_⟩
      exact hb1.trans (hb2.mono hb1.size)
end Go.Proofs.YtblmdnmnodogiaaDoor
