/- deal.Read as a whole; Atoi; board.Read. -/
import Derived.Test.YtalklogopepjpaaDoorBN
namespace Go.Proofs.YtalklogopepjpaaDoor.Ca
open Go.RowKit
open Go.Proofs.DB (Pd Rd)

theorem dread_calls (l : List UInt8) (hl : l.length ≤ 140737488355328) (w : World) (he : EnvB w) : Calls Tryd.prog 36 #[strv l] w fun e w' => e = .returned (rdV (rdD l)) ∧ Below w.heap.size w w' := by
  unfold rdD
  by_cases hf : Lib.hasPrefix l [78, 58] = true
  · rw [if_pos hf]
    generalize hs : Lib.splitN (Lib.trimPrefix l [78, 58]) [32] 5 = ps
    match ps, hs with
    | [a, b, c, d], hs =>
      simp only
      cases h0 : prs a with
      | none => exact dread_f0 l hl hf a b c d hs h0 w he
      | some x =>
        cases h1 : prs b with
        | none => exact dread_f1 l hl hf a b c d hs x h0 h1 w he
        | some y =>
          cases h2 : prs c with
          | none => exact dread_f2 l hl hf a b c d hs x h0 y h1 h2 w he
          | some z =>
            cases h3 : prs d with
            | none => exact dread_f3 l hl hf a b c d hs x h0 y h1 z h2 h3 w he
            | some t =>
              simp only
              by_cases hp : Pd (quad x y z t)
              · rw [if_pos hp]
                exact dread_ok l hl hf a b c d hs x h0 y h1 z h2 t h3 hp w he
              · rw [if_neg hp]
                exact dread_np l hl hf a b c d hs x h0 y h1 z h2 t h3 hp w he
    | [], hs => exact dread_none l hl (.inr (by rw [hs]; decide)) w he
    | [a], hs => exact dread_none l hl (.inr (by rw [hs]; simp)) w he
    | [a, b], hs => exact dread_none l hl (.inr (by rw [hs]; simp)) w he
    | [a, b, c], hs => exact dread_none l hl (.inr (by rw [hs]; simp)) w he
    | a :: b :: c :: d :: f :: r, hs => exact dread_none l hl (.inr (by rw [hs]; simp)) w he
  · rw [if_neg hf]
    exact dread_none l hl (.inl (by simpa using hf)) w he
/-- The deal that deal.Read hands on: none is the zero deal. -/
def rdP (l : List UInt8) : Nat → Nat := (rdD l).getD zerD
theorem rdP_pd (l : List UInt8) : B64 (rdP l) := by
  unfold rdP
  intro i hi
  cases h : rdD l with
  | none => simp only [Option.getD_none, zerD]; decide
  | some p =>
    simp only [Option.getD_some]
    have hp : Pd p := by
      unfold rdD at h
      split at h
      · split at h
        · split at h
          · split at h
            · rename_i hq
              injection h with h
              exact h ▸ hq
            · cases h
          · cases h
        · cases h
      · cases h
    exact Nat.lt_trans (hp.lt i hi) (by decide)
theorem dread_p (l : List UInt8) (hl : l.length ≤ 140737488355328) (w : World) (he : EnvB w) : Calls Tryd.prog 36 #[strv l] w fun e w' => (∃ x : Int, e = .returned (.tuple #[.agg #[.int .u64 ((rdP l) 0 : Nat), .int .u64 ((rdP l) 1 : Nat), .int .u64 ((rdP l) 2 : Nat), .int .u64 ((rdP l) 3 : Nat)], .int .i64 x])) ∧ Below w.heap.size w w' := by
  refine (dread_calls l hl w he).mono ?_
  rintro e w' ⟨rfl, hb⟩
  refine ⟨?_, hb⟩
  unfold rdP
  cases rdD l with
  | none => exact ⟨61, rfl⟩
  | some p => exact ⟨0, rfl⟩
/-- The number that Atoi hands on. -/
def bnum (l : List UInt8) : Int := match Lib.atoiAll l with | .ok v => v | .range => Lib.atoiSat l | _ => 0
theorem below_bytes (w : World) (T : TypeId) (t) : Below w.heap.size w (Lib.bytesWorld w T t) := by
  unfold Lib.bytesWorld
  have h1 : Below w.heap.size w (w.drew.alloc (Obj.cells (Lib.bytesCells w T t) T)) := (Below.refl _ _).drew.alloc (Nat.le_refl _) _
  refine h1.trans ⟨rfl, rfl, rfl, by simp [World.freeze], fun k hk => ?_⟩
  simp only [World.freeze, Nat.one_ne_zero, if_false, Array.getElem?_modify]
  rw [if_neg (by show ¬ w.heap.size = k; omega)]
theorem atoi_calls (l : List UInt8) (hl : l.length ≤ 140737488355328) (w : World) (he : EnvB w) :
    Calls Tryd.prog 35 #[strv l] w fun e w' => (∃ ev, e = .returned (.tuple #[.int .i64 (bnum l), ev])) ∧ Below w.heap.size w w' := by
  have hs : (ByteArray.mk l.toArray).size ≤ 281474976710656 := by show l.toArray.size ≤ _; simp; omega
  unfold bnum
  cases hc : Lib.atoiAll l with
  | ok v => exact (Tryd.strconv_Atoi_ok ⟨l.toArray⟩ (by omega) v (by simpa using hc) w).mono fun e w' ⟨h, k⟩ => ⟨⟨_, h⟩, by
      rcases k with rfl | ⟨t, rfl⟩
      · exact Below.refl _ _
      · exact below_bytes _ _ _⟩
  | range =>
    obtain ⟨te, pe, hv⟩ := he.er
    exact (Tryd.strconv_Atoi_range ⟨l.toArray⟩ hs (by simpa using hc) (.iface te pe) w hv (.inr ⟨te, pe, rfl⟩)).mono fun e w' ⟨N, h1, h2, h3, h4⟩ => ⟨⟨_, by simpa using h1⟩, h4⟩
  | _ =>
    obtain ⟨te, pe, hv⟩ := he.es
    exact (Tryd.strconv_Atoi_syntax ⟨l.toArray⟩ hs (by simpa using hc) (.iface te pe) w hv (.inr ⟨te, pe, rfl⟩)).mono fun e w' ⟨N, h1, h2, h3, h4⟩ => ⟨⟨_, h1⟩, h4⟩
/-- What Text returns of any record. -/
theorem btext_any (n : Int) (p : Nat → Nat) (h64 : B64 p) (w : World) (he : EnvB w) :
    Calls Tryd.prog 20 #[.agg #[.int .i64 n, .int .u64 (p 0 : Nat), .int .u64 (p 1 : Nat), .int .u64 (p 2 : Nat), .int .u64 (p 3 : Nat)]] w fun e w' =>
      e = .returned (if 1 ≤ n ∧ n ≤ 128 then (if Rd p then .tuple #[strv (rtx n.toNat p), .int .i64 0] else .tuple #[strv [], .int .i64 60]) else .tuple #[strv [], .int .i64 70]) ∧ Below w.heap.size w w' := by
  by_cases hn : 1 ≤ n ∧ n ≤ 128
  · rw [if_pos hn]
    obtain ⟨m, rfl⟩ : ∃ m : Nat, n = m := ⟨n.toNat, by omega⟩
    by_cases hp : Rd p
    · rw [if_pos hp, Int.toNat_natCast]
      exact btext_yes m (by omega) (by omega) p hp w he
    · rw [if_neg hp]
      exact btext_bad m p 60 (by decide) (fun w => fault_deal m (by omega) (by omega) p h64 hp w) w
  · rw [if_neg hn]
    exact btext_bad n p 70 (by decide) (fun w => fault_board n (by omega) p w) w
/-- What Read returns: the record whose text it is. -/
def rdB (l : List UInt8) : Option (Nat × (Nat → Nat)) :=
  match Lib.splitN l [32] 4 with
  | [a, _, _, d] => if 1 ≤ bnum a ∧ bnum a ≤ 128 ∧ Rd (rdP d) ∧ rtx (bnum a).toNat (rdP d) = l then some ((bnum a).toNat, rdP d) else none
  | _ => none
def rbV : Option (Nat × (Nat → Nat)) → Value
  | some (n, p) => .tuple #[.agg #[.int .i64 n, .int .u64 (p 0 : Nat), .int .u64 (p 1 : Nat), .int .u64 (p 2 : Nat), .int .u64 (p 3 : Nat)], .int .i64 0]
  | none => .tuple #[.agg #[.int .i64 0, .int .u64 0, .int .u64 0, .int .u64 0, .int .u64 0], .int .i64 71]
end Go.Proofs.YtalklogopepjpaaDoor.Ca
