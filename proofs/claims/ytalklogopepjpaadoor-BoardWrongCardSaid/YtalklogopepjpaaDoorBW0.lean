/- BoardChanges: comparisons, the cells of changes and of counts. -/
import Derived.Test.YtalklogopepjpaaDoorBS
namespace Go.Proofs.YtalklogopepjpaaDoor.Ca
open Go.RowKit
open Go.Proofs.DB (Rd own chg Same doall stepc cnt wo)

theorem eqDl (a0 a1 a2 a3 b0 b1 b2 b3 : Int) (w : World) : (Op.equalIn 10000 39 (.agg #[.int .u64 a0, .int .u64 a1, .int .u64 a2, .int .u64 a3]) (.agg #[.int .u64 b0, .int .u64 b1, .int .u64 b2, .int .u64 b3])).run Tryd.prog w = .ok (decide (a0 = b0 ∧ a1 = b1 ∧ a2 = b2 ∧ a3 = b3)) w := by
  have u3 := Tryd.underlying37
  have a3' := Tryd.isAgg37
  have z3 := Tryd.sizeOf37
  rw [show (10000 : Nat) = 9999 + 1 from rfl, Op.equalIn]
  simp only [Sem.run_bind, run_underlying Tryd.underlying39, Result.andThen_ok]
  simp only [Std.Legacy.Range.forIn_eq_forIn_range', Std.Legacy.Range.size, Nat.sub_zero, Nat.add_sub_cancel, Nat.div_one, List.range'_succ, List.range'_zero, List.forIn_cons, List.forIn_nil]
  go_simp
  by_cases h1 : a0 = b0 <;> by_cases h2 : a1 = b1 <;> by_cases h3 : a2 = b2 <;> by_cases h4 : a3 = b3 <;> simp [h1, h2, h3, h4]
theorem eqI4 (a0 a1 a2 a3 b0 b1 b2 b3 : Int) (w : World) : (Op.equalIn 10000 33 (.agg #[.int .i64 a0, .int .i64 a1, .int .i64 a2, .int .i64 a3]) (.agg #[.int .i64 b0, .int .i64 b1, .int .i64 b2, .int .i64 b3])).run Tryd.prog w = .ok (decide (a0 = b0 ∧ a1 = b1 ∧ a2 = b2 ∧ a3 = b3)) w := by
  have u3 := Tryd.underlying3
  have a3' := Tryd.isAgg3
  have z3 := Tryd.sizeOf3
  rw [show (10000 : Nat) = 9999 + 1 from rfl, Op.equalIn]
  simp only [Sem.run_bind, run_underlying Tryd.underlying33, Result.andThen_ok]
  simp only [Std.Legacy.Range.forIn_eq_forIn_range', Std.Legacy.Range.size, Nat.sub_zero, Nat.add_sub_cancel, Nat.div_one, List.range'_succ, List.range'_zero, List.forIn_cons, List.forIn_nil]
  go_simp
  by_cases h1 : a0 = b0 <;> by_cases h2 : a1 = b1 <;> by_cases h3 : a2 = b2 <;> by_cases h4 : a3 = b3 <;> simp [h1, h2, h3, h4]
theorem eqCh (a0 a1 a2 : Int) (w : World) : (Op.equalIn 10000 45 (.agg #[.int .u8 a0, .int .u8 a1, .int .u8 a2]) (.agg #[.int .u8 a0, .int .u8 a1, .int .u8 a2])).run Tryd.prog w = .ok true w := by
  have u3 := Tryd.underlying5
  have a3' := Tryd.isAgg5
  have z3 := Tryd.sizeOf5
  rw [show (10000 : Nat) = 9999 + 1 from rfl, Op.equalIn]
  simp only [Sem.run_bind, run_underlying Tryd.underlying45, Result.andThen_ok]
  go_simp
theorem chV_at (p q : Nat → Nat) : ∀ (l : List Nat) (k c : Nat), l[k]? = some c → (chV p q l)[k * 3]? = some (.int .u8 c) ∧ (chV p q l)[k * 3 + 1]? = some (.int .u8 (own p c : Nat)) ∧ (chV p q l)[k * 3 + 2]? = some (.int .u8 (own q c : Nat))
  | [], k, c, h => by simp at h
  | a :: l, 0, c, h => by
    simp only [List.getElem?_cons_zero, Option.some.injEq] at h
    subst h
    simp [chV]
  | a :: l, k + 1, c, h => by
    have ih := chV_at p q l k c (by simpa using h)
    have e : chV p q (a :: l) = [.int .u8 a, .int .u8 (own p a : Nat), .int .u8 (own q a : Nat)] ++ chV p q l := by simp [chV]
    rw [e, show (k + 1) * 3 = k * 3 + 1 + 1 + 1 by omega]
    simpa using ih
/-- The counts as cells. -/
def cntV (p : Nat → Nat) (l : List Nat) : Array Value := #[.int .i64 (cnt p 0 l : Nat), .int .i64 (cnt p 1 l : Nat), .int .i64 (cnt p 2 l : Nat), .int .i64 (cnt p 3 l : Nat)]
theorem cntV_at (p : Nat → Nat) (l : List Nat) (s : Nat) (hs : s < 4) : (cntV p l)[s]? = some (.int .i64 (cnt p s l : Nat)) := by
  obtain rfl | rfl | rfl | rfl : s = 0 ∨ s = 1 ∨ s = 2 ∨ s = 3 := by omega
  all_goals rfl
theorem cntV_set (p : Nat → Nat) (l : List Nat) (c : Nat) : (cntV p l).setIfInBounds (own p c) (.int .i64 ((cnt p (own p c) l : Nat) + 1 : Int)) = cntV p (l ++ [c]) := by
  unfold cntV
  simp only [DB.cnt_snoc]
  obtain e | e | e | e := DB.own_cases p c
  all_goals
    rw [e]
    simp
theorem cntV_same {p q : Nat → Nat} (hp : Rd p) (hq : Rd q) : cntV p (chg p q 52) = cntV q (chg p q 52) := by
  unfold cntV
  rw [DB.cnt_same hp hq (by decide : 0 < 4), DB.cnt_same hp hq (by decide : 1 < 4), DB.cnt_same hp hq (by decide : 2 < 4), DB.cnt_same hp hq (by decide : 3 < 4)]
theorem dc_same {p q : Nat → Nat} (h : ∀ i, i < 4 → p i = q i) : (#[.int .u64 (p 0 : Nat), .int .u64 (p 1 : Nat), .int .u64 (p 2 : Nat), .int .u64 (p 3 : Nat)] : Array Value) = #[.int .u64 (q 0 : Nat), .int .u64 (q 1 : Nat), .int .u64 (q 2 : Nat), .int .u64 (q 3 : Nat)] := by
  rw [h 0 (by decide), h 1 (by decide), h 2 (by decide), h 3 (by decide)]
/-- The two stores of a change. -/
theorem dc_step (p q z : Nat → Nat) (c : Nat) :
    ((#[.int .u64 (z 0 : Nat), .int .u64 (z 1 : Nat), .int .u64 (z 2 : Nat), .int .u64 (z 3 : Nat)] : Array Value).setIfInBounds (own p c) (.int .u64 (wo (z (own p c)) (2 ^ c) : Nat))).setIfInBounds (own q c) (.int .u64 ((if own q c = own p c then wo (z (own p c)) (2 ^ c) else z (own q c)) ||| 2 ^ c : Nat)) = #[.int .u64 ((stepc p q z c) 0 : Nat), .int .u64 ((stepc p q z c) 1 : Nat), .int .u64 ((stepc p q z c) 2 : Nat), .int .u64 ((stepc p q z c) 3 : Nat)] := by
  unfold DB.stepc
  obtain e | e | e | e := DB.own_cases p c <;> obtain g | g | g | g := DB.own_cases q c
  all_goals
    rw [e, g]
    simp
theorem chg_zero_iff {p q : Nat → Nat} (hp : Rd p) (hq : Rd q) : (chg p q 52).length = 0 ↔ (p 0 = q 0 ∧ p 1 = q 1 ∧ p 2 = q 2 ∧ p 3 = q 3) := by
  constructor
  · intro h
    have h2 := DB.own_ext hp hq (DB.chg_nil 52 (List.length_eq_zero_iff.1 h))
    exact ⟨h2 0 (by decide), h2 1 (by decide), h2 2 (by decide), h2 3 (by decide)⟩
  · rintro ⟨h0, h1, h2, h3⟩
    have e : chg p q 52 = chg p p 52 := DB.chg_congr 52 fun c _ => ⟨rfl, by unfold DB.own; rw [h0, h1, h2]⟩
    rw [e, DB.chg_self]
    rfl
end Go.Proofs.YtalklogopepjpaaDoor.Ca
