/- The examples' map. -/
import Derived.Test.YtalklogopepjpaaDoorBQ
import Derived.Maps.RangeWalk
namespace Go.Proofs.YtalklogopepjpaaDoor.Ca
open Go.RowKit
open Go.Maps (Keyed IsMap)
open Go.Proofs.DB (dlr vul)

/-- How a pair of bytes reads. -/
def R2 (v : Value) : Option (DataW Unit × List MemPlace) :=
  match v with
  | .agg cs => match cs.toList with
    | [.int .u8 a, .int .u8 b] => some (.agg [.lit (.int .u8 a), .lit (.int .u8 b)], [])
    | _ => none
  | _ => none
def pairV (c : Int × Int) : Value := .agg #[.int .u8 c.1, .int .u8 c.2]
theorem r2_mk (c : Int × Int) : R2 (pairV c) = some (.agg [.lit (.int .u8 c.1), .lit (.int .u8 c.2)], []) := rfl
theorem r2_inv (v : Value) (y : DataW Unit × List MemPlace) (h : R2 v = some y) : ∃ c, v = pairV c := by
  unfold R2 at h
  split at h
  · split at h
    · rename_i cs a b hc
      refine ⟨(a, b), ?_⟩
      unfold pairV
      congr 1
      apply Array.ext'
      simpa using hc
    · cases h
  · cases h
def pd2 (a b : Int) : DataW Unit := .agg [.lit (.int .u8 a), .lit (.int .u8 b)]
def kI (n : Int) : Lit := .int .i64 n
def D8 : DataW Unit := ((((((((DataW.map []).put (kI 1) (pd2 0 0)).put (kI 2) (pd2 1 1)).put (kI 3) (pd2 2 2)).put (kI 4) (pd2 3 3)).put (kI 5) (pd2 0 1)).put (kI 16) (pd2 3 2)).put (kI 17) (pd2 0 0)).put (kI 128) (pd2 3 2)
theorem kI_key (n : Int) : WideAt.IsKeyLit (kI n) := by simp [WideAt.IsKeyLit, kI]
theorem kI_ne {x n : Int} (h : x ≠ n) : kI x ≠ kI n := fun e => h (by simpa [kI] using e)
theorem pd2_inj {a b c d : Int} (h : pd2 a b = pd2 c d) : a = c ∧ b = d := by simpa [pd2] using h
theorem d8_at (x a b : Int) (h : ∀ zd, D8.atKey (kI x) zd = pd2 a b) : ∃ n : Nat, x = n ∧ 1 ≤ n ∧ n ≤ 128 ∧ a = (dlr n : Nat) ∧ b = (vul n : Nat) := by
  have m0 : IsMap (DataW.map [] : DataW Unit) := Maps.isMap_empty
  have m1 := m0.put (kI 1) (pd2 0 0)
  have m2 := m1.put (kI 2) (pd2 1 1)
  have m3 := m2.put (kI 3) (pd2 2 2)
  have m4 := m3.put (kI 4) (pd2 3 3)
  have m5 := m4.put (kI 5) (pd2 0 1)
  have m6 := m5.put (kI 16) (pd2 3 2)
  have m7 := m6.put (kI 17) (pd2 0 0)
  unfold D8 at h
  by_cases e8 : x = 128
  · subst e8
    have g := h .nil
    rw [Maps.atKey_put_same m7 (kI_key _)] at g
    obtain ⟨rfl, rfl⟩ := pd2_inj g
    exact ⟨128, rfl, by decide, by decide, by decide, by decide⟩
  · simp only [Maps.atKey_put_other (kI_ne e8)] at h
    by_cases e7 : x = 17
    · subst e7
      have g := h .nil
      rw [Maps.atKey_put_same m6 (kI_key _)] at g
      obtain ⟨rfl, rfl⟩ := pd2_inj g
      exact ⟨17, rfl, by decide, by decide, by decide, by decide⟩
    · simp only [Maps.atKey_put_other (kI_ne e7)] at h
      by_cases e6 : x = 16
      · subst e6
        have g := h .nil
        rw [Maps.atKey_put_same m5 (kI_key _)] at g
        obtain ⟨rfl, rfl⟩ := pd2_inj g
        exact ⟨16, rfl, by decide, by decide, by decide, by decide⟩
      · simp only [Maps.atKey_put_other (kI_ne e6)] at h
        by_cases e5 : x = 5
        · subst e5
          have g := h .nil
          rw [Maps.atKey_put_same m4 (kI_key _)] at g
          obtain ⟨rfl, rfl⟩ := pd2_inj g
          exact ⟨5, rfl, by decide, by decide, by decide, by decide⟩
        · simp only [Maps.atKey_put_other (kI_ne e5)] at h
          by_cases e4 : x = 4
          · subst e4
            have g := h .nil
            rw [Maps.atKey_put_same m3 (kI_key _)] at g
            obtain ⟨rfl, rfl⟩ := pd2_inj g
            exact ⟨4, rfl, by decide, by decide, by decide, by decide⟩
          · simp only [Maps.atKey_put_other (kI_ne e4)] at h
            by_cases e3 : x = 3
            · subst e3
              have g := h .nil
              rw [Maps.atKey_put_same m2 (kI_key _)] at g
              obtain ⟨rfl, rfl⟩ := pd2_inj g
              exact ⟨3, rfl, by decide, by decide, by decide, by decide⟩
            · simp only [Maps.atKey_put_other (kI_ne e3)] at h
              by_cases e2 : x = 2
              · subst e2
                have g := h .nil
                rw [Maps.atKey_put_same m1 (kI_key _)] at g
                obtain ⟨rfl, rfl⟩ := pd2_inj g
                exact ⟨2, rfl, by decide, by decide, by decide, by decide⟩
              · simp only [Maps.atKey_put_other (kI_ne e2)] at h
                by_cases e1 : x = 1
                · subst e1
                  have g := h .nil
                  rw [Maps.atKey_put_same m0 (kI_key _)] at g
                  obtain ⟨rfl, rfl⟩ := pd2_inj g
                  exact ⟨1, rfl, by decide, by decide, by decide, by decide⟩
                · simp only [Maps.atKey_put_other (kI_ne e1)] at h
                  have g := h .nil
                  exact absurd g (by simp [pd2, DataW.atKey])
/-- A map literal's entry, at the operation. -/
theorem wpList_insert_own {H : Type} {P : Program} (w : World) {ops : Array Oper} {rest : List Oper} {o : Oper} {a : Act} {Q : Exit → Act → World → Prop}
    (hg : o.guard = none) (m x v : Operand) (t : TypeId) (hop : o.op = Op.insert t m x v)
    (k e : TypeId) (K : Keyed P k) (ht : P.underlying t = some (.map k e)) (R : Value → Option (DataW H × List MemPlace)) (b n : Nat) (D : DataW H) (B : Nat) (w0 : World)
    (hm : a.eval m = .map (some b)) (hown : w.ownsMap P k R b n D) (hB : B ≤ b) (hbel : Below B w0 w) (hn : n < maxLen) (key val : Value) (kl : Lit) (hx : a.eval x = key) (hv : a.eval v = val) (hkey : keyOf P k key = some kl)
    (d : DataW H) (ps : List MemPlace) (hval : R val = some (d, ps))
    (hK : ∀ w', w'.ownsMap P k R b (n + 1) (D.put kl d) → Below B w0 w' → wpList P ops Q rest (a.put o.dst undef) w') :
    wpList P ops Q (o :: rest) a w := by
  refine wpList_plain hg fun K' hK' => ?_
  obtain ⟨w', hrun, r1, r2⟩ := hown.update K ht hn hkey hval
  have hlt := hown.lt
  unfold Oper.wp
  simp [execOp, hop, hm, hx, hv, hrun, Result.andThen]
  exact hK' _ _ (hK w' r1 (hbel.grown r2 (by omega) (fun k e => by cases e; exact hB)))
end Go.Proofs.YtalklogopepjpaaDoor.Ca
