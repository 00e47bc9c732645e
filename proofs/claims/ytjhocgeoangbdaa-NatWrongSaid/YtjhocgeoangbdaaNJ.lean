/- Walks of nat: decimal, Read. -/
import Derived.Test.YtjhocgeoangbdaaNI
namespace Go.Proofs.Ytjhocgeoangbdaa
open Go.RowKit

def digB (c : UInt8) : Bool := decide (48 ≤ c.toNat) && decide (c.toNat ≤ 57)
/-- decimal digits without leading zeros -/
def decB (l : List UInt8) : Bool := !l.isEmpty && !(decide (l.head? = some 48) && !(l == [48])) && l.all digB
theorem decB_nil (s : ByteArray) (h : s.toList = []) : decB s.data.toList = false := by
  rw [ByteArray.toList_eq] at h
  rw [h]; rfl
theorem head_at (s : ByteArray) (hp : 0 < s.size) : s.data.toList.head? = some (s[0]'hp) := by
  obtain ⟨⟨l⟩⟩ := s
  cases l with
  | nil => simp [ByteArray.size] at hp
  | cons c l => rfl
theorem decB_zero (s : ByteArray) (hp : 0 < s.size) (h : ((s[0]'hp).toNat : Int) = 48) (h2 : (!s.toList == [48]) = true) : decB s.data.toList = false := by
  rw [ByteArray.toList_eq] at h2
  have e := head_at s hp
  have e2 : s[0]'hp = 48 := by
    have h' : (s[0]'hp).toNat = 48 := by omega
    exact UInt8.toNat_inj.1 h'
  rw [e2] at e
  unfold decB
  rw [e]
  simp only [decide_true, Bool.true_and, h2, Bool.not_true, Bool.and_false, Bool.false_and]
theorem decB_bad (s : ByteArray) (k : Nat) (h : k < s.size) (hb : ((s[k]'h).toNat : Int) < 48 ∨ 57 < ((s[k]'h).toNat : Int)) : decB s.data.toList = false := by
  have hm : s[k]'h ∈ s.data.toList := by
    have : s[k]'h = s.data[k]'h := rfl
    rw [this]
    simp
  unfold decB
  have : s.data.toList.all digB = false := by
    rw [List.all_eq_false]
    refine ⟨_, hm, ?_⟩
    unfold digB
    simp only [Bool.and_eq_true, decide_eq_true_eq]
    omega
  rw [this, Bool.and_false]
def allTo (s : ByteArray) (k : Nat) : Prop := ∀ i (h : i < s.size), i < k → 48 ≤ ((s[i]'h).toNat : Int) ∧ ((s[i]'h).toNat : Int) ≤ 57
theorem decB_all (s : ByteArray) (hp : 0 < s.size) (h0 : ((s[0]'hp).toNat : Int) = 48 → (s.toList == [48]) = true) (h : allTo s s.size) : decB s.data.toList = true := by
  rw [ByteArray.toList_eq] at h0
  have e := head_at s hp
  unfold decB
  have h1 : s.data.toList.isEmpty = false := by
    cases hl : s.data.toList with
    | nil => rw [hl] at e; simp at e
    | cons c l => rfl
  have h2 : s.data.toList.all digB = true := by
    rw [List.all_eq_true]
    intro c hc
    obtain ⟨i, hi, rfl⟩ := List.getElem_of_mem hc
    have hi' : i < s.size := by rw [Array.length_toList] at hi; exact hi
    have := h i hi' hi'
    have e3 : s.data.toList[i] = s[i]'hi' := by simp; rfl
    rw [e3]
    unfold digB
    simp only [Bool.and_eq_true, decide_eq_true_eq]
    omega
  rw [h1, h2, e]
  by_cases g : (s[0]'hp) = 48
  · have := h0 (by rw [g]; rfl)
    rw [this]; simp
  · simp [g]
theorem allTo_succ (s : ByteArray) (k : Nat) (h : k < s.size) (ha : allTo s k) (h1 : 48 ≤ ((s[k]'h).toNat : Int)) (h2 : ((s[k]'h).toNat : Int) ≤ 57) : allTo s (k + 1) := by
  intro i hi hk
  by_cases e : i = k
  · subst e; exact ⟨h1, h2⟩
  · exact ha i hi (by omega)
set_option maxRecDepth 100000 in
set_option maxHeartbeats 2000000 in
theorem decimal_calls (s : ByteArray) (hs : (s.size : Int) ≤ 9223372036854775807) (w : World) :
    Calls Try.prog 49 #[.string s] w fun e w' => e = .returned (.bool (decB s.data.toList)) ∧ w = w' := by
  obtain ⟨B, hB⟩ : ∃ B, decB s.data.toList = B := ⟨_, rfl⟩
  rw [hB]
  have hBB := Lib.hid hB
  clear hB
  by_cases hz : s.toList = []
  · have e : false = B := by rw [← hBB.out, decB_nil s hz]
    subst e
    clear hBB
    go_enter Try.func49, Try.ntmps49
    go_wp2
    go_ret
    exact ⟨rfl, rfl⟩
  · have hE : s.toList.isEmpty = false := by simpa using hz
    have hp : 0 < s.size := by
      rw [ByteArray.toList_eq] at hz
      have : s.data.toList.length ≠ 0 := fun h => hz (List.length_eq_zero_iff.1 h)
      rw [Array.length_toList] at this
      exact Nat.pos_of_ne_zero this
    by_cases h48 : ((s[0]'hp).toNat : Int) = 48
    · by_cases hq : (!s.toList == [48]) = true
      · have e : false = B := by rw [← hBB.out, decB_zero s hp h48 hq]
        subst e
        clear hBB
        go_enter Try.func49, Try.ntmps49
        go_wp2
        go_ret
        exact ⟨rfl, rfl⟩
      · have hq2 : (!s.toList == [48]) = false := by simpa using hq
        have HA : Hid (allTo s s.size → true = B) := Lib.hid fun h => by rw [← hBB.out, decB_all s hp (fun _ => by simpa using hq2) h]
        clear hq
        go_enter Try.func49, Try.ntmps49
        go_wp2
        go_loop [17] (fun i => ∃ k : Nat, k ≤ s.size ∧ i = .int .i64 k ∧ Hid (allTo s k)) (fun i => s.size - (intOf i).toNat)
        case atStart => exact ⟨0, Nat.zero_le _, rfl, Lib.hid (fun i _ h => absurd h (by omega))⟩
        case round =>
          obtain ⟨k, hk, rfl, ha⟩ := hrel
          by_cases hlt : k < s.size
          · by_cases c1 : ((s[k]'hlt).toNat : Int) < 48
            · have e : Hid (false = B) := Lib.hid (by rw [← hBB.out, decB_bad s k hlt (.inl c1)])
              go_wp2
              go_ret
              exact ⟨by rw [← e.out]; rfl, rfl⟩
            · by_cases c2 : 57 < ((s[k]'hlt).toNat : Int)
              · have e : Hid (false = B) := Lib.hid (by rw [← hBB.out, decB_bad s k hlt (.inr c2)])
                go_wp2
                go_ret
                exact ⟨by rw [← e.out]; rfl, rfl⟩
              · have c1' : 48 ≤ ((s[k]'hlt).toNat : Int) := by omega
                have c2' : ((s[k]'hlt).toNat : Int) ≤ 57 := by omega
                have ha' := Lib.hid (allTo_succ s k hlt ha.out c1' c2')
                clear c1 c2
                go_wp2
                go_round
                case rel => exact ⟨k + 1, by omega, by go_num, ha'⟩
                case measure => simp [intOf]; omega
          · obtain rfl : k = s.size := by omega
            have e := Lib.hid (HA.out ha.out)
            go_wp2
            go_ret
            exact ⟨by rw [← e.out]; rfl, rfl⟩
    · have HA : Hid (allTo s s.size → true = B) := Lib.hid fun h => by rw [← hBB.out, decB_all s hp (fun g => absurd g h48) h]
      go_enter Try.func49, Try.ntmps49
      go_wp2
      go_loop [17] (fun i => ∃ k : Nat, k ≤ s.size ∧ i = .int .i64 k ∧ Hid (allTo s k)) (fun i => s.size - (intOf i).toNat)
      case atStart => exact ⟨0, Nat.zero_le _, rfl, Lib.hid (fun i _ h => absurd h (by omega))⟩
      case round =>
        obtain ⟨k, hk, rfl, ha⟩ := hrel
        by_cases hlt : k < s.size
        · by_cases c1 : ((s[k]'hlt).toNat : Int) < 48
          · have e : Hid (false = B) := Lib.hid (by rw [← hBB.out, decB_bad s k hlt (.inl c1)])
            go_wp2
            go_ret
            exact ⟨by rw [← e.out]; rfl, rfl⟩
          · by_cases c2 : 57 < ((s[k]'hlt).toNat : Int)
            · have e : Hid (false = B) := Lib.hid (by rw [← hBB.out, decB_bad s k hlt (.inr c2)])
              go_wp2
              go_ret
              exact ⟨by rw [← e.out]; rfl, rfl⟩
            · have c1' : 48 ≤ ((s[k]'hlt).toNat : Int) := by omega
              have c2' : ((s[k]'hlt).toNat : Int) ≤ 57 := by omega
              have ha' := Lib.hid (allTo_succ s k hlt ha.out c1' c2')
              clear c1 c2
              go_wp2
              go_round
              case rel => exact ⟨k + 1, by omega, by go_num, ha'⟩
              case measure => simp [intOf]; omega
        · obtain rfl : k = s.size := by omega
          have e := Lib.hid (HA.out ha.out)
          go_wp2
          go_ret
          exact ⟨by rw [← e.out]; rfl, rfl⟩

/-- the number that digits make -/
def valL (l : List UInt8) : Nat := l.foldl (fun n c => n * 10 + (c.toNat - 48)) 0
theorem valL_snoc (l : List UInt8) (c : UInt8) : valL (l ++ [c]) = valL l * 10 + (c.toNat - 48) := by unfold valL; rw [List.foldl_append]; rfl
theorem take_snoc (s : ByteArray) (k : Nat) (h : k < s.size) : s.data.toList.take (k + 1) = s.data.toList.take k ++ [s[k]] := by
  rw [List.take_succ_eq_append_getElem (by simpa using h)]; rfl
theorem foldl_le (l : List UInt8) : ∀ n : Nat, n ≤ l.foldl (fun n c => n * 10 + (c.toNat - 48)) n := by
  induction l with
  | nil => exact fun n => Nat.le_refl _
  | cons c l ih => intro n; exact Nat.le_trans (by omega) (ih (n * 10 + (c.toNat - 48)))
theorem valL_take (l : List UInt8) (k : Nat) : valL (l.take k) ≤ valL l := by
  conv => rhs; rw [← List.take_append_drop k l]
  unfold valL
  rw [List.foldl_append]
  exact foldl_le _ _
def readR (l : List UInt8) : Nat := if decB l = true ∧ isN (valL l) then valL l else 0
def readE (l : List UInt8) : Int := if decB l = true then (if isN (valL l) then 0 else 3) else 20
theorem dec_at (s : ByteArray) (h : decB s.data.toList = true) (k : Nat) (hk : k < s.size) : 48 ≤ ((s[k]'hk).toNat : Int) ∧ ((s[k]'hk).toNat : Int) ≤ 57 := by
  by_cases h1 : ((s[k]'hk).toNat : Int) < 48
  · have := decB_bad s k hk (.inl h1); rw [h] at this; cases this
  · by_cases h2 : 57 < ((s[k]'hk).toNat : Int)
    · have := decB_bad s k hk (.inr h2); rw [h] at this; cases this
    · omega
theorem tenN_yes {a : Nat} {d : Int} (h : isN (a * 10 + d.toNat)) : tenN a d = a * 10 + d.toNat ∧ tenC a d = 0 := by
  constructor
  · unfold tenN; unfold isN at h; omega
  · unfold tenC; unfold isN at h; omega
theorem tenC_no {a : Nat} {d : Int} (h : ¬ isN (a * 10 + d.toNat)) : 1 ≤ tenC a d := by
  unfold tenC; unfold isN at h; omega
set_option maxRecDepth 100000 in
set_option maxHeartbeats 4000000 in
theorem read_calls (s : ByteArray) (hs : (s.size : Int) ≤ 9223372036854775807) (w : World) :
    Calls Try.prog 26 #[.string s] w fun e w' => e = .returned (.tuple #[.agg #[.int .u32 (pt (readR s.data.toList) 0), .int .u32 (pt (readR s.data.toList) 1), .int .u32 (pt (readR s.data.toList) 2), .int .u32 (pt (readR s.data.toList) 3)], .int .i64 (readE s.data.toList)]) ∧ Below w.heap.size w w' := by
  cases hd : decB s.data.toList with
  | false =>
    have e1 : readR s.data.toList = 0 := if_neg (by rw [hd]; simp)
    have e2 : readE s.data.toList = 20 := if_neg (by rw [hd]; simp)
    rw [e1, e2]
    have hc := decimal_calls s hs
    rw [hd] at hc
    clear e1 e2 hd
    go_enter Try.func26, Try.ntmps26
    go_wp2_with (first | (go_at_call 49; refine (hc _).mono ?_; rintro e w0 ⟨rfl, rfl⟩))
    refine bodyPost_ret (by simp [results, Try.results26, go_sem, pt_zero]) rfl ⟨rfl, ?_⟩
    repeat (first | (with_reducible exact Below.refl _ _) | ((with_reducible refine below_grow ?_ ?_); rotate_left; focus (first | omega | (simp [go_sem]; done) | (simp [go_sem]; omega))) | ((with_reducible refine Below.alloc ?_ ?_ _); rotate_left; focus (first | omega | (simp [go_sem]; done) | (simp [go_sem]; omega))) | ((with_reducible refine Below.setCell ?_ ?_ _); rotate_left; focus (first | omega | (simp [go_sem]; done) | (simp [go_sem]; omega))) | (with_reducible refine Below.drew ?_) | (with_reducible refine below_drewN _ ?_))
  | true =>
    obtain ⟨R, hR⟩ : ∃ R, readR s.data.toList = R := ⟨_, rfl⟩
    obtain ⟨E, hE⟩ : ∃ R, readE s.data.toList = R := ⟨_, rfl⟩
    rw [hR, hE]
    have hY : Hid (isN (valL s.data.toList) → R = valL s.data.toList ∧ E = 0) := Lib.hid fun h => ⟨by rw [← hR]; exact if_pos ⟨hd, h⟩, by rw [← hE]; unfold readE; rw [if_pos hd, if_pos h]⟩
    have hN : Hid (¬ isN (valL s.data.toList) → R = 0 ∧ E = 3) := Lib.hid fun h => ⟨by rw [← hR]; exact if_neg (fun g => h g.2), by rw [← hE]; unfold readE; rw [if_pos hd, if_neg h]⟩
    have hdig := Lib.hid (dec_at s hd)
    have hc := decimal_calls s hs
    rw [hd] at hc
    clear hR hE hd
    go_enter Try.func26, Try.ntmps26
    go_wp2_with (first | (go_at_call 49; refine (hc _).mono ?_; rintro e w0 ⟨rfl, rfl⟩))
    clear hc
    go_loopw [13] (fun i wr => ∃ k a : Nat, k ≤ s.size ∧ i = .int .i64 k ∧ Hid (a = valL (s.data.toList.take k)) ∧ isN a ∧ Below ((w.alloc (.cells #[.int .u32 0, .int .u32 0, .int .u32 0, .int .u32 0] 24)).alloc (.cells #[.int .u32 (pt a 0), .int .u32 (pt a 1), .int .u32 (pt a 2), .int .u32 (pt a 3)] 24)).heap.size ((w.alloc (.cells #[.int .u32 0, .int .u32 0, .int .u32 0, .int .u32 0] 24)).alloc (.cells #[.int .u32 (pt a 0), .int .u32 (pt a 1), .int .u32 (pt a 2), .int .u32 (pt a 3)] 24)) wr) (fun i _ => s.size - (intOf i).toNat)
    case atStart => exact ⟨0, 0, Nat.zero_le _, rfl, Lib.hid rfl, zeroN, by simp only [pt_zero]; repeat (first | (with_reducible exact Below.refl _ _) | ((with_reducible refine below_grow ?_ ?_); rotate_left; focus (first | omega | (simp [go_sem]; done) | (simp [go_sem]; omega))) | ((with_reducible refine Below.alloc ?_ ?_ _); rotate_left; focus (first | omega | (simp [go_sem]; done) | (simp [go_sem]; omega))) | ((with_reducible refine Below.setCell ?_ ?_ _); rotate_left; focus (first | omega | (simp [go_sem]; done) | (simp [go_sem]; omega))) | (with_reducible refine Below.drew ?_) | (with_reducible refine below_drewN _ ?_))⟩
    case round =>
      obtain ⟨k, a, hk, rfl, ha, hna, hbel⟩ := hrel
      obtain ⟨o, j, rfl⟩ := grow_of_below hbel
      clear hbel
      by_cases hlt : k < s.size
      · obtain ⟨d1, d2⟩ := hdig.out k hlt
        have hv : Hid (valL (s.data.toList.take (k + 1)) = a * 10 + (((s[k]'hlt).toNat : Int) - 48).toNat) := Lib.hid (by
          rw [take_snoc s k hlt, valL_snoc, ← ha.out]; omega)
        obtain ⟨c, hcc⟩ : ∃ c : Int, ((s[k]'hlt).toNat : Int) = c := ⟨_, rfl⟩
        rw [hcc] at d1 d2 hv
        have W1 : IntKind.u8.wrap (c - 48) = c - 48 := IntWalk.u8_in _ (by omega)
        have W2 : IntKind.u32.wrap (c - 48) = c - 48 := IntWalk.u32_in _ (by omega)
        have d3 : 0 ≤ c - 48 ∧ c - 48 ≤ 9 := by omega
        by_cases hyes : isN (a * 10 + (c - 48).toNat)
        · obtain ⟨t1, t2⟩ := tenN_yes hyes
          obtain ⟨a', ha'⟩ : ∃ a', a * 10 + (c - 48).toNat = a' := ⟨_, rfl⟩
          rw [ha'] at t1 hv hyes
          clear ha' ha
          go_wp2
          go_region_with (first | (go_at_call 50; refine (tenfold_calls a (c - 48) d3 hna _).mono ?_; rintro e w0 ⟨rfl, hbel⟩; obtain ⟨o1, j1, rfl⟩ := grow_of_below hbel; clear hbel))
          all_goals
            go_wp2
            go_roundw
            case rel => exact ⟨k + 1, a', by omega, by go_num, Lib.hid hv.out.symm, hyes, by repeat (first | (with_reducible exact Below.refl _ _) | ((with_reducible refine below_grow ?_ ?_); rotate_left; focus (first | omega | (simp [go_sem]; done) | (simp [go_sem]; omega))) | ((with_reducible refine Below.alloc ?_ ?_ _); rotate_left; focus (first | omega | (simp [go_sem]; done) | (simp [go_sem]; omega))) | ((with_reducible refine Below.setCell ?_ ?_ _); rotate_left; focus (first | omega | (simp [go_sem]; done) | (simp [go_sem]; omega))) | (with_reducible refine Below.drew ?_) | (with_reducible refine below_drewN _ ?_))⟩
            case measure => simp [intOf]; omega
        · have t1 := tenC_no hyes
          obtain ⟨T, hT⟩ : ∃ T, tenC a (c - 48) = T := ⟨_, rfl⟩
          rw [hT] at t1
          obtain ⟨rfl, rfl⟩ := hN.out (fun h => hyes (by rw [← hv.out]; exact Nat.lt_of_le_of_lt (valL_take _ _) h))
          clear hv ha hyes
          go_wp2
          go_region_with (first | (go_at_call 50; refine (tenfold_calls a (c - 48) d3 hna _).mono ?_; rintro e w0 ⟨rfl, hbel⟩; obtain ⟨o1, j1, rfl⟩ := grow_of_below hbel; clear hbel))
          all_goals
            go_wp2
            refine bodyPost_ret (by simp [results, Try.results26, go_sem, pt_zero]) rfl ⟨rfl, ?_⟩
            repeat (first | (with_reducible exact Below.refl _ _) | ((with_reducible refine below_grow ?_ ?_); rotate_left; focus (first | omega | (simp [go_sem]; done) | (simp [go_sem]; omega))) | ((with_reducible refine Below.alloc ?_ ?_ _); rotate_left; focus (first | omega | (simp [go_sem]; done) | (simp [go_sem]; omega))) | ((with_reducible refine Below.setCell ?_ ?_ _); rotate_left; focus (first | omega | (simp [go_sem]; done) | (simp [go_sem]; omega))) | (with_reducible refine Below.drew ?_) | (with_reducible refine below_drewN _ ?_))
      · obtain rfl : k = s.size := by omega
        have e : a = valL s.data.toList := by rw [ha.out, List.take_of_length_le (by rw [Array.length_toList]; exact Nat.le_refl _)]
        obtain ⟨rfl, rfl⟩ := hY.out (by rw [← e]; exact hna)
        clear hY hN ha
        subst e
        go_wp2
        refine bodyPost_ret (by simp [results, Try.results26, go_sem]) rfl ⟨rfl, ?_⟩
        repeat (first | (with_reducible exact Below.refl _ _) | ((with_reducible refine below_grow ?_ ?_); rotate_left; focus (first | omega | (simp [go_sem]; done) | (simp [go_sem]; omega))) | ((with_reducible refine Below.alloc ?_ ?_ _); rotate_left; focus (first | omega | (simp [go_sem]; done) | (simp [go_sem]; omega))) | ((with_reducible refine Below.setCell ?_ ?_ _); rotate_left; focus (first | omega | (simp [go_sem]; done) | (simp [go_sem]; omega))) | (with_reducible refine Below.drew ?_) | (with_reducible refine below_drewN _ ?_))
end Go.Proofs.Ytjhocgeoangbdaa
