/- frac.Read. -/
import Derived.Test.YtignphcnjgbikaaDoorP
namespace Go.Proofs.YtignphcnjgbikaaDoor
open Go.RowKit Go.Shelf

/-- The library's errors are there. -/
structure EnvE (w : World) : Prop where
  env : Env w
  es : ∃ te pe, w.cell? ⟨1, 0, none⟩ = some (.iface te pe)
  er : ∃ te pe, w.cell? ⟨2, 0, none⟩ = some (.iface te pe)
theorem EnvE.below {w w' : World} (h : EnvE w) (hb : Below w.heap.size w w') : EnvE w' :=
  ⟨h.env.below hb, let ⟨m, p, hm⟩ := h.es; ⟨m, p, (hb.cell (World.block_lt_of_cell? w _ hm)).trans hm⟩, let ⟨m, p, hm⟩ := h.er; ⟨m, p, (hb.cell (World.block_lt_of_cell? w _ hm)).trans hm⟩⟩

theorem below_bytes (w : World) (T : TypeId) (t) : Below w.heap.size w (Lib.bytesWorld w T t) := by
  unfold Lib.bytesWorld
  have h1 : Below w.heap.size w (w.drew.alloc (Obj.cells (Lib.bytesCells w T t) T)) := (Below.refl _ _).drew.alloc (Nat.le_refl _) _
  refine h1.trans ⟨rfl, rfl, rfl, by simp [World.freeze], fun k hk => ?_⟩
  simp only [World.freeze, Nat.one_ne_zero, if_false, Array.getElem?_modify]
  rw [if_neg (by show ¬ w.heap.size = k; omega)]
theorem atoi_ok (l : List UInt8) (hl : l.length ≤ 200) (v : Int) (h : Lib.atoiAll l = .ok v) (w : World) :
    Calls Tryd.prog 28 #[.string ⟨l.toArray⟩] w fun e w' => e = .returned (.tuple #[.int .i64 v, .nilIface]) ∧ Below w.heap.size w w' :=
  (Tryd.strconv_Atoi_ok ⟨l.toArray⟩ (by show l.toArray.size ≤ _; simp; omega) v (by simpa using h) w).mono fun e w' ⟨h, k⟩ => ⟨h, by
    rcases k with rfl | ⟨t, rfl⟩
    · exact Below.refl _ _
    · exact below_bytes _ _ _⟩
theorem atoi_bad (l : List UInt8) (hl : l.length ≤ 200) (h : ∀ v, Lib.atoiAll l ≠ .ok v) (w : World) (he : EnvE w) :
    Calls Tryd.prog 28 #[.string ⟨l.toArray⟩] w fun e w' => (∃ (n : Int) (N : Nat), e = .returned (.tuple #[.int .i64 n, .iface 102 (.pointer (some ⟨N, 0, none⟩))])) ∧ Below w.heap.size w w' := by
  have hs : (ByteArray.mk l.toArray).size ≤ 281474976710656 := by show l.toArray.size ≤ _; simp; omega
  cases hc : Lib.atoiAll l with
  | ok v => exact absurd hc (h v)
  | range =>
    obtain ⟨te, pe, hv⟩ := he.er
    exact (Tryd.strconv_Atoi_range ⟨l.toArray⟩ hs (by simpa using hc) (.iface te pe) w hv (.inr ⟨te, pe, rfl⟩)).mono fun e w' ⟨N, h1, h2, h3, h4⟩ => ⟨⟨_, N, h1⟩, h4⟩
  | _ =>
    obtain ⟨te, pe, hv⟩ := he.es
    exact (Tryd.strconv_Atoi_syntax ⟨l.toArray⟩ hs (by simpa using hc) (.iface te pe) w hv (.inr ⟨te, pe, rfl⟩)).mono fun e w' ⟨N, h1, h2, h3, h4⟩ => ⟨⟨_, N, h1⟩, h4⟩

theorem cut_calls (l a b : List UInt8) (f : Bool) (hl : l.length ≤ 100000) (h : Hid (Lib.cut l [47] = (a, b, f))) (w : World) (he : Env w) :
    Calls Tryd.prog 26 #[.string ⟨l.toArray⟩, .string ⟨#[47]⟩] w fun e w' => e = .returned (.tuple #[.string ⟨a.toArray⟩, .string ⟨b.toArray⟩, .bool f]) ∧ Below w.heap.size w w' := by
  obtain ⟨m, hm⟩ := he.ml
  have := Tryd.strings_Cut ⟨l.toArray⟩ ⟨#[47]⟩ m w (by show l.toArray.size < _; simp; omega) hm
  simp only [h.out] at this
  exact this.mono fun e w' ⟨h, n, k⟩ => ⟨h, by rw [k]; exact below_drewN n (Below.refl _ _)⟩

/-- the text of n / d -/
def textZ (n d : Int) : List UInt8 := if d = 1 then Lib.itoa n else Lib.itoa n ++ 47 :: Lib.itoa d
theorem textZ_calls (n d : Int) (h : rightB n d = true) (hn : I64 n) (hd : I64 d) (w : World) (he : Env w) :
    Calls Tryd.prog 30 #[.agg #[.int .i64 n, .int .i64 d]] w fun e w' => e = .returned (.tuple #[.string ⟨(textZ n d).toArray⟩, .int .i64 0]) ∧ Below w.heap.size w w' := by
  unfold rightB at h
  simp only [decide_eq_true_eq] at h
  obtain ⟨d, rfl⟩ := Int.eq_ofNat_of_zero_le (Int.le_of_lt h.1)
  let r : Rat := ⟨n, d, by omega, h.2⟩
  have := text_calls r ⟨hn.1, hn.2, hd.2⟩ w he
  have e : textR r = textZ n d := by
    unfold textR textZ
    by_cases hd1 : d = 1
    · rw [if_pos (show r.den = 1 from hd1), if_pos (by omega)]
    · rw [if_neg (show ¬ r.den = 1 from hd1), if_neg (by omega)]
  rw [e] at this
  exact this

/-- What Read makes of a string: a right fraction with this text. -/
def readP (l : List UInt8) : Option (Int × Int) :=
  match Lib.atoiAll (Lib.cut l [47]).1, Lib.atoiAll (if (Lib.cut l [47]).2.2 then (Lib.cut l [47]).2.1 else [49]) with
  | .ok n, .ok d => if rightB n d = true ∧ textZ n d = l then some (n, d) else none
  | _, _ => none

theorem atoi_i64 {l : List UInt8} {n : Int} (h : Lib.atoiAll l = .ok n) : I64 n := by
  unfold Lib.atoiAll at h
  split at h
  · cases h
  · simp only [] at h
    split at h
    · cases h
    · cases h
    · rename_i u _
      split at h
      · cases h
      · rename_i g1
        split at h
        · cases h
        · rename_i g2
          injection h with h
          unfold I64
          rw [← h]
          split <;> omega
theorem atoi_one : Lib.atoiAll [49] = .ok 1 := by decide
theorem ret_frac {a b c d e f : Int} (h1 : a = b) (h2 : c = d) (h3 : e = f) : Ending.returned (.tuple #[.agg #[.int .i64 a, .int .i64 c], .int .i64 e]) = .returned (.tuple #[.agg #[.int .i64 b, .int .i64 d], .int .i64 f]) := by rw [h1, h2, h3]

set_option maxHeartbeats 4000000 in
/-- Read, given what comes of its parts: a and b are the parts, f says whether there is a slash -/
theorem read_parts (l a b : List UInt8) (f : Bool) (hl : l.length ≤ 100) (ha : a.length ≤ 100) (hb : b.length ≤ 100) (hc : Hid (Lib.cut l [47] = (a, b, f))) (w : World) (he : EnvE w) :
    Calls Tryd.prog 31 #[.string ⟨l.toArray⟩] w fun e w' =>
      e = .returned (match Lib.atoiAll a, Lib.atoiAll (if f then b else [49]) with
        | .ok n, .ok d => if rightB n d = true ∧ textZ n d = l then .tuple #[.agg #[.int .i64 n, .int .i64 d], .int .i64 0] else .tuple #[.agg #[.int .i64 0, .int .i64 0], .int .i64 10]
        | _, _ => .tuple #[.agg #[.int .i64 0, .int .i64 0], .int .i64 10]) ∧ Below w.heap.size w w' := by
  by_cases h1 : ∃ n, Lib.atoiAll a = .ok n
  · obtain ⟨n, hn⟩ := h1
    rw [hn]
    have HN := Lib.hid hn
    clear hn
    have hi : I64 n := atoi_i64 HN.out
    by_cases h2 : ∃ d, Lib.atoiAll (if f then b else [49]) = .ok d
    · obtain ⟨d, hd⟩ := h2
      rw [hd]
      have hj : I64 d := atoi_i64 hd
      simp only []
      by_cases hr : rightB n d = true
      · have HR := Lib.hid hr
        by_cases ht : textZ n d = l
        · rw [if_pos ⟨hr, ht⟩]
          clear hr
          have hts : (textZ n d == l) = true := by simp [ht]
          have HT := Lib.hid ht
          clear ht
          cases f
          · simp only [Bool.false_eq_true, if_false] at hd
            have HD := Lib.hid hd
            clear hd
            go_enter Tryd.func31, Tryd.ntmps31
            go_wp2_with (first
              | (go_at_call 26; refine (cut_calls l a b false (by omega) hc _ (he.env.below (by repeat (first | (with_reducible exact Below.refl _ _) | ((with_reducible refine below_grow ?_ ?_); rotate_left; focus (first | omega | (simp [go_sem]; done) | (simp [go_sem]; omega))) | ((with_reducible refine Below.alloc ?_ ?_ _); rotate_left; focus (first | omega | (simp [go_sem]; done) | (simp [go_sem]; omega))) | ((with_reducible refine Below.setCell ?_ ?_ _); rotate_left; focus (first | omega | (simp [go_sem]; done) | (simp [go_sem]; omega))) | (with_reducible refine Below.drew ?_) | (with_reducible refine below_drewN _ ?_))))).mono ?_; rintro e w1 ⟨rfl, hb⟩; obtain ⟨o1, j1, rfl⟩ := grow_of_below hb; clear hb)
              | (go_at_call_of 28 (Value.string ⟨a.toArray⟩); refine (atoi_ok a (by omega) n HN.out _).mono ?_; rintro e w1 ⟨rfl, hb⟩; obtain ⟨o2, j2, rfl⟩ := grow_of_below hb; clear hb)
              | (go_at_call_of 28 (Value.string ⟨#[49]⟩); refine (atoi_ok [49] (by first | omega | simp) d HD.out _).mono ?_; rintro e w1 ⟨rfl, hb⟩; obtain ⟨o3, j3, rfl⟩ := grow_of_below hb; clear hb)
              | (go_at_call 30; refine (textZ_calls n d HR.out hi hj _ (he.env.below (by repeat (first | (with_reducible exact Below.refl _ _) | ((with_reducible refine below_grow ?_ ?_); rotate_left; focus (first | omega | (simp [go_sem]; done) | (simp [go_sem]; omega))) | ((with_reducible refine Below.alloc ?_ ?_ _); rotate_left; focus (first | omega | (simp [go_sem]; done) | (simp [go_sem]; omega))) | ((with_reducible refine Below.setCell ?_ ?_ _); rotate_left; focus (first | omega | (simp [go_sem]; done) | (simp [go_sem]; omega))) | (with_reducible refine Below.drew ?_) | (with_reducible refine below_drewN _ ?_))))).mono ?_; rintro e w1 ⟨rfl, hb⟩; obtain ⟨o4, j4, rfl⟩ := grow_of_below hb; clear hb))
            refine bodyPost_ret (by simp [results, Tryd.results31, go_sem]) rfl ⟨rfl, ?_⟩
            repeat (first | (with_reducible exact Below.refl _ _) | ((with_reducible refine below_grow ?_ ?_); rotate_left; focus (first | omega | (simp [go_sem]; done) | (simp [go_sem]; omega))) | ((with_reducible refine Below.alloc ?_ ?_ _); rotate_left; focus (first | omega | (simp [go_sem]; done) | (simp [go_sem]; omega))) | ((with_reducible refine Below.setCell ?_ ?_ _); rotate_left; focus (first | omega | (simp [go_sem]; done) | (simp [go_sem]; omega))) | (with_reducible refine Below.drew ?_) | (with_reducible refine below_drewN _ ?_))
          · simp only [if_true] at hd
            have HD := Lib.hid hd
            clear hd
            go_enter Tryd.func31, Tryd.ntmps31
            go_wp2_with (first
              | (go_at_call 26; refine (cut_calls l a b true (by omega) hc _ (he.env.below (by repeat (first | (with_reducible exact Below.refl _ _) | ((with_reducible refine below_grow ?_ ?_); rotate_left; focus (first | omega | (simp [go_sem]; done) | (simp [go_sem]; omega))) | ((with_reducible refine Below.alloc ?_ ?_ _); rotate_left; focus (first | omega | (simp [go_sem]; done) | (simp [go_sem]; omega))) | ((with_reducible refine Below.setCell ?_ ?_ _); rotate_left; focus (first | omega | (simp [go_sem]; done) | (simp [go_sem]; omega))) | (with_reducible refine Below.drew ?_) | (with_reducible refine below_drewN _ ?_))))).mono ?_; rintro e w1 ⟨rfl, hb⟩; obtain ⟨o1, j1, rfl⟩ := grow_of_below hb; clear hb)
              | (go_at_call_of 28 (Value.string ⟨a.toArray⟩); refine (atoi_ok a (by omega) n HN.out _).mono ?_; rintro e w1 ⟨rfl, hb⟩; obtain ⟨o2, j2, rfl⟩ := grow_of_below hb; clear hb)
              | (go_at_call_of 28 (Value.string ⟨b.toArray⟩); refine (atoi_ok b (by first | omega | simp) d HD.out _).mono ?_; rintro e w1 ⟨rfl, hb⟩; obtain ⟨o3, j3, rfl⟩ := grow_of_below hb; clear hb)
              | (go_at_call 30; refine (textZ_calls n d HR.out hi hj _ (he.env.below (by repeat (first | (with_reducible exact Below.refl _ _) | ((with_reducible refine below_grow ?_ ?_); rotate_left; focus (first | omega | (simp [go_sem]; done) | (simp [go_sem]; omega))) | ((with_reducible refine Below.alloc ?_ ?_ _); rotate_left; focus (first | omega | (simp [go_sem]; done) | (simp [go_sem]; omega))) | ((with_reducible refine Below.setCell ?_ ?_ _); rotate_left; focus (first | omega | (simp [go_sem]; done) | (simp [go_sem]; omega))) | (with_reducible refine Below.drew ?_) | (with_reducible refine below_drewN _ ?_))))).mono ?_; rintro e w1 ⟨rfl, hb⟩; obtain ⟨o4, j4, rfl⟩ := grow_of_below hb; clear hb))
            refine bodyPost_ret (by simp [results, Tryd.results31, go_sem]) rfl ⟨rfl, ?_⟩
            repeat (first | (with_reducible exact Below.refl _ _) | ((with_reducible refine below_grow ?_ ?_); rotate_left; focus (first | omega | (simp [go_sem]; done) | (simp [go_sem]; omega))) | ((with_reducible refine Below.alloc ?_ ?_ _); rotate_left; focus (first | omega | (simp [go_sem]; done) | (simp [go_sem]; omega))) | ((with_reducible refine Below.setCell ?_ ?_ _); rotate_left; focus (first | omega | (simp [go_sem]; done) | (simp [go_sem]; omega))) | (with_reducible refine Below.drew ?_) | (with_reducible refine below_drewN _ ?_))
        · rw [if_neg (fun h => ht h.2)]
          clear hr
          have hts : (textZ n d == l) = false := by simp [ht]
          have HT := Lib.hid ht
          clear ht
          cases f
          · simp only [Bool.false_eq_true, if_false] at hd
            have HD := Lib.hid hd
            clear hd
            go_enter Tryd.func31, Tryd.ntmps31
            go_wp2_with (first
              | (go_at_call 26; refine (cut_calls l a b false (by omega) hc _ (he.env.below (by repeat (first | (with_reducible exact Below.refl _ _) | ((with_reducible refine below_grow ?_ ?_); rotate_left; focus (first | omega | (simp [go_sem]; done) | (simp [go_sem]; omega))) | ((with_reducible refine Below.alloc ?_ ?_ _); rotate_left; focus (first | omega | (simp [go_sem]; done) | (simp [go_sem]; omega))) | ((with_reducible refine Below.setCell ?_ ?_ _); rotate_left; focus (first | omega | (simp [go_sem]; done) | (simp [go_sem]; omega))) | (with_reducible refine Below.drew ?_) | (with_reducible refine below_drewN _ ?_))))).mono ?_; rintro e w1 ⟨rfl, hb⟩; obtain ⟨o1, j1, rfl⟩ := grow_of_below hb; clear hb)
              | (go_at_call_of 28 (Value.string ⟨a.toArray⟩); refine (atoi_ok a (by omega) n HN.out _).mono ?_; rintro e w1 ⟨rfl, hb⟩; obtain ⟨o2, j2, rfl⟩ := grow_of_below hb; clear hb)
              | (go_at_call_of 28 (Value.string ⟨#[49]⟩); refine (atoi_ok [49] (by first | omega | simp) d HD.out _).mono ?_; rintro e w1 ⟨rfl, hb⟩; obtain ⟨o3, j3, rfl⟩ := grow_of_below hb; clear hb)
              | (go_at_call 30; refine (textZ_calls n d HR.out hi hj _ (he.env.below (by repeat (first | (with_reducible exact Below.refl _ _) | ((with_reducible refine below_grow ?_ ?_); rotate_left; focus (first | omega | (simp [go_sem]; done) | (simp [go_sem]; omega))) | ((with_reducible refine Below.alloc ?_ ?_ _); rotate_left; focus (first | omega | (simp [go_sem]; done) | (simp [go_sem]; omega))) | ((with_reducible refine Below.setCell ?_ ?_ _); rotate_left; focus (first | omega | (simp [go_sem]; done) | (simp [go_sem]; omega))) | (with_reducible refine Below.drew ?_) | (with_reducible refine below_drewN _ ?_))))).mono ?_; rintro e w1 ⟨rfl, hb⟩; obtain ⟨o4, j4, rfl⟩ := grow_of_below hb; clear hb))
            refine bodyPost_ret (by simp [results, Tryd.results31, go_sem]) rfl ⟨rfl, ?_⟩
            repeat (first | (with_reducible exact Below.refl _ _) | ((with_reducible refine below_grow ?_ ?_); rotate_left; focus (first | omega | (simp [go_sem]; done) | (simp [go_sem]; omega))) | ((with_reducible refine Below.alloc ?_ ?_ _); rotate_left; focus (first | omega | (simp [go_sem]; done) | (simp [go_sem]; omega))) | ((with_reducible refine Below.setCell ?_ ?_ _); rotate_left; focus (first | omega | (simp [go_sem]; done) | (simp [go_sem]; omega))) | (with_reducible refine Below.drew ?_) | (with_reducible refine below_drewN _ ?_))
          · simp only [if_true] at hd
            have HD := Lib.hid hd
            clear hd
            go_enter Tryd.func31, Tryd.ntmps31
            go_wp2_with (first
              | (go_at_call 26; refine (cut_calls l a b true (by omega) hc _ (he.env.below (by repeat (first | (with_reducible exact Below.refl _ _) | ((with_reducible refine below_grow ?_ ?_); rotate_left; focus (first | omega | (simp [go_sem]; done) | (simp [go_sem]; omega))) | ((with_reducible refine Below.alloc ?_ ?_ _); rotate_left; focus (first | omega | (simp [go_sem]; done) | (simp [go_sem]; omega))) | ((with_reducible refine Below.setCell ?_ ?_ _); rotate_left; focus (first | omega | (simp [go_sem]; done) | (simp [go_sem]; omega))) | (with_reducible refine Below.drew ?_) | (with_reducible refine below_drewN _ ?_))))).mono ?_; rintro e w1 ⟨rfl, hb⟩; obtain ⟨o1, j1, rfl⟩ := grow_of_below hb; clear hb)
              | (go_at_call_of 28 (Value.string ⟨a.toArray⟩); refine (atoi_ok a (by omega) n HN.out _).mono ?_; rintro e w1 ⟨rfl, hb⟩; obtain ⟨o2, j2, rfl⟩ := grow_of_below hb; clear hb)
              | (go_at_call_of 28 (Value.string ⟨b.toArray⟩); refine (atoi_ok b (by first | omega | simp) d HD.out _).mono ?_; rintro e w1 ⟨rfl, hb⟩; obtain ⟨o3, j3, rfl⟩ := grow_of_below hb; clear hb)
              | (go_at_call 30; refine (textZ_calls n d HR.out hi hj _ (he.env.below (by repeat (first | (with_reducible exact Below.refl _ _) | ((with_reducible refine below_grow ?_ ?_); rotate_left; focus (first | omega | (simp [go_sem]; done) | (simp [go_sem]; omega))) | ((with_reducible refine Below.alloc ?_ ?_ _); rotate_left; focus (first | omega | (simp [go_sem]; done) | (simp [go_sem]; omega))) | ((with_reducible refine Below.setCell ?_ ?_ _); rotate_left; focus (first | omega | (simp [go_sem]; done) | (simp [go_sem]; omega))) | (with_reducible refine Below.drew ?_) | (with_reducible refine below_drewN _ ?_))))).mono ?_; rintro e w1 ⟨rfl, hb⟩; obtain ⟨o4, j4, rfl⟩ := grow_of_below hb; clear hb))
            refine bodyPost_ret (by simp [results, Tryd.results31, go_sem]) rfl ⟨rfl, ?_⟩
            repeat (first | (with_reducible exact Below.refl _ _) | ((with_reducible refine below_grow ?_ ?_); rotate_left; focus (first | omega | (simp [go_sem]; done) | (simp [go_sem]; omega))) | ((with_reducible refine Below.alloc ?_ ?_ _); rotate_left; focus (first | omega | (simp [go_sem]; done) | (simp [go_sem]; omega))) | ((with_reducible refine Below.setCell ?_ ?_ _); rotate_left; focus (first | omega | (simp [go_sem]; done) | (simp [go_sem]; omega))) | (with_reducible refine Below.drew ?_) | (with_reducible refine below_drewN _ ?_))
      · rw [if_neg (fun h => hr h.1)]
        have HR := Lib.hid (Bool.eq_false_iff.2 hr)
        clear hr
        cases f
        · simp only [Bool.false_eq_true, if_false] at hd
          have HD := Lib.hid hd
          clear hd
          go_enter Tryd.func31, Tryd.ntmps31
          go_wp2_with (first
            | (go_at_call 26; refine (cut_calls l a b false (by omega) hc _ (he.env.below (by repeat (first | (with_reducible exact Below.refl _ _) | ((with_reducible refine below_grow ?_ ?_); rotate_left; focus (first | omega | (simp [go_sem]; done) | (simp [go_sem]; omega))) | ((with_reducible refine Below.alloc ?_ ?_ _); rotate_left; focus (first | omega | (simp [go_sem]; done) | (simp [go_sem]; omega))) | ((with_reducible refine Below.setCell ?_ ?_ _); rotate_left; focus (first | omega | (simp [go_sem]; done) | (simp [go_sem]; omega))) | (with_reducible refine Below.drew ?_) | (with_reducible refine below_drewN _ ?_))))).mono ?_; rintro e w1 ⟨rfl, hb⟩; obtain ⟨o1, j1, rfl⟩ := grow_of_below hb; clear hb)
            | (go_at_call_of 28 (Value.string ⟨a.toArray⟩); refine (atoi_ok a (by omega) n HN.out _).mono ?_; rintro e w1 ⟨rfl, hb⟩; obtain ⟨o2, j2, rfl⟩ := grow_of_below hb; clear hb)
            | (go_at_call_of 28 (Value.string ⟨#[49]⟩); refine (atoi_ok [49] (by first | omega | simp) d HD.out _).mono ?_; rintro e w1 ⟨rfl, hb⟩; obtain ⟨o3, j3, rfl⟩ := grow_of_below hb; clear hb)
            | (go_at_call 30; refine (text_bad n d HR.out hi hj _).mono ?_; rintro e w1 ⟨rfl, hb⟩; obtain ⟨o4, j4, rfl⟩ := grow_of_below hb; clear hb))
          refine bodyPost_ret (by simp [results, Tryd.results31, go_sem]) rfl ⟨rfl, ?_⟩
          repeat (first | (with_reducible exact Below.refl _ _) | ((with_reducible refine below_grow ?_ ?_); rotate_left; focus (first | omega | (simp [go_sem]; done) | (simp [go_sem]; omega))) | ((with_reducible refine Below.alloc ?_ ?_ _); rotate_left; focus (first | omega | (simp [go_sem]; done) | (simp [go_sem]; omega))) | ((with_reducible refine Below.setCell ?_ ?_ _); rotate_left; focus (first | omega | (simp [go_sem]; done) | (simp [go_sem]; omega))) | (with_reducible refine Below.drew ?_) | (with_reducible refine below_drewN _ ?_))
        · simp only [if_true] at hd
          have HD := Lib.hid hd
          clear hd
          go_enter Tryd.func31, Tryd.ntmps31
          go_wp2_with (first
            | (go_at_call 26; refine (cut_calls l a b true (by omega) hc _ (he.env.below (by repeat (first | (with_reducible exact Below.refl _ _) | ((with_reducible refine below_grow ?_ ?_); rotate_left; focus (first | omega | (simp [go_sem]; done) | (simp [go_sem]; omega))) | ((with_reducible refine Below.alloc ?_ ?_ _); rotate_left; focus (first | omega | (simp [go_sem]; done) | (simp [go_sem]; omega))) | ((with_reducible refine Below.setCell ?_ ?_ _); rotate_left; focus (first | omega | (simp [go_sem]; done) | (simp [go_sem]; omega))) | (with_reducible refine Below.drew ?_) | (with_reducible refine below_drewN _ ?_))))).mono ?_; rintro e w1 ⟨rfl, hb⟩; obtain ⟨o1, j1, rfl⟩ := grow_of_below hb; clear hb)
            | (go_at_call_of 28 (Value.string ⟨a.toArray⟩); refine (atoi_ok a (by omega) n HN.out _).mono ?_; rintro e w1 ⟨rfl, hb⟩; obtain ⟨o2, j2, rfl⟩ := grow_of_below hb; clear hb)
            | (go_at_call_of 28 (Value.string ⟨b.toArray⟩); refine (atoi_ok b (by first | omega | simp) d HD.out _).mono ?_; rintro e w1 ⟨rfl, hb⟩; obtain ⟨o3, j3, rfl⟩ := grow_of_below hb; clear hb)
            | (go_at_call 30; refine (text_bad n d HR.out hi hj _).mono ?_; rintro e w1 ⟨rfl, hb⟩; obtain ⟨o4, j4, rfl⟩ := grow_of_below hb; clear hb))
          refine bodyPost_ret (by simp [results, Tryd.results31, go_sem]) rfl ⟨rfl, ?_⟩
          repeat (first | (with_reducible exact Below.refl _ _) | ((with_reducible refine below_grow ?_ ?_); rotate_left; focus (first | omega | (simp [go_sem]; done) | (simp [go_sem]; omega))) | ((with_reducible refine Below.alloc ?_ ?_ _); rotate_left; focus (first | omega | (simp [go_sem]; done) | (simp [go_sem]; omega))) | ((with_reducible refine Below.setCell ?_ ?_ _); rotate_left; focus (first | omega | (simp [go_sem]; done) | (simp [go_sem]; omega))) | (with_reducible refine Below.drew ?_) | (with_reducible refine below_drewN _ ?_))
    · have hf : f = true := by
        cases f
        · exact absurd ⟨1, atoi_one⟩ h2
        · rfl
      subst hf
      simp only [if_true] at h2
      have hbad : ∀ v, Lib.atoiAll b ≠ .ok v := fun v h => h2 ⟨v, h⟩
      have e1 : (match (Lib.NumEnd.ok n), Lib.atoiAll b with
        | .ok n, .ok d => if rightB n d = true ∧ textZ n d = l then Value.tuple #[.agg #[.int .i64 n, .int .i64 d], .int .i64 0] else .tuple #[.agg #[.int .i64 0, .int .i64 0], .int .i64 10]
        | _, _ => .tuple #[.agg #[.int .i64 0, .int .i64 0], .int .i64 10]) = .tuple #[.agg #[.int .i64 0, .int .i64 0], .int .i64 10] := by
        cases hx : Lib.atoiAll b with
        | ok v => exact absurd hx (hbad v)
        | range => rfl
        | _ => rfl
      simp only [if_true]
      rw [e1]
      clear e1 h2
      have HB := Lib.hid hbad
      clear hbad
      go_enter Tryd.func31, Tryd.ntmps31
      go_wp2_with (first
        | (go_at_call 26; refine (cut_calls l a b true (by omega) hc _ (he.env.below (by repeat (first | (with_reducible exact Below.refl _ _) | ((with_reducible refine below_grow ?_ ?_); rotate_left; focus (first | omega | (simp [go_sem]; done) | (simp [go_sem]; omega))) | ((with_reducible refine Below.alloc ?_ ?_ _); rotate_left; focus (first | omega | (simp [go_sem]; done) | (simp [go_sem]; omega))) | ((with_reducible refine Below.setCell ?_ ?_ _); rotate_left; focus (first | omega | (simp [go_sem]; done) | (simp [go_sem]; omega))) | (with_reducible refine Below.drew ?_) | (with_reducible refine below_drewN _ ?_))))).mono ?_; rintro e w1 ⟨rfl, hb⟩; obtain ⟨o1, j1, rfl⟩ := grow_of_below hb; clear hb)
        | (go_at_call_of 28 (Value.string ⟨a.toArray⟩); refine (atoi_ok a (by omega) n HN.out _).mono ?_; rintro e w1 ⟨rfl, hb⟩; obtain ⟨o2, j2, rfl⟩ := grow_of_below hb; clear hb)
        | (go_at_call_of 28 (Value.string ⟨b.toArray⟩); refine (atoi_bad b (by omega) HB.out _ (he.below (by repeat (first | (with_reducible exact Below.refl _ _) | ((with_reducible refine below_grow ?_ ?_); rotate_left; focus (first | omega | (simp [go_sem]; done) | (simp [go_sem]; omega))) | ((with_reducible refine Below.alloc ?_ ?_ _); rotate_left; focus (first | omega | (simp [go_sem]; done) | (simp [go_sem]; omega))) | ((with_reducible refine Below.setCell ?_ ?_ _); rotate_left; focus (first | omega | (simp [go_sem]; done) | (simp [go_sem]; omega))) | (with_reducible refine Below.drew ?_) | (with_reducible refine below_drewN _ ?_))))).mono ?_; rintro e w1 ⟨⟨n1, N1, rfl⟩, hb⟩; obtain ⟨o3, j3, rfl⟩ := grow_of_below hb; clear hb))
      refine bodyPost_ret (by simp [results, Tryd.results31, go_sem]) rfl ⟨rfl, ?_⟩
      repeat (first | (with_reducible exact Below.refl _ _) | ((with_reducible refine below_grow ?_ ?_); rotate_left; focus (first | omega | (simp [go_sem]; done) | (simp [go_sem]; omega))) | ((with_reducible refine Below.alloc ?_ ?_ _); rotate_left; focus (first | omega | (simp [go_sem]; done) | (simp [go_sem]; omega))) | ((with_reducible refine Below.setCell ?_ ?_ _); rotate_left; focus (first | omega | (simp [go_sem]; done) | (simp [go_sem]; omega))) | (with_reducible refine Below.drew ?_) | (with_reducible refine below_drewN _ ?_))
  · have hbad : ∀ v, Lib.atoiAll a ≠ .ok v := fun v h => h1 ⟨v, h⟩
    have e1 : ∀ X : Lib.NumEnd Int, (match Lib.atoiAll a, X with
        | .ok n, .ok d => if rightB n d = true ∧ textZ n d = l then Value.tuple #[.agg #[.int .i64 n, .int .i64 d], .int .i64 0] else .tuple #[.agg #[.int .i64 0, .int .i64 0], .int .i64 10]
        | _, _ => .tuple #[.agg #[.int .i64 0, .int .i64 0], .int .i64 10]) = .tuple #[.agg #[.int .i64 0, .int .i64 0], .int .i64 10] := by
      intro X
      cases hx : Lib.atoiAll a with
      | ok v => exact absurd hx (hbad v)
      | range => rfl
      | _ => rfl
    rw [e1]
    clear e1 h1
    have HB := Lib.hid hbad
    clear hbad
    cases f
    · skip
      go_enter Tryd.func31, Tryd.ntmps31
      go_wp2_with (first
        | (go_at_call 26; refine (cut_calls l a b false (by omega) hc _ (he.env.below (by repeat (first | (with_reducible exact Below.refl _ _) | ((with_reducible refine below_grow ?_ ?_); rotate_left; focus (first | omega | (simp [go_sem]; done) | (simp [go_sem]; omega))) | ((with_reducible refine Below.alloc ?_ ?_ _); rotate_left; focus (first | omega | (simp [go_sem]; done) | (simp [go_sem]; omega))) | ((with_reducible refine Below.setCell ?_ ?_ _); rotate_left; focus (first | omega | (simp [go_sem]; done) | (simp [go_sem]; omega))) | (with_reducible refine Below.drew ?_) | (with_reducible refine below_drewN _ ?_))))).mono ?_; rintro e w1 ⟨rfl, hb⟩; obtain ⟨o1, j1, rfl⟩ := grow_of_below hb; clear hb)
        | (go_at_call 28; refine (atoi_bad a (by omega) HB.out _ (he.below (by repeat (first | (with_reducible exact Below.refl _ _) | ((with_reducible refine below_grow ?_ ?_); rotate_left; focus (first | omega | (simp [go_sem]; done) | (simp [go_sem]; omega))) | ((with_reducible refine Below.alloc ?_ ?_ _); rotate_left; focus (first | omega | (simp [go_sem]; done) | (simp [go_sem]; omega))) | ((with_reducible refine Below.setCell ?_ ?_ _); rotate_left; focus (first | omega | (simp [go_sem]; done) | (simp [go_sem]; omega))) | (with_reducible refine Below.drew ?_) | (with_reducible refine below_drewN _ ?_))))).mono ?_; rintro e w1 ⟨⟨n1, N1, rfl⟩, hb⟩; obtain ⟨o2, j2, rfl⟩ := grow_of_below hb; clear hb))
      refine bodyPost_ret (by simp [results, Tryd.results31, go_sem]) rfl ⟨rfl, ?_⟩
      repeat (first | (with_reducible exact Below.refl _ _) | ((with_reducible refine below_grow ?_ ?_); rotate_left; focus (first | omega | (simp [go_sem]; done) | (simp [go_sem]; omega))) | ((with_reducible refine Below.alloc ?_ ?_ _); rotate_left; focus (first | omega | (simp [go_sem]; done) | (simp [go_sem]; omega))) | ((with_reducible refine Below.setCell ?_ ?_ _); rotate_left; focus (first | omega | (simp [go_sem]; done) | (simp [go_sem]; omega))) | (with_reducible refine Below.drew ?_) | (with_reducible refine below_drewN _ ?_))
    · skip
      go_enter Tryd.func31, Tryd.ntmps31
      go_wp2_with (first
        | (go_at_call 26; refine (cut_calls l a b true (by omega) hc _ (he.env.below (by repeat (first | (with_reducible exact Below.refl _ _) | ((with_reducible refine below_grow ?_ ?_); rotate_left; focus (first | omega | (simp [go_sem]; done) | (simp [go_sem]; omega))) | ((with_reducible refine Below.alloc ?_ ?_ _); rotate_left; focus (first | omega | (simp [go_sem]; done) | (simp [go_sem]; omega))) | ((with_reducible refine Below.setCell ?_ ?_ _); rotate_left; focus (first | omega | (simp [go_sem]; done) | (simp [go_sem]; omega))) | (with_reducible refine Below.drew ?_) | (with_reducible refine below_drewN _ ?_))))).mono ?_; rintro e w1 ⟨rfl, hb⟩; obtain ⟨o1, j1, rfl⟩ := grow_of_below hb; clear hb)
        | (go_at_call 28; refine (atoi_bad a (by omega) HB.out _ (he.below (by repeat (first | (with_reducible exact Below.refl _ _) | ((with_reducible refine below_grow ?_ ?_); rotate_left; focus (first | omega | (simp [go_sem]; done) | (simp [go_sem]; omega))) | ((with_reducible refine Below.alloc ?_ ?_ _); rotate_left; focus (first | omega | (simp [go_sem]; done) | (simp [go_sem]; omega))) | ((with_reducible refine Below.setCell ?_ ?_ _); rotate_left; focus (first | omega | (simp [go_sem]; done) | (simp [go_sem]; omega))) | (with_reducible refine Below.drew ?_) | (with_reducible refine below_drewN _ ?_))))).mono ?_; rintro e w1 ⟨⟨n1, N1, rfl⟩, hb⟩; obtain ⟨o2, j2, rfl⟩ := grow_of_below hb; clear hb))
      refine bodyPost_ret (by simp [results, Tryd.results31, go_sem]) rfl ⟨rfl, ?_⟩
      repeat (first | (with_reducible exact Below.refl _ _) | ((with_reducible refine below_grow ?_ ?_); rotate_left; focus (first | omega | (simp [go_sem]; done) | (simp [go_sem]; omega))) | ((with_reducible refine Below.alloc ?_ ?_ _); rotate_left; focus (first | omega | (simp [go_sem]; done) | (simp [go_sem]; omega))) | ((with_reducible refine Below.setCell ?_ ?_ _); rotate_left; focus (first | omega | (simp [go_sem]; done) | (simp [go_sem]; omega))) | (with_reducible refine Below.drew ?_) | (with_reducible refine below_drewN _ ?_))
end Go.Proofs.YtignphcnjgbikaaDoor
