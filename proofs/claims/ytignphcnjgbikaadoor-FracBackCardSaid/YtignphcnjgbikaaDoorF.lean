/- Walks of frac: Right, allRight, Make. -/
import Derived.Test.YtignphcnjgbikaaDoorD
import Derived.Deep.DeepCutAuto
namespace Go.Proofs.YtignphcnjgbikaaDoor
open Go.RowKit Go.Shelf

/-- Is the fraction n / d right? -/
def rightB (n d : Int) : Bool := decide (0 < d ∧ Int.gcd n d = 1)
def I64 (n : Int) : Prop := -9223372036854775808 ≤ n ∧ n ≤ 9223372036854775807

theorem right_calls (n d : Int) (hn : I64 n) (hd : I64 d) (w : World) :
    Calls Tryd.prog 20 #[.agg #[.int .i64 n, .int .i64 d]] w fun e w' => e = .returned (.bool (rightB n d)) ∧ Below w.heap.size w w' := by
  obtain ⟨n1, n2⟩ := hn
  obtain ⟨d1, d2⟩ := hd
  by_cases h : 0 < d
  · obtain ⟨G, hG⟩ : ∃ G : Nat, Int.gcd n d = G := ⟨_, rfl⟩
    have hr : rightB n d = ((G : Int) == 1) := by
      unfold rightB; rw [hG, Bool.eq_iff_iff]; simp [h]; omega
    rw [hr]
    clear hr
    have HG := Lib.hid hG
    clear hG
    have hGG : Hid (Int.gcd (n.natAbs : Int) (d.natAbs : Int) = G) := Lib.hid (by have := HG.out; simpa [Int.gcd] using this)
    have a0 : (0 : Int) ≤ (n.natAbs : Int) := by omega
    have b0 : (0 : Int) ≤ (d.natAbs : Int) := by omega
    have a1 : (n.natAbs : Int) < 18446744073709551616 := by omega
    have b1 : (d.natAbs : Int) < 18446744073709551616 := by omega
    go_enter Tryd.func20, Tryd.ntmps20
    go_wp2
    go_region_held3 (fun w' => w'.cell? ⟨w.heap.size, 0, none⟩ = some (.int .i64 n) ∧ w'.cell? ⟨w.heap.size, 1, none⟩ = some (.int .i64 d)) (simp [*, go_sem])
      (first
        | (go_at_call_of 42 (n); refine (size_calls n _ n1 n2).mono ?_; rintro e w' ⟨rfl, rfl⟩)
        | (go_at_call_of 42 (d); refine (size_calls d _ d1 d2).mono ?_; rintro e w' ⟨rfl, rfl⟩)
        | (go_at_call 41; refine (gcd_callsI _ _ G hGG a0 b0 a1 b1 _).mono ?_; rintro e w1 ⟨rfl, hb⟩; obtain ⟨o1, j1, rfl⟩ := grow_of_below hb; clear hb))
    go_wp2
    go_ret
    exact ⟨rfl, by repeat (first | exact Below.refl _ _ | refine Below.setCell ?_ (by first | omega | (simp [go_sem]; done) | (simp [go_sem]; omega)) _ | refine Below.alloc ?_ (by first | omega | (simp [go_sem]; done) | (simp [go_sem]; omega)) _ | refine Below.drew ?_ | refine below_drewN _ ?_ | refine below_grow ?_ (by first | omega | (simp [go_sem]; done) | (simp [go_sem]; omega)))⟩
  · have hr : rightB n d = false := by unfold rightB; simp [h]
    rw [hr]
    clear hr
    have hx : decide (0 < d) = false := by simpa using h
    go_enter Tryd.func20, Tryd.ntmps20
    go_wp2
    go_quiet (fail)
    go_wp2
    go_ret
    exact ⟨rfl, by repeat (first | exact Below.refl _ _ | refine Below.setCell ?_ (by first | omega | (simp [go_sem]; done) | (simp [go_sem]; omega)) _ | refine Below.alloc ?_ (by first | omega | (simp [go_sem]; done) | (simp [go_sem]; omega)) _ | refine Below.drew ?_ | refine below_drewN _ ?_ | refine below_grow ?_ (by first | omega | (simp [go_sem]; done) | (simp [go_sem]; omega)))⟩

theorem right_callsB (n d : Int) (b : Bool) (h : Hid (rightB n d = b)) (hn : I64 n) (hd : I64 d) (w : World) :
    Calls Tryd.prog 20 #[.agg #[.int .i64 n, .int .i64 d]] w fun e w' => e = .returned (.bool b) ∧ Below w.heap.size w w' := by
  have := right_calls n d hn hd w
  rw [h.out] at this
  exact this

/-- The fractions that lie at p from off on. -/
def FracsAt (w : World) (p off : Nat) (l : List (Int × Int)) : Prop :=
  ∀ i (h : i < l.length), w.cell? ⟨p, off + i * 2, none⟩ = some (.int .i64 l[i].1) ∧ w.cell? ⟨p, off + i * 2 + 1, none⟩ = some (.int .i64 l[i].2) ∧ I64 l[i].1 ∧ I64 l[i].2

theorem allRight_calls (p off cap : Nat) (l : List (Int × Int)) (hl : l.length ≤ 1000000) (w : World) (hc : FracsAt w p off l) (hp : p < w.heap.size) :
    Calls Tryd.prog 34 #[.slice (some ⟨p, off, none⟩) l.length cap] w fun e w' => e = .returned (.bool (l.all fun x => rightB x.1 x.2)) ∧ Below w.heap.size w w' := by
  go_enter Tryd.func34, Tryd.ntmps34
  go_wp2
  go_loopw [7] (fun i wr => ∃ k : Nat, k ≤ l.length ∧ i = .int .i64 k ∧ (l.take k).all (fun x => rightB x.1 x.2) = true ∧ Below w.heap.size w wr) (fun i _ => l.length - (intOf i).toNat)
  case atStart => exact ⟨0, Nat.zero_le _, rfl, by simp, Below.refl _ _⟩
  case round =>
    obtain ⟨k, hk, rfl, ha, hb⟩ := hrel
    have HA := Lib.hid ha
    clear ha
    by_cases hlt : k < l.length
    · have hs := hb.size
      have inst : NeZero (inW p wr) := inW_mk (by omega)
      obtain ⟨c1, c2, i1, i2⟩ := hc k hlt
      have e1 : wr.cell? ⟨p, off + k * 2, none⟩ = some (.int .i64 l[k].1) := (hb.cell (p := ⟨p, _, none⟩) hp).trans c1
      have e2 : wr.cell? ⟨p, off + k * 2 + 1, none⟩ = some (.int .i64 l[k].2) := (hb.cell (p := ⟨p, _, none⟩) hp).trans c2
      clear c1 c2 hc
      have ht : (l.take (k + 1)).all (fun x => rightB x.1 x.2) = ((l.take k).all (fun x => rightB x.1 x.2) && rightB l[k].1 l[k].2) := by
        rw [List.take_succ_eq_append_getElem hlt]; simp only [List.all_append, List.all_cons, List.all_nil, Bool.and_true]
      have hlk : l[k] ∈ l := List.getElem_mem hlt
      cases hr : rightB l[k].1 l[k].2
      · have HR := Lib.hid hr
        have hall : (l.all fun x => rightB x.1 x.2) = false := by
          rw [List.all_eq_false]; exact ⟨l[k], hlk, by simp [hr]⟩
        have HALL := Lib.hid hall
        clear hall hr ht hlk
        generalize l[k].1 = n at *
        generalize l[k].2 = d at *
        go_wp2_with (go_at_call 20; refine (right_callsB n d false HR i1 i2 _).mono ?_; rintro e w1 ⟨rfl, hb1⟩; obtain ⟨o1, j1, rfl⟩ := grow_of_below hb1; clear hb1)
        go_ret
        rw [HALL.out]
        exact ⟨rfl, by repeat (first | exact hb | refine Below.setCell ?_ (by first | omega | (simp [go_sem]; done) | (simp [go_sem]; omega)) _ | refine Below.alloc ?_ (by first | omega | (simp [go_sem]; done) | (simp [go_sem]; omega)) _ | refine Below.drew ?_ | refine below_drewN _ ?_ | refine below_grow ?_ (by first | omega | (simp [go_sem]; done) | (simp [go_sem]; omega)))⟩
      · have HR := Lib.hid hr
        rw [hr, HA.out] at ht
        have HT := Lib.hid ht
        clear hr ht hlk
        generalize l[k].1 = n at *
        generalize l[k].2 = d at *
        go_wp2_with (go_at_call 20; refine (right_callsB n d true HR i1 i2 _).mono ?_; rintro e w1 ⟨rfl, hb1⟩; obtain ⟨o1, j1, rfl⟩ := grow_of_below hb1; clear hb1)
        go_roundw
        case rel => exact ⟨k + 1, by omega, by go_num, HT.out, by repeat (first | exact hb | refine Below.setCell ?_ (by first | omega | (simp [go_sem]; done) | (simp [go_sem]; omega)) _ | refine Below.alloc ?_ (by first | omega | (simp [go_sem]; done) | (simp [go_sem]; omega)) _ | refine Below.drew ?_ | refine below_drewN _ ?_ | refine below_grow ?_ (by first | omega | (simp [go_sem]; done) | (simp [go_sem]; omega)))⟩
        case measure => simp [intOf]; omega
    · have hk2 : k = l.length := by omega
      subst hk2
      go_wp2
      go_ret
      have := HA.out
      rw [List.take_length] at this
      rw [this]
      exact ⟨rfl, hb⟩
end Go.Proofs.YtignphcnjgbikaaDoor
