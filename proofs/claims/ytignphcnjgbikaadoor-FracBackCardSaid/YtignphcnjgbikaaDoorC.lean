/- Walks of frac: times, plus and what stands above them. -/
import Derived.Test.YtignphcnjgbikaaDoorB
namespace Go.Proofs.YtignphcnjgbikaaDoor
open Go.RowKit Go.Shelf

/-- ratio.times -/
theorem times_calls (b c : Bool) (n d m e : Nat) (hn : n < 18446744073709551616) (hd0 : 0 < d) (hd : d < 18446744073709551616) (hm : m < 18446744073709551616) (he0 : 0 < e) (he : e < 18446744073709551616) (G1 G2 : Nat) (hG1 : Hid (Nat.gcd n e = G1)) (hG2 : Hid (Nat.gcd m d = G2)) (w : World) :
    Calls Tryd.prog 37 #[.agg #[.bool b, .int .u64 n, .int .u64 d], .agg #[.bool c, .int .u64 m, .int .u64 e]] w fun r w' => r = .returned (.tuple #[.agg #[.int .i64 (packN (!(b == c)) (((n : Int) / G1) * ((m : Int) / G2)) (((d : Int) / G2) * ((e : Int) / G1))), .int .i64 (packD (!(b == c)) (((n : Int) / G1) * ((m : Int) / G2)) (((d : Int) / G2) * ((e : Int) / G1)))], .int .i64 (packE (!(b == c)) (((n : Int) / G1) * ((m : Int) / G2)) (((d : Int) / G2) * ((e : Int) / G1)))]) ∧ Below w.heap.size w w' := by
  have g1 : 0 < G1 := by have := Nat.gcd_pos_of_pos_right n he0; rw [hG1.out] at this; exact this
  have g2 : 0 < G2 := by have := Nat.gcd_pos_of_pos_right m hd0; rw [hG2.out] at this; exact this
  go_enter Tryd.func37, Tryd.ntmps37
  go_wp2
  go_region_held3 (fun w' => w'.cell? ⟨w.heap.size, 1, none⟩ = some (.int .u64 n) ∧ w'.cell? ⟨w.heap.size, 2, none⟩ = some (.int .u64 d) ∧ w'.cell? ⟨w.heap.size + 1, 1, none⟩ = some (.int .u64 m) ∧ w'.cell? ⟨w.heap.size + 1, 2, none⟩ = some (.int .u64 e)) (simp [go_sem, World.cell?_alloc_past])
    (first | (go_at_call_of 41 (n); refine (gcd_callsG n e G1 hG1 _ hn he).mono ?_; rintro e w' ⟨rfl, k1, rfl⟩) | (go_at_call_of 41 (m); refine (gcd_callsG m d G2 hG2 _ hm hd).mono ?_; rintro e w' ⟨rfl, k2, rfl⟩))
  go_wp2
  have q1 := u64div n G1 hn
  have q2 := u64div m G2 hm
  have q3 := u64div d G2 hd
  have q4 := u64div e G1 he
  have z1 : ¬ G1 = 0 := by omega
  have z2 : ¬ G2 = 0 := by omega
  obtain ⟨p1, r1⟩ := divb n G1 hn
  obtain ⟨p2, r2⟩ := divb m G2 hm
  obtain ⟨p3, r3⟩ := divb d G2 hd
  obtain ⟨p4, r4⟩ := divb e G1 he
  go_region_held3 (fun w' => w'.cell? ⟨w.heap.size, 0, none⟩ = some (.bool b) ∧ w'.cell? ⟨w.heap.size + 1, 0, none⟩ = some (.bool c) ∧ w'.cell? ⟨w.heap.size, 1, none⟩ = some (.int .u64 n) ∧ w'.cell? ⟨w.heap.size, 2, none⟩ = some (.int .u64 d) ∧ w'.cell? ⟨w.heap.size + 1, 1, none⟩ = some (.int .u64 m) ∧ w'.cell? ⟨w.heap.size + 1, 2, none⟩ = some (.int .u64 e)) (simp [*, go_sem, World.cell?_alloc_past])
    (first
      | (go_at_call_of 59 ((n : Int) / (G1 : Int)); refine (product_callsI _ _ p1 p2 r1 r2 _).mono ?_; rintro e w1 ⟨rfl, hb⟩; obtain ⟨x1, d1, rfl⟩ := grow_of_below hb; clear hb)
      | (go_at_call_of 59 ((d : Int) / (G2 : Int)); refine (product_callsI _ _ p3 p4 r3 r4 _).mono ?_; rintro e w2 ⟨rfl, hb⟩; obtain ⟨x2, d2, rfl⟩ := grow_of_below hb; clear hb)
      | (go_at_call 40; refine (pack_calls _ _ _ (Int.mul_nonneg p1 p2) (Int.mul_nonneg p3 p4) _).mono ?_; rintro e w3 ⟨rfl, hb⟩; obtain ⟨x3, d3, rfl⟩ := grow_of_below hb; clear hb))
  go_wp2
  refine bodyPost_ret (by simp [results, Tryd.results37, go_sem]) rfl ⟨rfl, ?_⟩
  repeat (first | exact Below.refl _ _ | refine Below.setCell ?_ (by first | (simp [go_sem]; done) | (simp [go_sem]; omega)) _ | refine Below.alloc ?_ (by first | (simp [go_sem]; done) | (simp [go_sem]; omega)) _ | refine Below.drew ?_ | refine below_drewN _ ?_ | refine below_grow ?_ (by first | (simp [go_sem]; done) | (simp [go_sem]; omega)))
end Go.Proofs.YtignphcnjgbikaaDoor
