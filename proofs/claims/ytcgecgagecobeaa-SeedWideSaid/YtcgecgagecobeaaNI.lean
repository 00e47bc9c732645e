/- Walks of nat: Gcd, Cmp, Of, Int. -/
import Derived.Test.YtcgecgagecobeaaNH
import Derived.Deep.LoopGhost
namespace Go.Proofs.Ytcgecgagecobeaa
open Go.RowKit

theorem gcd_isN {a b : Nat} (ha : isN a) (hb : isN b) : isN (Nat.gcd a b) := by
  unfold isN at *
  by_cases h : a = 0
  · subst h; rw [Nat.gcd_zero_left]; exact hb
  · have := Nat.gcd_le_left b (Nat.pos_of_ne_zero h); omega
theorem mod_isN {a b : Nat} (ha : isN a) : isN (a % b) := by have := Nat.mod_le a b; unfold isN at *; omega
theorem div_isN {a b : Nat} (ha : isN a) : isN (a / b) := by have := Nat.div_le_self a b; unfold isN at *; omega
theorem isNaN_calls (x : Int) (w : World) : Calls Try.prog 67 #[.int .u32 x] w fun e w' => e = .returned (.bool false) ∧ w = w' := by
  go_enter Try.func67, Try.ntmps67
  go_wp2
  go_ret
  exact ⟨by simp, rfl⟩
def cmpI (x y : Int) : Int := if x < y then -1 else if y < x then 1 else 0
theorem compare_calls (x y : Int) (_ : 0 ≤ x ∧ x ≤ 4294967295) (_ : 0 ≤ y ∧ y ≤ 4294967295) (w : World) : Calls Try.prog 49 #[.int .u32 x, .int .u32 y] w fun e w' => e = .returned (.int .i64 (cmpI x y)) ∧ w = w' := by
  by_cases h1 : x < y
  · have e : cmpI x y = -1 := if_pos h1
    rw [e]
    go_enter Try.func49, Try.ntmps49
    go_wp2_with (first | (go_at_call 67; refine (isNaN_calls _ _).mono ?_; rintro e w0 ⟨rfl, rfl⟩))
    go_ret
    exact ⟨rfl, rfl⟩
  · by_cases h2 : y < x
    · have e : cmpI x y = 1 := by unfold cmpI; rw [if_neg h1, if_pos h2]
      rw [e]
      go_enter Try.func49, Try.ntmps49
      go_wp2_with (first | (go_at_call 67; refine (isNaN_calls _ _).mono ?_; rintro e w0 ⟨rfl, rfl⟩))
      go_ret
      exact ⟨rfl, rfl⟩
    · have e : cmpI x y = 0 := by unfold cmpI; rw [if_neg h1, if_neg h2]
      rw [e]
      go_enter Try.func49, Try.ntmps49
      go_wp2_with (first | (go_at_call 67; refine (isNaN_calls _ _).mono ?_; rintro e w0 ⟨rfl, rfl⟩))
      go_ret
      exact ⟨rfl, rfl⟩
def cmpN (a b : Nat) : Int := if a < b then -1 else if b < a then 1 else 0
theorem cmp_top (a b : Nat) (ha : isN a) (hb : isN b) : (¬ pt a 3 = pt b 3 → cmpI (pt a 3) (pt b 3) = cmpN a b) ∧ (pt a 3 = pt b 3 → ¬ pt a 2 = pt b 2 → cmpI (pt a 2) (pt b 2) = cmpN a b) ∧
    (pt a 3 = pt b 3 → pt a 2 = pt b 2 → ¬ pt a 1 = pt b 1 → cmpI (pt a 1) (pt b 1) = cmpN a b) ∧ (pt a 3 = pt b 3 → pt a 2 = pt b 2 → pt a 1 = pt b 1 → cmpI (pt a 0) (pt b 0) = cmpN a b) := by
  have a0 := pt_bd a 0
  have a1 := pt_bd a 1
  have a2 := pt_bd a 2
  have a3 := pt_bd a 3
  have b0 := pt_bd b 0
  have b1 := pt_bd b 1
  have b2 := pt_bd b 2
  have b3 := pt_bd b 3
  have ka := pt_sum a ha
  have kb := pt_sum b hb
  unfold cmpI cmpN
  refine ⟨fun _ => ?_, fun _ _ => ?_, fun _ _ _ => ?_, fun _ _ _ => ?_⟩ <;> split <;> split <;> (try omega) <;> (repeat split) <;> omega
theorem cmpI_ne (x y : Int) (h : ¬ x = y) : (cmpI x y != 0) = true ∧ (cmpI x y = 1 ∨ cmpI x y = -1) := by
  unfold cmpI; split
  · simp
  · split
    · simp
    · omega
theorem cmpI_eq (x y : Int) (h : x = y) : cmpI x y = 0 := by unfold cmpI; rw [if_neg (by omega), if_neg (by omega)]
set_option maxHeartbeats 4000000 in
theorem cmp_calls (a b : Nat) (ha : isN a) (hb : isN b) (w : World) :
    Calls Try.prog 20 #[.agg #[.int .u32 (pt a 0), .int .u32 (pt a 1), .int .u32 (pt a 2), .int .u32 (pt a 3)], .agg #[.int .u32 (pt b 0), .int .u32 (pt b 1), .int .u32 (pt b 2), .int .u32 (pt b 3)]] w fun e w' => e = .returned (.int .i64 (cmpN a b)) ∧ Below w.heap.size w w' := by
  have a0 := pt_bd a 0
  have a1 := pt_bd a 1
  have a2 := pt_bd a 2
  have a3 := pt_bd a 3
  have b0 := pt_bd b 0
  have b1 := pt_bd b 1
  have b2 := pt_bd b 2
  have b3 := pt_bd b 3
  obtain ⟨u3, u2, u1, u0⟩ := cmp_top a b ha hb
  have t3 := Lib.hid u3
  have t2 := Lib.hid u2
  have t1 := Lib.hid u1
  have t0 := Lib.hid u0
  clear u3 u2 u1 u0
  obtain ⟨C, hC⟩ : ∃ C, cmpN a b = C := ⟨_, rfl⟩
  rw [hC] at t3 t2 t1 t0 ⊢
  clear hC
  go_enter Try.func20, Try.ntmps20
  go_wp2
  refine wp_loop_rounds 5 ?_
  rw [rounds_succ]
  go_wp2
  go_region_held3 (fun w' => w'.cell? ⟨w.heap.size, 3, none⟩ = some (.int .u32 (pt a 3)) ∧ w'.cell? ⟨w.heap.size + 1, 3, none⟩ = some (.int .u32 (pt b 3))) (simp [*, go_sem]) (first | (go_at_call 49; refine (compare_calls _ _ a3 b3 _).mono ?_; rintro e w0 ⟨rfl, rfl⟩))
  by_cases g3' : pt a 3 = pt b 3
  rotate_left
  · obtain ⟨n1, n2⟩ := cmpI_ne _ _ g3'
    have e : Hid (cmpI (pt a 3) (pt b 3) = C) := Lib.hid (t3.out  g3')
    clear g3' t3 t2 t1 t0
    go_wp2
    go_ret
    exact ⟨ret_int e.out, by repeat (first | (with_reducible exact Below.refl _ _) | ((with_reducible refine below_grow ?_ ?_); rotate_left; focus (first | omega | (simp [go_sem]; done) | (simp [go_sem]; omega))) | ((with_reducible refine Below.alloc ?_ ?_ _); rotate_left; focus (first | omega | (simp [go_sem]; done) | (simp [go_sem]; omega))) | ((with_reducible refine Below.setCell ?_ ?_ _); rotate_left; focus (first | omega | (simp [go_sem]; done) | (simp [go_sem]; omega))) | (with_reducible refine Below.drew ?_) | (with_reducible refine below_drewN _ ?_))⟩
  have e3 := cmpI_eq _ _ g3'
  have g3 := Lib.hid g3'
  clear g3'
  rw [e3]
  go_wp2
  rw [rounds_succ]
  go_wp2
  go_region_held3 (fun w' => w'.cell? ⟨w.heap.size, 2, none⟩ = some (.int .u32 (pt a 2)) ∧ w'.cell? ⟨w.heap.size + 1, 2, none⟩ = some (.int .u32 (pt b 2))) (simp [*, go_sem]) (first | (go_at_call 49; refine (compare_calls _ _ a2 b2 _).mono ?_; rintro e w0 ⟨rfl, rfl⟩))
  by_cases g2' : pt a 2 = pt b 2
  rotate_left
  · obtain ⟨n1, n2⟩ := cmpI_ne _ _ g2'
    have e : Hid (cmpI (pt a 2) (pt b 2) = C) := Lib.hid (t2.out g3.out g2')
    clear g2' t3 t2 t1 t0
    go_wp2
    go_ret
    exact ⟨ret_int e.out, by repeat (first | (with_reducible exact Below.refl _ _) | ((with_reducible refine below_grow ?_ ?_); rotate_left; focus (first | omega | (simp [go_sem]; done) | (simp [go_sem]; omega))) | ((with_reducible refine Below.alloc ?_ ?_ _); rotate_left; focus (first | omega | (simp [go_sem]; done) | (simp [go_sem]; omega))) | ((with_reducible refine Below.setCell ?_ ?_ _); rotate_left; focus (first | omega | (simp [go_sem]; done) | (simp [go_sem]; omega))) | (with_reducible refine Below.drew ?_) | (with_reducible refine below_drewN _ ?_))⟩
  have e2 := cmpI_eq _ _ g2'
  have g2 := Lib.hid g2'
  clear g2'
  rw [e2]
  go_wp2
  rw [rounds_succ]
  go_wp2
  go_region_held3 (fun w' => w'.cell? ⟨w.heap.size, 1, none⟩ = some (.int .u32 (pt a 1)) ∧ w'.cell? ⟨w.heap.size + 1, 1, none⟩ = some (.int .u32 (pt b 1))) (simp [*, go_sem]) (first | (go_at_call 49; refine (compare_calls _ _ a1 b1 _).mono ?_; rintro e w0 ⟨rfl, rfl⟩))
  by_cases g1' : pt a 1 = pt b 1
  rotate_left
  · obtain ⟨n1, n2⟩ := cmpI_ne _ _ g1'
    have e : Hid (cmpI (pt a 1) (pt b 1) = C) := Lib.hid (t1.out g3.out g2.out g1')
    clear g1' t3 t2 t1 t0
    go_wp2
    go_ret
    exact ⟨ret_int e.out, by repeat (first | (with_reducible exact Below.refl _ _) | ((with_reducible refine below_grow ?_ ?_); rotate_left; focus (first | omega | (simp [go_sem]; done) | (simp [go_sem]; omega))) | ((with_reducible refine Below.alloc ?_ ?_ _); rotate_left; focus (first | omega | (simp [go_sem]; done) | (simp [go_sem]; omega))) | ((with_reducible refine Below.setCell ?_ ?_ _); rotate_left; focus (first | omega | (simp [go_sem]; done) | (simp [go_sem]; omega))) | (with_reducible refine Below.drew ?_) | (with_reducible refine below_drewN _ ?_))⟩
  have e1 := cmpI_eq _ _ g1'
  have g1 := Lib.hid g1'
  clear g1'
  rw [e1]
  go_wp2
  rw [rounds_succ]
  go_wp2
  go_region_held3 (fun w' => w'.cell? ⟨w.heap.size, 0, none⟩ = some (.int .u32 (pt a 0)) ∧ w'.cell? ⟨w.heap.size + 1, 0, none⟩ = some (.int .u32 (pt b 0))) (simp [*, go_sem]) (first | (go_at_call 49; refine (compare_calls _ _ a0 b0 _).mono ?_; rintro e w0 ⟨rfl, rfl⟩))
  by_cases g0' : pt a 0 = pt b 0
  rotate_left
  · obtain ⟨n1, n2⟩ := cmpI_ne _ _ g0'
    have e : Hid (cmpI (pt a 0) (pt b 0) = C) := Lib.hid (t0.out g3.out g2.out g1.out)
    clear g0' t3 t2 t1 t0
    go_wp2
    go_ret
    exact ⟨ret_int e.out, by repeat (first | (with_reducible exact Below.refl _ _) | ((with_reducible refine below_grow ?_ ?_); rotate_left; focus (first | omega | (simp [go_sem]; done) | (simp [go_sem]; omega))) | ((with_reducible refine Below.alloc ?_ ?_ _); rotate_left; focus (first | omega | (simp [go_sem]; done) | (simp [go_sem]; omega))) | ((with_reducible refine Below.setCell ?_ ?_ _); rotate_left; focus (first | omega | (simp [go_sem]; done) | (simp [go_sem]; omega))) | (with_reducible refine Below.drew ?_) | (with_reducible refine below_drewN _ ?_))⟩
  have e0 := cmpI_eq _ _ g0'
  have g0 := Lib.hid g0'
  clear g0'
  rw [e0]
  go_wp2
  rw [rounds_succ]
  go_wp2
  go_ret
  exact ⟨ret_int (by rw [← t0.out g3.out g2.out g1.out]; exact e0.symm), by repeat (first | (with_reducible exact Below.refl _ _) | ((with_reducible refine below_grow ?_ ?_); rotate_left; focus (first | omega | (simp [go_sem]; done) | (simp [go_sem]; omega))) | ((with_reducible refine Below.alloc ?_ ?_ _); rotate_left; focus (first | omega | (simp [go_sem]; done) | (simp [go_sem]; omega))) | ((with_reducible refine Below.setCell ?_ ?_ _); rotate_left; focus (first | omega | (simp [go_sem]; done) | (simp [go_sem]; omega))) | (with_reducible refine Below.drew ?_) | (with_reducible refine below_drewN _ ?_))⟩

theorem of_parts (n : Int) (h0 : 0 ≤ n) (h1 : n ≤ 9223372036854775807) : isN n.toNat ∧ n % 4294967296 = pt n.toNat 0 ∧ n / 4294967296 = pt n.toNat 1 ∧ 0 = pt n.toNat 2 ∧ 0 = pt n.toNat 3 := by
  have k := pt_mk (n % 4294967296) (n / 4294967296) 0 0 (by omega) (by omega) (by omega) (by omega) n.toNat (by omega)
  exact k
def ofR (n : Int) : Nat := if n < 0 then 0 else n.toNat
def ofE (n : Int) : Int := if n < 0 then 21 else 0
set_option maxHeartbeats 4000000 in
theorem of_calls (n : Int) (h0 : -9223372036854775808 ≤ n) (h1 : n ≤ 9223372036854775807) (w : World) :
    Calls Try.prog 21 #[.int .i64 n] w fun e w' => e = .returned (.tuple #[.agg #[.int .u32 (pt (ofR n) 0), .int .u32 (pt (ofR n) 1), .int .u32 (pt (ofR n) 2), .int .u32 (pt (ofR n) 3)], .int .i64 (ofE n)]) ∧ Below w.heap.size w w' := by
  by_cases h : n < 0
  · have e1 : ofR n = 0 := if_pos h
    have e2 : ofE n = 21 := if_pos h
    rw [e1, e2]
    go_enter Try.func21, Try.ntmps21
    go_wp2
    refine bodyPost_ret (by simp [results, Try.results21, go_sem, pt_zero]) rfl ⟨rfl, ?_⟩
    repeat (first | (with_reducible exact Below.refl _ _) | ((with_reducible refine below_grow ?_ ?_); rotate_left; focus (first | omega | (simp [go_sem]; done) | (simp [go_sem]; omega))) | ((with_reducible refine Below.alloc ?_ ?_ _); rotate_left; focus (first | omega | (simp [go_sem]; done) | (simp [go_sem]; omega))) | ((with_reducible refine Below.setCell ?_ ?_ _); rotate_left; focus (first | omega | (simp [go_sem]; done) | (simp [go_sem]; omega))) | (with_reducible refine Below.drew ?_) | (with_reducible refine below_drewN _ ?_))
  · have e1 : ofR n = n.toNat := if_neg h
    have e2 : ofE n = 0 := if_neg h
    rw [e1, e2]
    obtain ⟨-, r0, r1, r2, r3⟩ := of_parts n (by omega) h1
    have p0 := Lib.hid r0
    have p1 := Lib.hid r1
    have p2 := Lib.hid r2
    have p3 := Lib.hid r3
    clear r0 r1 r2 r3
    have hn : 0 ≤ n := by omega
    clear e1 e2 h
    go_enter Try.func21, Try.ntmps21
    go_wp2
    refine bodyPost_ret (by simp [results, Try.results21, go_sem, p0.out, p1.out, ← p2.out, ← p3.out]) rfl ⟨rfl, ?_⟩
    repeat (first | (with_reducible exact Below.refl _ _) | ((with_reducible refine below_grow ?_ ?_); rotate_left; focus (first | omega | (simp [go_sem]; done) | (simp [go_sem]; omega))) | ((with_reducible refine Below.alloc ?_ ?_ _); rotate_left; focus (first | omega | (simp [go_sem]; done) | (simp [go_sem]; omega))) | ((with_reducible refine Below.setCell ?_ ?_ _); rotate_left; focus (first | omega | (simp [go_sem]; done) | (simp [go_sem]; omega))) | (with_reducible refine Below.drew ?_) | (with_reducible refine below_drewN _ ?_))

def intR (a : Nat) : Int := if a < 9223372036854775808 then a else 0
def intE (a : Nat) : Int := if a < 9223372036854775808 then 0 else 3
theorem or63 (x y : Int) (hx : 0 ≤ x ∧ x ≤ 2147483647) (hy : 0 ≤ y ∧ y ≤ 4294967295) : bits .or .i64 (x * 4294967296) y = x * 4294967296 + y :=
  bits_join .i64 63 (by decide) (fun n h0 h1 => by rw [IntKind.wrap_i64]; omega) 32 _ _ (by omega) (by omega) (by omega) hy.1 (by omega) (by omega)
theorem int_parts (a : Nat) (ha : isN a) : (pt a 3 = 0 → pt a 2 = 0 → pt a 1 ≤ 2147483647 → intR a = pt a 1 * 4294967296 + pt a 0 ∧ intE a = 0) ∧ (¬ (pt a 3 = 0 ∧ pt a 2 = 0 ∧ pt a 1 ≤ 2147483647) → intR a = 0 ∧ intE a = 3) := by
  have a0 := pt_bd a 0
  have a1 := pt_bd a 1
  have a2 := pt_bd a 2
  have a3 := pt_bd a 3
  have ka := pt_sum a ha
  unfold intR intE
  constructor
  · intro h3 h2 h1
    rw [if_pos (by omega), if_pos (by omega)]
    omega
  · intro h
    rw [if_neg (by omega), if_neg (by omega)]
    exact ⟨rfl, rfl⟩
set_option maxHeartbeats 4000000 in
theorem int_calls (a : Nat) (ha : isN a) (w : World) :
    Calls Try.prog 24 #[.agg #[.int .u32 (pt a 0), .int .u32 (pt a 1), .int .u32 (pt a 2), .int .u32 (pt a 3)]] w fun e w' => e = .returned (.tuple #[.int .i64 (intR a), .int .i64 (intE a)]) ∧ Below w.heap.size w w' := by
  have a0 := pt_bd a 0
  have a1 := pt_bd a 1
  have a2 := pt_bd a 2
  have a3 := pt_bd a 3
  obtain ⟨hy, hn⟩ := int_parts a ha
  by_cases z3 : pt a 3 = 0
  · by_cases z2 : pt a 2 = 0
    · by_cases z1 : pt a 1 ≤ 2147483647
      · obtain ⟨e1, e2⟩ := hy z3 z2 z1
        rw [e1, e2]
        have H := or63 (pt a 1) (pt a 0) (by omega) a0
        clear hy hn e1 e2
        go_enter Try.func24, Try.ntmps24
        go_wp2
        go_ret2
        exact ⟨rfl, by repeat (first | (with_reducible exact Below.refl _ _) | ((with_reducible refine below_grow ?_ ?_); rotate_left; focus (first | omega | (simp [go_sem]; done) | (simp [go_sem]; omega))) | ((with_reducible refine Below.alloc ?_ ?_ _); rotate_left; focus (first | omega | (simp [go_sem]; done) | (simp [go_sem]; omega))) | ((with_reducible refine Below.setCell ?_ ?_ _); rotate_left; focus (first | omega | (simp [go_sem]; done) | (simp [go_sem]; omega))) | (with_reducible refine Below.drew ?_) | (with_reducible refine below_drewN _ ?_))⟩
      · obtain ⟨e1, e2⟩ := hn (by omega)
        rw [e1, e2]
        have z1' : 2147483647 < pt a 1 := by omega
        clear hy hn e1 e2 z1
        go_enter Try.func24, Try.ntmps24
        go_wp2
        go_ret2
        exact ⟨rfl, by repeat (first | (with_reducible exact Below.refl _ _) | ((with_reducible refine below_grow ?_ ?_); rotate_left; focus (first | omega | (simp [go_sem]; done) | (simp [go_sem]; omega))) | ((with_reducible refine Below.alloc ?_ ?_ _); rotate_left; focus (first | omega | (simp [go_sem]; done) | (simp [go_sem]; omega))) | ((with_reducible refine Below.setCell ?_ ?_ _); rotate_left; focus (first | omega | (simp [go_sem]; done) | (simp [go_sem]; omega))) | (with_reducible refine Below.drew ?_) | (with_reducible refine below_drewN _ ?_))⟩
    · obtain ⟨e1, e2⟩ := hn (by omega)
      rw [e1, e2]
      have z2' : 1 ≤ pt a 2 := by omega
      clear hy hn e1 e2 z2
      go_enter Try.func24, Try.ntmps24
      go_wp2
      go_ret2
      exact ⟨rfl, by repeat (first | (with_reducible exact Below.refl _ _) | ((with_reducible refine below_grow ?_ ?_); rotate_left; focus (first | omega | (simp [go_sem]; done) | (simp [go_sem]; omega))) | ((with_reducible refine Below.alloc ?_ ?_ _); rotate_left; focus (first | omega | (simp [go_sem]; done) | (simp [go_sem]; omega))) | ((with_reducible refine Below.setCell ?_ ?_ _); rotate_left; focus (first | omega | (simp [go_sem]; done) | (simp [go_sem]; omega))) | (with_reducible refine Below.drew ?_) | (with_reducible refine below_drewN _ ?_))⟩
  · obtain ⟨e1, e2⟩ := hn (by omega)
    rw [e1, e2]
    have z3' : 1 ≤ pt a 3 := by omega
    clear hy hn e1 e2 z3
    go_enter Try.func24, Try.ntmps24
    go_wp2
    go_ret2
    exact ⟨rfl, by repeat (first | (with_reducible exact Below.refl _ _) | ((with_reducible refine below_grow ?_ ?_); rotate_left; focus (first | omega | (simp [go_sem]; done) | (simp [go_sem]; omega))) | ((with_reducible refine Below.alloc ?_ ?_ _); rotate_left; focus (first | omega | (simp [go_sem]; done) | (simp [go_sem]; omega))) | ((with_reducible refine Below.setCell ?_ ?_ _); rotate_left; focus (first | omega | (simp [go_sem]; done) | (simp [go_sem]; omega))) | (with_reducible refine Below.drew ?_) | (with_reducible refine below_drewN _ ?_))⟩
end Go.Proofs.Ytcgecgagecobeaa
