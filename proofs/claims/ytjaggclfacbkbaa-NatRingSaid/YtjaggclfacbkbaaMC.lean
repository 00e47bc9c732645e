/- NI, NJ, NK, NM, NN. -/
import Derived.Test.YtjaggclfacbkbaaMB
import Derived.Deep.LoopGhost
import Derived.Laws.OwnMore
import Derived.Laws.BytesArg
import Derived.Laws.IdiomStrings
import Derived.Shelf.SlicesE.Reverse
/-! NI -/
namespace Go.Proofs.Ytjaggclfacbkbaa
open Go.RowKit

theorem gcd_isN {a b : Nat} (ha : isN a) (hb : isN b) : isN (Nat.gcd a b) := by
  unfold isN at *
  by_cases h : a = 0
  · subst h; rw [Nat.gcd_zero_left]; exact hb
  · have := Nat.gcd_le_left b (Nat.pos_of_ne_zero h); omega
theorem mod_isN {a b : Nat} (ha : isN a) : isN (a % b) := by have := Nat.mod_le a b; unfold isN at *; omega
theorem div_isN {a b : Nat} (ha : isN a) : isN (a / b) := by have := Nat.div_le_self a b; unfold isN at *; omega
set_option maxRecDepth 100000 in
set_option maxHeartbeats 4000000 in
theorem gcd_calls (a b : Nat) (ha : isN a) (hb : isN b) (w : World) :
    Calls Try.prog 20 #[.agg #[.int .u32 (pt a 0), .int .u32 (pt a 1), .int .u32 (pt a 2), .int .u32 (pt a 3)], .agg #[.int .u32 (pt b 0), .int .u32 (pt b 1), .int .u32 (pt b 2), .int .u32 (pt b 3)]] w fun e w' => e = .returned (.agg #[.int .u32 (pt (Nat.gcd a b) 0), .int .u32 (pt (Nat.gcd a b) 1), .int .u32 (pt (Nat.gcd a b) 2), .int .u32 (pt (Nat.gcd a b) 3)]) ∧ Below w.heap.size w w' := by
  go_enter Try.func20, Try.ntmps20
  go_wp2
  go_loopg [] b (fun g wr => ∃ p q : Nat, q ≤ g ∧ isN p ∧ isN q ∧ Hid (Nat.gcd p q = Nat.gcd a b) ∧ Below (((w.alloc (.cells #[.int .u32 (pt p 0), .int .u32 (pt p 1), .int .u32 (pt p 2), .int .u32 (pt p 3)] 24)).alloc (.cells #[.int .u32 (pt q 0), .int .u32 (pt q 1), .int .u32 (pt q 2), .int .u32 (pt q 3)] 24)).alloc (.cells #[.int .u32 0, .int .u32 0, .int .u32 0, .int .u32 0] 24)).heap.size (((w.alloc (.cells #[.int .u32 (pt p 0), .int .u32 (pt p 1), .int .u32 (pt p 2), .int .u32 (pt p 3)] 24)).alloc (.cells #[.int .u32 (pt q 0), .int .u32 (pt q 1), .int .u32 (pt q 2), .int .u32 (pt q 3)] 24)).alloc (.cells #[.int .u32 0, .int .u32 0, .int .u32 0, .int .u32 0] 24)) wr)
  case atStart => exact ⟨a, b, Nat.le_refl _, ha, hb, Lib.hid rfl, by repeat (first | (with_reducible exact Below.refl _ _) | ((with_reducible refine below_grow ?_ ?_); rotate_left; focus (first | omega | (simp [go_sem]; done) | (simp [go_sem]; omega))) | ((with_reducible refine Below.alloc ?_ ?_ _); rotate_left; focus (first | omega | (simp [go_sem]; done) | (simp [go_sem]; omega))) | ((with_reducible refine Below.setCell ?_ ?_ _); rotate_left; focus (first | omega | (simp [go_sem]; done) | (simp [go_sem]; omega))) | (with_reducible refine Below.drew ?_) | (with_reducible refine below_drewN _ ?_))⟩
  case round =>
    obtain ⟨p, q, hg, hp, hq, hgcd, hbel⟩ := hrel
    obtain ⟨o, j, rfl⟩ := grow_of_below hbel
    clear hbel
    by_cases hz : q = 0
    · subst hz
      have e : p = Nat.gcd a b := by rw [← hgcd.out, Nat.gcd_zero_right]
      clear hgcd
      subst e
      have hd : decide ((0 : Nat) = 0) = true := rfl
      go_wp2
      refine bodyPost_ret (by simp [results, Try.results20, go_sem]) rfl ⟨rfl, ?_⟩
      repeat (first | (with_reducible exact Below.refl _ _) | ((with_reducible refine below_grow ?_ ?_); rotate_left; focus (first | omega | (simp [go_sem]; done) | (simp [go_sem]; omega))) | ((with_reducible refine Below.alloc ?_ ?_ _); rotate_left; focus (first | omega | (simp [go_sem]; done) | (simp [go_sem]; omega))) | ((with_reducible refine Below.setCell ?_ ?_ _); rotate_left; focus (first | omega | (simp [go_sem]; done) | (simp [go_sem]; omega))) | (with_reducible refine Below.drew ?_) | (with_reducible refine below_drewN _ ?_))
    · have hd : decide (q = 0) = false := by simp [hz]
      go_wp2_with (first | (go_at_call 43; refine (divided_calls p q hp hq hz _).mono ?_; rintro e w0 ⟨rfl, hbel⟩; obtain ⟨o1, j1, rfl⟩ := grow_of_below hbel; clear hbel))
      go_region
      all_goals
        go_wp2
        go_roundg (p % q)
        case measure => have := Nat.mod_lt p (Nat.pos_of_ne_zero hz); omega
        case rel => exact ⟨q, p % q, Nat.le_refl _, hq, mod_isN hp, Lib.hid (by rw [← hgcd.out, Nat.gcd_comm p q, Nat.gcd_rec q p, Nat.gcd_comm]), by repeat (first | (with_reducible exact Below.refl _ _) | ((with_reducible refine below_grow ?_ ?_); rotate_left; focus (first | omega | (simp [go_sem]; done) | (simp [go_sem]; omega))) | ((with_reducible refine Below.alloc ?_ ?_ _); rotate_left; focus (first | omega | (simp [go_sem]; done) | (simp [go_sem]; omega))) | ((with_reducible refine Below.setCell ?_ ?_ _); rotate_left; focus (first | omega | (simp [go_sem]; done) | (simp [go_sem]; omega))) | (with_reducible refine Below.drew ?_) | (with_reducible refine below_drewN _ ?_))⟩

theorem isNaN_calls (x : Int) (w : World) : Calls Try.prog 65 #[.int .u32 x] w fun e w' => e = .returned (.bool false) ∧ w = w' := by
  go_enter Try.func65, Try.ntmps65
  go_wp2
  go_ret
  exact ⟨by simp, rfl⟩
def cmpI (x y : Int) : Int := if x < y then -1 else if y < x then 1 else 0
theorem compare_calls (x y : Int) (_ : 0 ≤ x ∧ x ≤ 4294967295) (_ : 0 ≤ y ∧ y ≤ 4294967295) (w : World) : Calls Try.prog 44 #[.int .u32 x, .int .u32 y] w fun e w' => e = .returned (.int .i64 (cmpI x y)) ∧ w = w' := by
  by_cases h1 : x < y
  · have e : cmpI x y = -1 := if_pos h1
    rw [e]
    go_enter Try.func44, Try.ntmps44
    go_wp2_with (first | (go_at_call 65; refine (isNaN_calls _ _).mono ?_; rintro e w0 ⟨rfl, rfl⟩))
    go_ret
    exact ⟨rfl, rfl⟩
  · by_cases h2 : y < x
    · have e : cmpI x y = 1 := by unfold cmpI; rw [if_neg h1, if_pos h2]
      rw [e]
      go_enter Try.func44, Try.ntmps44
      go_wp2_with (first | (go_at_call 65; refine (isNaN_calls _ _).mono ?_; rintro e w0 ⟨rfl, rfl⟩))
      go_ret
      exact ⟨rfl, rfl⟩
    · have e : cmpI x y = 0 := by unfold cmpI; rw [if_neg h1, if_neg h2]
      rw [e]
      go_enter Try.func44, Try.ntmps44
      go_wp2_with (first | (go_at_call 65; refine (isNaN_calls _ _).mono ?_; rintro e w0 ⟨rfl, rfl⟩))
      go_ret
      exact ⟨rfl, rfl⟩
def cmpN (a b : Nat) : Int := if a < b then -1 else if b < a then 1 else 0
theorem cmp_top (a b : Nat) (ha : isN a) (hb : isN b) : (¬ pt a 3 = pt b 3 → cmpI (pt a 3) (pt b 3) = cmpN a b) ∧ (pt a 3 = pt b 3 → ¬ pt a 2 = pt b 2 → cmpI (pt a 2) (pt b 2) = cmpN a b) ∧
    (pt a 3 = pt b 3 → pt a 2 = pt b 2 → ¬ pt a 1 = pt b 1 → cmpI (pt a 1) (pt b 1) = cmpN a b) ∧ (pt a 3 = pt b 3 → pt a 2 = pt b 2 → pt a 1 = pt b 1 → cmpI (pt a 0) (pt b 0) = cmpN a b) := by
  have a0 := pt_bd a 0
  have a1 := pt_bd a 1
  have a2 := pt_bd a 2
  have a3 := pt_bd a 3
  have b0 := pt_bd b 0
  have b1 := pt_bd b 1
  have b2 := pt_bd b 2
  have b3 := pt_bd b 3
  have ka := pt_sum a ha
  have kb := pt_sum b hb
  unfold cmpI cmpN
  refine ⟨fun _ => ?_, fun _ _ => ?_, fun _ _ _ => ?_, fun _ _ _ => ?_⟩ <;> split <;> split <;> (try omega) <;> (repeat split) <;> omega
theorem cmpI_ne (x y : Int) (h : ¬ x = y) : (cmpI x y != 0) = true ∧ (cmpI x y = 1 ∨ cmpI x y = -1) := by
  unfold cmpI; split
  · simp
  · split
    · simp
    · omega
theorem cmpI_eq (x y : Int) (h : x = y) : cmpI x y = 0 := by unfold cmpI; rw [if_neg (by omega), if_neg (by omega)]
set_option maxHeartbeats 4000000 in
theorem cmp_calls (a b : Nat) (ha : isN a) (hb : isN b) (w : World) :
    Calls Try.prog 22 #[.agg #[.int .u32 (pt a 0), .int .u32 (pt a 1), .int .u32 (pt a 2), .int .u32 (pt a 3)], .agg #[.int .u32 (pt b 0), .int .u32 (pt b 1), .int .u32 (pt b 2), .int .u32 (pt b 3)]] w fun e w' => e = .returned (.int .i64 (cmpN a b)) ∧ Below w.heap.size w w' := by
  have a0 := pt_bd a 0
  have a1 := pt_bd a 1
  have a2 := pt_bd a 2
  have a3 := pt_bd a 3
  have b0 := pt_bd b 0
  have b1 := pt_bd b 1
  have b2 := pt_bd b 2
  have b3 := pt_bd b 3
  obtain ⟨u3, u2, u1, u0⟩ := cmp_top a b ha hb
  have t3 := Lib.hid u3
  have t2 := Lib.hid u2
  have t1 := Lib.hid u1
  have t0 := Lib.hid u0
  clear u3 u2 u1 u0
  obtain ⟨C, hC⟩ : ∃ C, cmpN a b = C := ⟨_, rfl⟩
  rw [hC] at t3 t2 t1 t0 ⊢
  clear hC
  go_enter Try.func22, Try.ntmps22
  go_wp2
  refine wp_loop_rounds 5 ?_
  rw [rounds_succ]
  go_wp2
  go_region_held3 (fun w' => w'.cell? ⟨w.heap.size, 3, none⟩ = some (.int .u32 (pt a 3)) ∧ w'.cell? ⟨w.heap.size + 1, 3, none⟩ = some (.int .u32 (pt b 3))) (simp [*, go_sem]) (first | (go_at_call 44; refine (compare_calls _ _ a3 b3 _).mono ?_; rintro e w0 ⟨rfl, rfl⟩))
  by_cases g3' : pt a 3 = pt b 3
  rotate_left
  · obtain ⟨n1, n2⟩ := cmpI_ne _ _ g3'
    have e : Hid (cmpI (pt a 3) (pt b 3) = C) := Lib.hid (t3.out  g3')
    clear g3' t3 t2 t1 t0
    go_wp2
    go_ret
    exact ⟨ret_int e.out, by repeat (first | (with_reducible exact Below.refl _ _) | ((with_reducible refine below_grow ?_ ?_); rotate_left; focus (first | omega | (simp [go_sem]; done) | (simp [go_sem]; omega))) | ((with_reducible refine Below.alloc ?_ ?_ _); rotate_left; focus (first | omega | (simp [go_sem]; done) | (simp [go_sem]; omega))) | ((with_reducible refine Below.setCell ?_ ?_ _); rotate_left; focus (first | omega | (simp [go_sem]; done) | (simp [go_sem]; omega))) | (with_reducible refine Below.drew ?_) | (with_reducible refine below_drewN _ ?_))⟩
  have e3 := cmpI_eq _ _ g3'
  have g3 := Lib.hid g3'
  clear g3'
  rw [e3]
  go_wp2
  rw [rounds_succ]
  go_wp2
  go_region_held3 (fun w' => w'.cell? ⟨w.heap.size, 2, none⟩ = some (.int .u32 (pt a 2)) ∧ w'.cell? ⟨w.heap.size + 1, 2, none⟩ = some (.int .u32 (pt b 2))) (simp [*, go_sem]) (first | (go_at_call 44; refine (compare_calls _ _ a2 b2 _).mono ?_; rintro e w0 ⟨rfl, rfl⟩))
  by_cases g2' : pt a 2 = pt b 2
  rotate_left
  · obtain ⟨n1, n2⟩ := cmpI_ne _ _ g2'
    have e : Hid (cmpI (pt a 2) (pt b 2) = C) := Lib.hid (t2.out g3.out g2')
    clear g2' t3 t2 t1 t0
    go_wp2
    go_ret
    exact ⟨ret_int e.out, by repeat (first | (with_reducible exact Below.refl _ _) | ((with_reducible refine below_grow ?_ ?_); rotate_left; focus (first | omega | (simp [go_sem]; done) | (simp [go_sem]; omega))) | ((with_reducible refine Below.alloc ?_ ?_ _); rotate_left; focus (first | omega | (simp [go_sem]; done) | (simp [go_sem]; omega))) | ((with_reducible refine Below.setCell ?_ ?_ _); rotate_left; focus (first | omega | (simp [go_sem]; done) | (simp [go_sem]; omega))) | (with_reducible refine Below.drew ?_) | (with_reducible refine below_drewN _ ?_))⟩
  have e2 := cmpI_eq _ _ g2'
  have g2 := Lib.hid g2'
  clear g2'
  rw [e2]
  go_wp2
  rw [rounds_succ]
  go_wp2
  go_region_held3 (fun w' => w'.cell? ⟨w.heap.size, 1, none⟩ = some (.int .u32 (pt a 1)) ∧ w'.cell? ⟨w.heap.size + 1, 1, none⟩ = some (.int .u32 (pt b 1))) (simp [*, go_sem]) (first | (go_at_call 44; refine (compare_calls _ _ a1 b1 _).mono ?_; rintro e w0 ⟨rfl, rfl⟩))
  by_cases g1' : pt a 1 = pt b 1
  rotate_left
  · obtain ⟨n1, n2⟩ := cmpI_ne _ _ g1'
    have e : Hid (cmpI (pt a 1) (pt b 1) = C) := Lib.hid (t1.out g3.out g2.out g1')
    clear g1' t3 t2 t1 t0
    go_wp2
    go_ret
    exact ⟨ret_int e.out, by repeat (first | (with_reducible exact Below.refl _ _) | ((with_reducible refine below_grow ?_ ?_); rotate_left; focus (first | omega | (simp [go_sem]; done) | (simp [go_sem]; omega))) | ((with_reducible refine Below.alloc ?_ ?_ _); rotate_left; focus (first | omega | (simp [go_sem]; done) | (simp [go_sem]; omega))) | ((with_reducible refine Below.setCell ?_ ?_ _); rotate_left; focus (first | omega | (simp [go_sem]; done) | (simp [go_sem]; omega))) | (with_reducible refine Below.drew ?_) | (with_reducible refine below_drewN _ ?_))⟩
  have e1 := cmpI_eq _ _ g1'
  have g1 := Lib.hid g1'
  clear g1'
  rw [e1]
  go_wp2
  rw [rounds_succ]
  go_wp2
  go_region_held3 (fun w' => w'.cell? ⟨w.heap.size, 0, none⟩ = some (.int .u32 (pt a 0)) ∧ w'.cell? ⟨w.heap.size + 1, 0, none⟩ = some (.int .u32 (pt b 0))) (simp [*, go_sem]) (first | (go_at_call 44; refine (compare_calls _ _ a0 b0 _).mono ?_; rintro e w0 ⟨rfl, rfl⟩))
  by_cases g0' : pt a 0 = pt b 0
  rotate_left
  · obtain ⟨n1, n2⟩ := cmpI_ne _ _ g0'
    have e : Hid (cmpI (pt a 0) (pt b 0) = C) := Lib.hid (t0.out g3.out g2.out g1.out)
    clear g0' t3 t2 t1 t0
    go_wp2
    go_ret
    exact ⟨ret_int e.out, by repeat (first | (with_reducible exact Below.refl _ _) | ((with_reducible refine below_grow ?_ ?_); rotate_left; focus (first | omega | (simp [go_sem]; done) | (simp [go_sem]; omega))) | ((with_reducible refine Below.alloc ?_ ?_ _); rotate_left; focus (first | omega | (simp [go_sem]; done) | (simp [go_sem]; omega))) | ((with_reducible refine Below.setCell ?_ ?_ _); rotate_left; focus (first | omega | (simp [go_sem]; done) | (simp [go_sem]; omega))) | (with_reducible refine Below.drew ?_) | (with_reducible refine below_drewN _ ?_))⟩
  have e0 := cmpI_eq _ _ g0'
  have g0 := Lib.hid g0'
  clear g0'
  rw [e0]
  go_wp2
  rw [rounds_succ]
  go_wp2
  go_ret
  exact ⟨ret_int (by rw [← t0.out g3.out g2.out g1.out]; exact e0.symm), by repeat (first | (with_reducible exact Below.refl _ _) | ((with_reducible refine below_grow ?_ ?_); rotate_left; focus (first | omega | (simp [go_sem]; done) | (simp [go_sem]; omega))) | ((with_reducible refine Below.alloc ?_ ?_ _); rotate_left; focus (first | omega | (simp [go_sem]; done) | (simp [go_sem]; omega))) | ((with_reducible refine Below.setCell ?_ ?_ _); rotate_left; focus (first | omega | (simp [go_sem]; done) | (simp [go_sem]; omega))) | (with_reducible refine Below.drew ?_) | (with_reducible refine below_drewN _ ?_))⟩

theorem of_parts (n : Int) (h0 : 0 ≤ n) (h1 : n ≤ 9223372036854775807) : isN n.toNat ∧ n % 4294967296 = pt n.toNat 0 ∧ n / 4294967296 = pt n.toNat 1 ∧ 0 = pt n.toNat 2 ∧ 0 = pt n.toNat 3 := by
  have k := pt_mk (n % 4294967296) (n / 4294967296) 0 0 (by omega) (by omega) (by omega) (by omega) n.toNat (by omega)
  exact k
def ofR (n : Int) : Nat := if n < 0 then 0 else n.toNat
def ofE (n : Int) : Int := if n < 0 then 21 else 0
set_option maxHeartbeats 4000000 in
theorem of_calls (n : Int) (h0 : -9223372036854775808 ≤ n) (h1 : n ≤ 9223372036854775807) (w : World) :
    Calls Try.prog 27 #[.int .i64 n] w fun e w' => e = .returned (.tuple #[.agg #[.int .u32 (pt (ofR n) 0), .int .u32 (pt (ofR n) 1), .int .u32 (pt (ofR n) 2), .int .u32 (pt (ofR n) 3)], .int .i64 (ofE n)]) ∧ Below w.heap.size w w' := by
  by_cases h : n < 0
  · have e1 : ofR n = 0 := if_pos h
    have e2 : ofE n = 21 := if_pos h
    rw [e1, e2]
    go_enter Try.func27, Try.ntmps27
    go_wp2
    refine bodyPost_ret (by simp [results, Try.results27, go_sem, pt_zero]) rfl ⟨rfl, ?_⟩
    repeat (first | (with_reducible exact Below.refl _ _) | ((with_reducible refine below_grow ?_ ?_); rotate_left; focus (first | omega | (simp [go_sem]; done) | (simp [go_sem]; omega))) | ((with_reducible refine Below.alloc ?_ ?_ _); rotate_left; focus (first | omega | (simp [go_sem]; done) | (simp [go_sem]; omega))) | ((with_reducible refine Below.setCell ?_ ?_ _); rotate_left; focus (first | omega | (simp [go_sem]; done) | (simp [go_sem]; omega))) | (with_reducible refine Below.drew ?_) | (with_reducible refine below_drewN _ ?_))
  · have e1 : ofR n = n.toNat := if_neg h
    have e2 : ofE n = 0 := if_neg h
    rw [e1, e2]
    obtain ⟨-, r0, r1, r2, r3⟩ := of_parts n (by omega) h1
    have p0 := Lib.hid r0
    have p1 := Lib.hid r1
    have p2 := Lib.hid r2
    have p3 := Lib.hid r3
    clear r0 r1 r2 r3
    have hn : 0 ≤ n := by omega
    clear e1 e2 h
    go_enter Try.func27, Try.ntmps27
    go_wp2
    refine bodyPost_ret (by simp [results, Try.results27, go_sem, p0.out, p1.out, ← p2.out, ← p3.out]) rfl ⟨rfl, ?_⟩
    repeat (first | (with_reducible exact Below.refl _ _) | ((with_reducible refine below_grow ?_ ?_); rotate_left; focus (first | omega | (simp [go_sem]; done) | (simp [go_sem]; omega))) | ((with_reducible refine Below.alloc ?_ ?_ _); rotate_left; focus (first | omega | (simp [go_sem]; done) | (simp [go_sem]; omega))) | ((with_reducible refine Below.setCell ?_ ?_ _); rotate_left; focus (first | omega | (simp [go_sem]; done) | (simp [go_sem]; omega))) | (with_reducible refine Below.drew ?_) | (with_reducible refine below_drewN _ ?_))

def intR (a : Nat) : Int := if a < 9223372036854775808 then a else 0
def intE (a : Nat) : Int := if a < 9223372036854775808 then 0 else 3
theorem or63 (x y : Int) (hx : 0 ≤ x ∧ x ≤ 2147483647) (hy : 0 ≤ y ∧ y ≤ 4294967295) : bits .or .i64 (x * 4294967296) y = x * 4294967296 + y :=
  bits_join .i64 63 (by decide) (fun n h0 h1 => by rw [IntKind.wrap_i64]; omega) 32 _ _ (by omega) (by omega) (by omega) hy.1 (by omega) (by omega)
theorem int_parts (a : Nat) (ha : isN a) : (pt a 3 = 0 → pt a 2 = 0 → pt a 1 ≤ 2147483647 → intR a = pt a 1 * 4294967296 + pt a 0 ∧ intE a = 0) ∧ (¬ (pt a 3 = 0 ∧ pt a 2 = 0 ∧ pt a 1 ≤ 2147483647) → intR a = 0 ∧ intE a = 3) := by
  have a0 := pt_bd a 0
  have a1 := pt_bd a 1
  have a2 := pt_bd a 2
  have a3 := pt_bd a 3
  have ka := pt_sum a ha
  unfold intR intE
  constructor
  · intro h3 h2 h1
    rw [if_pos (by omega), if_pos (by omega)]
    omega
  · intro h
    rw [if_neg (by omega), if_neg (by omega)]
    exact ⟨rfl, rfl⟩
set_option maxHeartbeats 4000000 in
theorem int_calls (a : Nat) (ha : isN a) (w : World) :
    Calls Try.prog 28 #[.agg #[.int .u32 (pt a 0), .int .u32 (pt a 1), .int .u32 (pt a 2), .int .u32 (pt a 3)]] w fun e w' => e = .returned (.tuple #[.int .i64 (intR a), .int .i64 (intE a)]) ∧ Below w.heap.size w w' := by
  have a0 := pt_bd a 0
  have a1 := pt_bd a 1
  have a2 := pt_bd a 2
  have a3 := pt_bd a 3
  obtain ⟨hy, hn⟩ := int_parts a ha
  by_cases z3 : pt a 3 = 0
  · by_cases z2 : pt a 2 = 0
    · by_cases z1 : pt a 1 ≤ 2147483647
      · obtain ⟨e1, e2⟩ := hy z3 z2 z1
        rw [e1, e2]
        have H := or63 (pt a 1) (pt a 0) (by omega) a0
        clear hy hn e1 e2
        go_enter Try.func28, Try.ntmps28
        go_wp2
        go_ret2
        exact ⟨rfl, by repeat (first | (with_reducible exact Below.refl _ _) | ((with_reducible refine below_grow ?_ ?_); rotate_left; focus (first | omega | (simp [go_sem]; done) | (simp [go_sem]; omega))) | ((with_reducible refine Below.alloc ?_ ?_ _); rotate_left; focus (first | omega | (simp [go_sem]; done) | (simp [go_sem]; omega))) | ((with_reducible refine Below.setCell ?_ ?_ _); rotate_left; focus (first | omega | (simp [go_sem]; done) | (simp [go_sem]; omega))) | (with_reducible refine Below.drew ?_) | (with_reducible refine below_drewN _ ?_))⟩
      · obtain ⟨e1, e2⟩ := hn (by omega)
        rw [e1, e2]
        have z1' : 2147483647 < pt a 1 := by omega
        clear hy hn e1 e2 z1
        go_enter Try.func28, Try.ntmps28
        go_wp2
        go_ret2
        exact ⟨rfl, by repeat (first | (with_reducible exact Below.refl _ _) | ((with_reducible refine below_grow ?_ ?_); rotate_left; focus (first | omega | (simp [go_sem]; done) | (simp [go_sem]; omega))) | ((with_reducible refine Below.alloc ?_ ?_ _); rotate_left; focus (first | omega | (simp [go_sem]; done) | (simp [go_sem]; omega))) | ((with_reducible refine Below.setCell ?_ ?_ _); rotate_left; focus (first | omega | (simp [go_sem]; done) | (simp [go_sem]; omega))) | (with_reducible refine Below.drew ?_) | (with_reducible refine below_drewN _ ?_))⟩
    · obtain ⟨e1, e2⟩ := hn (by omega)
      rw [e1, e2]
      have z2' : 1 ≤ pt a 2 := by omega
      clear hy hn e1 e2 z2
      go_enter Try.func28, Try.ntmps28
      go_wp2
      go_ret2
      exact ⟨rfl, by repeat (first | (with_reducible exact Below.refl _ _) | ((with_reducible refine below_grow ?_ ?_); rotate_left; focus (first | omega | (simp [go_sem]; done) | (simp [go_sem]; omega))) | ((with_reducible refine Below.alloc ?_ ?_ _); rotate_left; focus (first | omega | (simp [go_sem]; done) | (simp [go_sem]; omega))) | ((with_reducible refine Below.setCell ?_ ?_ _); rotate_left; focus (first | omega | (simp [go_sem]; done) | (simp [go_sem]; omega))) | (with_reducible refine Below.drew ?_) | (with_reducible refine below_drewN _ ?_))⟩
  · obtain ⟨e1, e2⟩ := hn (by omega)
    rw [e1, e2]
    have z3' : 1 ≤ pt a 3 := by omega
    clear hy hn e1 e2 z3
    go_enter Try.func28, Try.ntmps28
    go_wp2
    go_ret2
    exact ⟨rfl, by repeat (first | (with_reducible exact Below.refl _ _) | ((with_reducible refine below_grow ?_ ?_); rotate_left; focus (first | omega | (simp [go_sem]; done) | (simp [go_sem]; omega))) | ((with_reducible refine Below.alloc ?_ ?_ _); rotate_left; focus (first | omega | (simp [go_sem]; done) | (simp [go_sem]; omega))) | ((with_reducible refine Below.setCell ?_ ?_ _); rotate_left; focus (first | omega | (simp [go_sem]; done) | (simp [go_sem]; omega))) | (with_reducible refine Below.drew ?_) | (with_reducible refine below_drewN _ ?_))⟩
end Go.Proofs.Ytjaggclfacbkbaa

/-! NJ -/
namespace Go.Proofs.Ytjaggclfacbkbaa
open Go.RowKit

def digB (c : UInt8) : Bool := decide (48 ≤ c.toNat) && decide (c.toNat ≤ 57)
/-- decimal digits without leading zeros -/
def decB (l : List UInt8) : Bool := !l.isEmpty && !(decide (l.head? = some 48) && !(l == [48])) && l.all digB
theorem decB_nil (s : ByteArray) (h : s.toList = []) : decB s.data.toList = false := by
  rw [ByteArray.toList_eq] at h
  rw [h]; rfl
theorem head_at (s : ByteArray) (hp : 0 < s.size) : s.data.toList.head? = some (s[0]'hp) := by
  obtain ⟨⟨l⟩⟩ := s
  cases l with
  | nil => simp [ByteArray.size] at hp
  | cons c l => rfl
theorem decB_zero (s : ByteArray) (hp : 0 < s.size) (h : ((s[0]'hp).toNat : Int) = 48) (h2 : (!s.toList == [48]) = true) : decB s.data.toList = false := by
  rw [ByteArray.toList_eq] at h2
  have e := head_at s hp
  have e2 : s[0]'hp = 48 := by
    have h' : (s[0]'hp).toNat = 48 := by omega
    exact UInt8.toNat_inj.1 h'
  rw [e2] at e
  unfold decB
  rw [e]
  simp only [decide_true, Bool.true_and, h2, Bool.not_true, Bool.and_false, Bool.false_and]
theorem decB_bad (s : ByteArray) (k : Nat) (h : k < s.size) (hb : ((s[k]'h).toNat : Int) < 48 ∨ 57 < ((s[k]'h).toNat : Int)) : decB s.data.toList = false := by
  have hm : s[k]'h ∈ s.data.toList := by
    have : s[k]'h = s.data[k]'h := rfl
    rw [this]
    simp
  unfold decB
  have : s.data.toList.all digB = false := by
    rw [List.all_eq_false]
    refine ⟨_, hm, ?_⟩
    unfold digB
    simp only [Bool.and_eq_true, decide_eq_true_eq]
    omega
  rw [this, Bool.and_false]
def allTo (s : ByteArray) (k : Nat) : Prop := ∀ i (h : i < s.size), i < k → 48 ≤ ((s[i]'h).toNat : Int) ∧ ((s[i]'h).toNat : Int) ≤ 57
theorem decB_all (s : ByteArray) (hp : 0 < s.size) (h0 : ((s[0]'hp).toNat : Int) = 48 → (s.toList == [48]) = true) (h : allTo s s.size) : decB s.data.toList = true := by
  rw [ByteArray.toList_eq] at h0
  have e := head_at s hp
  unfold decB
  have h1 : s.data.toList.isEmpty = false := by
    cases hl : s.data.toList with
    | nil => rw [hl] at e; simp at e
    | cons c l => rfl
  have h2 : s.data.toList.all digB = true := by
    rw [List.all_eq_true]
    intro c hc
    obtain ⟨i, hi, rfl⟩ := List.getElem_of_mem hc
    have hi' : i < s.size := by rw [Array.length_toList] at hi; exact hi
    have := h i hi' hi'
    have e3 : s.data.toList[i] = s[i]'hi' := by simp; rfl
    rw [e3]
    unfold digB
    simp only [Bool.and_eq_true, decide_eq_true_eq]
    omega
  rw [h1, h2, e]
  by_cases g : (s[0]'hp) = 48
  · have := h0 (by rw [g]; rfl)
    rw [this]; simp
  · simp [g]
theorem allTo_succ (s : ByteArray) (k : Nat) (h : k < s.size) (ha : allTo s k) (h1 : 48 ≤ ((s[k]'h).toNat : Int)) (h2 : ((s[k]'h).toNat : Int) ≤ 57) : allTo s (k + 1) := by
  intro i hi hk
  by_cases e : i = k
  · subst e; exact ⟨h1, h2⟩
  · exact ha i hi (by omega)
set_option maxRecDepth 100000 in
set_option maxHeartbeats 2000000 in
theorem decimal_calls (s : ByteArray) (hs : (s.size : Int) ≤ 9223372036854775807) (w : World) :
    Calls Try.prog 49 #[.string s] w fun e w' => e = .returned (.bool (decB s.data.toList)) ∧ w = w' := by
  obtain ⟨B, hB⟩ : ∃ B, decB s.data.toList = B := ⟨_, rfl⟩
  rw [hB]
  have hBB := Lib.hid hB
  clear hB
  by_cases hz : s.toList = []
  · have e : false = B := by rw [← hBB.out, decB_nil s hz]
    subst e
    clear hBB
    go_enter Try.func49, Try.ntmps49
    go_wp2
    go_ret
    exact ⟨rfl, rfl⟩
  · have hE : s.toList.isEmpty = false := by simpa using hz
    have hp : 0 < s.size := by
      rw [ByteArray.toList_eq] at hz
      have : s.data.toList.length ≠ 0 := fun h => hz (List.length_eq_zero_iff.1 h)
      rw [Array.length_toList] at this
      exact Nat.pos_of_ne_zero this
    by_cases h48 : ((s[0]'hp).toNat : Int) = 48
    · by_cases hq : (!s.toList == [48]) = true
      · have e : false = B := by rw [← hBB.out, decB_zero s hp h48 hq]
        subst e
        clear hBB
        go_enter Try.func49, Try.ntmps49
        go_wp2
        go_ret
        exact ⟨rfl, rfl⟩
      · have hq2 : (!s.toList == [48]) = false := by simpa using hq
        have HA : Hid (allTo s s.size → true = B) := Lib.hid fun h => by rw [← hBB.out, decB_all s hp (fun _ => by simpa using hq2) h]
        clear hq
        go_enter Try.func49, Try.ntmps49
        go_wp2
        go_loop [17] (fun i => ∃ k : Nat, k ≤ s.size ∧ i = .int .i64 k ∧ Hid (allTo s k)) (fun i => s.size - (intOf i).toNat)
        case atStart => exact ⟨0, Nat.zero_le _, rfl, Lib.hid (fun i _ h => absurd h (by omega))⟩
        case round =>
          obtain ⟨k, hk, rfl, ha⟩ := hrel
          by_cases hlt : k < s.size
          · by_cases c1 : ((s[k]'hlt).toNat : Int) < 48
            · have e : Hid (false = B) := Lib.hid (by rw [← hBB.out, decB_bad s k hlt (.inl c1)])
              go_wp2
              go_ret
              exact ⟨by rw [← e.out]; rfl, rfl⟩
            · by_cases c2 : 57 < ((s[k]'hlt).toNat : Int)
              · have e : Hid (false = B) := Lib.hid (by rw [← hBB.out, decB_bad s k hlt (.inr c2)])
                go_wp2
                go_ret
                exact ⟨by rw [← e.out]; rfl, rfl⟩
              · have c1' : 48 ≤ ((s[k]'hlt).toNat : Int) := by omega
                have c2' : ((s[k]'hlt).toNat : Int) ≤ 57 := by omega
                have ha' := Lib.hid (allTo_succ s k hlt ha.out c1' c2')
                clear c1 c2
                go_wp2
                go_round
                case rel => exact ⟨k + 1, by omega, by go_num, ha'⟩
                case measure => simp [intOf]; omega
          · obtain rfl : k = s.size := by omega
            have e := Lib.hid (HA.out ha.out)
            go_wp2
            go_ret
            exact ⟨by rw [← e.out]; rfl, rfl⟩
    · have HA : Hid (allTo s s.size → true = B) := Lib.hid fun h => by rw [← hBB.out, decB_all s hp (fun g => absurd g h48) h]
      go_enter Try.func49, Try.ntmps49
      go_wp2
      go_loop [17] (fun i => ∃ k : Nat, k ≤ s.size ∧ i = .int .i64 k ∧ Hid (allTo s k)) (fun i => s.size - (intOf i).toNat)
      case atStart => exact ⟨0, Nat.zero_le _, rfl, Lib.hid (fun i _ h => absurd h (by omega))⟩
      case round =>
        obtain ⟨k, hk, rfl, ha⟩ := hrel
        by_cases hlt : k < s.size
        · by_cases c1 : ((s[k]'hlt).toNat : Int) < 48
          · have e : Hid (false = B) := Lib.hid (by rw [← hBB.out, decB_bad s k hlt (.inl c1)])
            go_wp2
            go_ret
            exact ⟨by rw [← e.out]; rfl, rfl⟩
          · by_cases c2 : 57 < ((s[k]'hlt).toNat : Int)
            · have e : Hid (false = B) := Lib.hid (by rw [← hBB.out, decB_bad s k hlt (.inr c2)])
              go_wp2
              go_ret
              exact ⟨by rw [← e.out]; rfl, rfl⟩
            · have c1' : 48 ≤ ((s[k]'hlt).toNat : Int) := by omega
              have c2' : ((s[k]'hlt).toNat : Int) ≤ 57 := by omega
              have ha' := Lib.hid (allTo_succ s k hlt ha.out c1' c2')
              clear c1 c2
              go_wp2
              go_round
              case rel => exact ⟨k + 1, by omega, by go_num, ha'⟩
              case measure => simp [intOf]; omega
        · obtain rfl : k = s.size := by omega
          have e := Lib.hid (HA.out ha.out)
          go_wp2
          go_ret
          exact ⟨by rw [← e.out]; rfl, rfl⟩

/-- the number that digits make -/
def valL (l : List UInt8) : Nat := l.foldl (fun n c => n * 10 + (c.toNat - 48)) 0
theorem valL_snoc (l : List UInt8) (c : UInt8) : valL (l ++ [c]) = valL l * 10 + (c.toNat - 48) := by unfold valL; rw [List.foldl_append]; rfl
theorem take_snoc (s : ByteArray) (k : Nat) (h : k < s.size) : s.data.toList.take (k + 1) = s.data.toList.take k ++ [s[k]] := by
  rw [List.take_succ_eq_append_getElem (by simpa using h)]; rfl
theorem foldl_le (l : List UInt8) : ∀ n : Nat, n ≤ l.foldl (fun n c => n * 10 + (c.toNat - 48)) n := by
  induction l with
  | nil => exact fun n => Nat.le_refl _
  | cons c l ih => intro n; exact Nat.le_trans (by omega) (ih (n * 10 + (c.toNat - 48)))
theorem valL_take (l : List UInt8) (k : Nat) : valL (l.take k) ≤ valL l := by
  conv => rhs; rw [← List.take_append_drop k l]
  unfold valL
  rw [List.foldl_append]
  exact foldl_le _ _
def readR (l : List UInt8) : Nat := if decB l = true ∧ isN (valL l) then valL l else 0
def readE (l : List UInt8) : Int := if decB l = true then (if isN (valL l) then 0 else 3) else 20
theorem dec_at (s : ByteArray) (h : decB s.data.toList = true) (k : Nat) (hk : k < s.size) : 48 ≤ ((s[k]'hk).toNat : Int) ∧ ((s[k]'hk).toNat : Int) ≤ 57 := by
  by_cases h1 : ((s[k]'hk).toNat : Int) < 48
  · have := decB_bad s k hk (.inl h1); rw [h] at this; cases this
  · by_cases h2 : 57 < ((s[k]'hk).toNat : Int)
    · have := decB_bad s k hk (.inr h2); rw [h] at this; cases this
    · omega
theorem tenN_yes {a : Nat} {d : Int} (h : isN (a * 10 + d.toNat)) : tenN a d = a * 10 + d.toNat ∧ tenC a d = 0 := by
  constructor
  · unfold tenN; unfold isN at h; omega
  · unfold tenC; unfold isN at h; omega
theorem tenC_no {a : Nat} {d : Int} (h : ¬ isN (a * 10 + d.toNat)) : 1 ≤ tenC a d := by
  unfold tenC; unfold isN at h; omega
set_option maxRecDepth 100000 in
set_option maxHeartbeats 4000000 in
theorem read_calls (s : ByteArray) (hs : (s.size : Int) ≤ 9223372036854775807) (w : World) :
    Calls Try.prog 26 #[.string s] w fun e w' => e = .returned (.tuple #[.agg #[.int .u32 (pt (readR s.data.toList) 0), .int .u32 (pt (readR s.data.toList) 1), .int .u32 (pt (readR s.data.toList) 2), .int .u32 (pt (readR s.data.toList) 3)], .int .i64 (readE s.data.toList)]) ∧ Below w.heap.size w w' := by
  cases hd : decB s.data.toList with
  | false =>
    have e1 : readR s.data.toList = 0 := if_neg (by rw [hd]; simp)
    have e2 : readE s.data.toList = 20 := if_neg (by rw [hd]; simp)
    rw [e1, e2]
    have hc := decimal_calls s hs
    rw [hd] at hc
    clear e1 e2 hd
    go_enter Try.func26, Try.ntmps26
    go_wp2_with (first | (go_at_call 49; refine (hc _).mono ?_; rintro e w0 ⟨rfl, rfl⟩))
    refine bodyPost_ret (by simp [results, Try.results26, go_sem, pt_zero]) rfl ⟨rfl, ?_⟩
    repeat (first | (with_reducible exact Below.refl _ _) | ((with_reducible refine below_grow ?_ ?_); rotate_left; focus (first | omega | (simp [go_sem]; done) | (simp [go_sem]; omega))) | ((with_reducible refine Below.alloc ?_ ?_ _); rotate_left; focus (first | omega | (simp [go_sem]; done) | (simp [go_sem]; omega))) | ((with_reducible refine Below.setCell ?_ ?_ _); rotate_left; focus (first | omega | (simp [go_sem]; done) | (simp [go_sem]; omega))) | (with_reducible refine Below.drew ?_) | (with_reducible refine below_drewN _ ?_))
  | true =>
    obtain ⟨R, hR⟩ : ∃ R, readR s.data.toList = R := ⟨_, rfl⟩
    obtain ⟨E, hE⟩ : ∃ R, readE s.data.toList = R := ⟨_, rfl⟩
    rw [hR, hE]
    have hY : Hid (isN (valL s.data.toList) → R = valL s.data.toList ∧ E = 0) := Lib.hid fun h => ⟨by rw [← hR]; exact if_pos ⟨hd, h⟩, by rw [← hE]; unfold readE; rw [if_pos hd, if_pos h]⟩
    have hN : Hid (¬ isN (valL s.data.toList) → R = 0 ∧ E = 3) := Lib.hid fun h => ⟨by rw [← hR]; exact if_neg (fun g => h g.2), by rw [← hE]; unfold readE; rw [if_pos hd, if_neg h]⟩
    have hdig := Lib.hid (dec_at s hd)
    have hc := decimal_calls s hs
    rw [hd] at hc
    clear hR hE hd
    go_enter Try.func26, Try.ntmps26
    go_wp2_with (first | (go_at_call 49; refine (hc _).mono ?_; rintro e w0 ⟨rfl, rfl⟩))
    clear hc
    go_loopw [13] (fun i wr => ∃ k a : Nat, k ≤ s.size ∧ i = .int .i64 k ∧ Hid (a = valL (s.data.toList.take k)) ∧ isN a ∧ Below ((w.alloc (.cells #[.int .u32 0, .int .u32 0, .int .u32 0, .int .u32 0] 24)).alloc (.cells #[.int .u32 (pt a 0), .int .u32 (pt a 1), .int .u32 (pt a 2), .int .u32 (pt a 3)] 24)).heap.size ((w.alloc (.cells #[.int .u32 0, .int .u32 0, .int .u32 0, .int .u32 0] 24)).alloc (.cells #[.int .u32 (pt a 0), .int .u32 (pt a 1), .int .u32 (pt a 2), .int .u32 (pt a 3)] 24)) wr) (fun i _ => s.size - (intOf i).toNat)
    case atStart => exact ⟨0, 0, Nat.zero_le _, rfl, Lib.hid rfl, zeroN, by simp only [pt_zero]; repeat (first | (with_reducible exact Below.refl _ _) | ((with_reducible refine below_grow ?_ ?_); rotate_left; focus (first | omega | (simp [go_sem]; done) | (simp [go_sem]; omega))) | ((with_reducible refine Below.alloc ?_ ?_ _); rotate_left; focus (first | omega | (simp [go_sem]; done) | (simp [go_sem]; omega))) | ((with_reducible refine Below.setCell ?_ ?_ _); rotate_left; focus (first | omega | (simp [go_sem]; done) | (simp [go_sem]; omega))) | (with_reducible refine Below.drew ?_) | (with_reducible refine below_drewN _ ?_))⟩
    case round =>
      obtain ⟨k, a, hk, rfl, ha, hna, hbel⟩ := hrel
      obtain ⟨o, j, rfl⟩ := grow_of_below hbel
      clear hbel
      by_cases hlt : k < s.size
      · obtain ⟨d1, d2⟩ := hdig.out k hlt
        have hv : Hid (valL (s.data.toList.take (k + 1)) = a * 10 + (((s[k]'hlt).toNat : Int) - 48).toNat) := Lib.hid (by
          rw [take_snoc s k hlt, valL_snoc, ← ha.out]; omega)
        obtain ⟨c, hcc⟩ : ∃ c : Int, ((s[k]'hlt).toNat : Int) = c := ⟨_, rfl⟩
        rw [hcc] at d1 d2 hv
        have W1 : IntKind.u8.wrap (c - 48) = c - 48 := IntWalk.u8_in _ (by omega)
        have W2 : IntKind.u32.wrap (c - 48) = c - 48 := IntWalk.u32_in _ (by omega)
        have d3 : 0 ≤ c - 48 ∧ c - 48 ≤ 9 := by omega
        by_cases hyes : isN (a * 10 + (c - 48).toNat)
        · obtain ⟨t1, t2⟩ := tenN_yes hyes
          obtain ⟨a', ha'⟩ : ∃ a', a * 10 + (c - 48).toNat = a' := ⟨_, rfl⟩
          rw [ha'] at t1 hv hyes
          clear ha' ha
          go_wp2
          go_region_with (first | (go_at_call 50; refine (tenfold_calls a (c - 48) d3 hna _).mono ?_; rintro e w0 ⟨rfl, hbel⟩; obtain ⟨o1, j1, rfl⟩ := grow_of_below hbel; clear hbel))
          all_goals
            go_wp2
            go_roundw
            case rel => exact ⟨k + 1, a', by omega, by go_num, Lib.hid hv.out.symm, hyes, by repeat (first | (with_reducible exact Below.refl _ _) | ((with_reducible refine below_grow ?_ ?_); rotate_left; focus (first | omega | (simp [go_sem]; done) | (simp [go_sem]; omega))) | ((with_reducible refine Below.alloc ?_ ?_ _); rotate_left; focus (first | omega | (simp [go_sem]; done) | (simp [go_sem]; omega))) | ((with_reducible refine Below.setCell ?_ ?_ _); rotate_left; focus (first | omega | (simp [go_sem]; done) | (simp [go_sem]; omega))) | (with_reducible refine Below.drew ?_) | (with_reducible refine below_drewN _ ?_))⟩
            case measure => simp [intOf]; omega
        · have t1 := tenC_no hyes
          obtain ⟨T, hT⟩ : ∃ T, tenC a (c - 48) = T := ⟨_, rfl⟩
          rw [hT] at t1
          obtain ⟨rfl, rfl⟩ := hN.out (fun h => hyes (by rw [← hv.out]; exact Nat.lt_of_le_of_lt (valL_take _ _) h))
          clear hv ha hyes
          go_wp2
          go_region_with (first | (go_at_call 50; refine (tenfold_calls a (c - 48) d3 hna _).mono ?_; rintro e w0 ⟨rfl, hbel⟩; obtain ⟨o1, j1, rfl⟩ := grow_of_below hbel; clear hbel))
          all_goals
            go_wp2
            refine bodyPost_ret (by simp [results, Try.results26, go_sem, pt_zero]) rfl ⟨rfl, ?_⟩
            repeat (first | (with_reducible exact Below.refl _ _) | ((with_reducible refine below_grow ?_ ?_); rotate_left; focus (first | omega | (simp [go_sem]; done) | (simp [go_sem]; omega))) | ((with_reducible refine Below.alloc ?_ ?_ _); rotate_left; focus (first | omega | (simp [go_sem]; done) | (simp [go_sem]; omega))) | ((with_reducible refine Below.setCell ?_ ?_ _); rotate_left; focus (first | omega | (simp [go_sem]; done) | (simp [go_sem]; omega))) | (with_reducible refine Below.drew ?_) | (with_reducible refine below_drewN _ ?_))
      · obtain rfl : k = s.size := by omega
        have e : a = valL s.data.toList := by rw [ha.out, List.take_of_length_le (by rw [Array.length_toList]; exact Nat.le_refl _)]
        obtain ⟨rfl, rfl⟩ := hY.out (by rw [← e]; exact hna)
        clear hY hN ha
        subst e
        go_wp2
        refine bodyPost_ret (by simp [results, Try.results26, go_sem]) rfl ⟨rfl, ?_⟩
        repeat (first | (with_reducible exact Below.refl _ _) | ((with_reducible refine below_grow ?_ ?_); rotate_left; focus (first | omega | (simp [go_sem]; done) | (simp [go_sem]; omega))) | ((with_reducible refine Below.alloc ?_ ?_ _); rotate_left; focus (first | omega | (simp [go_sem]; done) | (simp [go_sem]; omega))) | ((with_reducible refine Below.setCell ?_ ?_ _); rotate_left; focus (first | omega | (simp [go_sem]; done) | (simp [go_sem]; omega))) | (with_reducible refine Below.drew ?_) | (with_reducible refine below_drewN _ ?_))
end Go.Proofs.Ytjaggclfacbkbaa

/-! NK -/
namespace Go.Proofs.Ytjaggclfacbkbaa
open Go.RowKit Go.Shelf Go.Sort

def dig (k : Nat) : UInt8 := UInt8.ofNat (48 + k)
theorem dig_nat {k : Nat} (h : k < 10) : (dig k).toNat = 48 + k := by
  unfold dig
  simp [UInt8.toNat_ofNat']
  omega
def decF : Nat → Nat → List UInt8
  | 0, _ => []
  | f + 1, n => if n < 10 then [dig n] else decF f (n / 10) ++ [dig (n % 10)]
/-- a number as decimal digits -/
def decD (n : Nat) : List UInt8 := decF 40 n
theorem decF_more : ∀ (f n : Nat), n < 10 ^ (f + 1) → decF (f + 2) n = decF (f + 1) n
  | 0, n, h => by
    have h1 : n < 10 := by omega
    simp only [decF, if_pos h1]
  | f + 1, n, h => by
    rw [decF]
    conv => rhs; rw [decF]
    rw [decF_more f (n / 10) (by rw [Nat.div_lt_iff_lt_mul (by decide), ← Nat.pow_succ]; exact h)]
theorem decD_low (n : Nat) (h : n < 10) : decD n = [dig n] := by
  show decF (39 + 1) n = _
  rw [decF, if_pos h]
theorem decD_step (n : Nat) (hn : isN n) (h : ¬ n < 10) : decD n = decD (n / 10) ++ [dig (n % 10)] := by
  show decF (39 + 1) n = _
  rw [decF, if_neg h]
  have e : decF 39 (n / 10) = decD (n / 10) := by
    symm
    refine decF_more 38 (n / 10) ?_
    have : (10 : Nat) ^ (38 + 1) = 1000000000000000000000000000000000000000 := by decide
    unfold isN at hn
    omega
  rw [e]
/-- behind some rounds: cur is left, ds are the last digits, the lowest one first -/
def tinv (a cur : Nat) (ds : List UInt8) : Prop := (ds = [] ∧ cur = a) ∨ (ds ≠ [] ∧ decD a = (if cur = 0 then [] else decD cur) ++ ds.reverse)
theorem tinv_step (a cur : Nat) (ds : List UInt8) (hc : isN cur) (h : tinv a cur ds) (hgo : ds = [] ∨ cur ≠ 0) : tinv a (cur / 10) (ds ++ [dig (cur % 10)]) := by
  refine .inr ⟨by simp, ?_⟩
  have key : (if cur / 10 = 0 then [] else decD (cur / 10)) ++ [dig (cur % 10)] = decD cur := by
    by_cases hl : cur < 10
    · rw [if_pos (by omega), decD_low cur hl, Nat.mod_eq_of_lt hl]; rfl
    · rw [if_neg (by omega), ← decD_step cur hc hl]
  rw [List.reverse_append, ← List.append_assoc]
  rcases h with ⟨rfl, rfl⟩ | ⟨h1, h2⟩
  · simp only [List.reverse_nil, List.append_nil, List.reverse_cons, List.nil_append]
    exact key.symm
  · have h3 : cur ≠ 0 := by
      rcases hgo with h | h
      · exact absurd h h1
      · exact h
    rw [if_neg h3] at h2
    rw [h2]
    simp only [List.reverse_cons, List.reverse_nil, List.nil_append]
    rw [key]
theorem tinv_end (a : Nat) (ds : List UInt8) (h : tinv a 0 ds) (hne : ds ≠ []) : decD a = ds.reverse := by
  rcases h with ⟨h1, _⟩ | ⟨_, h2⟩
  · exact absurd h1 hne
  · rw [if_pos rfl, List.nil_append] at h2; exact h2

abbrev enc (b : UInt8) : Value := .int .u8 (b.toNat : Int)
/-- block b is these cells -/
def blk (w : World) (b : Nat) (cs : Array Value) (t : TypeId) : Prop := w.heap[b]? = some (.cells cs t (0, 0))
theorem blk_cell {w : World} {b : Nat} {cs : Array Value} {t : TypeId} (h : blk w b cs t) (i : Nat) : w.cell? ⟨b, i, none⟩ = cs[i]? := by
  unfold blk at h; exact cell_of_row w b i cs t (0, 0) h
theorem blk_free {w : World} {b : Nat} {cs : Array Value} {t : TypeId} (h : blk w b cs t) (i : Nat) : w.frozen? ⟨b, i, none⟩ = false := frozen_of_row w b i cs t h
theorem blk_lt {w : World} {b : Nat} {cs : Array Value} {t : TypeId} (h : blk w b cs t) : b < w.heap.size := lt_of_block h
theorem blk_set {w : World} {b : Nat} {cs : Array Value} {t : TypeId} (h : blk w b cs t) (i : Nat) (v : Value) : blk (w.setCell ⟨b, i, none⟩ v) b (cs.setIfInBounds i v) t := heap_setCell_same w b i cs t v h
theorem blk_grown {w w' : World} {b : Nat} {cs : Array Value} {t : TypeId} {row : Option Nat} (h : blk w b cs t) (hg : w.grownBy w' row) (hne : some b ≠ row) : blk w' b cs t :=
  (hg.block b (blk_lt h) hne).trans h
theorem blk_grow {w : World} {b : Nat} {cs : Array Value} {t : TypeId} (h : blk w b cs t) (x : Array Obj) (d : Nat) : blk (grow w x d) b cs t := (grow_heap (blk_lt h)).trans h
theorem blk_alloc {w : World} {b : Nat} {cs : Array Value} {t : TypeId} (h : blk w b cs t) (o : Obj) : blk (w.alloc o) b cs t := by
  have := blk_lt h
  unfold blk at *
  rw [show (w.alloc o).heap = w.heap.push o from rfl, Array.getElem?_push, if_neg (by omega)]
  exact h
theorem own_grow {w : World} {base : Nat} {e : TypeId} {size : Nat} {v : Value} {n : Nat} {xs : List Value} (h : w.ownsRow base e size v n xs) (x : Array Obj) (d : Nat) : (grow w x d).ownsRow base e size v n xs := by
  refine ⟨h.1, ?_⟩
  rcases h.2 with h1 | ⟨g, cap, cur, h1, h2, h3, h4⟩
  · exact .inl h1
  · exact .inr ⟨g, cap, cur, h1, h2, (grow_heap (lt_of_block h3)).trans h3, h4⟩
def rev_ren : Go.Shelf.Ren := ⟨fun | 35 => 48 | n => n, fun | 0 => 0 | 3 => 3 | 4 => 4 | 22 => 53 | 23 => 5 | n => n, fun | n => n⟩
theorem lays_rev : SlLaysE.n35 Try.prog rev_ren := {
  mixed := by kernel_rfl
  f35 := ⟨Try.f48.name, by decide, Try.func48.trans (congrArg some (by kernel_rfl))⟩
  t0 := Try.underlying0
  a0 := Try.isAgg0
  z0 := Try.sizeOf0
  v0 := Try.zeroValue0
  t3 := Try.underlying3
  a3 := Try.isAgg3
  z3 := Try.sizeOf3
  v3 := Try.zeroValue3
  t4 := Try.underlying4
  a4 := Try.isAgg4
  z4 := Try.sizeOf4
  v4 := Try.zeroValue4
  t22 := Try.underlying53
  a22 := Try.isAgg53
  z22 := Try.sizeOf53
  v22 := Try.zeroValue53
  a23 := Try.isAgg5
  z23 := Try.sizeOf5 }
theorem reverse_calls (b cap : Nat) (zs : List UInt8) (w : World) (hH : Holds enc w b 0 zs.toArray) (hsz : zs.length ≤ 9223372036854775807) :
    Calls Try.prog 48 #[.slice (some ⟨b, 0, none⟩) zs.length cap] w fun e w' => e = .returned (.tuple #[]) ∧ ∃ n, w' = putRow enc (Sort.ahead w n) b 0 zs.reverse.toArray :=
  AnyE.slices_Reverse lays_rev enc (fun _ => rfl) b 0 cap zs w hH hsz
theorem Try.infoB : (Try.prog.info? 5).map (fun i => (i.zero, i.size, i.bytes)) = some (some (.int .u8 0), 1, 1) := by kernel_rfl
end Go.Proofs.Ytjaggclfacbkbaa

/-! NM -/
namespace Go.Proofs.Ytjaggclfacbkbaa
open Go.RowKit Go.Shelf Go.Sort

theorem blk_new (w : World) (cs : Array Value) (t : TypeId) : blk (w.alloc (.cells cs t)) w.heap.size cs t := by
  show (w.heap.push _)[w.heap.size]? = _
  simp
theorem set4 {w : World} {b : Nat} {c0 c1 c2 c3 : Value} {t : TypeId} (h : blk w b #[c0, c1, c2, c3] t) (x0 x1 x2 x3 : Value) :
    blk ((((w.setCell ⟨b, 0, none⟩ x0).setCell ⟨b, 1, none⟩ x1).setCell ⟨b, 2, none⟩ x2).setCell ⟨b, 3, none⟩ x3) b #[x0, x1, x2, x3] t :=
  blk_set (blk_set (blk_set (blk_set h 0 x0) 1 x1) 2 x2) 3 x3
theorem own4 {w : World} {b base : Nat} {e : TypeId} {size : Nat} {v : Value} {n : Nat} {xs : List Value} (h : w.ownsRow base e size v n xs) (hb : b < base) (x0 x1 x2 x3 : Value) :
    ((((w.setCell ⟨b, 0, none⟩ x0).setCell ⟨b, 1, none⟩ x1).setCell ⟨b, 2, none⟩ x2).setCell ⟨b, 3, none⟩ x3).ownsRow base e size v n xs :=
  ownsRow_setCell_below (ownsRow_setCell_below (ownsRow_setCell_below (ownsRow_setCell_below h hb _) hb _) hb _) hb _
theorem news1 (W : World) (t : TypeId) (x y : Value) {n : Nat} (hn : n = W.heap.size) (hxy : y = x) : ∀ (j : Nat) (u : Value), [y][j]? = some u → (W.alloc (.cells #[x] t)).cell? ((⟨n, 0, none⟩ : Addr).add j) = some u := by
  intro j u hj
  match j, hj with
  | 0, hj =>
    simp only [List.getElem?_cons_zero, Option.some.injEq] at hj
    subst hj hxy
    have : (⟨n, 0, none⟩ : Addr).add 0 = ⟨n, 0, none⟩ := rfl
    rw [this, World.cell?_alloc_at _ _ _ 0 hn]
    rfl
theorem enc_dig (n : Nat) : enc (dig (n % 10)) = .int .u8 (48 + (n : Int) % 10) := by
  unfold enc
  rw [dig_nat (Nat.mod_lt _ (by decide))]
  congr 1
theorem own_holds {w : World} {base g n cap : Nat} {e : TypeId} {l : List UInt8} (h : w.ownsRow base e 1 (.slice (some ⟨g, 0, none⟩) n cap) n (l.map enc)) (hl : l.length = n) : Holds enc w g 0 l.toArray := by
  intro j hj
  have hj' : j < l.length := by simpa using hj
  rw [Nat.zero_add]
  refine ⟨?_, h.frozenAt j⟩
  rw [h.cellAt j (by omega), List.getElem?_map, List.getElem?_eq_getElem hj']
  simp [hj']
theorem below_put {B : Nat} {a w : World} (h : Below B a w) (n g : Nat) (d : Array UInt8) (hg : B ≤ g) : Below B a (putRow enc (Sort.ahead w n) g 0 d) :=
  h.trans ⟨rfl, rfl, rfl, by simp [Sort.ahead], fun k hk => by
    show ((Sort.ahead w n).heap.modify g _)[k]? = _
    rw [Array.getElem?_modify, if_neg (by omega)]
    rfl⟩
theorem put_string (a : Nat) (w : World) (n g cap : Nat) (ds : List UInt8) (hH : Holds enc w g 0 ds.toArray) (he : decD a = ds.reverse) :
    (convert 53 9 (.slice (some ⟨g, 0, none⟩) ds.length cap)).run Try.prog (putRow enc (Sort.ahead w n) g 0 ds.reverse.toArray) = .ok (.string ⟨(decD a).toArray⟩) (putRow enc (Sort.ahead w n) g 0 ds.reverse.toArray) := by
  have hlen : ds.length = ds.reverse.length := by simp
  rw [he, hlen]
  refine run_convert_bytes_back _ 53 9 5 ⟨g, 0, none⟩ cap ds.reverse Try.underlying53 Try.underlying5 Try.underlying9 fun j hj => ?_
  have hp : (⟨g, 0, none⟩ : Addr).add j = ⟨g, 0 + j, none⟩ := by unfold Addr.add; split <;> simp_all
  rw [hp, cell?_putRow enc _ g 0 ds.toArray ds.reverse.toArray (holds_ahead enc w n g 0 _ hH) (by simp) j (by simpa using hj)]
  simp only [List.length_reverse] at hj
  simp [hj]
set_option maxRecDepth 100000 in
set_option maxHeartbeats 8000000 in
theorem text_calls (a : Nat) (ha : isN a) (w : World) :
    Calls Try.prog 25 #[.agg #[.int .u32 (pt a 0), .int .u32 (pt a 1), .int .u32 (pt a 2), .int .u32 (pt a 3)]] w fun e w' => e = .returned (.string ⟨(decD a).toArray⟩) ∧ Below w.heap.size w w' := by
  obtain ⟨i0, hi, hz0, hz1, hz2⟩ := info_parts Try.infoB
  go_enter Try.func25, Try.ntmps25
  go_wp2
  go_loopg [3] 41 (fun gk s3 wr => ∃ (cur n : Nat) (ds : List UInt8), True ∧ n + gk = 41 ∧ ds.length = n ∧ isN cur ∧ Hid (n ≤ 40 ∧ cur < 10 ^ (40 - n)) ∧ Hid (tinv a cur ds) ∧ (ds = [] → s3 = .slice none 0 0) ∧ wr.ownsRow (w.heap.size + 1) 5 1 s3 n (ds.map enc) ∧ blk wr w.heap.size #[.int .u32 (pt cur 0), .int .u32 (pt cur 1), .int .u32 (pt cur 2), .int .u32 (pt cur 3)] 24 ∧ Below w.heap.size w wr)
  case atStart => exact ⟨a, 0, [], trivial, rfl, rfl, ha, Lib.hid ⟨by decide, by unfold isN at ha; omega⟩, Lib.hid (.inl ⟨rfl, rfl⟩), fun _ => rfl, World.ownsRow_nil _ _ _ _, blk_new _ _ _, by repeat (first | (with_reducible exact Below.refl _ _) | ((with_reducible refine below_grow ?_ ?_); rotate_left; focus (first | omega | (simp [go_sem]; done) | (simp [go_sem]; omega))) | ((with_reducible refine Below.alloc ?_ ?_ _); rotate_left; focus (first | omega | (simp [go_sem]; done) | (simp [go_sem]; omega))) | ((with_reducible refine Below.setCell ?_ ?_ _); rotate_left; focus (first | omega | (simp [go_sem]; done) | (simp [go_sem]; omega))) | (with_reducible refine Below.drew ?_) | (with_reducible refine below_drewN _ ?_))⟩
  case round =>
    obtain ⟨cur, n, ds, -, hn, hl, hcur, hpow, hinv, hnil, hown, hb, hbel⟩ := hrel
    have hc0 := blk_cell hb 0
    have hc1 := blk_cell hb 1
    have hc2 := blk_cell hb 2
    have hc3 := blk_cell hb 3
    have hf0 := blk_free hb 0
    have hf1 := blk_free hb 1
    have hf2 := blk_free hb 2
    have hf3 := blk_free hb 3
    simp only [List.getElem?_toArray, List.getElem?_cons_zero, List.getElem?_cons_succ] at hc0 hc1 hc2 hc3
    have hlt := blk_lt hb
    have iB : NeZero (inW w.heap.size wr) := inW_mk hlt
    have hm : 0 ≤ (cur : Int) % 10 ∧ (cur : Int) % 10 ≤ 9 := by omega
    by_cases hds : ds = []
    · subst hds
      obtain rfl := hnil rfl
      have hl0 : n = 0 := by simpa using hl.symm
      subst hl0
      clear hnil
      have hpow2 : Hid (0 + 1 ≤ 40 ∧ cur / 10 < 10 ^ (40 - (0 + 1))) := Lib.hid ⟨by decide, by have := hpow.out.2; omega⟩
      have hinv2 := Lib.hid (tinv_step a cur [] hcur hinv.out (.inl rfl))
      clear hpow hinv
      go_wp2_with (first | (at_builtin; refine wpList_append_own _ rfl _ _ 53 rfl (w.heap.size + 1) 5 i0 (.int .u8 0) 1 1 Try.underlying53 hi hz0 hz1 hz2 rfl (by decide) (.slice none 0 0) 0 _ rfl ((own_grow (own4 hown (by omega) _ _ _ _) _ _).alloc _) ⟨wr.heap.size + sz o1, 0, none⟩ 1 1 [enc (dig (cur % 10))] rfl rfl (news1 _ _ _ _ (by simp [grow_size, World.size_setCell]) (by rw [enc_dig])) (fun u hu => by simp only [List.mem_singleton] at hu; subst hu; rfl) (by unfold maxLen; omega) (by omega) (by simp [grow_size, World.size_setCell]; omega) ?_; intro v' w2 hown' hgrow _) | (go_at_call 47; refine (tenth_calls cur hcur _).mono ?_; rintro e w1 ⟨rfl, hbel1⟩; obtain ⟨o1, j1, rfl⟩ := grow_of_below hbel1; clear hbel1))
      go_roundg (gk - 1)
      case measure => omega
      case rel => exact ⟨cur / 10, 0 + 1, [] ++ [dig (cur % 10)], trivial, by omega, by simp [hl], div_isN hcur, hpow2, hinv2, fun h => absurd h (by simp), by rw [List.map_append]; exact hown', blk_grown (blk_alloc (blk_grow (set4 hb _ _ _ _) _ _) _) hgrow (by simp [Value.ownBlock]), Below.grown (by repeat (first | (with_reducible exact hbel) | ((with_reducible refine below_grow ?_ ?_); rotate_left; focus (first | omega | (simp [go_sem]; done) | (simp [go_sem]; omega))) | ((with_reducible refine Below.alloc ?_ ?_ _); rotate_left; focus (first | omega | (simp [go_sem]; done) | (simp [go_sem]; omega))) | ((with_reducible refine Below.setCell ?_ ?_ _); rotate_left; focus (first | omega | (simp [go_sem]; done) | (simp [go_sem]; omega))) | (with_reducible refine Below.drew ?_) | (with_reducible refine below_drewN _ ?_))) hgrow (by simp [grow_size, World.size_setCell]; omega) (fun k h => by simp [Value.ownBlock] at h)⟩
    · have hpos : 0 < ds.length := List.length_pos_iff.2 hds
      obtain ⟨g, cap, rfl, hg⟩ : ∃ g cap, u3 = .slice (some ⟨g, 0, none⟩) n cap ∧ w.heap.size + 1 ≤ g := by
        rcases hown.2 with ⟨_, h0⟩ | ⟨g, cap, cu, h1, h2, _⟩
        · omega
        · exact ⟨g, cap, h1, h2⟩
      subst hl
      clear hnil
      by_cases hz : cur = 0
      · subst hz
        have he := tinv_end a ds hinv.out hds
        have hH := own_holds hown rfl
        have hcv := Lib.hid (fun k => put_string a wr k g cap ds hH he)
        have hbl := Lib.hid (fun k => below_put hbel k g ds.reverse.toArray (by omega))
        have hd : decide ((0 : Nat) = 0) = true := rfl
        have hp1 : ((ds.length : Int) == 0) = false := by simp; exact hds
        have hlen := hpow.out.1
        have hH' := Lib.hid hH
        clear he hinv hpow hown hH hds
        go_wp2_with (first | (go_at_call 48; go_loud (refine (reverse_calls g cap ds wr hH'.out (by omega)).mono ?_; rintro e w3 ⟨rfl, k, hw3⟩; have hcv1 : (convert 53 9 (.slice (some ⟨g, 0, none⟩) ds.length cap)).run Try.prog w3 = .ok (.string ⟨(decD a).toArray⟩) w3 := (by rw [hw3]; exact hcv.out k); have hb3 : Below w.heap.size w w3 := (by rw [hw3]; exact hbl.out k); clear hw3)))
        go_ret
        exact ⟨rfl, hb3⟩
      · have hd : decide (cur = 0) = false := by simp [hz]
        have hpow2 : Hid (ds.length + 1 ≤ 40 ∧ cur / 10 < 10 ^ (40 - (ds.length + 1))) := Lib.hid (by
          obtain ⟨h1, h2⟩ := hpow.out
          have h3 : ds.length ≠ 40 := fun h => by rw [h] at h2; simp at h2; exact hz h2
          refine ⟨by omega, ?_⟩
          rw [Nat.div_lt_iff_lt_mul (by decide), ← Nat.pow_succ]
          have e : 40 - (ds.length + 1) + 1 = 40 - ds.length := by omega
          rw [Nat.succ_eq_add_one, e]; exact h2)
        have hinv2 := Lib.hid (tinv_step a cur ds hcur hinv.out (.inr hz))
        have hlen := hpow.out.1
        clear hpow hinv
        have hl : ds.length = ds.length := rfl
        go_wp2_with (first | (at_builtin; refine wpList_append_own _ rfl _ _ 53 rfl (w.heap.size + 1) 5 i0 (.int .u8 0) 1 1 Try.underlying53 hi hz0 hz1 hz2 rfl (by decide) (.slice (some ⟨g, 0, none⟩) ds.length cap) ds.length _ rfl ((own_grow (own4 hown (by omega) _ _ _ _) _ _).alloc _) ⟨wr.heap.size + sz o1, 0, none⟩ 1 1 [enc (dig (cur % 10))] rfl rfl (news1 _ _ _ _ (by simp [grow_size, World.size_setCell]) (by rw [enc_dig])) (fun u hu => by simp only [List.mem_singleton] at hu; subst hu; rfl) (by unfold maxLen; omega) (by omega) (by simp [grow_size, World.size_setCell]; omega) ?_; intro v' w2 hown' hgrow _) | (go_at_call 47; refine (tenth_calls cur hcur _).mono ?_; rintro e w1 ⟨rfl, hbel1⟩; obtain ⟨o1, j1, rfl⟩ := grow_of_below hbel1; clear hbel1))
        go_roundg (gk - 1)
        case measure => omega
        case rel => exact ⟨cur / 10, ds.length + 1, ds ++ [dig (cur % 10)], trivial, by omega, by simp, div_isN hcur, hpow2, hinv2, fun h => absurd h (by simp), by rw [List.map_append]; exact hown', blk_grown (blk_alloc (blk_grow (set4 hb _ _ _ _) _ _) _) hgrow (by simp [Value.ownBlock]; omega), Below.grown (by repeat (first | (with_reducible exact hbel) | ((with_reducible refine below_grow ?_ ?_); rotate_left; focus (first | omega | (simp [go_sem]; done) | (simp [go_sem]; omega))) | ((with_reducible refine Below.alloc ?_ ?_ _); rotate_left; focus (first | omega | (simp [go_sem]; done) | (simp [go_sem]; omega))) | ((with_reducible refine Below.setCell ?_ ?_ _); rotate_left; focus (first | omega | (simp [go_sem]; done) | (simp [go_sem]; omega))) | (with_reducible refine Below.drew ?_) | (with_reducible refine below_drewN _ ?_))) hgrow (by simp [grow_size, World.size_setCell]; omega) (fun k h => by simp [Value.ownBlock] at h; omega)⟩
end Go.Proofs.Ytjaggclfacbkbaa

/-! NN -/
namespace Go.Proofs.Ytjaggclfacbkbaa
open Go.RowKit

theorem pt_one : pt 1 0 = 1 ∧ pt 1 1 = 0 ∧ pt 1 2 = 0 ∧ pt 1 3 = 0 := by decide
theorem oneN : isN 1 := by decide
def mulR (a b : Nat) : Nat := if isN (a * b) then a * b else 0
def mulE (a b : Nat) : Int := if isN (a * b) then 0 else 3
theorem mulR_isN (a b : Nat) : isN (mulR a b) := by unfold mulR; split <;> first | assumption | exact zeroN
theorem mulL_isN (a b : Nat) : isN (mulL a b) := by unfold mulL isN; exact Nat.mod_lt _ (by decide)
theorem mulH_isN {a b : Nat} (ha : isN a) (hb : isN b) : isN (mulH a b) := by
  unfold mulH
  unfold isN at *
  have h : a * b < 340282366920938463463374607431768211456 * 340282366920938463463374607431768211456 := Nat.mul_lt_mul'' ha hb
  exact Nat.div_lt_of_lt_mul h
theorem mul_yes {a b : Nat} (h : isN (a * b)) : mulL a b = a * b ∧ mulH a b = 0 ∧ mulR a b = a * b ∧ mulE a b = 0 := by
  refine ⟨Nat.mod_eq_of_lt h, Nat.div_eq_of_lt h, if_pos h, if_pos h⟩
theorem mul_no {a b : Nat} (h : ¬ isN (a * b)) : mulH a b ≠ 0 ∧ mulR a b = 0 ∧ mulE a b = 3 := by
  refine ⟨?_, if_neg h, if_neg h⟩
  unfold mulH
  unfold isN at h
  intro g
  rw [Nat.div_eq_zero_iff] at g
  omega
set_option maxRecDepth 10000 in
theorem times_one (b : Nat) (hb : isN b) (w : World) :
    Calls Try.prog 42 #[.agg #[.int .u32 1, .int .u32 0, .int .u32 0, .int .u32 0], .agg #[.int .u32 (pt b 0), .int .u32 (pt b 1), .int .u32 (pt b 2), .int .u32 (pt b 3)]] w fun e w' => e = .returned (.tuple #[.agg #[.int .u32 (pt b 0), .int .u32 (pt b 1), .int .u32 (pt b 2), .int .u32 (pt b 3)], .agg #[.int .u32 0, .int .u32 0, .int .u32 0, .int .u32 0]]) ∧ Below w.heap.size w w' := by
  have h := times_calls 1 b oneN hb w
  obtain ⟨q0, q1, q2, q3⟩ := pt_one
  have e1 : mulL 1 b = b := by unfold mulL; rw [Nat.one_mul]; exact Nat.mod_eq_of_lt hb
  have e2 : mulH 1 b = 0 := by unfold mulH; rw [Nat.one_mul]; exact Nat.div_eq_of_lt hb
  simp only [q0, q1, q2, q3, e1, e2, pt_zero] at h
  exact h
theorem eqNz' (a : Nat) (ha : isN a) (w : World) : (Op.equalIn 10000 24 (.agg #[.int .u32 0, .int .u32 0, .int .u32 0, .int .u32 0]) (.agg #[.int .u32 (pt a 0), .int .u32 (pt a 1), .int .u32 (pt a 2), .int .u32 (pt a 3)])).run Try.prog w = .ok (decide (a = 0)) w := by
  have := eqNv 0 a zeroN ha w
  simp only [pt_zero] at this
  rw [this]
  by_cases h : a = 0
  · subst h; rfl
  · rw [decide_eq_false h, decide_eq_false (fun g => h g.symm)]
theorem eqZZ (w : World) : (Op.equalIn 10000 24 (.agg #[.int .u32 0, .int .u32 0, .int .u32 0, .int .u32 0]) (.agg #[.int .u32 0, .int .u32 0, .int .u32 0, .int .u32 0])).run Try.prog w = .ok true w := by
  rw [eqN]; simp
def idxN (a b : Nat) : Int := if a = 0 then 0 else if b = 0 then 1 else -1
set_option maxRecDepth 100000 in
set_option maxHeartbeats 4000000 in
theorem index_calls (a b p : Nat) (ha : isN a) (hb : isN b) (w : World) [iP : NeZero (inW p w)] (p0 : w.cell? ⟨p, 0, none⟩ = some (.int .u32 (pt a 0))) (p1 : w.cell? ⟨p, 1, none⟩ = some (.int .u32 (pt a 1))) (p2 : w.cell? ⟨p, 2, none⟩ = some (.int .u32 (pt a 2))) (p3 : w.cell? ⟨p, 3, none⟩ = some (.int .u32 (pt a 3))) (p4 : w.cell? ⟨p, 4, none⟩ = some (.int .u32 (pt b 0))) (p5 : w.cell? ⟨p, 5, none⟩ = some (.int .u32 (pt b 1))) (p6 : w.cell? ⟨p, 6, none⟩ = some (.int .u32 (pt b 2))) (p7 : w.cell? ⟨p, 7, none⟩ = some (.int .u32 (pt b 3))) :
    Calls Try.prog 62 #[.slice (some ⟨p, 0, none⟩) 2 2, .agg #[.int .u32 0, .int .u32 0, .int .u32 0, .int .u32 0]] w fun e w' => e = .returned (.int .i64 (idxN a b)) ∧ Below w.heap.size w w' := by
  by_cases h0 : a = 0
  · have e : idxN a b = 0 := if_pos h0
    rw [e]
    have hd : decide (a = 0) = true := by simp [h0]
    have hE := fun w => eqNz' a ha w
    rw [hd] at hE
    clear h0 e
    go_enter Try.func62, Try.ntmps62
    go_wp2
    refine wp_loop_rounds 3 ?_
    rw [rounds_succ]
    go_wp2
    go_region_held3 (fun w' => w'.cell? ⟨w.heap.size, 0, none⟩ = some (.int .u32 0) ∧ w'.cell? ⟨w.heap.size, 1, none⟩ = some (.int .u32 0) ∧ w'.cell? ⟨w.heap.size, 2, none⟩ = some (.int .u32 0) ∧ w'.cell? ⟨w.heap.size, 3, none⟩ = some (.int .u32 0) ∧ w'.cell? ⟨p, 0, none⟩ = some (.int .u32 (pt a 0)) ∧ w'.cell? ⟨p, 1, none⟩ = some (.int .u32 (pt a 1)) ∧ w'.cell? ⟨p, 2, none⟩ = some (.int .u32 (pt a 2)) ∧ w'.cell? ⟨p, 3, none⟩ = some (.int .u32 (pt a 3))) (simp [*, go_sem]) (fail)
    go_wp2
    go_ret
    exact ⟨rfl, by repeat (first | (with_reducible exact Below.refl _ _) | ((with_reducible refine below_grow ?_ ?_); rotate_left; focus (first | omega | (simp [go_sem]; done) | (simp [go_sem]; omega))) | ((with_reducible refine Below.alloc ?_ ?_ _); rotate_left; focus (first | omega | (simp [go_sem]; done) | (simp [go_sem]; omega))) | ((with_reducible refine Below.setCell ?_ ?_ _); rotate_left; focus (first | omega | (simp [go_sem]; done) | (simp [go_sem]; omega))) | (with_reducible refine Below.drew ?_) | (with_reducible refine below_drewN _ ?_))⟩
  · have hd : decide (a = 0) = false := by simp [h0]
    have hE := fun w => eqNz' a ha w
    rw [hd] at hE
    by_cases h1 : b = 0
    · have e : idxN a b = 1 := by unfold idxN; rw [if_neg h0, if_pos h1]
      rw [e]
      have hd1 : decide (b = 0) = true := by simp [h1]
      have hE1 := fun w => eqNz' b hb w
      rw [hd1] at hE1
      clear h0 h1 e
      go_enter Try.func62, Try.ntmps62
      go_wp2
      refine wp_loop_rounds 3 ?_
      rw [rounds_succ]
      go_wp2
      go_region_held3 (fun w' => w'.cell? ⟨w.heap.size, 0, none⟩ = some (.int .u32 0) ∧ w'.cell? ⟨w.heap.size, 1, none⟩ = some (.int .u32 0) ∧ w'.cell? ⟨w.heap.size, 2, none⟩ = some (.int .u32 0) ∧ w'.cell? ⟨w.heap.size, 3, none⟩ = some (.int .u32 0) ∧ w'.cell? ⟨p, 0, none⟩ = some (.int .u32 (pt a 0)) ∧ w'.cell? ⟨p, 1, none⟩ = some (.int .u32 (pt a 1)) ∧ w'.cell? ⟨p, 2, none⟩ = some (.int .u32 (pt a 2)) ∧ w'.cell? ⟨p, 3, none⟩ = some (.int .u32 (pt a 3))) (simp [*, go_sem]) (fail)
      go_wp2
      rw [rounds_succ]
      go_wp2
      go_region_held3 (fun w' => w'.cell? ⟨w.heap.size, 0, none⟩ = some (.int .u32 0) ∧ w'.cell? ⟨w.heap.size, 1, none⟩ = some (.int .u32 0) ∧ w'.cell? ⟨w.heap.size, 2, none⟩ = some (.int .u32 0) ∧ w'.cell? ⟨w.heap.size, 3, none⟩ = some (.int .u32 0) ∧ w'.cell? ⟨p, 4, none⟩ = some (.int .u32 (pt b 0)) ∧ w'.cell? ⟨p, 5, none⟩ = some (.int .u32 (pt b 1)) ∧ w'.cell? ⟨p, 6, none⟩ = some (.int .u32 (pt b 2)) ∧ w'.cell? ⟨p, 7, none⟩ = some (.int .u32 (pt b 3))) (simp [*, go_sem]) (fail)
      go_wp2
      go_ret
      exact ⟨rfl, by repeat (first | (with_reducible exact Below.refl _ _) | ((with_reducible refine below_grow ?_ ?_); rotate_left; focus (first | omega | (simp [go_sem]; done) | (simp [go_sem]; omega))) | ((with_reducible refine Below.alloc ?_ ?_ _); rotate_left; focus (first | omega | (simp [go_sem]; done) | (simp [go_sem]; omega))) | ((with_reducible refine Below.setCell ?_ ?_ _); rotate_left; focus (first | omega | (simp [go_sem]; done) | (simp [go_sem]; omega))) | (with_reducible refine Below.drew ?_) | (with_reducible refine below_drewN _ ?_))⟩
    · have e : idxN a b = -1 := by unfold idxN; rw [if_neg h0, if_neg h1]
      rw [e]
      have hd1 : decide (b = 0) = false := by simp [h1]
      have hE1 := fun w => eqNz' b hb w
      rw [hd1] at hE1
      clear h0 h1 e
      go_enter Try.func62, Try.ntmps62
      go_wp2
      refine wp_loop_rounds 3 ?_
      rw [rounds_succ]
      go_wp2
      go_region_held3 (fun w' => w'.cell? ⟨w.heap.size, 0, none⟩ = some (.int .u32 0) ∧ w'.cell? ⟨w.heap.size, 1, none⟩ = some (.int .u32 0) ∧ w'.cell? ⟨w.heap.size, 2, none⟩ = some (.int .u32 0) ∧ w'.cell? ⟨w.heap.size, 3, none⟩ = some (.int .u32 0) ∧ w'.cell? ⟨p, 0, none⟩ = some (.int .u32 (pt a 0)) ∧ w'.cell? ⟨p, 1, none⟩ = some (.int .u32 (pt a 1)) ∧ w'.cell? ⟨p, 2, none⟩ = some (.int .u32 (pt a 2)) ∧ w'.cell? ⟨p, 3, none⟩ = some (.int .u32 (pt a 3))) (simp [*, go_sem]) (fail)
      go_wp2
      rw [rounds_succ]
      go_wp2
      go_region_held3 (fun w' => w'.cell? ⟨w.heap.size, 0, none⟩ = some (.int .u32 0) ∧ w'.cell? ⟨w.heap.size, 1, none⟩ = some (.int .u32 0) ∧ w'.cell? ⟨w.heap.size, 2, none⟩ = some (.int .u32 0) ∧ w'.cell? ⟨w.heap.size, 3, none⟩ = some (.int .u32 0) ∧ w'.cell? ⟨p, 4, none⟩ = some (.int .u32 (pt b 0)) ∧ w'.cell? ⟨p, 5, none⟩ = some (.int .u32 (pt b 1)) ∧ w'.cell? ⟨p, 6, none⟩ = some (.int .u32 (pt b 2)) ∧ w'.cell? ⟨p, 7, none⟩ = some (.int .u32 (pt b 3))) (simp [*, go_sem]) (fail)
      go_wp2
      rw [rounds_succ]
      go_wp2
      go_ret
      exact ⟨rfl, by repeat (first | (with_reducible exact Below.refl _ _) | ((with_reducible refine below_grow ?_ ?_); rotate_left; focus (first | omega | (simp [go_sem]; done) | (simp [go_sem]; omega))) | ((with_reducible refine Below.alloc ?_ ?_ _); rotate_left; focus (first | omega | (simp [go_sem]; done) | (simp [go_sem]; omega))) | ((with_reducible refine Below.setCell ?_ ?_ _); rotate_left; focus (first | omega | (simp [go_sem]; done) | (simp [go_sem]; omega))) | (with_reducible refine Below.drew ?_) | (with_reducible refine below_drewN _ ?_))⟩
set_option maxRecDepth 100000 in
set_option maxHeartbeats 4000000 in
theorem contains_calls (a b p : Nat) (ha : isN a) (hb : isN b) (w : World) [iP : NeZero (inW p w)] (p0 : w.cell? ⟨p, 0, none⟩ = some (.int .u32 (pt a 0))) (p1 : w.cell? ⟨p, 1, none⟩ = some (.int .u32 (pt a 1))) (p2 : w.cell? ⟨p, 2, none⟩ = some (.int .u32 (pt a 2))) (p3 : w.cell? ⟨p, 3, none⟩ = some (.int .u32 (pt a 3))) (p4 : w.cell? ⟨p, 4, none⟩ = some (.int .u32 (pt b 0))) (p5 : w.cell? ⟨p, 5, none⟩ = some (.int .u32 (pt b 1))) (p6 : w.cell? ⟨p, 6, none⟩ = some (.int .u32 (pt b 2))) (p7 : w.cell? ⟨p, 7, none⟩ = some (.int .u32 (pt b 3))) (B : Bool) (hB : decide (a = 0 ∨ b = 0) = B) :
    Calls Try.prog 41 #[.slice (some ⟨p, 0, none⟩) 2 2, .agg #[.int .u32 0, .int .u32 0, .int .u32 0, .int .u32 0]] w fun e w' => e = .returned (.bool B) ∧ Below w.heap.size w w' := by
  have e : decide (0 ≤ idxN a b) = B := by
    rw [← hB, decide_eq_decide]
    unfold idxN
    split
    · simp_all
    · split <;> simp_all
  have hi : -1 ≤ idxN a b ∧ idxN a b ≤ 1 := by unfold idxN; split; · omega
                                               · split <;> omega
  obtain ⟨I, hI⟩ : ∃ I, idxN a b = I := ⟨_, rfl⟩
  have hc := fun w' [NeZero (inW p w')] h0 h1 h2 h3 h4 h5 h6 h7 => index_calls a b p ha hb w' h0 h1 h2 h3 h4 h5 h6 h7
  rw [hI] at e hi hc
  clear hI hB
  have hc := Lib.hid hc
  go_enter Try.func41, Try.ntmps41
  go_wp2_with (first | (go_at_call 62; refine (hc.out _ (by simp [*, go_sem]) (by simp [*, go_sem]) (by simp [*, go_sem]) (by simp [*, go_sem]) (by simp [*, go_sem]) (by simp [*, go_sem]) (by simp [*, go_sem]) (by simp [*, go_sem])).mono ?_; rintro e w1 ⟨rfl, hbel⟩; obtain ⟨o1, j1, rfl⟩ := grow_of_below hbel; clear hbel))
  go_ret
  exact ⟨rfl, by repeat (first | (with_reducible exact Below.refl _ _) | ((with_reducible refine below_grow ?_ ?_); rotate_left; focus (first | omega | (simp [go_sem]; done) | (simp [go_sem]; omega))) | ((with_reducible refine Below.alloc ?_ ?_ _); rotate_left; focus (first | omega | (simp [go_sem]; done) | (simp [go_sem]; omega))) | ((with_reducible refine Below.setCell ?_ ?_ _); rotate_left; focus (first | omega | (simp [go_sem]; done) | (simp [go_sem]; omega))) | (with_reducible refine Below.drew ?_) | (with_reducible refine below_drewN _ ?_))⟩

set_option maxRecDepth 100000 in
set_option maxHeartbeats 4000000 in
theorem mul_calls (a b p : Nat) (ha : isN a) (hb : isN b) (w : World) [iP : NeZero (inW p w)] (p0 : w.cell? ⟨p, 0, none⟩ = some (.int .u32 (pt a 0))) (p1 : w.cell? ⟨p, 1, none⟩ = some (.int .u32 (pt a 1))) (p2 : w.cell? ⟨p, 2, none⟩ = some (.int .u32 (pt a 2))) (p3 : w.cell? ⟨p, 3, none⟩ = some (.int .u32 (pt a 3))) (p4 : w.cell? ⟨p, 4, none⟩ = some (.int .u32 (pt b 0))) (p5 : w.cell? ⟨p, 5, none⟩ = some (.int .u32 (pt b 1))) (p6 : w.cell? ⟨p, 6, none⟩ = some (.int .u32 (pt b 2))) (p7 : w.cell? ⟨p, 7, none⟩ = some (.int .u32 (pt b 3))) :
    Calls Try.prog 19 #[.slice (some ⟨p, 0, none⟩) 2 2] w fun e w' => e = .returned (.tuple #[.agg #[.int .u32 (pt (mulR a b) 0), .int .u32 (pt (mulR a b) 1), .int .u32 (pt (mulR a b) 2), .int .u32 (pt (mulR a b) 3)], .int .i64 (mulE a b)]) ∧ Below w.heap.size w w' := by
  have hZZ := eqZZ
  by_cases hz : a = 0 ∨ b = 0
  · have e0 : a * b = 0 := by
      rcases hz with h | h
      · rw [h, Nat.zero_mul]
      · rw [h, Nat.mul_zero]
    have e1 : mulR a b = 0 := by unfold mulR; rw [e0]; rfl
    have e2 : mulE a b = 0 := by unfold mulE; rw [e0, if_pos zeroN]
    rw [e1, e2]
    have hc := Lib.hid (fun w' [NeZero (inW p w')] h0 h1 h2 h3 h4 h5 h6 h7 => contains_calls a b p ha hb w' h0 h1 h2 h3 h4 h5 h6 h7 true (by simp [hz]))
    clear hz e0 e1 e2
    go_enter Try.func19, Try.ntmps19
    go_wp2_with (first | (go_at_call 41; refine (hc.out _ (by simp [*, go_sem]) (by simp [*, go_sem]) (by simp [*, go_sem]) (by simp [*, go_sem]) (by simp [*, go_sem]) (by simp [*, go_sem]) (by simp [*, go_sem]) (by simp [*, go_sem])).mono ?_; rintro e w1 ⟨rfl, hbel⟩; obtain ⟨o1, j1, rfl⟩ := grow_of_below hbel; clear hbel))
    refine bodyPost_ret (by simp [results, Try.results19, go_sem, pt_zero]) rfl ⟨rfl, ?_⟩
    repeat (first | (with_reducible exact Below.refl _ _) | ((with_reducible refine below_grow ?_ ?_); rotate_left; focus (first | omega | (simp [go_sem]; done) | (simp [go_sem]; omega))) | ((with_reducible refine Below.alloc ?_ ?_ _); rotate_left; focus (first | omega | (simp [go_sem]; done) | (simp [go_sem]; omega))) | ((with_reducible refine Below.setCell ?_ ?_ _); rotate_left; focus (first | omega | (simp [go_sem]; done) | (simp [go_sem]; omega))) | (with_reducible refine Below.drew ?_) | (with_reducible refine below_drewN _ ?_))
  · have hc := Lib.hid (fun w' [NeZero (inW p w')] h0 h1 h2 h3 h4 h5 h6 h7 => contains_calls a b p ha hb w' h0 h1 h2 h3 h4 h5 h6 h7 false (by simp [hz]))
    clear hz
    by_cases hy : isN (a * b)
    · obtain ⟨e1, e2, e3, e4⟩ := mul_yes hy
      rw [e3, e4]
      clear e3 e4 hy
      go_enter Try.func19, Try.ntmps19
      go_wp2_with (first | (go_at_call 41; refine (hc.out _ (by simp [*, go_sem]) (by simp [*, go_sem]) (by simp [*, go_sem]) (by simp [*, go_sem]) (by simp [*, go_sem]) (by simp [*, go_sem]) (by simp [*, go_sem]) (by simp [*, go_sem])).mono ?_; rintro e w1 ⟨rfl, hbel⟩; obtain ⟨o1, j1, rfl⟩ := grow_of_below hbel; clear hbel))
      refine wp_loop_rounds 3 ?_
      rw [rounds_succ]
      go_wp2_with (first | (go_at_call 42; refine (times_one a ha _).mono ?_; rintro e w1 ⟨rfl, hbel⟩; obtain ⟨o2, j2, rfl⟩ := grow_of_below hbel; clear hbel))
      rw [rounds_succ]
      go_wp2_with (first | (go_at_call 42; refine (times_calls a b ha hb _).mono ?_; rintro e w1 ⟨rfl, hbel⟩; rw [e1, e2]; simp only [pt_zero]; obtain ⟨o3, j3, rfl⟩ := grow_of_below hbel; clear hbel))
      rw [rounds_succ]
      go_wp2
      refine bodyPost_ret (by simp [results, Try.results19, go_sem]) rfl ⟨rfl, ?_⟩
      repeat (first | (with_reducible exact Below.refl _ _) | ((with_reducible refine below_grow ?_ ?_); rotate_left; focus (first | omega | (simp [go_sem]; done) | (simp [go_sem]; omega))) | ((with_reducible refine Below.alloc ?_ ?_ _); rotate_left; focus (first | omega | (simp [go_sem]; done) | (simp [go_sem]; omega))) | ((with_reducible refine Below.setCell ?_ ?_ _); rotate_left; focus (first | omega | (simp [go_sem]; done) | (simp [go_sem]; omega))) | (with_reducible refine Below.drew ?_) | (with_reducible refine below_drewN _ ?_))
    · obtain ⟨e1, e3, e4⟩ := mul_no hy
      rw [e3, e4]
      have hd : decide (mulH a b = 0) = false := by simp [e1]
      have hH := mulH_isN ha hb
      clear e1 e3 e4 hy
      go_enter Try.func19, Try.ntmps19
      go_wp2_with (first | (go_at_call 41; refine (hc.out _ (by simp [*, go_sem]) (by simp [*, go_sem]) (by simp [*, go_sem]) (by simp [*, go_sem]) (by simp [*, go_sem]) (by simp [*, go_sem]) (by simp [*, go_sem]) (by simp [*, go_sem])).mono ?_; rintro e w1 ⟨rfl, hbel⟩; obtain ⟨o1, j1, rfl⟩ := grow_of_below hbel; clear hbel))
      refine wp_loop_rounds 3 ?_
      rw [rounds_succ]
      go_wp2_with (first | (go_at_call 42; refine (times_one a ha _).mono ?_; rintro e w1 ⟨rfl, hbel⟩; obtain ⟨o2, j2, rfl⟩ := grow_of_below hbel; clear hbel))
      rw [rounds_succ]
      go_wp2_with (first | (go_at_call 42; refine (times_calls a b ha hb _).mono ?_; rintro e w1 ⟨rfl, hbel⟩; obtain ⟨o3, j3, rfl⟩ := grow_of_below hbel; clear hbel))
      refine bodyPost_ret (by simp [results, Try.results19, go_sem, pt_zero]) rfl ⟨rfl, ?_⟩
      repeat (first | (with_reducible exact Below.refl _ _) | ((with_reducible refine below_grow ?_ ?_); rotate_left; focus (first | omega | (simp [go_sem]; done) | (simp [go_sem]; omega))) | ((with_reducible refine Below.alloc ?_ ?_ _); rotate_left; focus (first | omega | (simp [go_sem]; done) | (simp [go_sem]; omega))) | ((with_reducible refine Below.setCell ?_ ?_ _); rotate_left; focus (first | omega | (simp [go_sem]; done) | (simp [go_sem]; omega))) | (with_reducible refine Below.drew ?_) | (with_reducible refine below_drewN _ ?_))
end Go.Proofs.Ytjaggclfacbkbaa
