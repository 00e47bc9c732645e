/- Pattern. -/
import Derived.Test.YtgndhdcnofblaaaDoorHL
namespace Go.Proofs.YtgndhdcnofblaaaDoor
open Go.RowKit

/-- The pattern. -/
def pat (m : Nat) : List UInt8 := Lib.join ((srt m).toList.map fun i => Lib.decDigits (lens m i)) [45]
def ds (n : Nat) : ByteArray := ⟨(Lib.decDigits n).toArray⟩
theorem digits_len : ∀ i : Fin 14, (Lib.decDigits i.val).length ≤ 2 := by decide +kernel
theorem lens_lt (m : Nat) (i : Fin 4) : lens m i < 14 := by have := len_le (hol m i.val); unfold lens; omega
theorem join4_len (x y z t : List UInt8) (hx : x.length ≤ 2) (hy : y.length ≤ 2) (hz : z.length ≤ 2) (ht : t.length ≤ 2) : (Lib.join [x, y, z, t] [45]).length ≤ 11 := by
  simp [Lib.join]
  omega
theorem join4_calls (bk c n0 n1 n2 n3 : Nat) (h0 : n0 < 14) (h1 : n1 < 14) (h2 : n2 < 14) (h3 : n3 < 14) (w : World) (hc : 4 ≤ c) (hbk : bk < w.heap.size)
    (c0 : w.cell? ⟨bk, 0, none⟩ = some (.string (ds n0))) (c1 : w.cell? ⟨bk, 1, none⟩ = some (.string (ds n1))) (c2 : w.cell? ⟨bk, 2, none⟩ = some (.string (ds n2))) (c3 : w.cell? ⟨bk, 3, none⟩ = some (.string (ds n3))) :
    Calls Tryd.prog 44 #[.slice (some ⟨bk, 0, none⟩) 4 c, .string ⟨#[45]⟩] w fun e w' => e = .returned (.string ⟨(Lib.join [Lib.decDigits n0, Lib.decDigits n1, Lib.decDigits n2, Lib.decDigits n3] [45]).toArray⟩) ∧ Below w.heap.size w w' := by
  have H := Tryd.strings_Join bk 0 c [ds n0, ds n1, ds n2, ds n3] ⟨#[45]⟩ w (fun j x hj => by
    match j with
    | 0 => cases hj; exact c0
    | 1 => cases hj; exact c1
    | 2 => cases hj; exact c2
    | 3 => cases hj; exact c3
    | j + 4 => simp at hj) hbk (by simp) (by simpa using hc) (by
      have := join4_len (Lib.decDigits n0) (Lib.decDigits n1) (Lib.decDigits n2) (Lib.decDigits n3) (digits_len ⟨n0, h0⟩) (digits_len ⟨n1, h1⟩) (digits_len ⟨n2, h2⟩) (digits_len ⟨n3, h3⟩)
      simp only [ds, List.map_cons, List.map_nil]
      omega)
  exact H
set_option maxRecDepth 100000 in
set_option maxHeartbeats 4000000 in
theorem pattern_calls (m : Nat) (hm : m < 18446744073709551616) (w : World) : Calls Tryd.prog 23 #[.int .u64 m] w fun e w' => e = .returned (.string ⟨(pat m).toArray⟩) ∧ Below w.heap.size w w' := by
  have S := Lib.hid (shape_calls m hm)
  have T := Lib.hid (suits_calls m hm)
  unfold shp at S
  have LL := Lib.hid (lens_lt m)
  have P : ∀ a b c d, srt m = #[a, b, c, d] → pat m = Lib.join [Lib.decDigits (lens m a), Lib.decDigits (lens m b), Lib.decDigits (lens m c), Lib.decDigits (lens m d)] [45] := fun a b c d h => by
    unfold pat
    rw [h]
    rfl
  have P := Lib.hid P
  go_enter Tryd.func23, Tryd.ntmps23
  go_upto_region 4 with (first | (go_at_call 26; refine (S.out _).mono ?_; rintro e w1 ⟨rfl, hbel⟩; obtain ⟨o1, j1, rfl⟩ := grow_of_below hbel; clear hbel) | (go_at_call 28; refine (T.out _).mono ?_; rintro e w1 ⟨⟨a, b, c, d, hs, rfl⟩, hbel⟩; obtain ⟨o2, j2, rfl⟩ := grow_of_below hbel; clear hbel))
  unfold sui4 encS
  obtain ⟨l, hl⟩ : ∃ l, lens m = l := ⟨_, rfl⟩
  have E : ∀ i : Fin 4, #[Value.int .i64 (len (hol m 0)), .int .i64 (len (hol m 1)), .int .i64 (len (hol m 2)), .int .i64 (len (hol m 3))][i.val]? = some (.int .i64 (l i : Nat)) := fun i => by
    rw [← hl]
    match i with
    | 0 => rfl
    | 1 => rfl
    | 2 => rfl
    | 3 => rfl
  generalize hW : grow _ o2 j2 = W
  have bel : Below w.heap.size w W := by rw [← hW]; repeat (first | (with_reducible exact Below.refl _ _) | ((with_reducible refine below_grow ?_ ?_); rotate_left; focus (first | omega | (simp [go_sem]; done) | (simp [go_sem]; omega))) | ((with_reducible refine Below.alloc ?_ ?_ _); rotate_left; focus (first | omega | (simp [go_sem]; done) | (simp [go_sem]; omega))) | ((with_reducible refine Below.setCell ?_ ?_ _); rotate_left; focus (first | omega | (simp [go_sem]; done) | (simp [go_sem]; omega))) | (with_reducible refine Below.drew ?_) | (with_reducible refine below_drewN _ ?_))
  have gi : ∀ i : Fin 4, W.cell? ⟨w.heap.size + sz o1, i.val, none⟩ = some (.int .i64 (l i : Nat)) := fun i => by
    rw [← hW, ← E i]; simp [go_sem]
  have k0 : W.cell? ⟨w.heap.size + sz o1 + 1, 0, none⟩ = some (.string ⟨#[]⟩) := by rw [← hW]; simp [go_sem]
  have k1 : W.cell? ⟨w.heap.size + sz o1 + 1, 1, none⟩ = some (.string ⟨#[]⟩) := by rw [← hW]; simp [go_sem]
  have k2 : W.cell? ⟨w.heap.size + sz o1 + 1, 2, none⟩ = some (.string ⟨#[]⟩) := by rw [← hW]; simp [go_sem]
  have k3 : W.cell? ⟨w.heap.size + sz o1 + 1, 3, none⟩ = some (.string ⟨#[]⟩) := by rw [← hW]; simp [go_sem]
  have kf : ∀ i, W.frozen? ⟨w.heap.size + sz o1 + 1, i, none⟩ = false := fun i => by rw [← hW]; simp [go_sem]
  have hsz : w.heap.size + sz o1 + 1 < W.heap.size := by rw [← hW]; simp [go_sem]; omega
  have hp := P.out a b c d hs
  have la := LL.out a
  have lb := LL.out b
  have lc := LL.out c
  have ld := LL.out d
  rw [hl] at hp la lb lc ld
  clear hW E hl S T LL P hs
  have ga := gi a
  have gb := gi b
  have gc := gi c
  have gd := gi d
  have ua := a.isLt
  have ub := b.isLt
  have uc := c.isLt
  have ud := d.isLt
  obtain ⟨na, hna⟩ : ∃ n, l a = n := ⟨_, rfl⟩
  obtain ⟨nb, hnb⟩ : ∃ n, l b = n := ⟨_, rfl⟩
  obtain ⟨nc, hnc⟩ : ∃ n, l c = n := ⟨_, rfl⟩
  obtain ⟨nd, hnd⟩ : ∃ n, l d = n := ⟨_, rfl⟩
  rw [hna] at ga hp la
  rw [hnb] at gb hp lb
  rw [hnc] at gc hp lc
  rw [hnd] at gd hp ld
  clear gi hna hnb hnc hnd
  generalize a.val = a' at *
  generalize b.val = b' at *
  generalize c.val = c' at *
  generalize d.val = d' at *
  have va : (a' : Int) < 4 := by omega
  have vb : (b' : Int) < 4 := by omega
  have vc : (c' : Int) < 4 := by omega
  have vd : (d' : Int) < 4 := by omega
  have ix0 : ∀ W, (Instr.index 42 (.agg #[.int .u8 (a' : Nat), .int .u8 (b' : Nat), .int .u8 (c' : Nat), .int .u8 (d' : Nat)]) (.int .i64 0)).run Tryd.prog W = .ok (.int .u8 (a' : Nat)) W := fun W => by kernel_rfl
  have ix1 : ∀ W, (Instr.index 42 (.agg #[.int .u8 (a' : Nat), .int .u8 (b' : Nat), .int .u8 (c' : Nat), .int .u8 (d' : Nat)]) (.int .i64 1)).run Tryd.prog W = .ok (.int .u8 (b' : Nat)) W := fun W => by kernel_rfl
  have ix2 : ∀ W, (Instr.index 42 (.agg #[.int .u8 (a' : Nat), .int .u8 (b' : Nat), .int .u8 (c' : Nat), .int .u8 (d' : Nat)]) (.int .i64 2)).run Tryd.prog W = .ok (.int .u8 (c' : Nat)) W := fun W => by kernel_rfl
  have ix3 : ∀ W, (Instr.index 42 (.agg #[.int .u8 (a' : Nat), .int .u8 (b' : Nat), .int .u8 (c' : Nat), .int .u8 (d' : Nat)]) (.int .i64 3)).run Tryd.prog W = .ok (.int .u8 (d' : Nat)) W := fun W => by kernel_rfl
  have I0 := Lib.hid (Tryd.strconv_Itoa_small na (by omega))
  have I1 := Lib.hid (Tryd.strconv_Itoa_small nb (by omega))
  have I2 := Lib.hid (Tryd.strconv_Itoa_small nc (by omega))
  have I3 := Lib.hid (Tryd.strconv_Itoa_small nd (by omega))
  have J := Lib.hid (join4_calls (w.heap.size + sz o1 + 1) 4 na nb nc nd la lb lc ld)
  have HP := Lib.hid hp
  generalize hk : w.heap.size + sz o1 = k at *
  have HK := Lib.hid hk
  clear la lb lc ld ua ub uc ud hp hk
  refine wp_loop_rounds 5 ?_
  rw [rounds_succ]
  go_wp2_with (go_at_call 43; refine (I0.out _).mono ?_; rintro e w1 ⟨rfl, rfl⟩; clear I0)
  rw [rounds_succ]
  go_wp2_with (go_at_call 43; refine (I1.out _).mono ?_; rintro e w1 ⟨rfl, rfl⟩; clear I1)
  rw [rounds_succ]
  go_wp2_with (go_at_call 43; refine (I2.out _).mono ?_; rintro e w1 ⟨rfl, rfl⟩; clear I2)
  rw [rounds_succ]
  go_wp2_with (go_at_call 43; refine (I3.out _).mono ?_; rintro e w1 ⟨rfl, rfl⟩; clear I3)
  rw [rounds_succ]
  go_upto_region 8 with fail
  unfold ds at J
  go_wp2_with (go_at_call 44; refine (J.out _ (by decide) (by simp [World.setCell]; omega) (by simp [go_sem, *]) (by simp [go_sem, *]) (by simp [go_sem, *]) (by simp [go_sem, *])).mono ?_; rintro e w1 ⟨rfl, hbel⟩; obtain ⟨o3, j3, rfl⟩ := grow_of_below hbel; clear hbel)
  go_ret
  refine ⟨by rw [HP.out]; rfl, ?_⟩
  have hk := HK.out
  have hs2 := bel.size
  refine below_grow (((((bel.setCell ?_ _ ).setCell ?_ _).setCell ?_ _).setCell ?_ _)) ?_
  all_goals first | (show _ ≤ k + 1; omega) | (simp [World.setCell]; omega)
end Go.Proofs.YtgndhdcnofblaaaDoor
