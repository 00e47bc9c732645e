/- Auctions: take, follow. -/
import Derived.Test.YtacgikhedhiaaaaDoorLD
namespace Go.Proofs.YtacgikhedhiaaaaDoor
open Go.RowKit

theorem st_cells {w : World} {b : Nat} {s : St} (h : blk w b (stC s) 79) : w.cell? ⟨b, 0, none⟩ = some (.int .u8 s.bid) ∧ w.cell? ⟨b, 1, none⟩ = some (.int .u8 s.seat) ∧ w.cell? ⟨b, 2, none⟩ = some (.int .u8 s.risk) ∧ w.cell? ⟨b, 3, none⟩ = some (.int .u8 s.turn) ∧ w.cell? ⟨b, 4, none⟩ = some (.int .i64 s.pas) :=
  ⟨blk_cell h 0, blk_cell h 1, blk_cell h 2, blk_cell h 3, blk_cell h 4⟩
theorem blk_is {w : World} {b : Nat} {cs cs' : Array Value} {t : TypeId} (h : blk w b cs t) (e : cs = cs') : blk w b cs' t := e ▸ h
set_option maxHeartbeats 4000000 in
theorem take_calls (s : St) (hs : s.by) (c b : Nat) (hc : c < 38) (w : World) (hB : blk w b (stC s) 79) :
    Calls Tryd.prog 72 #[.pointer (some ⟨b, 0, none⟩), .int .u8 c] w fun e w' => (∃ v, e = .returned v) ∧ blk w' b (stC (s.take c)) 79 ∧ Below b w w' := by
  obtain ⟨-, -, -, ht, hp⟩ := hs
  have IB := Lib.hid (aisBid_calls c)
  have L := Lib.hid (left_calls s.turn ht)
  have RO := Lib.hid (riskOf_calls c)
  obtain ⟨k0, k1, k2, k3, k4⟩ := st_cells hB
  have f := blk_free hB
  have f0 := f 0
  have f1 := f 1
  have f2 := f 2
  have f3 := f 3
  have f4 := f 4
  clear f
  have hlt := blk_lt hB
  have HB := Lib.hid hB
  clear hB
  by_cases hb : isb c = true
  · rw [hb] at IB
    have hb' := isb_iff.1 hb
    rw [if_neg (by omega), if_neg (by omega)] at RO
    rw [St.take_bid hb]
    obtain ⟨y0, y1, y2, t, y4⟩ := s
    have c0 : ¬ (c : Int) = 0 := by omega
    clear hb hb'
    go_enter Tryd.func72, Tryd.ntmps72
    go_wp2_with (first | (go_at_call 48; refine (IB.out _).mono ?_; rintro e w9 ⟨rfl, rfl⟩) | (go_at_call 50; refine (L.out _).mono ?_; rintro e w9 ⟨rfl, rfl⟩) | (go_at_call 86; refine (RO.out _).mono ?_; rintro e w9 ⟨rfl, rfl⟩))
    go_end0
    exact ⟨⟨_, rfl⟩, blk_is (blk_set (blk_set (blk_set (blk_set (blk_set HB.out 0 _) 1 _) 2 _) 4 _) 3 _) (by simp), by repeat (first | (with_reducible exact Below.refl _ _) | ((with_reducible refine below_grow ?_ ?_); rotate_left; focus (first | omega | (simp [go_sem]; done) | (simp [go_sem]; omega))) | ((with_reducible refine Below.alloc ?_ ?_ _); rotate_left; focus (first | omega | (simp [go_sem]; done) | (simp [go_sem]; omega))) | ((with_reducible refine Below.setCell ?_ ?_ _); rotate_left; focus (first | omega | (simp [go_sem]; done) | (simp [go_sem]; omega))) | (with_reducible refine Below.drew ?_) | (with_reducible refine below_drewN _ ?_))⟩
  · have hb' : isb c = false := by simpa using hb
    rw [hb'] at IB
    by_cases h0 : c = 0
    · subst h0
      rw [St.take_0]
      obtain ⟨y0, y1, y2, t, y4⟩ := s
      have e1 : IntKind.i64.wrap ((y4 : Int) + 1) = (y4 : Int) + 1 := IntWalk.i64_in _ (by simp only at hp; omega)
      clear hb hb' hp
      go_enter Tryd.func72, Tryd.ntmps72
      go_wp2_with (first | (go_at_call 48; refine (IB.out _).mono ?_; rintro e w9 ⟨rfl, rfl⟩) | (go_at_call 50; refine (L.out _).mono ?_; rintro e w9 ⟨rfl, rfl⟩) | (go_at_call 86; refine (RO.out _).mono ?_; rintro e w9 ⟨rfl, rfl⟩))
      go_end0
      exact ⟨⟨_, rfl⟩, blk_is (blk_set (blk_set HB.out 4 _) 3 _) (by simp), by repeat (first | (with_reducible exact Below.refl _ _) | ((with_reducible refine below_grow ?_ ?_); rotate_left; focus (first | omega | (simp [go_sem]; done) | (simp [go_sem]; omega))) | ((with_reducible refine Below.alloc ?_ ?_ _); rotate_left; focus (first | omega | (simp [go_sem]; done) | (simp [go_sem]; omega))) | ((with_reducible refine Below.setCell ?_ ?_ _); rotate_left; focus (first | omega | (simp [go_sem]; done) | (simp [go_sem]; omega))) | (with_reducible refine Below.drew ?_) | (with_reducible refine below_drewN _ ?_))⟩
    · have c0 : ¬ (c : Int) = 0 := by omega
      have hk : s.take c = ⟨s.bid, s.seat, if c = 1 then 1 else if c = 2 then 2 else 0, (s.turn + 1) % 4, 0⟩ := by
        unfold St.take
        rw [if_neg hb, if_neg h0]
      rw [hk]
      obtain ⟨r, hr⟩ : ∃ r, (if c = 1 then 1 else if c = 2 then 2 else 0 : Nat) = r := ⟨_, rfl⟩
      rw [hr] at RO ⊢
      obtain ⟨y0, y1, y2, t, y4⟩ := s
      clear hb hb' hp hk hr h0
      go_enter Tryd.func72, Tryd.ntmps72
      go_wp2_with (first | (go_at_call 48; refine (IB.out _).mono ?_; rintro e w9 ⟨rfl, rfl⟩) | (go_at_call 50; refine (L.out _).mono ?_; rintro e w9 ⟨rfl, rfl⟩) | (go_at_call 86; refine (RO.out _).mono ?_; rintro e w9 ⟨rfl, rfl⟩))
      go_end0
      exact ⟨⟨_, rfl⟩, blk_is (blk_set (blk_set (blk_set HB.out 2 _) 4 _) 3 _) (by simp), by repeat (first | (with_reducible exact Below.refl _ _) | ((with_reducible refine below_grow ?_ ?_); rotate_left; focus (first | omega | (simp [go_sem]; done) | (simp [go_sem]; omega))) | ((with_reducible refine Below.alloc ?_ ?_ _); rotate_left; focus (first | omega | (simp [go_sem]; done) | (simp [go_sem]; omega))) | ((with_reducible refine Below.setCell ?_ ?_ _); rotate_left; focus (first | omega | (simp [go_sem]; done) | (simp [go_sem]; omega))) | (with_reducible refine Below.drew ?_) | (with_reducible refine below_drewN _ ?_))⟩
end Go.Proofs.YtacgikhedhiaaaaDoor
