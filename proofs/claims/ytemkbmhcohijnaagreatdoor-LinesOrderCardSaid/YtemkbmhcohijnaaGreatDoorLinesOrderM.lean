/- LinesOrder: triples stand in one order: by subject, predicate, object, for every input. -/
import Derived.Test.YtemkbmhcohijnaaGreatDoorTmShow
import Derived.Test.YtemkbmhcohijnaaGreatDoorPrShow
import Derived.Deep.RegionWith
import Derived.Test.YtemkbmhcohijnaaGreatDoorTmRShow
import Derived.Test.YtemkbmhcohijnaaGreatDoorLnIs
import Derived.Test.YtemkbmhcohijnaaGreatDoorTmOk
import Derived.Test.YtemkbmhcohijnaaGreatDoorLnKnown
import Derived.Test.YtemkbmhcohijnaaGreatDoorLnLaid
namespace Go.Proofs.YtemkbmhcohijnaaGreatDoor.Tm
set_option linter.unusedVariables false
set_option linter.unusedSimpArgs false
open Go
/-- Three texts by three, in order. -/
def cmp3 (a1 a2 a3 b1 b2 b3 : T) : Int := if cmp a1 b1 = 0 then (if cmp a2 b2 = 0 then cmp a3 b3 else cmp a2 b2) else cmp a1 b1
theorem cmp3_neg (a1 a2 a3 b1 b2 b3 : T) : cmp3 b1 b2 b3 a1 a2 a3 = - cmp3 a1 a2 a3 b1 b2 b3 := by
  unfold cmp3
  rw [cmp_neg a1 b1, cmp_neg a2 b2, cmp_neg a3 b3]
  repeat' split
  all_goals omega
theorem cmp3_zero (a1 a2 a3 b1 b2 b3 : T) : cmp3 a1 a2 a3 b1 b2 b3 = 0 ↔ (a1 = b1 ∧ a2 = b2 ∧ a3 = b3) := by
  rw [← cmp_zero, ← cmp_zero, ← cmp_zero]
  unfold cmp3
  repeat' split
  all_goals omega
theorem cmp_self (a : T) : cmp a a = 0 := cmp_zero.2 rfl
theorem cmp_trans0 {a b c : T} (h1 : cmp a b < 0) (h2 : cmp b c ≤ 0) : cmp a c < 0 := by
  have h := cmp_trans (a := a) (b := b) (c := c) (by omega) h2
  rcases (show cmp a c = 0 ∨ cmp a c < 0 by omega) with h0 | h0
  · rw [cmp_zero.1 h0] at h1
    have := cmp_neg b c
    omega
  · exact h0
theorem cmp_trans1 {a b c : T} (h1 : cmp a b ≤ 0) (h2 : cmp b c < 0) : cmp a c < 0 := by
  have h := cmp_trans (a := a) (b := b) (c := c) h1 (by omega)
  rcases (show cmp a c = 0 ∨ cmp a c < 0 by omega) with h0 | h0
  · rw [← cmp_zero.1 h0] at h2
    have := cmp_neg a b
    omega
  · exact h0
theorem cmp3_trans {a1 a2 a3 b1 b2 b3 c1 c2 c3 : T} (h1 : cmp3 a1 a2 a3 b1 b2 b3 ≤ 0) (h2 : cmp3 b1 b2 b3 c1 c2 c3 ≤ 0) : cmp3 a1 a2 a3 c1 c2 c3 ≤ 0 := by
  unfold cmp3 at *
  by_cases e1 : cmp a1 b1 = 0
  · rw [if_pos e1] at h1
    obtain rfl := cmp_zero.1 e1
    by_cases e2 : cmp a1 c1 = 0
    · rw [if_pos e2] at h2 ⊢
      by_cases e3 : cmp a2 b2 = 0
      · rw [if_pos e3] at h1
        obtain rfl := cmp_zero.1 e3
        by_cases e4 : cmp a2 c2 = 0
        · rw [if_pos e4] at h2 ⊢
          exact cmp_trans h1 h2
        · rw [if_neg e4] at h2 ⊢
          exact h2
      · rw [if_neg e3] at h1
        by_cases e4 : cmp b2 c2 = 0
        · obtain rfl := cmp_zero.1 e4
          rw [if_neg e3]; exact h1
        · rw [if_neg e4] at h2
          have := cmp_trans0 (show cmp a2 b2 < 0 by omega) h2
          rw [if_neg (by omega)]; omega
    · rw [if_neg e2] at h2 ⊢
      exact h2
  · rw [if_neg e1] at h1
    by_cases e2 : cmp b1 c1 = 0
    · obtain rfl := cmp_zero.1 e2
      rw [if_neg e1]; exact h1
    · rw [if_neg e2] at h2
      have := cmp_trans0 (show cmp a1 b1 < 0 by omega) h2
      rw [if_neg (by omega)]; omega
end Go.Proofs.YtemkbmhcohijnaaGreatDoor.Tm
namespace Go.Proofs.YtemkbmhcohijnaaGreatDoor
set_option linter.unusedVariables false
set_option linter.unusedSimpArgs false
set_option maxRecDepth 100000
open Go.ChangeShapes Go.WideShapes Go.ChangeAt Go.RowKit
theorem nan_any (a : List UInt8) (w : World) : Calls Tryz.prog 58 #[str a] w fun e w' => e = .returned (.bool false) ∧ w' = w := by
  have h : (a != a) = false := by simp
  go_enter Tryz.func58, Tryz.ntmps58
  go_wp2
  go_ret
  exact ⟨rfl, rfl⟩
theorem cmps_any (a b : List UInt8) (w : World) : Calls Tryz.prog 38 #[str a, str b] w fun e w' => e = .returned (.int .i64 (Tm.cmp a b)) ∧ w' = w := by
  have N1 := hid fun w => nan_any a w
  have N2 := hid fun w => nan_any b w
  go_enter Tryz.func38, Tryz.ntmps38
  go_wp2_with fail
  refine (N1.out _).mono ?_
  rintro e w' ⟨rfl, rfl⟩
  go_wp2_with fail
  refine (N2.out _).mono ?_
  rintro e w' ⟨rfl, rfl⟩
  rcases (show (Tm.lt a b = true) ∨ (Tm.lt a b = false ∧ Tm.lt b a = true) ∨ (Tm.lt a b = false ∧ Tm.lt b a = false) by cases Tm.lt a b <;> cases Tm.lt b a <;> simp) with h | ⟨h, h'⟩ | ⟨h, h'⟩
  · have HC := hid (show Tm.cmp a b = -1 by unfold Tm.cmp; rw [h]; rfl)
    go_wp2
    go_ret
    exact ⟨by rw [HC.out]; rfl, rfl⟩
  · have HC := hid (show Tm.cmp a b = 1 by unfold Tm.cmp; rw [h, h']; rfl)
    have he : (a == b) = false := beq_eq_false_iff_ne.2 (fun e => by rw [e, Tm.lt_irrefl] at h'; cases h')
    go_wp2
    go_ret
    exact ⟨by rw [HC.out]; rfl, rfl⟩
  · have HC := hid (show Tm.cmp a b = 0 by unfold Tm.cmp; rw [h, h']; rfl)
    have he : (a == b) = true := beq_iff_eq.2 (Tm.lt_tri h h')
    go_wp2
    go_ret
    exact ⟨by rw [HC.out]; rfl, rfl⟩
set_option maxHeartbeats 2000000 in
/-- Two slices of three texts. -/
theorem slcmp_any (p q : Nat) (a1 a2 a3 b1 b2 b3 : List UInt8) (w : World) (hp : Blk w p [str a1, str a2, str a3] 9) (hq : Blk w q [str b1, str b2, str b3] 9) :
    Calls Tryz.prog 23 #[.slice (some ⟨p, 0, none⟩) 3 3, .slice (some ⟨q, 0, none⟩) 3 3] w fun e w' => e = .returned (.int .i64 (Tm.cmp3 a1 a2 a3 b1 b2 b3)) ∧ w' = w := by
  have C := hid fun a b w => cmps_any a b w
  have p0 := hp.cell (i := 0) rfl
  have p1 := hp.cell (i := 1) rfl
  have p2 := hp.cell (i := 2) rfl
  have q0 := hq.cell (i := 0) rfl
  have q1 := hq.cell (i := 1) rfl
  have q2 := hq.cell (i := 2) rfl
  obtain ⟨R, hR⟩ : ∃ R, R = Tm.cmp3 a1 a2 a3 b1 b2 b3 := ⟨_, rfl⟩
  rw [← hR]
  have HR := hid (show R = if Tm.cmp a1 b1 = 0 then (if Tm.cmp a2 b2 = 0 then Tm.cmp a3 b3 else Tm.cmp a2 b2) else Tm.cmp a1 b1 from hR)
  have K1 := hid fun w => C.out a1 b1 w
  have K2 := hid fun w => C.out a2 b2 w
  have K3 := hid fun w => C.out a3 b3 w
  obtain ⟨c1, h1⟩ : ∃ c, c = Tm.cmp a1 b1 := ⟨_, rfl⟩
  obtain ⟨c2, h2⟩ : ∃ c, c = Tm.cmp a2 b2 := ⟨_, rfl⟩
  obtain ⟨c3, h3⟩ : ∃ c, c = Tm.cmp a3 b3 := ⟨_, rfl⟩
  rw [← h1] at HR K1
  rw [← h2] at HR K2
  rw [← h3] at HR K3
  clear hp hq hR h1 h2 h3 C
  go_enter Tryz.func23, Tryz.ntmps23
  go_wp2
  go_loopg [5, 6, 7, 8, 11] 3 (fun gk s5 s6 s7 s8 s11 wr => wr = w ∧ ∃ z : Int, s11 = .int .i64 z ∧ ((z = 0 ∧ 3 ≤ gk) ∨ (z = 1 ∧ 2 ≤ gk ∧ Hid (c1 = 0)) ∨ (z = 2 ∧ 1 ≤ gk ∧ Hid (c1 = 0 ∧ c2 = 0)) ∨ (z = 3 ∧ Hid (c1 = 0 ∧ c2 = 0 ∧ c3 = 0))))
  case atStart => exact ⟨rfl, 0, rfl, .inl ⟨rfl, Nat.le_refl _⟩⟩
  case round =>
    obtain ⟨rfl, z, rfl, hz⟩ := hrel
    rcases hz with ⟨rfl, hgk⟩ | ⟨rfl, hgk, H⟩ | ⟨rfl, hgk, H⟩ | ⟨rfl, H⟩
    · by_cases h : c1 = 0
      · have hb : (c1 == 0) = true := beq_iff_eq.2 h
        go_wp2_with fail
        refine (K1.out _).mono ?_
        rintro e w' ⟨rfl, rfl⟩
        go_wp2
        go_roundg 2
        case measure => omega
        case rel => exact ⟨rfl, 1, rfl, .inr (.inl ⟨rfl, Nat.le_refl _, hid h⟩)⟩
      · have hb : (c1 == 0) = false := beq_eq_false_iff_ne.2 h
        have HF := hid (show R = c1 by rw [HR.out, if_neg h])
        go_wp2_with fail
        refine (K1.out _).mono ?_
        rintro e w' ⟨rfl, rfl⟩
        go_wp2
        go_ret
        exact ⟨by rw [HF.out]; rfl, rfl⟩
    · by_cases h : c2 = 0
      · have hb : (c2 == 0) = true := beq_iff_eq.2 h
        go_wp2_with fail
        refine (K2.out _).mono ?_
        rintro e w' ⟨rfl, rfl⟩
        go_wp2
        go_roundg 1
        case measure => omega
        case rel => exact ⟨rfl, 2, rfl, .inr (.inr (.inl ⟨rfl, Nat.le_refl _, hid ⟨H.out, h⟩⟩))⟩
      · have hb : (c2 == 0) = false := beq_eq_false_iff_ne.2 h
        have HF := hid (show R = c2 by rw [HR.out, if_pos H.out, if_neg h])
        go_wp2_with fail
        refine (K2.out _).mono ?_
        rintro e w' ⟨rfl, rfl⟩
        go_wp2
        go_ret
        exact ⟨by rw [HF.out]; rfl, rfl⟩
    · by_cases h : c3 = 0
      · have hb : (c3 == 0) = true := beq_iff_eq.2 h
        go_wp2_with fail
        refine (K3.out _).mono ?_
        rintro e w' ⟨rfl, rfl⟩
        go_wp2
        go_roundg 0
        case measure => omega
        case rel => exact ⟨rfl, 3, rfl, .inr (.inr (.inr ⟨rfl, hid ⟨H.out.1, H.out.2, h⟩⟩))⟩
      · have hb : (c3 == 0) = false := beq_eq_false_iff_ne.2 h
        have HF := hid (show R = c3 by rw [HR.out, if_pos H.out.1, if_pos H.out.2])
        go_wp2_with fail
        refine (K3.out _).mono ?_
        rintro e w' ⟨rfl, rfl⟩
        go_wp2
        go_ret
        exact ⟨by rw [HF.out]; rfl, rfl⟩
    · have HF := hid (show R = 0 by rw [HR.out, if_pos H.out.1, if_pos H.out.2.1]; exact H.out.2.2)
      go_wp2
      go_ret
      exact ⟨by rw [HF.out]; rfl, rfl⟩
theorem blk_after {W w1 w2 : World} {b : Nat} {A : List Value} {t : TypeId} (hl : Below W.heap.size W w2) (h : Blk w1 b A t) (he : W.heap = w1.heap) : Blk w2 b A t := by
  have h2 : Blk W b A t := by unfold Blk at *; rw [he]; exact h
  exact h2.keep hl
theorem below_eq {B : Nat} {w W w1 : World} (h : Below B w w1) (h1 : W.os = w1.os) (h2 : W.tape = w1.tape) (h3 : W.output = w1.output) (h4 : W.heap = w1.heap) : Below B w W :=
  ⟨h1.trans h.os, h2.trans h.tape, h3.trans h.output, by rw [h4]; exact h.size, fun k hk => by rw [h4]; exact h.block k hk⟩
theorem below_two {w w1 W v1 V v2 X : World} (h : Below w.heap.size w w1) (e1 : Below W.heap.size W v1) (e2 : Below V.heap.size V v2) (a1 : W.os = w1.os) (a2 : W.tape = w1.tape) (a3 : W.output = w1.output) (a4 : W.heap = w1.heap) (b1 : V.os = v1.os) (b2 : V.tape = v1.tape) (b3 : V.output = v1.output) (b4 : V.heap = v1.heap) (c1 : X.os = v2.os) (c2 : X.tape = v2.tape) (c3 : X.output = v2.output) (c4 : X.heap = v2.heap) : Below w.heap.size w X :=
  below_eq (below_then (below_eq (below_then (below_eq h a1 a2 a3 a4) e1) b1 b2 b3 b4) e2) c1 c2 c3 c4
/-- Two new blocks of nine cells. -/
theorem two_new (w : World) (k1 : Int) (t1 x1 : List UInt8) (k2 : Int) (t2 x2 : List UInt8) (k3 : Int) (t3 x3 : List UInt8) (l1 : Int) (u1 y1 : List UInt8) (l2 : Int) (u2 y2 : List UInt8) (l3 : Int) (u3 y3 : List UInt8) : ∃ W, W = new9 (new9 w k1 t1 x1 k2 t2 x2 k3 t3 x3) l1 u1 y1 l2 u2 y2 l3 u3 y3 ∧ Blk W w.heap.size [.int .i64 k1, str t1, str x1, .int .i64 k2, str t2, str x2, .int .i64 k3, str t3, str x3] 25 ∧ Blk W (w.heap.size + 1) [.int .i64 l1, str u1, str y1, .int .i64 l2, str u2, str y2, .int .i64 l3, str u3, str y3] 25 ∧ Below w.heap.size w W :=
  ⟨_, rfl, (new9_new w _ _ _ _ _ _ _ _ _).alloc _, Blk.new' (by unfold new9; simp) rfl, ((Below.refl _ _).alloc (Nat.le_refl _) _).alloc (by simp) _⟩
set_option maxHeartbeats 4000000 in
theorem pcmp_any (k1 : Int) (t1 x1 : List UInt8) (k2 : Int) (t2 x2 : List UInt8) (k3 : Int) (t3 x3 : List UInt8) (l1 : Int) (u1 y1 : List UInt8) (l2 : Int) (u2 y2 : List UInt8) (l3 : Int) (u3 y3 : List UInt8) (w : World) (ht1 : t1.length ≤ 1000000000) (hx1 : x1.length ≤ 1000000000) (ht2 : t2.length ≤ 1000000000) (hx2 : x2.length ≤ 1000000000) (ht3 : t3.length ≤ 1000000000) (hx3 : x3.length ≤ 1000000000) (hu1 : u1.length ≤ 1000000000) (hy1 : y1.length ≤ 1000000000) (hu2 : u2.length ≤ 1000000000) (hy2 : y2.length ≤ 1000000000) (hu3 : u3.length ≤ 1000000000) (hy3 : y3.length ≤ 1000000000) :
    Calls Tryz.prog 11 #[triV k1 t1 x1 k2 t2 x2 k3 t3 x3, triV l1 u1 y1 l2 u2 y2 l3 u3 y3] w fun e w' => e = .returned (.int .i64 (Tm.cmp3 (Tm.show k1 t1 x1) (Tm.show k2 t2 x2) (Tm.show k3 t3 x3) (Tm.show l1 u1 y1) (Tm.show l2 u2 y2) (Tm.show l3 u3 y3))) ∧ Below w.heap.size w w' := by
  have S1 := hid (fun W => shows_any k1 t1 x1 k2 t2 x2 k3 t3 x3 W ht1 hx1 ht2 hx2 ht3 hx3)
  have S2 := hid (fun W => shows_any l1 u1 y1 l2 u2 y2 l3 u3 y3 W hu1 hy1 hu2 hy2 hu3 hy3)
  obtain ⟨a1, e1⟩ : ∃ a, a = Tm.show k1 t1 x1 := ⟨_, rfl⟩
  obtain ⟨a2, e2⟩ : ∃ a, a = Tm.show k2 t2 x2 := ⟨_, rfl⟩
  obtain ⟨a3, e3⟩ : ∃ a, a = Tm.show k3 t3 x3 := ⟨_, rfl⟩
  obtain ⟨b1, e4⟩ : ∃ a, a = Tm.show l1 u1 y1 := ⟨_, rfl⟩
  obtain ⟨b2, e5⟩ : ∃ a, a = Tm.show l2 u2 y2 := ⟨_, rfl⟩
  obtain ⟨b3, e6⟩ : ∃ a, a = Tm.show l3 u3 y3 := ⟨_, rfl⟩
  rw [← e1, ← e2, ← e3, ← e4, ← e5, ← e6]
  rw [← e1, ← e2, ← e3] at S1
  rw [← e4, ← e5, ← e6] at S2
  clear e1 e2 e3 e4 e5 e6
  have S1 : Hid (∀ W, Calls Tryz.prog 24 #[triV k1 t1 x1 k2 t2 x2 k3 t3 x3] W fun e w' => ∃ b, e = .returned (.slice (some ⟨b, 0, none⟩) 3 3) ∧ W.heap.size ≤ b ∧ Blk w' b [str a1, str a2, str a3] 9 ∧ Below W.heap.size W w') := S1
  have S2 : Hid (∀ W, Calls Tryz.prog 24 #[triV l1 u1 y1 l2 u2 y2 l3 u3 y3] W fun e w' => ∃ b, e = .returned (.slice (some ⟨b, 0, none⟩) 3 3) ∧ W.heap.size ≤ b ∧ Blk w' b [str b1, str b2, str b3] 9 ∧ Below W.heap.size W w') := S2
  obtain ⟨w1, hw1, HA, HC, HB⟩ := two_new w k1 t1 x1 k2 t2 x2 k3 t3 x3 l1 u1 y1 l2 u2 y2 l3 u3 y3
  have HA := hid HA
  have HC := hid HC
  have HB := hid HB
  go_enter Tryz.func11, Tryz.ntmps11
  go_wp2
  show Code.wp _ _ _ _ (new9 (new9 w k1 t1 x1 k2 t2 x2 k3 t3 x3) l1 u1 y1 l2 u2 y2 l3 u3 y3)
  rw [← hw1]
  clear hw1
  have g0 := HA.out.cell (i := 0) rfl
  have g1 := HA.out.cell (i := 1) rfl
  have g2 := HA.out.cell (i := 2) rfl
  have g3 := HA.out.cell (i := 3) rfl
  have g4 := HA.out.cell (i := 4) rfl
  have g5 := HA.out.cell (i := 5) rfl
  have g6 := HA.out.cell (i := 6) rfl
  have g7 := HA.out.cell (i := 7) rfl
  have g8 := HA.out.cell (i := 8) rfl
  have j0 := HC.out.cell (i := 0) rfl
  have j1 := HC.out.cell (i := 1) rfl
  have j2 := HC.out.cell (i := 2) rfl
  have j3 := HC.out.cell (i := 3) rfl
  have j4 := HC.out.cell (i := 4) rfl
  have j5 := HC.out.cell (i := 5) rfl
  have j6 := HC.out.cell (i := 6) rfl
  have j7 := HC.out.cell (i := 7) rfl
  have j8 := HC.out.cell (i := 8) rfl
  go_region_with (first
    | (go_at_call 24; with_reducible refine Calls.mono (S1.out _) ?_; rintro e v1 ⟨p1, rfl, hz1, hb1, hl1⟩; try (have r0 := Blk.cell (i := 0) (blk_after hl1 HC.out (by with_unfolding_all rfl)) rfl; have r1 := Blk.cell (i := 1) (blk_after hl1 HC.out (by with_unfolding_all rfl)) rfl; have r2 := Blk.cell (i := 2) (blk_after hl1 HC.out (by with_unfolding_all rfl)) rfl; have r3 := Blk.cell (i := 3) (blk_after hl1 HC.out (by with_unfolding_all rfl)) rfl; have r4 := Blk.cell (i := 4) (blk_after hl1 HC.out (by with_unfolding_all rfl)) rfl; have r5 := Blk.cell (i := 5) (blk_after hl1 HC.out (by with_unfolding_all rfl)) rfl; have r6 := Blk.cell (i := 6) (blk_after hl1 HC.out (by with_unfolding_all rfl)) rfl; have r7 := Blk.cell (i := 7) (blk_after hl1 HC.out (by with_unfolding_all rfl)) rfl; have r8 := Blk.cell (i := 8) (blk_after hl1 HC.out (by with_unfolding_all rfl)) rfl))
    | (go_at_call 24; with_reducible refine Calls.mono (S2.out _) ?_; rintro e v2 ⟨p2, rfl, hz2, hb2, hl2⟩; try (have r0 := Blk.cell (i := 0) (blk_after hl2 HA.out (by with_unfolding_all rfl)) rfl; have r1 := Blk.cell (i := 1) (blk_after hl2 HA.out (by with_unfolding_all rfl)) rfl; have r2 := Blk.cell (i := 2) (blk_after hl2 HA.out (by with_unfolding_all rfl)) rfl; have r3 := Blk.cell (i := 3) (blk_after hl2 HA.out (by with_unfolding_all rfl)) rfl; have r4 := Blk.cell (i := 4) (blk_after hl2 HA.out (by with_unfolding_all rfl)) rfl; have r5 := Blk.cell (i := 5) (blk_after hl2 HA.out (by with_unfolding_all rfl)) rfl; have r6 := Blk.cell (i := 6) (blk_after hl2 HA.out (by with_unfolding_all rfl)) rfl; have r7 := Blk.cell (i := 7) (blk_after hl2 HA.out (by with_unfolding_all rfl)) rfl; have r8 := Blk.cell (i := 8) (blk_after hl2 HA.out (by with_unfolding_all rfl)) rfl))
    | (go_at_call 23; refine Calls.mono (slcmp_any p1 p2 a1 a2 a3 b1 b2 b3 _ (by first | exact blk_after hl2 hb1 (by with_unfolding_all rfl) | exact hb1) (by first | exact blk_after hl1 hb2 (by with_unfolding_all rfl) | exact hb2)) ?_; rintro e v3 ⟨rfl, rfl⟩))
  all_goals
    go_wp2
    go_ret
    first
      | exact ⟨rfl, below_two HB.out hl1 hl2 rfl rfl rfl rfl rfl rfl rfl rfl rfl rfl rfl rfl⟩
      | exact ⟨rfl, below_two HB.out hl2 hl1 rfl rfl rfl rfl rfl rfl rfl rfl rfl rfl rfl rfl⟩
end Go.Proofs.YtemkbmhcohijnaaGreatDoor
namespace Go.Proofs.YtemkbmhcohijnaaGreatDoor
set_option linter.unusedVariables false
set_option linter.unusedSimpArgs false
set_option maxRecDepth 100000
open Go.ChangeShapes Go.WideShapes Go.ChangeAt Go.RowKit
set_option maxHeartbeats 2000000 in
theorem rcmp_any (k k2 : Nat) (t x t2 x2 : List UInt8) (W : World) (hk : 1 ≤ k ∧ k ≤ 5) (hk2 : 1 ≤ k2 ∧ k2 ≤ 5) (ht : t.length ≤ 1000000000) (hx : x.length ≤ 1000000000) (ht2 : t2.length ≤ 1000000000) (hx2 : x2.length ≤ 1000000000) :
    Calls Tryz.prog 25 #[tmV (k : Nat) t x, tmV (k2 : Nat) t2 x2] W fun e W' => e = .returned (.int .i64 (Tm.cmp (Tm.showT k t x) (Tm.showT k2 t2 x2))) ∧ Below W.heap.size W W' := by
  have S1 := hid (fun W => rshow_any k t x W hk ht hx)
  have S2 := hid (fun W => rshow_any k2 t2 x2 W hk2 ht2 hx2)
  obtain ⟨a, ha⟩ : ∃ a, a = Tm.showT k t x := ⟨_, rfl⟩
  obtain ⟨b, hb⟩ : ∃ b, b = Tm.showT k2 t2 x2 := ⟨_, rfl⟩
  rw [← ha] at S1 ⊢
  rw [← hb] at S2 ⊢
  clear ha hb
  go_enter Tryz.func25, Tryz.ntmps25
  go_wp2
  obtain ⟨w2, hw2⟩ : ∃ w2, w2 = ((W.alloc (.cells #[.int .i64 (k : Nat), str t, str x] 23)).alloc (.cells #[.int .i64 (k2 : Nat), str t2, str x2] 23)) := ⟨_, rfl⟩
  have HB := hid (show Below W.heap.size W w2 by rw [hw2]; exact ((Below.refl W.heap.size W).alloc (Nat.le_refl _) _).alloc (by simp) _)
  have hb1 := ((Below.refl (W.alloc (.cells #[.int .i64 (k : Nat), str t, str x] 23)).heap.size (W.alloc (.cells #[.int .i64 (k : Nat), str t, str x] 23))).alloc (Nat.le_refl _) (.cells #[.int .i64 (k2 : Nat), str t2, str x2] 23))
  rw [← hw2] at hb1 ⊢
  obtain ⟨c0, c1, c2, _⟩ := tm_cells hb1
  have d0 : w2.cell? ⟨W.heap.size + 1, 0, none⟩ = some (.int .i64 (k2 : Nat)) := by
    have := cell_new (W.alloc (.cells #[.int .i64 (k : Nat), str t, str x] 23)) #[.int .i64 (k2 : Nat), str t2, str x2] 23 (0, 0) 0
    rw [← hw2] at this; simpa using this
  have d1 : w2.cell? ⟨W.heap.size + 1, 1, none⟩ = some (str t2) := by
    have := cell_new (W.alloc (.cells #[.int .i64 (k : Nat), str t, str x] 23)) #[.int .i64 (k2 : Nat), str t2, str x2] 23 (0, 0) 1
    rw [← hw2] at this; simpa using this
  have d2 : w2.cell? ⟨W.heap.size + 1, 2, none⟩ = some (str x2) := by
    have := cell_new (W.alloc (.cells #[.int .i64 (k : Nat), str t, str x] 23)) #[.int .i64 (k2 : Nat), str t2, str x2] 23 (0, 0) 2
    rw [← hw2] at this; simpa using this
  clear hw2 hb1
  have kc0 := fun p : Later w2.heap.size w2 => p.keep c0
  have kc1 := fun p : Later w2.heap.size w2 => p.keep c1
  have kc2 := fun p : Later w2.heap.size w2 => p.keep c2
  have kd0 := fun p : Later w2.heap.size w2 => p.keep d0
  have kd1 := fun p : Later w2.heap.size w2 => p.keep d1
  have kd2 := fun p : Later w2.heap.size w2 => p.keep d2
  clear c0 c1 c2 d0 d1 d2
  refine wp_region_later w2.heap.size (by kernel_rfl) (by kernel_rfl) ?_
  repeat (go_big_quiet_step (first
    | (go_at_call 40; with_reducible exact Later.call (Nat.le_refl _) (S1.out _))
    | (go_at_call 40; with_reducible exact Later.call (Nat.le_refl _) (S2.out _))))
  refine wpQuiet_nil ?_
  rintro _ ⟨p, rfl⟩
  have HP := hid (below_then HB.out p.low)
  clear kc0 kc1 kc2 kd0 kd1 kd2
  rcases (show (Tm.lt a b = true) ∨ (Tm.lt a b = false ∧ Tm.lt b a = true) ∨ (Tm.lt a b = false ∧ Tm.lt b a = false) by cases Tm.lt a b <;> cases Tm.lt b a <;> simp) with h | ⟨h, h'⟩ | ⟨h, h'⟩
  · have HC := hid (show Tm.cmp a b = -1 by unfold Tm.cmp; rw [h]; rfl)
    go_wp2
    go_ret
    exact ⟨by rw [HC.out]; rfl, HP.out⟩
  · have HC := hid (show Tm.cmp a b = 1 by unfold Tm.cmp; rw [h, h']; rfl)
    have he : (a == b) = false := beq_eq_false_iff_ne.2 (fun e => by rw [e, Tm.lt_irrefl] at h'; cases h')
    go_wp2
    go_ret
    exact ⟨by rw [HC.out]; rfl, HP.out⟩
  · have HC := hid (show Tm.cmp a b = 0 by unfold Tm.cmp; rw [h, h']; rfl)
    have he : (a == b) = true := beq_iff_eq.2 (Tm.lt_tri h h')
    go_wp2
    go_ret
    exact ⟨by rw [HC.out]; rfl, HP.out⟩
set_option maxHeartbeats 2000000 in
theorem lcmp_any (k1 : Nat) (t1 x1 : List UInt8) (k2 : Nat) (t2 x2 : List UInt8) (k3 : Nat) (t3 x3 : List UInt8) (l1 : Nat) (u1 y1 : List UInt8) (l2 : Nat) (u2 y2 : List UInt8) (l3 : Nat) (u3 y3 : List UInt8) (w : World) (hk1 : 1 ≤ k1 ∧ k1 ≤ 5) (ht1 : t1.length ≤ 1000000000) (hx1 : x1.length ≤ 1000000000) (hk2 : 1 ≤ k2 ∧ k2 ≤ 5) (ht2 : t2.length ≤ 1000000000) (hx2 : x2.length ≤ 1000000000) (hk3 : 1 ≤ k3 ∧ k3 ≤ 5) (ht3 : t3.length ≤ 1000000000) (hx3 : x3.length ≤ 1000000000) (hl1 : 1 ≤ l1 ∧ l1 ≤ 5) (hu1 : u1.length ≤ 1000000000) (hy1 : y1.length ≤ 1000000000) (hl2 : 1 ≤ l2 ∧ l2 ≤ 5) (hu2 : u2.length ≤ 1000000000) (hy2 : y2.length ≤ 1000000000) (hl3 : 1 ≤ l3 ∧ l3 ≤ 5) (hu3 : u3.length ≤ 1000000000) (hy3 : y3.length ≤ 1000000000) :
    Calls Tryz.prog 12 #[triV (k1 : Nat) t1 x1 (k2 : Nat) t2 x2 (k3 : Nat) t3 x3, triV (l1 : Nat) u1 y1 (l2 : Nat) u2 y2 (l3 : Nat) u3 y3] w fun e w' => e = .returned (.int .i64 (Tm.cmp3 (Tm.showT k1 t1 x1) (Tm.showT k2 t2 x2) (Tm.showT k3 t3 x3) (Tm.showT l1 u1 y1) (Tm.showT l2 u2 y2) (Tm.showT l3 u3 y3))) ∧ Below w.heap.size w w' := by
  have C1 := hid (fun W => rcmp_any k1 l1 t1 x1 u1 y1 W hk1 hl1 ht1 hx1 hu1 hy1)
  have C2 := hid (fun W => rcmp_any k2 l2 t2 x2 u2 y2 W hk2 hl2 ht2 hx2 hu2 hy2)
  have C3 := hid (fun W => rcmp_any k3 l3 t3 x3 u3 y3 W hk3 hl3 ht3 hx3 hu3 hy3)
  obtain ⟨R, hR⟩ : ∃ R, R = Tm.cmp3 (Tm.showT k1 t1 x1) (Tm.showT k2 t2 x2) (Tm.showT k3 t3 x3) (Tm.showT l1 u1 y1) (Tm.showT l2 u2 y2) (Tm.showT l3 u3 y3) := ⟨_, rfl⟩
  rw [← hR]
  unfold Tm.cmp3 at hR
  obtain ⟨c1, e1⟩ : ∃ c, c = Tm.cmp (Tm.showT k1 t1 x1) (Tm.showT l1 u1 y1) := ⟨_, rfl⟩
  rw [← e1] at hR C1
  obtain ⟨c2, e2⟩ : ∃ c, c = Tm.cmp (Tm.showT k2 t2 x2) (Tm.showT l2 u2 y2) := ⟨_, rfl⟩
  rw [← e2] at hR C2
  obtain ⟨c3, e3⟩ : ∃ c, c = Tm.cmp (Tm.showT k3 t3 x3) (Tm.showT l3 u3 y3) := ⟨_, rfl⟩
  rw [← e3] at hR C3
  have HR := hid hR
  clear hR e1 e2 e3
  obtain ⟨w1, hw1, HA, HC, HB⟩ := two_new w (k1 : Nat) t1 x1 (k2 : Nat) t2 x2 (k3 : Nat) t3 x3 (l1 : Nat) u1 y1 (l2 : Nat) u2 y2 (l3 : Nat) u3 y3
  have HA := hid HA
  have HC := hid HC
  have HB := hid HB
  by_cases h1 : c1 = 0
  · have hb1 : (c1 == 0) = true := beq_iff_eq.2 h1
    by_cases h2 : c2 = 0
    · have hb2 : (c2 == 0) = true := beq_iff_eq.2 h2
      have HF := hid (show R = c3 by rw [HR.out, if_pos h1, if_pos h2])
      go_enter Tryz.func12, Tryz.ntmps12
      go_wp2_with (show wpList _ _ _ _ _ (new9 (new9 w (k1 : Nat) t1 x1 (k2 : Nat) t2 x2 (k3 : Nat) t3 x3) (l1 : Nat) u1 y1 (l2 : Nat) u2 y2 (l3 : Nat) u3 y3); rw [← hw1]; clear hw1; have g0 := HA.out.cell (i := 0) rfl; have j0 := HC.out.cell (i := 0) rfl; have g1 := HA.out.cell (i := 1) rfl; have j1 := HC.out.cell (i := 1) rfl; have g2 := HA.out.cell (i := 2) rfl; have j2 := HC.out.cell (i := 2) rfl)
      refine (C1.out _).mono ?_
      rintro e w2 ⟨rfl, hlow⟩
      have HB2 := hid (below_then HB.out hlow)
      have HA2 := hid (HA.out.keep hlow)
      have HC2 := hid (HC.out.keep hlow)
      clear hlow
      have g3 := HA2.out.cell (i := 3) rfl
      have g4 := HA2.out.cell (i := 4) rfl
      have g5 := HA2.out.cell (i := 5) rfl
      have j3 := HC2.out.cell (i := 3) rfl
      have j4 := HC2.out.cell (i := 4) rfl
      have j5 := HC2.out.cell (i := 5) rfl
      go_wp2_with fail
      refine (C2.out _).mono ?_
      rintro e w3 ⟨rfl, hlow⟩
      have HB3 := hid (below_then HB2.out hlow)
      have HA3 := hid (HA2.out.keep hlow)
      have HC3 := hid (HC2.out.keep hlow)
      clear hlow
      have g6 := HA3.out.cell (i := 6) rfl
      have g7 := HA3.out.cell (i := 7) rfl
      have g8 := HA3.out.cell (i := 8) rfl
      have j6 := HC3.out.cell (i := 6) rfl
      have j7 := HC3.out.cell (i := 7) rfl
      have j8 := HC3.out.cell (i := 8) rfl
      go_wp2_with fail
      refine (C3.out _).mono ?_
      rintro e w4 ⟨rfl, hlow⟩
      have HB4 := hid (below_then HB3.out hlow)
      go_wp2
      go_ret
      exact ⟨by rw [HF.out]; rfl, HB4.out⟩
    · have hb2 : (c2 == 0) = false := beq_eq_false_iff_ne.2 h2
      have HF := hid (show R = c2 by rw [HR.out, if_pos h1, if_neg h2])
      go_enter Tryz.func12, Tryz.ntmps12
      go_wp2_with (show wpList _ _ _ _ _ (new9 (new9 w (k1 : Nat) t1 x1 (k2 : Nat) t2 x2 (k3 : Nat) t3 x3) (l1 : Nat) u1 y1 (l2 : Nat) u2 y2 (l3 : Nat) u3 y3); rw [← hw1]; clear hw1; have g0 := HA.out.cell (i := 0) rfl; have j0 := HC.out.cell (i := 0) rfl; have g1 := HA.out.cell (i := 1) rfl; have j1 := HC.out.cell (i := 1) rfl; have g2 := HA.out.cell (i := 2) rfl; have j2 := HC.out.cell (i := 2) rfl)
      refine (C1.out _).mono ?_
      rintro e w2 ⟨rfl, hlow⟩
      have HB2 := hid (below_then HB.out hlow)
      have HA2 := hid (HA.out.keep hlow)
      have HC2 := hid (HC.out.keep hlow)
      clear hlow
      have g3 := HA2.out.cell (i := 3) rfl
      have g4 := HA2.out.cell (i := 4) rfl
      have g5 := HA2.out.cell (i := 5) rfl
      have j3 := HC2.out.cell (i := 3) rfl
      have j4 := HC2.out.cell (i := 4) rfl
      have j5 := HC2.out.cell (i := 5) rfl
      go_wp2_with fail
      refine (C2.out _).mono ?_
      rintro e w3 ⟨rfl, hlow⟩
      have HB3 := hid (below_then HB2.out hlow)
      go_wp2
      go_ret
      exact ⟨by rw [HF.out]; rfl, HB3.out⟩
  · have hb1 : (c1 == 0) = false := beq_eq_false_iff_ne.2 h1
    have HF := hid (show R = c1 by rw [HR.out, if_neg h1])
    go_enter Tryz.func12, Tryz.ntmps12
    go_wp2_with (show wpList _ _ _ _ _ (new9 (new9 w (k1 : Nat) t1 x1 (k2 : Nat) t2 x2 (k3 : Nat) t3 x3) (l1 : Nat) u1 y1 (l2 : Nat) u2 y2 (l3 : Nat) u3 y3); rw [← hw1]; clear hw1; have g0 := HA.out.cell (i := 0) rfl; have j0 := HC.out.cell (i := 0) rfl; have g1 := HA.out.cell (i := 1) rfl; have j1 := HC.out.cell (i := 1) rfl; have g2 := HA.out.cell (i := 2) rfl; have j2 := HC.out.cell (i := 2) rfl)
    refine (C1.out _).mono ?_
    rintro e w2 ⟨rfl, hlow⟩
    have HB2 := hid (below_then HB.out hlow)
    go_wp2
    go_ret
    exact ⟨by rw [HF.out]; rfl, HB2.out⟩
end Go.Proofs.YtemkbmhcohijnaaGreatDoor
namespace Go.Proofs.YtemkbmhcohijnaaGreatDoor
set_option linter.unusedVariables false
set_option linter.unusedSimpArgs false
set_option maxRecDepth 100000
open Go.ChangeShapes Go.WideShapes Go.ChangeAt Go.RowKit
/-- A triple of any kinds. -/
structure Tri where
  k1 : Int
  t1 : List UInt8
  x1 : List UInt8
  k2 : Int
  t2 : List UInt8
  x2 : List UInt8
  k3 : Int
  t3 : List UInt8
  x3 : List UInt8
def Tri.cells (a : Tri) : List Value := [.int .i64 a.k1, str a.t1, str a.x1, .int .i64 a.k2, str a.t2, str a.x2, .int .i64 a.k3, str a.t3, str a.x3]
abbrev Tri.v (a : Tri) : Value := triV a.k1 a.t1 a.x1 a.k2 a.t2 a.x2 a.k3 a.t3 a.x3
/-- How much is looked at. -/
def Tri.big (a : Tri) : Int := 3 + a.t1.length + a.x1.length + a.t2.length + a.x2.length + a.t3.length + a.x3.length
def Tri.is (a : Tri) : Bool := isTriI a.k1 a.t1 a.x1 a.k2 a.t2 a.x2 a.k3 a.t3 a.x3
def Tri.low (a : Tri) (n : Nat) : Prop := a.t1.length ≤ n ∧ a.x1.length ≤ n ∧ a.t2.length ≤ n ∧ a.x2.length ≤ n ∧ a.t3.length ≤ n ∧ a.x3.length ≤ n
/-- Nine cells from place o on. -/
def Row9 (w : World) (p o : Nat) (a : Tri) : Prop := ∀ i, i < 9 → w.cell? ⟨p, o + i, none⟩ = (a.cells)[i]?
theorem Row9.at {w : World} {p o : Nat} {a : Tri} (h : Row9 w p o a) (i : Nat) (hi : i < 9) {v : Value} (hv : (a.cells)[i]? = some v) : w.cell? ⟨p, o + i, none⟩ = some v := (h i hi).trans hv
theorem Row9.keep {w w' : World} {p o : Nat} {a : Tri} (h : Row9 w p o a) (hb : Below w.heap.size w w') : Row9 w' p o a := by
  intro i hi
  have h1 := h i hi
  have h2 : (a.cells)[i]? = some ((a.cells)[i]'(hi)) := List.getElem?_eq_getElem hi
  rw [h2] at h1 ⊢
  exact below_keep hb h1
def add27 (a b c : Tri) : List Value := a.cells ++ b.cells ++ c.cells
set_option maxHeartbeats 4000000 in
theorem long5_any (p : Nat) (a b c : Tri) (w : World) (ha : Row9 w p 0 a) (hb : Row9 w p 9 b) (hc : Row9 w p 18 c) (la : a.low 1000000000000000) (lb : b.low 1000000000000000) (lc : c.low 1000000000000000) :
    Calls Tryz.prog 9 #[.slice (some ⟨p, 0, none⟩) 3 3] w fun e w' => e = .returned (.bool (decide (9000 < a.big + b.big + c.big))) ∧ ∃ n, w' = w.drewN n := by
  obtain ⟨k11, t11, x11, k12, t12, x12, k13, t13, x13⟩ := a
  obtain ⟨k21, t21, x21, k22, t22, x22, k23, t23, x23⟩ := b
  obtain ⟨k31, t31, x31, k32, t32, x32, k33, t33, x33⟩ := c
  obtain ⟨a1, a2, a3, a4, a5, a6⟩ := la
  obtain ⟨b1, b2, b3, b4, b5, b6⟩ := lb
  obtain ⟨d1, d2, d3, d4, d5, d6⟩ := lc
  simp only at a1 a2 a3 a4 a5 a6 b1 b2 b3 b4 b5 b6 d1 d2 d3 d4 d5 d6
  have HA := hid ha
  have HB := hid hb
  have HC := hid hc
  have h31 : (3 + (t11.length : Int) + x11.length + t12.length + x12.length + t13.length + x13.length) ≤ 6000000000000003 := by omega
  obtain ⟨L1, e1⟩ : ∃ L : Int, L = 3 + (t11.length : Int) + x11.length + t12.length + x12.length + t13.length + x13.length := ⟨_, rfl⟩
  obtain ⟨L2, e2⟩ : ∃ L : Int, L = 3 + (t21.length : Int) + x21.length + t22.length + x22.length + t23.length + x23.length := ⟨_, rfl⟩
  obtain ⟨L3, e3⟩ : ∃ L : Int, L = 3 + (t31.length : Int) + x31.length + t32.length + x32.length + t33.length + x33.length := ⟨_, rfl⟩
  have HR := hid (show (Tri.mk k11 t11 x11 k12 t12 x12 k13 t13 x13).big + (Tri.mk k21 t21 x21 k22 t22 x22 k23 t23 x23).big + (Tri.mk k31 t31 x31 k32 t32 x32 k33 t33 x33).big = L1 + L2 + L3 by rw [e1, e2, e3]; rfl)
  rw [HR.out]
  have g1 : 3 ≤ L1 := by omega
  have g2 : 3 ≤ L2 := by omega
  have g3 : 3 ≤ L3 := by omega
  have E1 := hid e1
  have E2 := hid e2
  have E3 := hid e3
  clear ha hb hc h31 e1 e2 e3
  go_enter Tryz.func9, Tryz.ntmps9
  go_wp2
  go_loopg [3, 4] 3 (fun gk s3 s4 wr => ∃ n z : Int, s3 = .int .i64 n ∧ s4 = .int .i64 z ∧ (∃ m, wr = w.drewN m) ∧ 0 ≤ n ∧ ((z = 0 ∧ 3 ≤ gk ∧ n = 0) ∨ (z = 1 ∧ 2 ≤ gk ∧ n = L1) ∨ (z = 2 ∧ 1 ≤ gk ∧ n = L1 + L2) ∨ (z = 3 ∧ n = L1 + L2 + L3)))
  case atStart => exact ⟨0, 0, rfl, rfl, ⟨0, rfl⟩, by omega, .inl ⟨rfl, Nat.le_refl _, rfl⟩⟩
  case round =>
    obtain ⟨n, z, rfl, rfl, ⟨m, rfl⟩, hn, hz⟩ := hrel
    rcases hz with ⟨rfl, hgk, hv⟩ | ⟨rfl, hgk, hv⟩ | ⟨rfl, hgk, hv⟩ | ⟨rfl, hv⟩
    · by_cases h9 : n ≤ 9000
      · have hv2 := hid hv
        clear hv
        have c0 := HA.out.at 0 (by omega) rfl
        have c1 := HA.out.at 1 (by omega) rfl
        have c2 := HA.out.at 2 (by omega) rfl
        have c3 := HA.out.at 3 (by omega) rfl
        have c4 := HA.out.at 4 (by omega) rfl
        have c5 := HA.out.at 5 (by omega) rfl
        have c6 := HA.out.at 6 (by omega) rfl
        have c7 := HA.out.at 7 (by omega) rfl
        have c8 := HA.out.at 8 (by omega) rfl
        obtain ⟨n2, hn2⟩ : ∃ n2, n2 = n + L1 := ⟨_, rfl⟩
        have w1 : IntKind.i64.wrap (n + 3) = n + 3 := by rw [IntKind.wrap_i64]; omega
        have w2 : IntKind.i64.wrap (n + 3 + (t11.length : Int)) = n + 3 + t11.length := by rw [IntKind.wrap_i64]; omega
        have w3 : IntKind.i64.wrap (n + 3 + (t11.length : Int) + x11.length) = n + 3 + t11.length + x11.length := by rw [IntKind.wrap_i64]; omega
        have w4 : IntKind.i64.wrap (n + 3 + (t11.length : Int) + x11.length + t12.length) = n + 3 + t11.length + x11.length + t12.length := by rw [IntKind.wrap_i64]; omega
        have w5 : IntKind.i64.wrap (n + 3 + (t11.length : Int) + x11.length + t12.length + x12.length) = n + 3 + t11.length + x11.length + t12.length + x12.length := by rw [IntKind.wrap_i64]; omega
        have w6 : IntKind.i64.wrap (n + 3 + (t11.length : Int) + x11.length + t12.length + x12.length + t13.length) = n + 3 + t11.length + x11.length + t12.length + x12.length + t13.length := by rw [IntKind.wrap_i64]; omega
        have w7 : IntKind.i64.wrap (n + 3 + (t11.length : Int) + x11.length + t12.length + x12.length + t13.length + x13.length) = n2 := by rw [IntKind.wrap_i64, hn2, E1.out]; omega
        have hn20 : 0 ≤ n2 := by omega
        have HN2 := hid hn2
        clear hn2
        go_wp2
        go_quiet (fail)
        go_wp2
        go_roundg 2
        case measure => omega
        case rel => exact ⟨n2, 1, by rfl, by rfl, ⟨_, rfl⟩, hn20, .inr (.inl ⟨rfl, Nat.le_refl _, by have := hv2.out; have := HN2.out; omega⟩)⟩
      · have hz9 : (9000 : Int) < n := by omega
        have HF := hid (show decide (9000 < L1 + L2 + L3) = true from decide_eq_true (by omega))
        clear hv
        go_wp2
        go_ret
        exact ⟨by rw [HF.out]; rfl, _, rfl⟩
    · by_cases h9 : n ≤ 9000
      · have hv2 := hid hv
        clear hv
        have c0 := HB.out.at 0 (by omega) rfl
        have c1 := HB.out.at 1 (by omega) rfl
        have c2 := HB.out.at 2 (by omega) rfl
        have c3 := HB.out.at 3 (by omega) rfl
        have c4 := HB.out.at 4 (by omega) rfl
        have c5 := HB.out.at 5 (by omega) rfl
        have c6 := HB.out.at 6 (by omega) rfl
        have c7 := HB.out.at 7 (by omega) rfl
        have c8 := HB.out.at 8 (by omega) rfl
        obtain ⟨n2, hn2⟩ : ∃ n2, n2 = n + L2 := ⟨_, rfl⟩
        have w1 : IntKind.i64.wrap (n + 3) = n + 3 := by rw [IntKind.wrap_i64]; omega
        have w2 : IntKind.i64.wrap (n + 3 + (t21.length : Int)) = n + 3 + t21.length := by rw [IntKind.wrap_i64]; omega
        have w3 : IntKind.i64.wrap (n + 3 + (t21.length : Int) + x21.length) = n + 3 + t21.length + x21.length := by rw [IntKind.wrap_i64]; omega
        have w4 : IntKind.i64.wrap (n + 3 + (t21.length : Int) + x21.length + t22.length) = n + 3 + t21.length + x21.length + t22.length := by rw [IntKind.wrap_i64]; omega
        have w5 : IntKind.i64.wrap (n + 3 + (t21.length : Int) + x21.length + t22.length + x22.length) = n + 3 + t21.length + x21.length + t22.length + x22.length := by rw [IntKind.wrap_i64]; omega
        have w6 : IntKind.i64.wrap (n + 3 + (t21.length : Int) + x21.length + t22.length + x22.length + t23.length) = n + 3 + t21.length + x21.length + t22.length + x22.length + t23.length := by rw [IntKind.wrap_i64]; omega
        have w7 : IntKind.i64.wrap (n + 3 + (t21.length : Int) + x21.length + t22.length + x22.length + t23.length + x23.length) = n2 := by rw [IntKind.wrap_i64, hn2, E2.out]; omega
        have hn20 : 0 ≤ n2 := by omega
        have HN2 := hid hn2
        clear hn2
        go_wp2
        go_quiet (fail)
        go_wp2
        go_roundg 1
        case measure => omega
        case rel => exact ⟨n2, 2, by rfl, by rfl, ⟨_, rfl⟩, hn20, .inr (.inr (.inl ⟨rfl, Nat.le_refl _, by have := hv2.out; have := HN2.out; omega⟩))⟩
      · have hz9 : (9000 : Int) < n := by omega
        have HF := hid (show decide (9000 < L1 + L2 + L3) = true from decide_eq_true (by omega))
        clear hv
        go_wp2
        go_ret
        exact ⟨by rw [HF.out]; rfl, _, rfl⟩
    · by_cases h9 : n ≤ 9000
      · have hv2 := hid hv
        clear hv
        have c0 := HC.out.at 0 (by omega) rfl
        have c1 := HC.out.at 1 (by omega) rfl
        have c2 := HC.out.at 2 (by omega) rfl
        have c3 := HC.out.at 3 (by omega) rfl
        have c4 := HC.out.at 4 (by omega) rfl
        have c5 := HC.out.at 5 (by omega) rfl
        have c6 := HC.out.at 6 (by omega) rfl
        have c7 := HC.out.at 7 (by omega) rfl
        have c8 := HC.out.at 8 (by omega) rfl
        obtain ⟨n2, hn2⟩ : ∃ n2, n2 = n + L3 := ⟨_, rfl⟩
        have w1 : IntKind.i64.wrap (n + 3) = n + 3 := by rw [IntKind.wrap_i64]; omega
        have w2 : IntKind.i64.wrap (n + 3 + (t31.length : Int)) = n + 3 + t31.length := by rw [IntKind.wrap_i64]; omega
        have w3 : IntKind.i64.wrap (n + 3 + (t31.length : Int) + x31.length) = n + 3 + t31.length + x31.length := by rw [IntKind.wrap_i64]; omega
        have w4 : IntKind.i64.wrap (n + 3 + (t31.length : Int) + x31.length + t32.length) = n + 3 + t31.length + x31.length + t32.length := by rw [IntKind.wrap_i64]; omega
        have w5 : IntKind.i64.wrap (n + 3 + (t31.length : Int) + x31.length + t32.length + x32.length) = n + 3 + t31.length + x31.length + t32.length + x32.length := by rw [IntKind.wrap_i64]; omega
        have w6 : IntKind.i64.wrap (n + 3 + (t31.length : Int) + x31.length + t32.length + x32.length + t33.length) = n + 3 + t31.length + x31.length + t32.length + x32.length + t33.length := by rw [IntKind.wrap_i64]; omega
        have w7 : IntKind.i64.wrap (n + 3 + (t31.length : Int) + x31.length + t32.length + x32.length + t33.length + x33.length) = n2 := by rw [IntKind.wrap_i64, hn2, E3.out]; omega
        have hn20 : 0 ≤ n2 := by omega
        have HN2 := hid hn2
        clear hn2
        go_wp2
        go_quiet (fail)
        go_wp2
        go_roundg 0
        case measure => omega
        case rel => exact ⟨n2, 3, by rfl, by rfl, ⟨_, rfl⟩, hn20, .inr (.inr (.inr ⟨rfl, by have := hv2.out; have := HN2.out; omega⟩))⟩
      · have hz9 : (9000 : Int) < n := by omega
        have HF := hid (show decide (9000 < L1 + L2 + L3) = true from decide_eq_true (by omega))
        clear hv
        go_wp2
        go_ret
        exact ⟨by rw [HF.out]; rfl, _, rfl⟩
    · have hv2 := hid hv
      clear hv
      by_cases h9 : n ≤ 9000
      · have HF := hid (show decide (9000 < L1 + L2 + L3) = false from decide_eq_false (by have := hv2.out; omega))
        have hd : decide ((9000 : Int) < n) = false := decide_eq_false (by omega)
        go_wp2
        go_ret
        exact ⟨by rw [HF.out]; rfl, _, rfl⟩
      · have hz9 : (9000 : Int) < n := by omega
        have HF := hid (show decide (9000 < L1 + L2 + L3) = true from decide_eq_true (by have := hv2.out; omega))
        have hd : decide ((9000 : Int) < n) = true := decide_eq_true (by omega)
        go_wp2
        go_ret
        exact ⟨by rw [HF.out]; rfl, _, rfl⟩
end Go.Proofs.YtemkbmhcohijnaaGreatDoor
namespace Go.Proofs.YtemkbmhcohijnaaGreatDoor
set_option linter.unusedVariables false
set_option linter.unusedSimpArgs false
set_option maxRecDepth 100000
open Go.ChangeShapes Go.WideShapes Go.ChangeAt Go.RowKit
set_option maxHeartbeats 4000000 in
theorem may5_any (p : Nat) (a b c : Tri) (w : World) (ha : Row9 w p 0 a) (hb : Row9 w p 9 b) (hc : Row9 w p 18 c) (la : a.low 1000000000) (lb : b.low 1000000000) (lc : c.low 1000000000) (hV : Vars w) :
    Calls Tryz.prog 10 #[.slice (some ⟨p, 0, none⟩) 3 3] w fun e w' => e = .returned (.bool (a.is && b.is && c.is)) ∧ Below w.heap.size w w' := by
  have L : ∀ (x : Tri), x.low 1000000000 → ∀ W, Vars W → Calls Tryz.prog 21 #[x.v] W fun e w' => e = .returned (.bool x.is) ∧ Below W.heap.size W w' := fun x h W hV => lis_any _ _ _ _ _ _ _ _ _ W h.1 h.2.1 h.2.2.1 h.2.2.2.1 h.2.2.2.2.1 h.2.2.2.2.2 hV
  have LA := hid (L a la)
  have LB := hid (L b lb)
  have LC := hid (L c lc)
  obtain ⟨m1, h1⟩ : ∃ m, m = a.is := ⟨_, rfl⟩
  obtain ⟨m2, h2⟩ : ∃ m, m = b.is := ⟨_, rfl⟩
  obtain ⟨m3, h3⟩ : ∃ m, m = c.is := ⟨_, rfl⟩
  rw [← h1, ← h2, ← h3]
  rw [← h1] at LA
  rw [← h2] at LB
  rw [← h3] at LC
  have HA := hid ha
  have HB := hid hb
  have HC := hid hc
  have HV := hid hV
  clear ha hb hc hV la lb lc L h1 h2 h3
  go_enter Tryz.func10, Tryz.ntmps10
  go_wp2
  go_loopg [3] 3 (fun gk s3 wr => ∃ z : Int, s3 = .int .i64 z ∧ Hid (Below w.heap.size w wr) ∧ ((z = 0 ∧ 3 ≤ gk) ∨ (z = 1 ∧ 2 ≤ gk ∧ Hid (m1 = true)) ∨ (z = 2 ∧ 1 ≤ gk ∧ Hid (m1 = true ∧ m2 = true)) ∨ (z = 3 ∧ Hid (m1 = true ∧ m2 = true ∧ m3 = true))))
  case atStart => exact ⟨0, rfl, Below.refl _ _, .inl ⟨rfl, Nat.le_refl _⟩⟩
  case round =>
    obtain ⟨z, rfl, HW, hz⟩ := hrel
    rcases hz with ⟨rfl, hgk⟩ | ⟨rfl, hgk, H⟩ | ⟨rfl, hgk, H⟩ | ⟨rfl, H⟩
    · have HX := hid (HA.out.keep HW.out)
      have c0 := HX.out.at 0 (by omega) rfl
      have c1 := HX.out.at 1 (by omega) rfl
      have c2 := HX.out.at 2 (by omega) rfl
      have c3 := HX.out.at 3 (by omega) rfl
      have c4 := HX.out.at 4 (by omega) rfl
      have c5 := HX.out.at 5 (by omega) rfl
      have c6 := HX.out.at 6 (by omega) rfl
      have c7 := HX.out.at 7 (by omega) rfl
      have c8 := HX.out.at 8 (by omega) rfl
      cases hm : m1
      · rw [hm] at LA
        have HF := hid (show (m1 && m2 && m3) = false by rw [hm]; simp)
        clear hm
        go_wp2_with fail
        refine (LA.out _ (HV.out.keep HW.out)).mono ?_
        rintro e w2 ⟨rfl, hlow⟩
        have HW2 := hid (below_then HW.out hlow)
        clear hlow
        go_wp2
        go_ret
        exact ⟨by rw [HF.out]; rfl, HW2.out⟩
      · rw [hm] at LA
        have HM := hid hm
        clear hm
        go_wp2_with fail
        refine (LA.out _ (HV.out.keep HW.out)).mono ?_
        rintro e w2 ⟨rfl, hlow⟩
        have HW2 := hid (below_then HW.out hlow)
        clear hlow
        go_wp2
        go_roundg 2
        case measure => omega
        case rel => exact ⟨1, rfl, HW2, .inr (.inl ⟨rfl, Nat.le_refl _, HM⟩)⟩
    · have HX := hid (HB.out.keep HW.out)
      have c0 := HX.out.at 0 (by omega) rfl
      have c1 := HX.out.at 1 (by omega) rfl
      have c2 := HX.out.at 2 (by omega) rfl
      have c3 := HX.out.at 3 (by omega) rfl
      have c4 := HX.out.at 4 (by omega) rfl
      have c5 := HX.out.at 5 (by omega) rfl
      have c6 := HX.out.at 6 (by omega) rfl
      have c7 := HX.out.at 7 (by omega) rfl
      have c8 := HX.out.at 8 (by omega) rfl
      cases hm : m2
      · rw [hm] at LB
        have HF := hid (show (m1 && m2 && m3) = false by rw [hm]; simp)
        clear hm
        go_wp2_with fail
        refine (LB.out _ (HV.out.keep HW.out)).mono ?_
        rintro e w2 ⟨rfl, hlow⟩
        have HW2 := hid (below_then HW.out hlow)
        clear hlow
        go_wp2
        go_ret
        exact ⟨by rw [HF.out]; rfl, HW2.out⟩
      · rw [hm] at LB
        have HM := hid hm
        clear hm
        go_wp2_with fail
        refine (LB.out _ (HV.out.keep HW.out)).mono ?_
        rintro e w2 ⟨rfl, hlow⟩
        have HW2 := hid (below_then HW.out hlow)
        clear hlow
        go_wp2
        go_roundg 1
        case measure => omega
        case rel => exact ⟨2, rfl, HW2, .inr (.inr (.inl ⟨rfl, Nat.le_refl _, hid ⟨H.out, HM.out⟩⟩))⟩
    · have HX := hid (HC.out.keep HW.out)
      have c0 := HX.out.at 0 (by omega) rfl
      have c1 := HX.out.at 1 (by omega) rfl
      have c2 := HX.out.at 2 (by omega) rfl
      have c3 := HX.out.at 3 (by omega) rfl
      have c4 := HX.out.at 4 (by omega) rfl
      have c5 := HX.out.at 5 (by omega) rfl
      have c6 := HX.out.at 6 (by omega) rfl
      have c7 := HX.out.at 7 (by omega) rfl
      have c8 := HX.out.at 8 (by omega) rfl
      cases hm : m3
      · rw [hm] at LC
        have HF := hid (show (m1 && m2 && m3) = false by rw [hm]; simp)
        clear hm
        go_wp2_with fail
        refine (LC.out _ (HV.out.keep HW.out)).mono ?_
        rintro e w2 ⟨rfl, hlow⟩
        have HW2 := hid (below_then HW.out hlow)
        clear hlow
        go_wp2
        go_ret
        exact ⟨by rw [HF.out]; rfl, HW2.out⟩
      · rw [hm] at LC
        have HM := hid hm
        clear hm
        go_wp2_with fail
        refine (LC.out _ (HV.out.keep HW.out)).mono ?_
        rintro e w2 ⟨rfl, hlow⟩
        have HW2 := hid (below_then HW.out hlow)
        clear hlow
        go_wp2
        go_roundg 0
        case measure => omega
        case rel => exact ⟨3, rfl, HW2, .inr (.inr (.inr ⟨rfl, hid ⟨H.out.1, H.out.2, HM.out⟩⟩))⟩
    · have HF := hid (show (m1 && m2 && m3) = true by rw [H.out.1, H.out.2.1, H.out.2.2]; rfl)
      go_wp2
      go_ret
      exact ⟨by rw [HF.out]; rfl, HW.out⟩
end Go.Proofs.YtemkbmhcohijnaaGreatDoor
namespace Go.Proofs.YtemkbmhcohijnaaGreatDoor
set_option linter.unusedVariables false
set_option linter.unusedSimpArgs false
set_option maxRecDepth 100000
open Go.ChangeShapes Go.WideShapes Go.ChangeAt Go.RowKit
theorem list9 {l : List Value} (h : l.length = 9) : ∃ c0 c1 c2 c3 c4 c5 c6 c7 c8, l = [c0, c1, c2, c3, c4, c5, c6, c7, c8] := by
  rcases l with _ | ⟨c0, _ | ⟨c1, _ | ⟨c2, _ | ⟨c3, _ | ⟨c4, _ | ⟨c5, _ | ⟨c6, _ | ⟨c7, _ | ⟨c8, _ | ⟨c9, l⟩⟩⟩⟩⟩⟩⟩⟩⟩⟩
  all_goals (try simp at h)
  exact ⟨c0, c1, c2, c3, c4, c5, c6, c7, c8, rfl⟩
theorem three_read {H : Type} {enc : TypeId × Value → H} {W : World} {n : Nat} {c0 c1 c2 : Value} {y : DataW H × List MemPlace} (h : DataW.trod enc Tryz.prog W 0 (fun _ => true) true n 23 [c0, c1, c2] = some y) :
    ∃ (k : Int) (t x : List UInt8), c0 = .int .i64 k ∧ c1 = str t ∧ c2 = str x ∧ y.1 = .agg [.lit (.int .i64 k), .lit (.string t), .lit (.string x)] := by
  obtain ⟨y0, y1, y2, m, hx, _, h0, h1, h2⟩ := Go.Deep.trod_struct3 Tryz.underlying23 h
  have g0 : DataW.trod enc Tryz.prog W 0 (fun _ => true) true m 3 [c0] = some y0 := h0
  have g1 : DataW.trod enc Tryz.prog W 0 (fun _ => true) true m 9 [c1] = some y1 := h1
  have g2 : DataW.trod enc Tryz.prog W 0 (fun _ => true) true m 9 [c2] = some y2 := h2
  obtain ⟨k, e0, f0, w0⟩ := DataW.trod_int Tryz.underlying3 g0
  obtain ⟨t, e1, f1, w1⟩ := DataW.trod_string Tryz.underlying9 g1
  obtain ⟨x, e2, f2, w2⟩ := DataW.trod_string Tryz.underlying9 g2
  simp only [List.cons.injEq, and_true] at e0 e1 e2
  refine ⟨k, t.data.toList, x.data.toList, e0, by rw [e1, str_of t], by rw [e2, str_of x], ?_⟩
  rw [hx, f0, f1, f2]
theorem arg_tri {H : Type} {enc : TypeId × Value → H} {W : World} {base : Nat} {v : Value} {d : DataW H} {p : List MemPlace} (hv : Value.okWide Tryz.prog W .any base 25 v) (h : DataW.Trod enc Tryz.prog W 0 (fun _ => true) true 25 v d p) (hs : Sized 25 d) :
    ∃ a : Tri, v = a.v ∧ a.low 1000000000000000 := by
  obtain ⟨cs, rfl, hsz⟩ := okWide_struct Tryz.underlying25 hv
  have h9 : cs.toList.length = 9 := by rw [Array.length_toList, hsz]; kernel_rfl
  obtain ⟨c0, c1, c2, c3, c4, c5, c6, c7, c8, hl⟩ := list9 h9
  obtain rfl : cs = #[c0, c1, c2, c3, c4, c5, c6, c7, c8] := by cases cs; simp_all
  obtain ⟨fuel, hf⟩ := h
  obtain ⟨y0, y1, y2, n, hx, _, h0, h1, h2⟩ := Go.Deep.trod_struct3 Tryz.underlying25 hf
  have g0 : DataW.trod enc Tryz.prog W 0 (fun _ => true) true n 23 [c0, c1, c2] = some y0 := h0
  have g1 : DataW.trod enc Tryz.prog W 0 (fun _ => true) true n 23 [c3, c4, c5] = some y1 := h1
  have g2 : DataW.trod enc Tryz.prog W 0 (fun _ => true) true n 23 [c6, c7, c8] = some y2 := h2
  obtain ⟨k1, t1, x1, rfl, rfl, rfl, f1⟩ := three_read g0
  obtain ⟨k2, t2, x2, rfl, rfl, rfl, f2⟩ := three_read g1
  obtain ⟨k3, t3, x3, rfl, rfl, rfl, f3⟩ := three_read g2
  refine ⟨⟨k1, t1, x1, k2, t2, x2, k3, t3, x3⟩, rfl, ?_⟩
  simp only [Prod.mk.injEq] at hx
  have hd := hx.1
  rw [f1, f2, f3] at hd
  subst hd
  have u1 := Tryz.underlying25
  have u2 := Tryz.underlying23
  unfold Sized at hs
  simp only [DataW.weights, DataW.weightsEach, u1, u2, List.map_cons, List.map_nil, List.append_nil, List.nil_append, List.mem_append, List.mem_singleton, List.mem_cons, List.not_mem_nil, or_false] at hs
  unfold Tri.low
  unfold reachBytes at hs
  refine ⟨?_, ?_, ?_, ?_, ?_, ?_⟩
  · have := hs t1.length (by simp); simp only; omega
  · have := hs x1.length (by simp); simp only; omega
  · have := hs t2.length (by simp); simp only; omega
  · have := hs x2.length (by simp); simp only; omega
  · have := hs t3.length (by simp); simp only; omega
  · have := hs x3.length (by simp); simp only; omega
end Go.Proofs.YtemkbmhcohijnaaGreatDoor
namespace Go.Proofs.YtemkbmhcohijnaaGreatDoor
set_option linter.unusedVariables false
set_option linter.unusedSimpArgs false
set_option maxRecDepth 100000
open Go.ChangeShapes Go.WideShapes Go.ChangeAt Go.RowKit
theorem row9_blk {w : World} {p : Nat} {a : Tri} (h : Blk w p a.cells 25) : Row9 w p 0 a := by
  intro i hi
  rw [Nat.zero_add, List.getElem?_eq_getElem (show i < a.cells.length from hi)]
  exact h.cell (List.getElem?_eq_getElem _)
theorem row9_27 {w : World} {p o : Nat} {a : Tri} {C : List Value} (h : Blk w p C 25) (ho : (C.drop o).take 9 = a.cells) : Row9 w p o a := by
  intro i hi
  have e : C[o + i]? = a.cells[i]? := by rw [← ho, List.getElem?_take, if_pos hi, List.getElem?_drop]
  rw [← e]
  have hl : i < a.cells.length := hi
  rw [List.getElem?_eq_getElem hl] at e
  rw [e]
  exact h.cell e
/-- Twenty-seven cells in a new block. -/
def new27 (w : World) (a b c : Tri) : World := w.alloc (.cells #[.int .i64 a.k1, str a.t1, str a.x1, .int .i64 a.k2, str a.t2, str a.x2, .int .i64 a.k3, str a.t3, str a.x3, .int .i64 b.k1, str b.t1, str b.x1, .int .i64 b.k2, str b.t2, str b.x2, .int .i64 b.k3, str b.t3, str b.x3, .int .i64 c.k1, str c.t1, str c.x1, .int .i64 c.k2, str c.t2, str c.x2, .int .i64 c.k3, str c.t3, str c.x3] 25)
theorem new27_rows (w : World) (a b c : Tri) : Row9 (new27 w a b c) w.heap.size 0 a ∧ Row9 (new27 w a b c) w.heap.size 9 b ∧ Row9 (new27 w a b c) w.heap.size 18 c := by
  have h : Blk (new27 w a b c) w.heap.size (a.cells ++ (b.cells ++ c.cells)) 25 := Blk.new' rfl rfl
  exact ⟨row9_27 h rfl, row9_27 h rfl, row9_27 h rfl⟩
def new9t (w : World) (a : Tri) : World := new9 w a.k1 a.t1 a.x1 a.k2 a.t2 a.x2 a.k3 a.t3 a.x3
theorem three_new (w : World) (a b c : Tri) : ∃ W, W = new9t (new9t (new9t w a) b) c ∧ Row9 W w.heap.size 0 a ∧ Row9 W (w.heap.size + 1) 0 b ∧ Row9 W (w.heap.size + 1 + 1) 0 c ∧ Below w.heap.size w W := by
  have s1 : (new9t w a).heap.size = w.heap.size + 1 := by unfold new9t new9; simp
  have s2 : (new9t (new9t w a) b).heap.size = w.heap.size + 1 + 1 := by unfold new9t new9; simp
  have h1 : Blk (new9t w a) w.heap.size a.cells 25 := new9_new _ _ _ _ _ _ _ _ _ _
  have h2 : Blk (new9t (new9t w a) b) (new9t w a).heap.size b.cells 25 := new9_new _ _ _ _ _ _ _ _ _ _
  have h3 : Blk (new9t (new9t (new9t w a) b) c) (new9t (new9t w a) b).heap.size c.cells 25 := new9_new _ _ _ _ _ _ _ _ _ _
  rw [s1] at h2
  rw [s2] at h3
  exact ⟨_, rfl, row9_blk ((h1.alloc _).alloc _), row9_blk (h2.alloc _), row9_blk h3, (((Below.refl _ _).alloc (Nat.le_refl _) _).alloc (by simp) _).alloc (by simp; omega) _⟩
theorem low_of {a b c : Tri} (h : ¬ 9000 < a.big + b.big + c.big) : a.low 9000 ∧ b.low 9000 ∧ c.low 9000 := by
  unfold Tri.big at h
  unfold Tri.low
  omega
theorem low_le {a : Tri} {n m : Nat} (h : a.low n) (hm : n ≤ m) : a.low m := by
  unfold Tri.low at *
  omega
theorem eq_tri2 (k1 : Int) (t1 x1 : List UInt8) (k2 : Int) (t2 x2 : List UInt8) (k3 : Int) (t3 x3 : List UInt8) (l1 : Int) (u1 y1 : List UInt8) (l2 : Int) (u2 y2 : List UInt8) (l3 : Int) (u3 y3 : List UInt8) (w : World) :
    (binOp .eql 25 (triV k1 t1 x1 k2 t2 x2 k3 t3 x3) (triV l1 u1 y1 l2 u2 y2 l3 u3 y3)).run Tryz.prog w = .ok (.bool (decide ((k1 = l1 ∧ t1 = u1 ∧ x1 = y1) ∧ (k2 = l2 ∧ t2 = u2 ∧ x2 = y2) ∧ (k3 = l3 ∧ t3 = u3 ∧ x3 = y3)))) w := by
  simp [go_sem]
  by_cases h1 : k1 = l1
  · by_cases h2 : t1 = u1
    · by_cases h3 : x1 = y1
      · by_cases h4 : k2 = l2
        · by_cases h5 : t2 = u2
          · by_cases h6 : x2 = y2
            · by_cases h7 : k3 = l3
              · by_cases h8 : t3 = u3
                · by_cases h9 : x3 = y3
                  · simp [h1, h2, h3, h4, h5, h6, h7, h8, h9]
                  · simp [h1, h2, h3, h4, h5, h6, h7, h8, h9]
                · simp [h1, h2, h3, h4, h5, h6, h7, h8]
              · simp [h1, h2, h3, h4, h5, h6, h7]
            · simp [h1, h2, h3, h4, h5, h6]
          · simp [h1, h2, h3, h4, h5]
        · simp [h1, h2, h3, h4]
      · simp [h1, h2, h3]
    · simp [h1, h2]
  · simp [h1]
set_option maxHeartbeats 8000000 in
theorem order_long (k11 : Int) (t11 x11 : List UInt8) (k12 : Int) (t12 x12 : List UInt8) (k13 : Int) (t13 x13 : List UInt8) (k21 : Int) (t21 x21 : List UInt8) (k22 : Int) (t22 x22 : List UInt8) (k23 : Int) (t23 x23 : List UInt8) (k31 : Int) (t31 x31 : List UInt8) (k32 : Int) (t32 x32 : List UInt8) (k33 : Int) (t33 x33 : List UInt8) (w : World) (hV : Vars w) (hE : ErrAt w) (hl1 : (Tri.mk k11 t11 x11 k12 t12 x12 k13 t13 x13).low 1000000000000000) (hl2 : (Tri.mk k21 t21 x21 k22 t22 x22 k23 t23 x23).low 1000000000000000) (hl3 : (Tri.mk k31 t31 x31 k32 t32 x32 k33 t33 x33).low 1000000000000000) (h : 9000 < (Tri.mk k11 t11 x11 k12 t12 x12 k13 t13 x13).big + (Tri.mk k21 t21 x21 k22 t22 x22 k23 t23 x23).big + (Tri.mk k31 t31 x31 k32 t32 x32 k33 t33 x33).big) :
    Calls Tryz.prog 4 #[triV k11 t11 x11 k12 t12 x12 k13 t13 x13, triV k21 t21 x21 k22 t22 x22 k23 t23 x23, triV k31 t31 x31 k32 t32 x32 k33 t33 x33] w fun e W' => e = .returned (.bool true) ∧ Below w.heap.size w W' := by
  obtain ⟨w3, hw3, HA1, HA2, HA3, HB⟩ := three_new w (Tri.mk k11 t11 x11 k12 t12 x12 k13 t13 x13) (Tri.mk k21 t21 x21 k22 t22 x22 k23 t23 x23) (Tri.mk k31 t31 x31 k32 t32 x32 k33 t33 x33)
  have HA1 := hid HA1
  have HA2 := hid HA2
  have HA3 := hid HA3
  have HB := hid HB
  have HV := hid hV
  have HE := hid hE
  obtain ⟨R1, R2, R3⟩ := new27_rows w3 (Tri.mk k11 t11 x11 k12 t12 x12 k13 t13 x13) (Tri.mk k21 t21 x21 k22 t22 x22 k23 t23 x23) (Tri.mk k31 t31 x31 k32 t32 x32 k33 t33 x33)
  have LG := hid (long5_any w3.heap.size (Tri.mk k11 t11 x11 k12 t12 x12 k13 t13 x13) (Tri.mk k21 t21 x21 k22 t22 x22 k23 t23 x23) (Tri.mk k31 t31 x31 k32 t32 x32 k33 t33 x33) _ R1 R2 R3 hl1 hl2 hl3)
  rw [decide_eq_true h] at LG
  clear hV hE hl1 hl2 hl3 h R1 R2 R3
  go_enter Tryz.func4, Tryz.ntmps4
  go_wp2_with (show wpList _ _ _ _ _ (new9t (new9t (new9t w (Tri.mk k11 t11 x11 k12 t12 x12 k13 t13 x13)) (Tri.mk k21 t21 x21 k22 t22 x22 k23 t23 x23)) (Tri.mk k31 t31 x31 k32 t32 x32 k33 t33 x33)); rw [← hw3]; clear hw3; have g0 := HA1.out.at 0 (by omega) rfl; have g1 := HA1.out.at 1 (by omega) rfl; have g2 := HA1.out.at 2 (by omega) rfl; have g3 := HA1.out.at 3 (by omega) rfl; have g4 := HA1.out.at 4 (by omega) rfl; have g5 := HA1.out.at 5 (by omega) rfl; have g6 := HA1.out.at 6 (by omega) rfl; have g7 := HA1.out.at 7 (by omega) rfl; have g8 := HA1.out.at 8 (by omega) rfl; have j0 := HA2.out.at 0 (by omega) rfl; have j1 := HA2.out.at 1 (by omega) rfl; have j2 := HA2.out.at 2 (by omega) rfl; have j3 := HA2.out.at 3 (by omega) rfl; have j4 := HA2.out.at 4 (by omega) rfl; have j5 := HA2.out.at 5 (by omega) rfl; have j6 := HA2.out.at 6 (by omega) rfl; have j7 := HA2.out.at 7 (by omega) rfl; have j8 := HA2.out.at 8 (by omega) rfl; have l0 := HA3.out.at 0 (by omega) rfl; have l1 := HA3.out.at 1 (by omega) rfl; have l2 := HA3.out.at 2 (by omega) rfl; have l3 := HA3.out.at 3 (by omega) rfl; have l4 := HA3.out.at 4 (by omega) rfl; have l5 := HA3.out.at 5 (by omega) rfl; have l6 := HA3.out.at 6 (by omega) rfl; have l7 := HA3.out.at 7 (by omega) rfl; have l8 := HA3.out.at 8 (by omega) rfl)
  refine LG.out.mono ?_
  rintro e w4 ⟨rfl, n4, hw4⟩
  have HB4 := hid (show Below w.heap.size w w4 by rw [hw4]; exact below_drawn (HB.out.alloc HB.out.size _) _)
  clear hw4
  go_wp2
  go_ret
  exact ⟨rfl, HB4.out⟩
set_option maxHeartbeats 8000000 in
theorem order_not (k11 : Int) (t11 x11 : List UInt8) (k12 : Int) (t12 x12 : List UInt8) (k13 : Int) (t13 x13 : List UInt8) (k21 : Int) (t21 x21 : List UInt8) (k22 : Int) (t22 x22 : List UInt8) (k23 : Int) (t23 x23 : List UInt8) (k31 : Int) (t31 x31 : List UInt8) (k32 : Int) (t32 x32 : List UInt8) (k33 : Int) (t33 x33 : List UInt8) (w : World) (hV : Vars w) (hE : ErrAt w) (hl1 : (Tri.mk k11 t11 x11 k12 t12 x12 k13 t13 x13).low 1000000000000000) (hl2 : (Tri.mk k21 t21 x21 k22 t22 x22 k23 t23 x23).low 1000000000000000) (hl3 : (Tri.mk k31 t31 x31 k32 t32 x32 k33 t33 x33).low 1000000000000000) (h : ¬ 9000 < (Tri.mk k11 t11 x11 k12 t12 x12 k13 t13 x13).big + (Tri.mk k21 t21 x21 k22 t22 x22 k23 t23 x23).big + (Tri.mk k31 t31 x31 k32 t32 x32 k33 t33 x33).big) (hm : ((Tri.mk k11 t11 x11 k12 t12 x12 k13 t13 x13).is && (Tri.mk k21 t21 x21 k22 t22 x22 k23 t23 x23).is && (Tri.mk k31 t31 x31 k32 t32 x32 k33 t33 x33).is) = false) :
    Calls Tryz.prog 4 #[triV k11 t11 x11 k12 t12 x12 k13 t13 x13, triV k21 t21 x21 k22 t22 x22 k23 t23 x23, triV k31 t31 x31 k32 t32 x32 k33 t33 x33] w fun e W' => e = .returned (.bool true) ∧ Below w.heap.size w W' := by
  obtain ⟨w3, hw3, HA1, HA2, HA3, HB⟩ := three_new w (Tri.mk k11 t11 x11 k12 t12 x12 k13 t13 x13) (Tri.mk k21 t21 x21 k22 t22 x22 k23 t23 x23) (Tri.mk k31 t31 x31 k32 t32 x32 k33 t33 x33)
  have HA1 := hid HA1
  have HA2 := hid HA2
  have HA3 := hid HA3
  have HB := hid HB
  have HV := hid hV
  have HE := hid hE
  obtain ⟨R1, R2, R3⟩ := new27_rows w3 (Tri.mk k11 t11 x11 k12 t12 x12 k13 t13 x13) (Tri.mk k21 t21 x21 k22 t22 x22 k23 t23 x23) (Tri.mk k31 t31 x31 k32 t32 x32 k33 t33 x33)
  have LG := hid (long5_any w3.heap.size (Tri.mk k11 t11 x11 k12 t12 x12 k13 t13 x13) (Tri.mk k21 t21 x21 k22 t22 x22 k23 t23 x23) (Tri.mk k31 t31 x31 k32 t32 x32 k33 t33 x33) _ R1 R2 R3 hl1 hl2 hl3)
  rw [decide_eq_false h] at LG
  obtain ⟨s1, s2, s3⟩ := low_of h
  have MAY := hid (fun (p : Nat) (W : World) r1 r2 r3 hV => may5_any p (Tri.mk k11 t11 x11 k12 t12 x12 k13 t13 x13) (Tri.mk k21 t21 x21 k22 t22 x22 k23 t23 x23) (Tri.mk k31 t31 x31 k32 t32 x32 k33 t33 x33) W r1 r2 r3 (low_le s1 (by omega)) (low_le s2 (by omega)) (low_le s3 (by omega)) hV)
  rw [hm] at MAY
  clear hm s1 s2 s3
  clear hV hE hl1 hl2 hl3 h R1 R2 R3
  go_enter Tryz.func4, Tryz.ntmps4
  go_wp2_with (show wpList _ _ _ _ _ (new9t (new9t (new9t w (Tri.mk k11 t11 x11 k12 t12 x12 k13 t13 x13)) (Tri.mk k21 t21 x21 k22 t22 x22 k23 t23 x23)) (Tri.mk k31 t31 x31 k32 t32 x32 k33 t33 x33)); rw [← hw3]; clear hw3; have g0 := HA1.out.at 0 (by omega) rfl; have g1 := HA1.out.at 1 (by omega) rfl; have g2 := HA1.out.at 2 (by omega) rfl; have g3 := HA1.out.at 3 (by omega) rfl; have g4 := HA1.out.at 4 (by omega) rfl; have g5 := HA1.out.at 5 (by omega) rfl; have g6 := HA1.out.at 6 (by omega) rfl; have g7 := HA1.out.at 7 (by omega) rfl; have g8 := HA1.out.at 8 (by omega) rfl; have j0 := HA2.out.at 0 (by omega) rfl; have j1 := HA2.out.at 1 (by omega) rfl; have j2 := HA2.out.at 2 (by omega) rfl; have j3 := HA2.out.at 3 (by omega) rfl; have j4 := HA2.out.at 4 (by omega) rfl; have j5 := HA2.out.at 5 (by omega) rfl; have j6 := HA2.out.at 6 (by omega) rfl; have j7 := HA2.out.at 7 (by omega) rfl; have j8 := HA2.out.at 8 (by omega) rfl; have l0 := HA3.out.at 0 (by omega) rfl; have l1 := HA3.out.at 1 (by omega) rfl; have l2 := HA3.out.at 2 (by omega) rfl; have l3 := HA3.out.at 3 (by omega) rfl; have l4 := HA3.out.at 4 (by omega) rfl; have l5 := HA3.out.at 5 (by omega) rfl; have l6 := HA3.out.at 6 (by omega) rfl; have l7 := HA3.out.at 7 (by omega) rfl; have l8 := HA3.out.at 8 (by omega) rfl)
  refine LG.out.mono ?_
  rintro e w4 ⟨rfl, n4, hw4⟩
  have HB4 := hid (show Below w.heap.size w w4 by rw [hw4]; exact below_drawn (HB.out.alloc HB.out.size _) _)
  have hlow : Below w3.heap.size w3 w4 := by rw [hw4]; exact below_drawn ((Below.refl _ _).alloc (Nat.le_refl _) _) _
  have HD1 := hid (HA1.out.keep hlow)
  have HD2 := hid (HA2.out.keep hlow)
  have HD3 := hid (HA3.out.keep hlow)
  clear hw4 hlow
  have g0 := HD1.out.at 0 (by omega) rfl
  have g1 := HD1.out.at 1 (by omega) rfl
  have g2 := HD1.out.at 2 (by omega) rfl
  have g3 := HD1.out.at 3 (by omega) rfl
  have g4 := HD1.out.at 4 (by omega) rfl
  have g5 := HD1.out.at 5 (by omega) rfl
  have g6 := HD1.out.at 6 (by omega) rfl
  have g7 := HD1.out.at 7 (by omega) rfl
  have g8 := HD1.out.at 8 (by omega) rfl
  have j0 := HD2.out.at 0 (by omega) rfl
  have j1 := HD2.out.at 1 (by omega) rfl
  have j2 := HD2.out.at 2 (by omega) rfl
  have j3 := HD2.out.at 3 (by omega) rfl
  have j4 := HD2.out.at 4 (by omega) rfl
  have j5 := HD2.out.at 5 (by omega) rfl
  have j6 := HD2.out.at 6 (by omega) rfl
  have j7 := HD2.out.at 7 (by omega) rfl
  have j8 := HD2.out.at 8 (by omega) rfl
  have l0 := HD3.out.at 0 (by omega) rfl
  have l1 := HD3.out.at 1 (by omega) rfl
  have l2 := HD3.out.at 2 (by omega) rfl
  have l3 := HD3.out.at 3 (by omega) rfl
  have l4 := HD3.out.at 4 (by omega) rfl
  have l5 := HD3.out.at 5 (by omega) rfl
  have l6 := HD3.out.at 6 (by omega) rfl
  have l7 := HD3.out.at 7 (by omega) rfl
  have l8 := HD3.out.at 8 (by omega) rfl
  obtain ⟨Q1, Q2, Q3⟩ := new27_rows w4 (Tri.mk k11 t11 x11 k12 t12 x12 k13 t13 x13) (Tri.mk k21 t21 x21 k22 t22 x22 k23 t23 x23) (Tri.mk k31 t31 x31 k32 t32 x32 k33 t33 x33)
  have MY := hid (MAY.out w4.heap.size _ Q1 Q2 Q3 (HV.out.keep (HB4.out.alloc HB4.out.size _)))
  clear Q1 Q2 Q3
  go_wp2_with fail
  refine MY.out.mono ?_
  rintro e w5 ⟨rfl, hlow⟩
  have HB5 := hid (below_then (HB4.out.alloc HB4.out.size _) hlow)
  clear hlow
  go_wp2
  go_ret
  exact ⟨rfl, HB5.out⟩
set_option maxHeartbeats 8000000 in
theorem order_in (n11 : Nat) (t11 x11 : List UInt8) (n12 : Nat) (t12 x12 : List UInt8) (n13 : Nat) (t13 x13 : List UInt8) (n21 : Nat) (t21 x21 : List UInt8) (n22 : Nat) (t22 x22 : List UInt8) (n23 : Nat) (t23 x23 : List UInt8) (n31 : Nat) (t31 x31 : List UInt8) (n32 : Nat) (t32 x32 : List UInt8) (n33 : Nat) (t33 x33 : List UInt8) (w : World) (hV : Vars w) (hE : ErrAt w) (hl1 : (Tri.mk (n11 : Nat) t11 x11 (n12 : Nat) t12 x12 (n13 : Nat) t13 x13).low 1000000000000000) (hl2 : (Tri.mk (n21 : Nat) t21 x21 (n22 : Nat) t22 x22 (n23 : Nat) t23 x23).low 1000000000000000) (hl3 : (Tri.mk (n31 : Nat) t31 x31 (n32 : Nat) t32 x32 (n33 : Nat) t33 x33).low 1000000000000000) (h : ¬ 9000 < (Tri.mk (n11 : Nat) t11 x11 (n12 : Nat) t12 x12 (n13 : Nat) t13 x13).big + (Tri.mk (n21 : Nat) t21 x21 (n22 : Nat) t22 x22 (n23 : Nat) t23 x23).big + (Tri.mk (n31 : Nat) t31 x31 (n32 : Nat) t32 x32 (n33 : Nat) t33 x33).big) (hm : ((Tri.mk (n11 : Nat) t11 x11 (n12 : Nat) t12 x12 (n13 : Nat) t13 x13).is && (Tri.mk (n21 : Nat) t21 x21 (n22 : Nat) t22 x22 (n23 : Nat) t23 x23).is && (Tri.mk (n31 : Nat) t31 x31 (n32 : Nat) t32 x32 (n33 : Nat) t33 x33).is) = true) (i11 : Tm.is ((n11 : Nat) : Int) t11 x11 = true) (i12 : Tm.is ((n12 : Nat) : Int) t12 x12 = true) (i13 : Tm.is ((n13 : Nat) : Int) t13 x13 = true) (i21 : Tm.is ((n21 : Nat) : Int) t21 x21 = true) (i22 : Tm.is ((n22 : Nat) : Int) t22 x22 = true) (i23 : Tm.is ((n23 : Nat) : Int) t23 x23 = true) (i31 : Tm.is ((n31 : Nat) : Int) t31 x31 = true) (i32 : Tm.is ((n32 : Nat) : Int) t32 x32 = true) (i33 : Tm.is ((n33 : Nat) : Int) t33 x33 = true) :
    Calls Tryz.prog 4 #[triV (n11 : Nat) t11 x11 (n12 : Nat) t12 x12 (n13 : Nat) t13 x13, triV (n21 : Nat) t21 x21 (n22 : Nat) t22 x22 (n23 : Nat) t23 x23, triV (n31 : Nat) t31 x31 (n32 : Nat) t32 x32 (n33 : Nat) t33 x33] w fun e W' => e = .returned (.bool true) ∧ Below w.heap.size w W' := by
  have b11 : 1 ≤ n11 ∧ n11 ≤ 5 := by obtain ⟨m, e, hm⟩ := Tm.is_kind i11; omega
  have l11 := Tm.show_len i11
  have b12 : 1 ≤ n12 ∧ n12 ≤ 5 := by obtain ⟨m, e, hm⟩ := Tm.is_kind i12; omega
  have l12 := Tm.show_len i12
  have b13 : 1 ≤ n13 ∧ n13 ≤ 5 := by obtain ⟨m, e, hm⟩ := Tm.is_kind i13; omega
  have l13 := Tm.show_len i13
  have b21 : 1 ≤ n21 ∧ n21 ≤ 5 := by obtain ⟨m, e, hm⟩ := Tm.is_kind i21; omega
  have l21 := Tm.show_len i21
  have b22 : 1 ≤ n22 ∧ n22 ≤ 5 := by obtain ⟨m, e, hm⟩ := Tm.is_kind i22; omega
  have l22 := Tm.show_len i22
  have b23 : 1 ≤ n23 ∧ n23 ≤ 5 := by obtain ⟨m, e, hm⟩ := Tm.is_kind i23; omega
  have l23 := Tm.show_len i23
  have b31 : 1 ≤ n31 ∧ n31 ≤ 5 := by obtain ⟨m, e, hm⟩ := Tm.is_kind i31; omega
  have l31 := Tm.show_len i31
  have b32 : 1 ≤ n32 ∧ n32 ≤ 5 := by obtain ⟨m, e, hm⟩ := Tm.is_kind i32; omega
  have l32 := Tm.show_len i32
  have b33 : 1 ≤ n33 ∧ n33 ≤ 5 := by obtain ⟨m, e, hm⟩ := Tm.is_kind i33; omega
  have l33 := Tm.show_len i33
  have PAB := hid (fun W => pcmp_any (n11 : Nat) t11 x11 (n12 : Nat) t12 x12 (n13 : Nat) t13 x13 (n21 : Nat) t21 x21 (n22 : Nat) t22 x22 (n23 : Nat) t23 x23 W (by omega) (by omega) (by omega) (by omega) (by omega) (by omega) (by omega) (by omega) (by omega) (by omega) (by omega) (by omega))
  rw [Tm.show_some b11, Tm.show_some b12, Tm.show_some b13, Tm.show_some b21, Tm.show_some b22, Tm.show_some b23] at PAB
  have PBC := hid (fun W => pcmp_any (n21 : Nat) t21 x21 (n22 : Nat) t22 x22 (n23 : Nat) t23 x23 (n31 : Nat) t31 x31 (n32 : Nat) t32 x32 (n33 : Nat) t33 x33 W (by omega) (by omega) (by omega) (by omega) (by omega) (by omega) (by omega) (by omega) (by omega) (by omega) (by omega) (by omega))
  rw [Tm.show_some b21, Tm.show_some b22, Tm.show_some b23, Tm.show_some b31, Tm.show_some b32, Tm.show_some b33] at PBC
  have PAC := hid (fun W => pcmp_any (n11 : Nat) t11 x11 (n12 : Nat) t12 x12 (n13 : Nat) t13 x13 (n31 : Nat) t31 x31 (n32 : Nat) t32 x32 (n33 : Nat) t33 x33 W (by omega) (by omega) (by omega) (by omega) (by omega) (by omega) (by omega) (by omega) (by omega) (by omega) (by omega) (by omega))
  rw [Tm.show_some b11, Tm.show_some b12, Tm.show_some b13, Tm.show_some b31, Tm.show_some b32, Tm.show_some b33] at PAC
  have PBA := hid (fun W => pcmp_any (n21 : Nat) t21 x21 (n22 : Nat) t22 x22 (n23 : Nat) t23 x23 (n11 : Nat) t11 x11 (n12 : Nat) t12 x12 (n13 : Nat) t13 x13 W (by omega) (by omega) (by omega) (by omega) (by omega) (by omega) (by omega) (by omega) (by omega) (by omega) (by omega) (by omega))
  rw [Tm.show_some b21, Tm.show_some b22, Tm.show_some b23, Tm.show_some b11, Tm.show_some b12, Tm.show_some b13] at PBA
  have LAB := hid (fun W => lcmp_any n11 t11 x11 n12 t12 x12 n13 t13 x13 n21 t21 x21 n22 t22 x22 n23 t23 x23 W b11 (by omega) (by omega) b12 (by omega) (by omega) b13 (by omega) (by omega) b21 (by omega) (by omega) b22 (by omega) (by omega) b23 (by omega) (by omega))
  have hneg := Tm.cmp3_neg (Tm.showT n11 t11 x11) (Tm.showT n12 t12 x12) (Tm.showT n13 t13 x13) (Tm.showT n21 t21 x21) (Tm.showT n22 t22 x22) (Tm.showT n23 t23 x23)
  have hzer := Tm.cmp3_zero (Tm.showT n11 t11 x11) (Tm.showT n12 t12 x12) (Tm.showT n13 t13 x13) (Tm.showT n21 t21 x21) (Tm.showT n22 t22 x22) (Tm.showT n23 t23 x23)
  have htra := fun h1 h2 => Tm.cmp3_trans (a1 := Tm.showT n11 t11 x11) (a2 := Tm.showT n12 t12 x12) (a3 := Tm.showT n13 t13 x13) (b1 := Tm.showT n21 t21 x21) (b2 := Tm.showT n22 t22 x22) (b3 := Tm.showT n23 t23 x23) (c1 := Tm.showT n31 t31 x31) (c2 := Tm.showT n32 t32 x32) (c3 := Tm.showT n33 t33 x33) h1 h2
  have EQ := fun W => eq_tri2 (n11 : Nat) t11 x11 (n12 : Nat) t12 x12 (n13 : Nat) t13 x13 (n21 : Nat) t21 x21 (n22 : Nat) t22 x22 (n23 : Nat) t23 x23 W
  rw [Tm.show_inj i11 i21, Tm.show_inj i12 i22, Tm.show_inj i13 i23] at hzer
  have hbd : -1 ≤ Tm.cmp3 (Tm.showT n11 t11 x11) (Tm.showT n12 t12 x12) (Tm.showT n13 t13 x13) (Tm.showT n21 t21 x21) (Tm.showT n22 t22 x22) (Tm.showT n23 t23 x23) ∧ Tm.cmp3 (Tm.showT n11 t11 x11) (Tm.showT n12 t12 x12) (Tm.showT n13 t13 x13) (Tm.showT n21 t21 x21) (Tm.showT n22 t22 x22) (Tm.showT n23 t23 x23) ≤ 1 := by
    have z1 := Tm.cmp_bound (Tm.showT n11 t11 x11) (Tm.showT n21 t21 x21)
    have z2 := Tm.cmp_bound (Tm.showT n12 t12 x12) (Tm.showT n22 t22 x22)
    have z3 := Tm.cmp_bound (Tm.showT n13 t13 x13) (Tm.showT n23 t23 x23)
    unfold Tm.cmp3
    split
    · split <;> omega
    · omega
  obtain ⟨p, hp⟩ : ∃ p, p = Tm.cmp3 (Tm.showT n11 t11 x11) (Tm.showT n12 t12 x12) (Tm.showT n13 t13 x13) (Tm.showT n21 t21 x21) (Tm.showT n22 t22 x22) (Tm.showT n23 t23 x23) := ⟨_, rfl⟩
  obtain ⟨q, hq⟩ : ∃ q, q = Tm.cmp3 (Tm.showT n21 t21 x21) (Tm.showT n22 t22 x22) (Tm.showT n23 t23 x23) (Tm.showT n31 t31 x31) (Tm.showT n32 t32 x32) (Tm.showT n33 t33 x33) := ⟨_, rfl⟩
  obtain ⟨r, hr⟩ : ∃ r, r = Tm.cmp3 (Tm.showT n11 t11 x11) (Tm.showT n12 t12 x12) (Tm.showT n13 t13 x13) (Tm.showT n31 t31 x31) (Tm.showT n32 t32 x32) (Tm.showT n33 t33 x33) := ⟨_, rfl⟩
  obtain ⟨p2, hp2⟩ : ∃ p2, p2 = Tm.cmp3 (Tm.showT n21 t21 x21) (Tm.showT n22 t22 x22) (Tm.showT n23 t23 x23) (Tm.showT n11 t11 x11) (Tm.showT n12 t12 x12) (Tm.showT n13 t13 x13) := ⟨_, rfl⟩
  rw [← hp] at PAB LAB hneg hzer htra hbd
  rw [← hq] at PBC htra
  rw [← hr] at PAC htra
  rw [← hp2] at PBA hneg
  obtain ⟨qe, hqe⟩ : ∃ qe, qe = decide ((((n11 : Nat) : Int) = (n21 : Nat) ∧ t11 = t21 ∧ x11 = x21) ∧ (((n12 : Nat) : Int) = (n22 : Nat) ∧ t12 = t22 ∧ x12 = x22) ∧ (((n13 : Nat) : Int) = (n23 : Nat) ∧ t13 = t23 ∧ x13 = x23)) := ⟨_, rfl⟩
  rw [← hqe] at EQ
  have hpe : qe = decide (p = 0) := by
    rw [hqe, decide_eq_decide, hzer]
    simp only [Int.natCast_inj]
  have KN := hid (fun W h h2 => known5_any W h h2)
  obtain ⟨w3, hw3, HA1, HA2, HA3, HB⟩ := three_new w (Tri.mk (n11 : Nat) t11 x11 (n12 : Nat) t12 x12 (n13 : Nat) t13 x13) (Tri.mk (n21 : Nat) t21 x21 (n22 : Nat) t22 x22 (n23 : Nat) t23 x23) (Tri.mk (n31 : Nat) t31 x31 (n32 : Nat) t32 x32 (n33 : Nat) t33 x33)
  have HA1 := hid HA1
  have HA2 := hid HA2
  have HA3 := hid HA3
  have HB := hid HB
  have HV := hid hV
  have HE := hid hE
  obtain ⟨R1, R2, R3⟩ := new27_rows w3 (Tri.mk (n11 : Nat) t11 x11 (n12 : Nat) t12 x12 (n13 : Nat) t13 x13) (Tri.mk (n21 : Nat) t21 x21 (n22 : Nat) t22 x22 (n23 : Nat) t23 x23) (Tri.mk (n31 : Nat) t31 x31 (n32 : Nat) t32 x32 (n33 : Nat) t33 x33)
  have LG := hid (long5_any w3.heap.size (Tri.mk (n11 : Nat) t11 x11 (n12 : Nat) t12 x12 (n13 : Nat) t13 x13) (Tri.mk (n21 : Nat) t21 x21 (n22 : Nat) t22 x22 (n23 : Nat) t23 x23) (Tri.mk (n31 : Nat) t31 x31 (n32 : Nat) t32 x32 (n33 : Nat) t33 x33) _ R1 R2 R3 hl1 hl2 hl3)
  rw [decide_eq_false h] at LG
  obtain ⟨s1, s2, s3⟩ := low_of h
  have MAY := hid (fun (p : Nat) (W : World) r1 r2 r3 hV => may5_any p (Tri.mk (n11 : Nat) t11 x11 (n12 : Nat) t12 x12 (n13 : Nat) t13 x13) (Tri.mk (n21 : Nat) t21 x21 (n22 : Nat) t22 x22 (n23 : Nat) t23 x23) (Tri.mk (n31 : Nat) t31 x31 (n32 : Nat) t32 x32 (n33 : Nat) t33 x33) W r1 r2 r3 (low_le s1 (by omega)) (low_le s2 (by omega)) (low_le s3 (by omega)) hV)
  rw [hm] at MAY
  clear hm s1 s2 s3 hp hq hr hp2 hqe hzer b11 l11 i11 b12 l12 i12 b13 l13 i13 b21 l21 i21 b22 l22 i22 b23 l23 i23 b31 l31 i31 b32 l32 i32 b33 l33 i33
  clear hV hE hl1 hl2 hl3 h R1 R2 R3
  have HEQ := hid EQ
  clear EQ
  have hcase : (p = 1 ∧ p2 = -1 ∧ qe = false) ∨ (p = 0 ∧ p2 = 0 ∧ qe = true ∧ 0 < q) ∨ (p = 0 ∧ p2 = 0 ∧ qe = true ∧ q ≤ 0 ∧ r ≤ 0) ∨ (p = -1 ∧ p2 = 1 ∧ qe = false ∧ 0 < q) ∨ (p = -1 ∧ p2 = 1 ∧ qe = false ∧ q ≤ 0 ∧ r ≤ 0) := by
    rcases (show p = 1 ∨ p = 0 ∨ p = -1 by omega) with rfl | rfl | rfl
    · exact .inl ⟨rfl, by omega, hpe⟩
    · rcases Int.lt_or_le 0 q with hq | hq
      · exact .inr (.inl ⟨rfl, by omega, hpe, hq⟩)
      · exact .inr (.inr (.inl ⟨rfl, by omega, hpe, hq, htra (by omega) hq⟩))
    · rcases Int.lt_or_le 0 q with hq | hq
      · exact .inr (.inr (.inr (.inl ⟨rfl, by omega, hpe, hq⟩)))
      · exact .inr (.inr (.inr (.inr ⟨rfl, by omega, hpe, hq, htra (by omega) hq⟩)))
  clear hneg htra hbd hpe
  rcases hcase with ⟨rfl, rfl, rfl⟩ | ⟨rfl, rfl, rfl, hq0⟩ | ⟨rfl, rfl, rfl, hq0, hr0⟩ | ⟨rfl, rfl, rfl, hq0⟩ | ⟨rfl, rfl, rfl, hq0, hr0⟩
  all_goals
    go_enter Tryz.func4, Tryz.ntmps4
    go_wp2_with (show wpList _ _ _ _ _ (new9t (new9t (new9t w (Tri.mk (n11 : Nat) t11 x11 (n12 : Nat) t12 x12 (n13 : Nat) t13 x13)) (Tri.mk (n21 : Nat) t21 x21 (n22 : Nat) t22 x22 (n23 : Nat) t23 x23)) (Tri.mk (n31 : Nat) t31 x31 (n32 : Nat) t32 x32 (n33 : Nat) t33 x33)); rw [← hw3]; clear hw3; have g0 := HA1.out.at 0 (by omega) rfl; have g1 := HA1.out.at 1 (by omega) rfl; have g2 := HA1.out.at 2 (by omega) rfl; have g3 := HA1.out.at 3 (by omega) rfl; have g4 := HA1.out.at 4 (by omega) rfl; have g5 := HA1.out.at 5 (by omega) rfl; have g6 := HA1.out.at 6 (by omega) rfl; have g7 := HA1.out.at 7 (by omega) rfl; have g8 := HA1.out.at 8 (by omega) rfl; have j0 := HA2.out.at 0 (by omega) rfl; have j1 := HA2.out.at 1 (by omega) rfl; have j2 := HA2.out.at 2 (by omega) rfl; have j3 := HA2.out.at 3 (by omega) rfl; have j4 := HA2.out.at 4 (by omega) rfl; have j5 := HA2.out.at 5 (by omega) rfl; have j6 := HA2.out.at 6 (by omega) rfl; have j7 := HA2.out.at 7 (by omega) rfl; have j8 := HA2.out.at 8 (by omega) rfl; have l0 := HA3.out.at 0 (by omega) rfl; have l1 := HA3.out.at 1 (by omega) rfl; have l2 := HA3.out.at 2 (by omega) rfl; have l3 := HA3.out.at 3 (by omega) rfl; have l4 := HA3.out.at 4 (by omega) rfl; have l5 := HA3.out.at 5 (by omega) rfl; have l6 := HA3.out.at 6 (by omega) rfl; have l7 := HA3.out.at 7 (by omega) rfl; have l8 := HA3.out.at 8 (by omega) rfl)
    refine LG.out.mono ?_
    rintro e w4 ⟨rfl, n4, hw4⟩
    have HB4 := hid (show Below w.heap.size w w4 by rw [hw4]; exact below_drawn (HB.out.alloc HB.out.size _) _)
    have hlow : Below w3.heap.size w3 w4 := by rw [hw4]; exact below_drawn ((Below.refl _ _).alloc (Nat.le_refl _) _) _
    have HD1 := hid (HA1.out.keep hlow)
    have HD2 := hid (HA2.out.keep hlow)
    have HD3 := hid (HA3.out.keep hlow)
    clear hw4 hlow
    have g0 := HD1.out.at 0 (by omega) rfl
    have g1 := HD1.out.at 1 (by omega) rfl
    have g2 := HD1.out.at 2 (by omega) rfl
    have g3 := HD1.out.at 3 (by omega) rfl
    have g4 := HD1.out.at 4 (by omega) rfl
    have g5 := HD1.out.at 5 (by omega) rfl
    have g6 := HD1.out.at 6 (by omega) rfl
    have g7 := HD1.out.at 7 (by omega) rfl
    have g8 := HD1.out.at 8 (by omega) rfl
    have j0 := HD2.out.at 0 (by omega) rfl
    have j1 := HD2.out.at 1 (by omega) rfl
    have j2 := HD2.out.at 2 (by omega) rfl
    have j3 := HD2.out.at 3 (by omega) rfl
    have j4 := HD2.out.at 4 (by omega) rfl
    have j5 := HD2.out.at 5 (by omega) rfl
    have j6 := HD2.out.at 6 (by omega) rfl
    have j7 := HD2.out.at 7 (by omega) rfl
    have j8 := HD2.out.at 8 (by omega) rfl
    have l0 := HD3.out.at 0 (by omega) rfl
    have l1 := HD3.out.at 1 (by omega) rfl
    have l2 := HD3.out.at 2 (by omega) rfl
    have l3 := HD3.out.at 3 (by omega) rfl
    have l4 := HD3.out.at 4 (by omega) rfl
    have l5 := HD3.out.at 5 (by omega) rfl
    have l6 := HD3.out.at 6 (by omega) rfl
    have l7 := HD3.out.at 7 (by omega) rfl
    have l8 := HD3.out.at 8 (by omega) rfl
    obtain ⟨Q1, Q2, Q3⟩ := new27_rows w4 (Tri.mk (n11 : Nat) t11 x11 (n12 : Nat) t12 x12 (n13 : Nat) t13 x13) (Tri.mk (n21 : Nat) t21 x21 (n22 : Nat) t22 x22 (n23 : Nat) t23 x23) (Tri.mk (n31 : Nat) t31 x31 (n32 : Nat) t32 x32 (n33 : Nat) t33 x33)
    have MY := hid (MAY.out w4.heap.size _ Q1 Q2 Q3 (HV.out.keep (HB4.out.alloc HB4.out.size _)))
    clear Q1 Q2 Q3
    go_wp2_with fail
    refine MY.out.mono ?_
    rintro e w5 ⟨rfl, hlow⟩
    have HB5 := hid (below_then (HB4.out.alloc HB4.out.size _) hlow)
    have HF1 := hid (HD1.out.keep (below_then ((Below.refl _ _).alloc (Nat.le_refl _) _) hlow))
    have HF2 := hid (HD2.out.keep (below_then ((Below.refl _ _).alloc (Nat.le_refl _) _) hlow))
    have HF3 := hid (HD3.out.keep (below_then ((Below.refl _ _).alloc (Nat.le_refl _) _) hlow))
    clear hlow
    have kg0 := fun z : Later w5.heap.size w5 => z.keep (HF1.out.at 0 (by omega) rfl)
    have kg1 := fun z : Later w5.heap.size w5 => z.keep (HF1.out.at 1 (by omega) rfl)
    have kg2 := fun z : Later w5.heap.size w5 => z.keep (HF1.out.at 2 (by omega) rfl)
    have kg3 := fun z : Later w5.heap.size w5 => z.keep (HF1.out.at 3 (by omega) rfl)
    have kg4 := fun z : Later w5.heap.size w5 => z.keep (HF1.out.at 4 (by omega) rfl)
    have kg5 := fun z : Later w5.heap.size w5 => z.keep (HF1.out.at 5 (by omega) rfl)
    have kg6 := fun z : Later w5.heap.size w5 => z.keep (HF1.out.at 6 (by omega) rfl)
    have kg7 := fun z : Later w5.heap.size w5 => z.keep (HF1.out.at 7 (by omega) rfl)
    have kg8 := fun z : Later w5.heap.size w5 => z.keep (HF1.out.at 8 (by omega) rfl)
    have kj0 := fun z : Later w5.heap.size w5 => z.keep (HF2.out.at 0 (by omega) rfl)
    have kj1 := fun z : Later w5.heap.size w5 => z.keep (HF2.out.at 1 (by omega) rfl)
    have kj2 := fun z : Later w5.heap.size w5 => z.keep (HF2.out.at 2 (by omega) rfl)
    have kj3 := fun z : Later w5.heap.size w5 => z.keep (HF2.out.at 3 (by omega) rfl)
    have kj4 := fun z : Later w5.heap.size w5 => z.keep (HF2.out.at 4 (by omega) rfl)
    have kj5 := fun z : Later w5.heap.size w5 => z.keep (HF2.out.at 5 (by omega) rfl)
    have kj6 := fun z : Later w5.heap.size w5 => z.keep (HF2.out.at 6 (by omega) rfl)
    have kj7 := fun z : Later w5.heap.size w5 => z.keep (HF2.out.at 7 (by omega) rfl)
    have kj8 := fun z : Later w5.heap.size w5 => z.keep (HF2.out.at 8 (by omega) rfl)
    have kl0 := fun z : Later w5.heap.size w5 => z.keep (HF3.out.at 0 (by omega) rfl)
    have kl1 := fun z : Later w5.heap.size w5 => z.keep (HF3.out.at 1 (by omega) rfl)
    have kl2 := fun z : Later w5.heap.size w5 => z.keep (HF3.out.at 2 (by omega) rfl)
    have kl3 := fun z : Later w5.heap.size w5 => z.keep (HF3.out.at 3 (by omega) rfl)
    have kl4 := fun z : Later w5.heap.size w5 => z.keep (HF3.out.at 4 (by omega) rfl)
    have kl5 := fun z : Later w5.heap.size w5 => z.keep (HF3.out.at 5 (by omega) rfl)
    have kl6 := fun z : Later w5.heap.size w5 => z.keep (HF3.out.at 6 (by omega) rfl)
    have kl7 := fun z : Later w5.heap.size w5 => z.keep (HF3.out.at 7 (by omega) rfl)
    have kl8 := fun z : Later w5.heap.size w5 => z.keep (HF3.out.at 8 (by omega) rfl)
    go_wp2
    refine wp_region_later w5.heap.size (by kernel_rfl) (by kernel_rfl) ?_
    repeat (go_big_quiet_step (first
      | (go_at_call 11; with_reducible exact Later.call (Nat.le_refl _) (PAB.out _))
      | (go_at_call 11; with_reducible exact Later.call (Nat.le_refl _) (PBC.out _))
      | (go_at_call 11; with_reducible exact Later.call (Nat.le_refl _) (PAC.out _))))
    refine wpQuiet_nil ?_
    rintro w6 ⟨z6, hz6⟩
    have hlow : Below w5.heap.size w5 w6 := by rw [hz6]; exact z6.low
    have HB6 := hid (below_then HB5.out hlow)
    have HG1 := hid (HF1.out.keep hlow)
    have HG2 := hid (HF2.out.keep hlow)
    have HG3 := hid (HF3.out.keep hlow)
    clear hz6 z6 hlow kg0 kg1 kg2 kg3 kg4 kg5 kg6 kg7 kg8 kj0 kj1 kj2 kj3 kj4 kj5 kj6 kj7 kj8 kl0 kl1 kl2 kl3 kl4 kl5 kl6 kl7 kl8
    have g0 := HG1.out.at 0 (by omega) rfl
    have g1 := HG1.out.at 1 (by omega) rfl
    have g2 := HG1.out.at 2 (by omega) rfl
    have g3 := HG1.out.at 3 (by omega) rfl
    have g4 := HG1.out.at 4 (by omega) rfl
    have g5 := HG1.out.at 5 (by omega) rfl
    have g6 := HG1.out.at 6 (by omega) rfl
    have g7 := HG1.out.at 7 (by omega) rfl
    have g8 := HG1.out.at 8 (by omega) rfl
    have j0 := HG2.out.at 0 (by omega) rfl
    have j1 := HG2.out.at 1 (by omega) rfl
    have j2 := HG2.out.at 2 (by omega) rfl
    have j3 := HG2.out.at 3 (by omega) rfl
    have j4 := HG2.out.at 4 (by omega) rfl
    have j5 := HG2.out.at 5 (by omega) rfl
    have j6 := HG2.out.at 6 (by omega) rfl
    have j7 := HG2.out.at 7 (by omega) rfl
    have j8 := HG2.out.at 8 (by omega) rfl
    have l0 := HG3.out.at 0 (by omega) rfl
    have l1 := HG3.out.at 1 (by omega) rfl
    have l2 := HG3.out.at 2 (by omega) rfl
    have l3 := HG3.out.at 3 (by omega) rfl
    have l4 := HG3.out.at 4 (by omega) rfl
    have l5 := HG3.out.at 5 (by omega) rfl
    have l6 := HG3.out.at 6 (by omega) rfl
    have l7 := HG3.out.at 7 (by omega) rfl
    have l8 := HG3.out.at 8 (by omega) rfl
    go_wp2_with fail
    refine (PBA.out _).mono ?_
    rintro e w7 ⟨rfl, hlow⟩
    have HB7 := hid (below_then HB6.out hlow)
    have HH1 := hid (HG1.out.keep hlow)
    have HH2 := hid (HG2.out.keep hlow)
    have HH3 := hid (HG3.out.keep hlow)
    clear hlow
    have g0 := HH1.out.at 0 (by omega) rfl
    have g1 := HH1.out.at 1 (by omega) rfl
    have g2 := HH1.out.at 2 (by omega) rfl
    have g3 := HH1.out.at 3 (by omega) rfl
    have g4 := HH1.out.at 4 (by omega) rfl
    have g5 := HH1.out.at 5 (by omega) rfl
    have g6 := HH1.out.at 6 (by omega) rfl
    have g7 := HH1.out.at 7 (by omega) rfl
    have g8 := HH1.out.at 8 (by omega) rfl
    have j0 := HH2.out.at 0 (by omega) rfl
    have j1 := HH2.out.at 1 (by omega) rfl
    have j2 := HH2.out.at 2 (by omega) rfl
    have j3 := HH2.out.at 3 (by omega) rfl
    have j4 := HH2.out.at 4 (by omega) rfl
    have j5 := HH2.out.at 5 (by omega) rfl
    have j6 := HH2.out.at 6 (by omega) rfl
    have j7 := HH2.out.at 7 (by omega) rfl
    have j8 := HH2.out.at 8 (by omega) rfl
    have l0 := HH3.out.at 0 (by omega) rfl
    have l1 := HH3.out.at 1 (by omega) rfl
    have l2 := HH3.out.at 2 (by omega) rfl
    have l3 := HH3.out.at 3 (by omega) rfl
    have l4 := HH3.out.at 4 (by omega) rfl
    have l5 := HH3.out.at 5 (by omega) rfl
    have l6 := HH3.out.at 6 (by omega) rfl
    have l7 := HH3.out.at 7 (by omega) rfl
    have l8 := HH3.out.at 8 (by omega) rfl
    go_wp2_with fail
    refine (LAB.out _).mono ?_
    rintro e w8 ⟨rfl, hlow⟩
    have HB8 := hid (below_then HB7.out hlow)
    have HI1 := hid (HH1.out.keep hlow)
    have HI2 := hid (HH2.out.keep hlow)
    have HI3 := hid (HH3.out.keep hlow)
    clear hlow
    have g0 := HI1.out.at 0 (by omega) rfl
    have g1 := HI1.out.at 1 (by omega) rfl
    have g2 := HI1.out.at 2 (by omega) rfl
    have g3 := HI1.out.at 3 (by omega) rfl
    have g4 := HI1.out.at 4 (by omega) rfl
    have g5 := HI1.out.at 5 (by omega) rfl
    have g6 := HI1.out.at 6 (by omega) rfl
    have g7 := HI1.out.at 7 (by omega) rfl
    have g8 := HI1.out.at 8 (by omega) rfl
    have j0 := HI2.out.at 0 (by omega) rfl
    have j1 := HI2.out.at 1 (by omega) rfl
    have j2 := HI2.out.at 2 (by omega) rfl
    have j3 := HI2.out.at 3 (by omega) rfl
    have j4 := HI2.out.at 4 (by omega) rfl
    have j5 := HI2.out.at 5 (by omega) rfl
    have j6 := HI2.out.at 6 (by omega) rfl
    have j7 := HI2.out.at 7 (by omega) rfl
    have j8 := HI2.out.at 8 (by omega) rfl
    have l0 := HI3.out.at 0 (by omega) rfl
    have l1 := HI3.out.at 1 (by omega) rfl
    have l2 := HI3.out.at 2 (by omega) rfl
    have l3 := HI3.out.at 3 (by omega) rfl
    have l4 := HI3.out.at 4 (by omega) rfl
    have l5 := HI3.out.at 5 (by omega) rfl
    have l6 := HI3.out.at 6 (by omega) rfl
    have l7 := HI3.out.at 7 (by omega) rfl
    have l8 := HI3.out.at 8 (by omega) rfl
    have EQ := HEQ.out
    go_wp2_with fail
    refine (KN.out _ (HV.out.keep HB8.out) (HE.out.keep HB8.out)).mono ?_
    rintro e w9 ⟨rfl, hlow⟩
    have HB9 := hid (below_then HB8.out hlow)
    clear hlow
    go_wp2
    go_ret
    exact ⟨rfl, HB9.out⟩
theorem tri_is {a : Tri} (h : a.is = true) : Tm.is a.k1 a.t1 a.x1 = true ∧ Tm.is a.k2 a.t2 a.x2 = true ∧ Tm.is a.k3 a.t3 a.x3 = true := by
  unfold Tri.is isTriI at h
  simp only [Bool.and_eq_true] at h
  exact ⟨h.2.1.1, h.2.1.2, h.2.2⟩
theorem linesOrder_any (a b c : Tri) (w : World) (la : a.low 1000000000000000) (lb : b.low 1000000000000000) (lc : c.low 1000000000000000) (hV : Vars w) (hE : ErrAt w) :
    Calls Tryz.prog 4 #[a.v, b.v, c.v] w fun e W' => e = .returned (.bool true) ∧ Below w.heap.size w W' := by
  obtain ⟨k11, t11, x11, k12, t12, x12, k13, t13, x13⟩ := a
  obtain ⟨k21, t21, x21, k22, t22, x22, k23, t23, x23⟩ := b
  obtain ⟨k31, t31, x31, k32, t32, x32, k33, t33, x33⟩ := c
  by_cases h : 9000 < (Tri.mk k11 t11 x11 k12 t12 x12 k13 t13 x13).big + (Tri.mk k21 t21 x21 k22 t22 x22 k23 t23 x23).big + (Tri.mk k31 t31 x31 k32 t32 x32 k33 t33 x33).big
  · exact order_long k11 t11 x11 k12 t12 x12 k13 t13 x13 k21 t21 x21 k22 t22 x22 k23 t23 x23 k31 t31 x31 k32 t32 x32 k33 t33 x33 w hV hE la lb lc h
  · cases hm : ((Tri.mk k11 t11 x11 k12 t12 x12 k13 t13 x13).is && (Tri.mk k21 t21 x21 k22 t22 x22 k23 t23 x23).is && (Tri.mk k31 t31 x31 k32 t32 x32 k33 t33 x33).is)
    · exact order_not k11 t11 x11 k12 t12 x12 k13 t13 x13 k21 t21 x21 k22 t22 x22 k23 t23 x23 k31 t31 x31 k32 t32 x32 k33 t33 x33 w hV hE la lb lc h hm
    · have hm2 := hm
      simp only [Bool.and_eq_true] at hm2
      obtain ⟨i11, i12, i13⟩ := tri_is hm2.1.1
      obtain ⟨i21, i22, i23⟩ := tri_is hm2.1.2
      obtain ⟨i31, i32, i33⟩ := tri_is hm2.2
      clear hm2
      simp only at i11 i12 i13 i21 i22 i23 i31 i32 i33
      obtain ⟨n11, rfl, _, _⟩ := Tm.is_kind i11
      obtain ⟨n12, rfl, _, _⟩ := Tm.is_kind i12
      obtain ⟨n13, rfl, _, _⟩ := Tm.is_kind i13
      obtain ⟨n21, rfl, _, _⟩ := Tm.is_kind i21
      obtain ⟨n22, rfl, _, _⟩ := Tm.is_kind i22
      obtain ⟨n23, rfl, _, _⟩ := Tm.is_kind i23
      obtain ⟨n31, rfl, _, _⟩ := Tm.is_kind i31
      obtain ⟨n32, rfl, _, _⟩ := Tm.is_kind i32
      obtain ⟨n33, rfl, _, _⟩ := Tm.is_kind i33
      exact order_in n11 t11 x11 n12 t12 x12 n13 t13 x13 n21 t21 x21 n22 t22 x22 n23 t23 x23 n31 t31 x31 n32 t32 x32 n33 t33 x33 w hV hE la lb lc h hm i11 i12 i13 i21 i22 i23 i31 i32 i33
theorem linesOrder_walk (H : Type) (enc : TypeId × Value → H) (W : World) (base : Nat) (args : Array Value) (ds gs : List (DataW H)) (before : List MemPlace)
    (hval : ∀ (j : Nat) t v, Tryz.f4.params[j]? = some t → args[j]? = some v → Value.okWide Tryz.prog W .any base t v)
    (hW : DataW.Whole enc Tryz.prog Tryz.f4.params.toList Rows.linesOrderSpec.vars false W args.toList ds gs before)
    (hz : (DataW.weightsEach Tryz.prog (Tryz.f4.params.toList ++ Rows.linesOrderSpec.plain.varTypes Tryz.prog) (ds ++ gs)).all (· ≤ reachBytes) = true)
    (hL : laidMetH Tryz.prog Rows.linesOrderRow.laid W) (hsh : W.ShapedOpen Tryz.prog) :
    Calls Tryz.prog 4 args W fun e W' => e = .returned (.bool true) ∧ Below W.heap.size W W' := by
  obtain ⟨p, q, hA, _, _, _, _⟩ := hW
  rw [Tryz.params4] at hA hval
  rw [Tryz.params4] at hz
  obtain ⟨v0, vs0, d0, ds0, p0, q0, hargs, rfl, rfl, h0, r0⟩ := trodAll_cons hA
  obtain ⟨v1, vs1, d1, ds1, p1, q1, rfl, rfl, rfl, h1, r1⟩ := trodAll_cons r0
  obtain ⟨v2, vs2, d2, ds2, p2, q2, rfl, rfl, rfl, h2, r2⟩ := trodAll_cons r1
  obtain ⟨rfl, rfl, rfl⟩ := trodAll_nil r2
  obtain rfl : args = #[v0, v1, v2] := by cases args; simp_all
  obtain ⟨a, rfl, la⟩ := arg_tri (hval 0 25 v0 rfl rfl) h0 (sized_arg hz (j := 0) (t := 25) (d := d0) rfl rfl)
  obtain ⟨b, rfl, lb⟩ := arg_tri (hval 1 25 v1 rfl rfl) h1 (sized_arg hz (j := 1) (t := 25) (d := d1) rfl rfl)
  obtain ⟨c, rfl, lc⟩ := arg_tri (hval 2 25 v2 rfl rfl) h2 (sized_arg hz (j := 2) (t := 25) (d := d2) rfl rfl)
  obtain ⟨hV, hE⟩ := vars5_of hL hsh
  exact linesOrder_any a b c W la lb lc hV hE

theorem linesOrder_lifted (os : Os) (started : os.Started) (H : Type) (enc : TypeId × Value → H) (F : Stop.Interp) :
    ReturnsInHanded {} Tryz.checked os 4 .any ((OpenSpec.ofChange Rows.linesOrderSpec).preRow enc Tryz.prog Tryz.f4 Rows.linesOrderRow.domain false Rows.linesOrderRow.laid) (((OpenSpec.ofChange Rows.linesOrderSpec).at F).post enc Tryz.prog Tryz.f4 false true false false) := by
  obtain ⟨places, hx⟩ : ∃ places, DataW.whole enc Tryz.prog ((laidWorld os).forCall (fun _ _ => 0) ⟨#[], #[.agg #[.int .i64 0, .string ByteArray.empty, .string ByteArray.empty, .int .i64 0, .string ByteArray.empty, .string ByteArray.empty, .int .i64 0, .string ByteArray.empty, .string ByteArray.empty], .agg #[.int .i64 0, .string ByteArray.empty, .string ByteArray.empty, .int .i64 0, .string ByteArray.empty, .string ByteArray.empty, .int .i64 0, .string ByteArray.empty, .string ByteArray.empty], .agg #[.int .i64 0, .string ByteArray.empty, .string ByteArray.empty, .int .i64 0, .string ByteArray.empty, .string ByteArray.empty, .int .i64 0, .string ByteArray.empty, .string ByteArray.empty]], []⟩).memory Tryz.f4.params.toList Rows.linesOrderSpec.vars false (#[.agg #[.int .i64 0, .string ByteArray.empty, .string ByteArray.empty, .int .i64 0, .string ByteArray.empty, .string ByteArray.empty, .int .i64 0, .string ByteArray.empty, .string ByteArray.empty], .agg #[.int .i64 0, .string ByteArray.empty, .string ByteArray.empty, .int .i64 0, .string ByteArray.empty, .string ByteArray.empty, .int .i64 0, .string ByteArray.empty, .string ByteArray.empty], .agg #[.int .i64 0, .string ByteArray.empty, .string ByteArray.empty, .int .i64 0, .string ByteArray.empty, .string ByteArray.empty, .int .i64 0, .string ByteArray.empty, .string ByteArray.empty]] : Array Value).toList 8 = some ([.agg [.agg [.lit (.int .i64 0), .lit (.string []), .lit (.string [])], .agg [.lit (.int .i64 0), .lit (.string []), .lit (.string [])], .agg [.lit (.int .i64 0), .lit (.string []), .lit (.string [])]], .agg [.agg [.lit (.int .i64 0), .lit (.string []), .lit (.string [])], .agg [.lit (.int .i64 0), .lit (.string []), .lit (.string [])], .agg [.lit (.int .i64 0), .lit (.string []), .lit (.string [])]], .agg [.agg [.lit (.int .i64 0), .lit (.string []), .lit (.string [])], .agg [.lit (.int .i64 0), .lit (.string []), .lit (.string [])], .agg [.lit (.int .i64 0), .lit (.string []), .lit (.string [])]]], [], places) := ⟨[], by kernel_rfl⟩
  refine returnsInHanded_of_row (C := Tryz.checked) (s := OpenSpec.ofChange Rows.linesOrderSpec) own started (by kernel_rfl) Tryz.func4
    (witness_shaped_row (enc := enc) (C := Tryz.checked) false (laidWorld os) #[.agg #[.int .i64 0, .string ByteArray.empty, .string ByteArray.empty, .int .i64 0, .string ByteArray.empty, .string ByteArray.empty, .int .i64 0, .string ByteArray.empty, .string ByteArray.empty], .agg #[.int .i64 0, .string ByteArray.empty, .string ByteArray.empty, .int .i64 0, .string ByteArray.empty, .string ByteArray.empty, .int .i64 0, .string ByteArray.empty, .string ByteArray.empty], .agg #[.int .i64 0, .string ByteArray.empty, .string ByteArray.empty, .int .i64 0, .string ByteArray.empty, .string ByteArray.empty, .int .i64 0, .string ByteArray.empty, .string ByteArray.empty]] (World.laidAll_os _ _ _) (World.shaped_of_ZipB (by kernel_rfl) (by kernel_rfl)) (by kernel_rfl)
      (OpenSpec.preRow_of_cond 8 hx (by kernel_rfl) (fun k hk => by cases hk) (by kernel_rfl) (laid_met os _))) ?_
  intro W base args ds gs before hval hW _ _ hz hL hsh _
  refine (linesOrder_walk H enc W base args ds gs before hval hW hz hL hsh).mono fun e W' ⟨he, hb⟩ => ⟨_, he, ?_⟩
  exact law_post (fn := Tryz.f4) (s := Rows.linesOrderSpec) (tb := 4) rfl (fun ds hd => by match ds, hd with | [d0, d1, d2], _ => rfl) rfl Tryz.underlying4 (by kernel_rfl) hW hb

theorem linesOrder_said : Rows.LinesOrderSaid :=
  OpenClaim.holds_of_cond 4 Tryz.f4 rfl rfl rfl rfl rfl rfl rfl ⟨rfl, rfl, rfl, rfl, rfl⟩ rfl rfl rfl rfl rfl (by kernel_rfl) Tryz.func4 (by kernel_rfl)
    (of_decide_eq_true (by kernel_rfl)) (by unfold Func.isWrapper; first | (rw [if_pos (by decide +kernel)]; kernel_rfl) | (rw [if_neg (by decide +kernel)]; exact ⟨rfl, rfl⟩))
    (fun os started H enc _ F => by rw [OpenClaim.pre_eq_preRow]; exact linesOrder_lifted os started H enc F)

theorem linesOrder_plain (f : FuncId) (fn : Func) (hf : Tryz.pinned.checked.prog.funcNamed Rows.linesOrderRow.func = some f) (hfn : Tryz.pinned.checked.prog.funcs[f]? = some fn) :
    true = Tryz.pinned.checked.prog.looks [] ∧ ∀ (j : Nat) t, fn.params[j]? = some t → Tryz.pinned.checked.prog.wantsStandIn t = false := by
  obtain rfl : f = 4 := Option.some.inj ((show Tryz.prog.funcNamed Rows.linesOrderRow.func = some 4 by kernel_rfl).symm.trans hf) |>.symm
  obtain rfl : fn = Tryz.f4 := (Option.some.inj (Tryz.func4.symm.trans hfn)).symm
  refine ⟨by kernel_rfl, fun j t ht => ?_⟩
  have h := Array.mem_of_getElem? ht
  have hall : Tryz.f4.params.all (fun t => !Tryz.prog.wantsStandIn t) = true := by kernel_rfl
  have := Array.all_eq_true_iff_forall_mem.1 hall t h
  show Tryz.prog.wantsStandIn t = false
  simpa using this

/-- THE STATEMENT. -/
theorem linesOrder_card : Rows.LinesOrderCardSaid :=
  Claim7.holds_tied_plain_at .later [] _ _ _ _ linesOrder_said (fun _ h => by cases h) (by kernel_rfl) (fun _ h => by cases h) linesOrder_row_tie rfl ⟨rfl, rfl⟩ (by kernel_rfl) rfl linesOrder_plain (by kernel_rfl)
end Go.Proofs.YtemkbmhcohijnaaGreatDoor
