/- A ring: the next number of a column. -/
import Derived.Test.YtagadfgginneeaaRgEq
namespace Go.Proofs.Ytagadfgginneeaa
set_option linter.unusedVariables false
set_option linter.unusedSimpArgs false
set_option maxRecDepth 100000
open Go.ChangeShapes Go.WideShapes Go.ChangeAt Go.RowKit
theorem four_box (w : World) (r : Option Addr) (t : Rg.T) (c v : Int) : ∃ w1, w1 = (((w.alloc (.cells #[.pointer r] 25)).alloc (.cells #[.int .i64 t.1, .int .i64 t.2.1, .int .i64 t.2.2] 24)).alloc (.cells #[.int .i64 c] 3)).alloc (.cells #[.int .i64 v] 3) ∧
    Hid (w1.cell? ⟨w.heap.size, 0, none⟩ = some (.pointer r)) ∧ Hid (Blk w1 (w.heap.size + 1) (tl t) 24) ∧ Hid (w1.cell? ⟨w.heap.size + 1 + 1, 0, none⟩ = some (.int .i64 c)) ∧ Hid (w1.cell? ⟨w.heap.size + 1 + 1 + 1, 0, none⟩ = some (.int .i64 v)) ∧ Hid (Below w.heap.size w w1) := by
  refine ⟨_, rfl, by show World.cell? _ _ = _; simp [go_sem], ?_, by show World.cell? _ _ = _; simp [go_sem], by show World.cell? _ _ = _; simp [go_sem], (((Below.refl _ _).alloc (Nat.le_refl _) _).alloc (by simp) _).alloc (by simp; omega) _ |>.alloc (by simp; omega) _⟩
  exact ((Blk.new' (w := w.alloc (.cells #[.pointer r] 25)) (by simp) rfl : Blk _ (w.heap.size + 1) (tl t) 24).alloc _).alloc _
theorem rnext_nil (t : Rg.T) (c v : Int) (w : World) : Calls Try.prog 19 #[.pointer none, tv t, .int .i64 c, .int .i64 v] w fun e w' => e = .returned (.int .i64 0) ∧ Below w.heap.size w w' := by
  unfold tv
  go_enter Try.func19, Try.ntmps19
  go_upto_region 1 with fail
  obtain ⟨w1, hw1, b0, b1, b2, b3, HB⟩ := four_box w none t c v
  rw [← hw1]
  clear hw1
  have c0 := b0.out
  go_wp2
  go_ret
  exact ⟨rfl, HB.out⟩
theorem rnext_out (p : Nat) (t : Rg.T) (c v : Int) (w : World) (h : c < 0 ∨ 3 ≤ c) : Calls Try.prog 19 #[.pointer (some ⟨p, 0, none⟩), tv t, .int .i64 c, .int .i64 v] w fun e w' => e = .returned (.int .i64 0) ∧ Below w.heap.size w w' := by
  unfold tv
  rcases h with h | h
  all_goals
    go_enter Try.func19, Try.ntmps19
    go_upto_region 1 with fail
    obtain ⟨w1, hw1, b0, b1, b2, b3, HB⟩ := four_box w (some ⟨p, 0, none⟩) t c v
    rw [← hw1]
    clear hw1
    have c0 := b0.out
    have c2 := b2.out
    go_wp2
    go_ret
    exact ⟨rfl, HB.out⟩
theorem rnextF_any (p cc i n1 c : Nat) (b0 b1 b2 b3 : Nat) (v n2 : Int) (l : List Rg.T) (t : Rg.T) (w : World) (h : IsRing w p l) (hcc : cc < 3) (hc : c < 3) (hi : (Rg.O l cc)[n1 + i]? = some t) (hn : n1 + i ≤ 100)
    (c0 : w.cell? ⟨b0, 0, none⟩ = some (.pointer (some ⟨p, 0, none⟩))) (d0 : w.cell? ⟨b1, 0, none⟩ = some (.int .i64 cc)) (d1 : w.cell? ⟨b1, 1, none⟩ = some (.int .i64 n1)) (c2 : w.cell? ⟨b2, 0, none⟩ = some (.int .i64 c)) (c3 : w.cell? ⟨b3, 0, none⟩ = some (.int .i64 v)) :
    Calls Try.prog 35 #[.int .i64 i, .pointer (some ⟨b0, 0, none⟩), .pointer (some ⟨b1, 0, none⟩), .pointer (some ⟨b2, 0, none⟩), .pointer (some ⟨b3, 0, none⟩)] w fun e w' => e = .returned (.bool (decide (v ≤ Rg.at' t c))) ∧ Below w.heap.size w w' := by
  have RW := hid fun q : Later w.heap.size w => row_any p cc (n1 + i) l t q.it (h.keep q.low) hcc hi
  have g0 := fun q : Later w.heap.size w => q.keep c0
  have g1 := fun q : Later w.heap.size w => q.keep d0
  have g2 := fun q : Later w.heap.size w => q.keep d1
  have g3 := fun q : Later w.heap.size w => q.keep c2
  have g4 := fun q : Later w.heap.size w => q.keep c3
  unfold tv at RW
  rw [show ((n1 + i : Nat) : Int) = (n1 : Int) + i by omega] at RW
  clear c0 d0 d1 c2 c3 h hi
  have IX := fun w => index_ids t c hc w
  go_enter Try.func35, Try.ntmps35
  go_wp2
  refine wp_region_later w.heap.size (by kernel_rfl) (by kernel_rfl) ?_
  repeat (go_big_quiet_step ((go_at_call 29; with_reducible exact Later.call (Nat.le_refl _) (RW.out _))))
  refine wpQuiet_nil ?_
  rintro _ ⟨q, rfl⟩
  go_wp2
  go_ret
  exact ⟨rfl, q.low⟩
/-- What lies there as Next goes on. -/
structure NxC (W : World) (B b9 p : Nat) (t : Rg.T) (c cc n1 n2 : Nat) (v : Int) : Prop where
  c0 : W.cell? ⟨B, 0, none⟩ = some (.pointer (some ⟨p, 0, none⟩))
  bt : Blk W (B + 1) (tl t) 24
  c2 : W.cell? ⟨B + 1 + 1, 0, none⟩ = some (.int .i64 c)
  c3 : W.cell? ⟨B + 1 + 1 + 1, 0, none⟩ = some (.int .i64 v)
  f0 : W.cell? ⟨b9, 0, none⟩ = some (.int .i64 cc)
  f1 : W.cell? ⟨b9, 1, none⟩ = some (.int .i64 n1)
  f2 : W.cell? ⟨b9, 2, none⟩ = some (.int .i64 n2)
theorem NxC.keep {W W' : World} {B b9 p : Nat} {t : Rg.T} {c cc n1 n2 : Nat} {v : Int} (h : NxC W B b9 p t c cc n1 n2 v) (hb : Below W.heap.size W W') : NxC W' B b9 p t c cc n1 n2 v :=
  ⟨below_keep hb h.c0, h.bt.keep hb, below_keep hb h.c2, below_keep hb h.c3, below_keep hb h.f0, below_keep hb h.f1, below_keep hb h.f2⟩
set_option maxHeartbeats 1000000 in
theorem rnext_any (p c : Nat) (l : List Rg.T) (t : Rg.T) (v : Int) (w : World) (h : IsRing w p l) (ht : ∀ c, c < 3 → -9223372036854775808 ≤ Rg.at' t c) (hc : c < 3) :
    Calls Try.prog 19 #[.pointer (some ⟨p, 0, none⟩), tv t, .int .i64 c, .int .i64 v] w fun e w' => e = .returned (.int .i64 (Rg.nxR l t c v)) ∧ Below w.heap.size w w' := by
  have HR := hid h
  have HT := hid ht
  have hcc := (Rg.fnd_lower t).1
  have hL := h.2.2.1
  have hce := Rg.count_eq l t
  have hq : l.countP (Rg.fnd t).2.2 ≤ l.length := List.countP_le_length
  clear h ht
  unfold tv
  go_enter Try.func19, Try.ntmps19
  go_upto_region 1 with fail
  obtain ⟨w1, hw1, b0, b1, b2, b3, HB⟩ := four_box w (some ⟨p, 0, none⟩) t c v
  rw [← hw1]
  have c0 := b0.out
  have c2 := b2.out
  obtain ⟨t0, t1, t2⟩ := ids_cells b1.out
  clear hw1
  have FD := find_any p l t w1 (HR.out.keep HB.out) HT.out
  unfold fv tv at FD
  obtain ⟨cc, hccd⟩ : ∃ cc, cc = (Rg.fnd t).1 := ⟨_, rfl⟩
  obtain ⟨n1, hn1⟩ : ∃ n, n = l.countP (Rg.fnd t).2.1 := ⟨_, rfl⟩
  obtain ⟨n2, hn2⟩ : ∃ n, n = l.countP (Rg.fnd t).2.2 := ⟨_, rfl⟩
  rw [← hccd, ← hn1, ← hn2] at FD
  rw [← hccd] at hcc
  rw [← hn1, ← hn2] at hce
  rw [← hn2] at hq
  have HCC := hid hccd
  have HN1 := hid hn1
  have HN2 := hid hn2
  clear hccd hn1 hn2
  go_upto_region 4 with (go_at_call 28; refine FD.mono ?_; rintro e w2 ⟨rfl, hb2⟩)
  obtain ⟨w3, hw3, HF, HB3⟩ := new3 w2 (.int .i64 cc) (.int .i64 n1) (.int .i64 n2) 58
  rw [← hw3]
  clear hw3
  have hN : NxC w3 w.heap.size w2.heap.size p t c cc n1 n2 v := by
    have k := below_then hb2 HB3.out
    exact ⟨below_keep k b0.out, b1.out.keep k, below_keep k b2.out, below_keep k b3.out, HF.out.cell rfl, HF.out.cell rfl, HF.out.cell rfl⟩
  have HN := hid hN
  have HBB := hid (below_then HB.out (below_then hb2 HB3.out))
  have hR3 := HR.out.keep HBB.out
  have AH := hid fun W => ahead_any cc hcc W
  clear hN c0 c2 t0 t1 t2 FD HF HB3 b0 b1 b2 b3 hb2
  have g0 := fun q : Later w3.heap.size w3 => (HN.out.keep q.low).c0
  have g1 := fun q : Later w3.heap.size w3 => (HN.out.keep q.low).bt.cell (tl_get t c hc)
  have g2 := fun q : Later w3.heap.size w3 => (HN.out.keep q.low).c2
  have g3 := fun q : Later w3.heap.size w3 => (HN.out.keep q.low).c3
  have g4 := fun q : Later w3.heap.size w3 => (HN.out.keep q.low).f0
  have g5 := fun q : Later w3.heap.size w3 => (HN.out.keep q.low).f1
  have g6 := fun q : Later w3.heap.size w3 => (HN.out.keep q.low).f2
  by_cases hA : c = Rg.pv cc ∧ Rg.at' t c = 0
  · rw [← hA.1] at AH
    rw [hA.2] at g1
    have HA := hid hA
    clear hA
    refine wp_region_later w3.heap.size (by kernel_rfl) (by kernel_rfl) ?_
    repeat (go_big_quiet_step ((go_at_call 31; with_reducible exact Later.call_same (AH.out _))))
    refine wpQuiet_nil ?_
    rintro w4 ⟨q, hq4⟩
    have hb4 : Below w3.heap.size w3 w4 := by rw [hq4]; exact q.low
    have HN4 := hid (HN.out.keep hb4)
    have HB4 := hid (below_then HBB.out hb4)
    clear hq4 q g0 g1 g2 g3 g4 g5 g6 HN hR3 hb4
    obtain ⟨_, _, _, pw, h4⟩ := HR.out.keep HB4.out
    obtain ⟨x0, hwv⟩ := h4 cc hcc
    have WN := hid fun q : Later w4.heap.size w4 => wnext_any (pw cc) 10 _ n1 n2 v q.it (hwv.keep q.low)
    have hng := Wv.nxt_ge (Wv.rng (Rg.A l cc) n1 n2) v
    obtain ⟨x, hx⟩ : ∃ x, x = Wv.nxt (Wv.rng (Rg.A l cc) n1 n2) v := ⟨_, rfl⟩
    rw [← hx] at WN hng
    have hr : max 0 x = Rg.nxR l t c v := by
      rw [hx, HN1.out, HN2.out, HCC.out, Rg.rng_rows HR.out.nodup t, ← HCC.out, ← HA.out.1]
      exact Rg.nx_wave v hc HR.out.2.1 fun s => by rw [HCC.out]; exact Rg.mem_rows s
    have HRR := hid hr
    clear hx hwv h4 hr
    have g0 := fun q : Later w4.heap.size w4 => (HN4.out.keep q.low).c0
    have g3 := fun q : Later w4.heap.size w4 => (HN4.out.keep q.low).c3
    have g4 := fun q : Later w4.heap.size w4 => (HN4.out.keep q.low).f0
    have g5 := fun q : Later w4.heap.size w4 => (HN4.out.keep q.low).f1
    have g6 := fun q : Later w4.heap.size w4 => (HN4.out.keep q.low).f2
    have g7 := fun q : Later w4.heap.size w4 => q.keep x0
    clear x0
    go_wp2
    refine wp_region_later w4.heap.size (by kernel_rfl) (by kernel_rfl) ?_
    repeat (go_big_quiet_step ((go_at_call 32; with_reducible exact Later.call (Nat.le_refl _) (WN.out _))))
    refine wpQuiet_nil ?_
    rintro _ ⟨q, rfl⟩
    go_wp2
    all_goals
      go_ret
      refine ⟨?_, below_then HB4.out q.low⟩
      rw [← HRR.out]
      first
      | (rw [show max 0 x = x by omega]; done)
      | (rw [show max 0 x = 0 by omega]; done)
      | (rw [show max 0 x = x by omega]; rfl)
      | (rw [show max 0 x = 0 by omega]; rfl)
  · have EQ := fun w => eql_ids t.1 t.2.1 t.2.2 0 0 0 w
    have IX := fun (s : Rg.T) w => index_ids s c hc w
    by_cases hz : t = (0, 0, 0)
    · have hB : ¬ c = Rg.pv cc := fun e => hA ⟨e, by rw [hz]; rcases Rg.c3 hc with rfl | rfl | rfl <;> rfl⟩
      have hb : ((c : Int) == ((Rg.pv cc : Nat) : Int)) = false := by rw [beq_eq_false_iff_ne]; omega
      have hd : decide (((t.1, t.2.1, t.2.2) : Rg.T) = (0, 0, 0)) = true := decide_eq_true hz
      have HZ := hid hz
      rw [hd] at EQ
      have HA := hid hA
      clear hA hd hz
      refine wp_region_later w3.heap.size (by kernel_rfl) (by kernel_rfl) ?_
      repeat (go_big_quiet_step ((go_at_call 31; with_reducible exact Later.call_same (AH.out _))))
      refine wpQuiet_nil ?_
      rintro w4 ⟨q, hq4⟩
      have hb4 : Below w3.heap.size w3 w4 := by rw [hq4]; exact q.low
      have HN4 := hid (HN.out.keep hb4)
      have HB4 := hid (below_then HBB.out hb4)
      clear hq4 q g0 g1 g2 g3 g4 g5 g6 HN hR3 hb4
      obtain ⟨_, _, _, pw, h4⟩ := HR.out.keep HB4.out
      obtain ⟨x0, hwv⟩ := h4 (Rg.nx c) (Rg.nx_lt c)
      have hz2 := HZ.out
      have e1 : n1 = 0 := by rw [HN1.out, hz2, Rg.fnd_zero]; simp
      have e2 : n2 = l.length := by rw [HN2.out, hz2, Rg.fnd_zero]; simp
      have WN := hid fun q : Later w4.heap.size w4 => wnext_any (pw (Rg.nx c)) 10 _ n1 n2 v q.it (hwv.keep q.low)
      have hng := Wv.nxt_ge (Wv.rng (Rg.A l (Rg.nx c)) n1 n2) v
      obtain ⟨x, hx⟩ : ∃ x, x = Wv.nxt (Wv.rng (Rg.A l (Rg.nx c)) n1 n2) v := ⟨_, rfl⟩
      rw [← hx] at WN hng
      have hr : max 0 x = Rg.nxR l t c v := by
        rw [hx, e1, e2]
        have := Rg.rng_all (l := l) (Rg.nx c)
        rw [show ((0 : Nat) : Int) = 0 from rfl, this, Rg.pv_nx hc]
        exact Rg.nx_wave v hc HR.out.2.1 fun s => by rw [hz2, (Rg.O_perm l _).mem_iff]; exact ⟨fun k => ⟨k, Rg.mt_zero s⟩, fun k => k.1⟩
      have HRR := hid hr
      have hnx := Rg.nx_lt c
      clear hx hwv h4 hr e1 e2 hz2
      have BH := hid fun W => behind_any c hc W
      obtain ⟨t0, t1, t2⟩ := ids_cells HN4.out.bt
      have g0 := fun q : Later w4.heap.size w4 => (HN4.out.keep q.low).c0
      have g2 := fun q : Later w4.heap.size w4 => (HN4.out.keep q.low).c2
      have g3 := fun q : Later w4.heap.size w4 => (HN4.out.keep q.low).c3
      have g4 := fun q : Later w4.heap.size w4 => (HN4.out.keep q.low).f0
      have g5 := fun q : Later w4.heap.size w4 => (HN4.out.keep q.low).f1
      have g6 := fun q : Later w4.heap.size w4 => (HN4.out.keep q.low).f2
      have g7 := fun q : Later w4.heap.size w4 => q.keep x0
      clear x0
      go_upto_region 7 with fail
      refine wp_region_later w4.heap.size (by kernel_rfl) (by kernel_rfl) ?_
      repeat (go_big_quiet_step (first | (go_at_call 33; with_reducible exact Later.call_same (BH.out _)) | (go_at_call 32; with_reducible exact Later.call (Nat.le_refl _) (WN.out _))))
      refine wpQuiet_nil ?_
      rintro _ ⟨q, rfl⟩
      go_wp2
      all_goals
        go_ret
        refine ⟨?_, below_then HB4.out q.low⟩
        rw [← HRR.out]
        first
        | (rw [show max 0 x = x by omega]; done)
        | (rw [show max 0 x = 0 by omega]; done)
        | (rw [show max 0 x = x by omega]; rfl)
        | (rw [show max 0 x = 0 by omega]; rfl)
    · have hd : decide (((t.1, t.2.1, t.2.2) : Rg.T) = (0, 0, 0)) = false := decide_eq_false hz
      have HZ := hid hz
      rw [hd] at EQ
      have hsplit : (c = Rg.pv cc ∧ ¬ Rg.at' t c = 0) ∨ ¬ c = Rg.pv cc := by
        by_cases h1 : c = Rg.pv cc
        · exact Or.inl ⟨h1, fun h2 => hA ⟨h1, h2⟩⟩
        · exact Or.inr h1
      have HA := hid hA
      obtain ⟨y, hy⟩ : ∃ y, y = Rg.at' t c := ⟨_, rfl⟩
      rw [← hy] at hsplit g1
      clear hA hd hz hy
      rcases hsplit with ⟨hB1, hB2⟩ | hB
      all_goals
        (try (rw [← hB1] at AH; clear hB1))
        (try (have hb : ((c : Int) == ((Rg.pv cc : Nat) : Int)) = false := by rw [beq_eq_false_iff_ne]; omega))
        refine wp_region_later w3.heap.size (by kernel_rfl) (by kernel_rfl) ?_
        repeat (go_big_quiet_step ((go_at_call 31; with_reducible exact Later.call_same (AH.out _))))
        refine wpQuiet_nil ?_
        rintro w4 ⟨q, hq4⟩
        have hb4 : Below w3.heap.size w3 w4 := by rw [hq4]; exact q.low
        have HN4 := hid (HN.out.keep hb4)
        have HB4 := hid (below_then HBB.out hb4)
        clear hq4 q g0 g1 g2 g3 g4 g5 g6 HN hR3 hb4
        have HR4 := hid (HR.out.keep HB4.out)
        have hnd := HR4.out.nodup
        obtain ⟨M, hM⟩ : ∃ M, M = (Rg.O l cc).filter (Rg.mt t) := ⟨_, rfl⟩
        have hMl : M.length = n2 - n1 := by rw [hM, HN1.out, HN2.out, HCC.out]; exact Rg.rows_length t
        have hMg : ∀ i (h : i < M.length), (Rg.O l cc)[n1 + i]? = some M[i] := fun i h => by
          have h1 := Rg.rows_get hnd t i (by rw [← HN1.out, ← HN2.out, ← hMl]; exact h)
          rw [← HCC.out, ← HN1.out, ← hM] at h1
          rw [h1, List.getElem?_eq_getElem h]
        have hMm : ∀ (i j : Nat) (hi : i < M.length) (hj : j < M.length), i ≤ j → Rg.at' M[i] c ≤ Rg.at' M[j] c := by
          rw [hM, HCC.out]
          exact fun i j hi hj hij => Rg.rows_mono hnd hc (by rw [← HCC.out]; exact HA.out) HZ.out i j hi hj hij
        have hMM : ∀ s, s ∈ M ↔ s ∈ l ∧ Rg.mt t s = true := fun s => by rw [hM]; exact Rg.mem_rows s
        have HMG := hid hMg
        have HMM := hid hMM
        have HMM2 := hid hMm
        have HML := hid hMl
        obtain ⟨t0, t1, t2⟩ := ids_cells HN4.out.bt
        have x0 := HN4.out.c0
        have x2 := HN4.out.c2
        have x3 := HN4.out.c3
        have y0 := HN4.out.f0
        have y1 := HN4.out.f1
        have y2 := HN4.out.f2
        have hle : n1 ≤ n2 := by omega
        have hs : ((n2 : Int) - n1) = ((M.length : Nat) : Int) := by omega
        have HS := hid hs
        have hM6 : M.length ≤ 65536 := by omega
        clear hM hMg hMm hMM hMl hs hnd
        go_upto_region 9 with fail
        rw [HS.out]
        go_wp2_with fail
        refine (search_any 35 #[.pointer (some ⟨w.heap.size, 0, none⟩), .pointer (some ⟨w2.heap.size, 0, none⟩), .pointer (some ⟨w.heap.size + 1 + 1, 0, none⟩), .pointer (some ⟨w.heap.size + 1 + 1 + 1, 0, none⟩)] M.length (fun i => decide (v ≤ Rg.at' (M.getD i (0, 0, 0)) c)) _ ?eg hM6 ?hf ?hm).mono ?_
        rotate_left 2
        case eg => intro args W; go_simp
        case hf =>
          intro W hW i hi
          have hN := HN4.out.keep hW
          have hg : M.getD i (0, 0, 0) = M[i] := by rw [List.getD, List.getElem?_eq_getElem hi]; rfl
          have := rnextF_any p cc i n1 c w.heap.size w2.heap.size (w.heap.size + 1 + 1) (w.heap.size + 1 + 1 + 1) v n2 l M[i] W (HR4.out.keep hW) hcc hc (HMG.out i hi) (by have := HML.out; omega) hN.c0 hN.f0 hN.f1 hN.c2 hN.c3
          rw [hg]; exact this
        case hm =>
          intro a b hab hb ha
          have hg1 : M.getD a (0, 0, 0) = M[a] := by rw [List.getD, List.getElem?_eq_getElem (by omega)]; rfl
          have hg2 : M.getD b (0, 0, 0) = M[b] := by rw [List.getD, List.getElem?_eq_getElem hb]; rfl
          have := HMM2.out a b (by omega) hb hab
          simp only [decide_eq_true_eq, hg1, hg2] at ha ⊢
          omega
        rintro e w5 ⟨r, rfl, hr, hlo, hhi, hb5⟩
        have hres := Rg.nx_search (l := l) (M := M) (p := t) v hc HR4.out.2.1 HMM.out r hr (fun i h hir => by
          have := hlo i hir
          have hg : M.getD i (0, 0, 0) = M[i] := by rw [List.getD, List.getElem?_eq_getElem h]; rfl
          simp only [decide_eq_false_iff_not, hg] at this; omega) (fun i h hir => by
          have := hhi i hir h
          have hg : M.getD i (0, 0, 0) = M[i] := by rw [List.getD, List.getElem?_eq_getElem h]; rfl
          simp only [decide_eq_true_eq, hg] at this; omega) HMM2.out
        have HRES := hid hres
        have HN5 := hid (HN4.out.keep hb5)
        have HB5 := hid (below_then HB4.out hb5)
        have HR5 := hid (HR4.out.keep hb5)
        clear hlo hhi hres hb5 t0 t1 t2 x0 x2 x3 y0 y1 y2
        by_cases hrn : r = M.length
        · have hv0 : Rg.nxR l t c v = 0 := by rw [← HRES.out, dif_neg (by omega)]
          have HV0 := hid hv0
          subst hrn
          clear hv0
          go_wp2
          go_ret
          exact ⟨by rw [HV0.out]; rfl, HB5.out⟩
        · have hrl : r < M.length := by omega
          have hv0 : Rg.nxR l t c v = Rg.at' M[r] c := by rw [← HRES.out, dif_pos hrl]
          have HV0 := hid hv0
          have hb : ((r : Int) == ((M.length : Nat) : Int)) = false := by rw [beq_eq_false_iff_ne]; omega
          have RW := hid fun q : Later w5.heap.size w5 => row_any p cc (n1 + r) l M[r] q.it (HR5.out.keep q.low) hcc (HMG.out r hrl)
          unfold tv at RW
          rw [show ((n1 + r : Nat) : Int) = (n1 : Int) + r by omega] at RW
          have hbnd := HML.out
          have g0 := fun q : Later w5.heap.size w5 => (HN5.out.keep q.low).c0
          have g2 := fun q : Later w5.heap.size w5 => (HN5.out.keep q.low).c2
          have g4 := fun q : Later w5.heap.size w5 => (HN5.out.keep q.low).f0
          have g5 := fun q : Later w5.heap.size w5 => (HN5.out.keep q.low).f1
          have HRN := hid hrn
          clear hv0 hrn
          go_upto_region 12 with fail
          refine wp_region_later w5.heap.size (by kernel_rfl) (by kernel_rfl) ?_
          repeat (go_big_quiet_step ((go_at_call 29; with_reducible exact Later.call (Nat.le_refl _) (RW.out _))))
          refine wpQuiet_nil ?_
          rintro _ ⟨q, rfl⟩
          go_wp2
          go_ret
          exact ⟨by rw [HV0.out]; rfl, below_then HB5.out q.low⟩
end Go.Proofs.Ytagadfgginneeaa
