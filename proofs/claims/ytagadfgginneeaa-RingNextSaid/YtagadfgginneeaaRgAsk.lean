/- A ring: its length, a step from order to order, what find tells, a row. -/
import Derived.Test.YtagadfgginneeaaRgTurn
import Derived.Test.YtagadfgginneeaaWvNext
import Derived.Test.YtagadfgginneeaaSearch
namespace Go.Proofs.Ytagadfgginneeaa
set_option linter.unusedVariables false
set_option linter.unusedSimpArgs false
set_option maxRecDepth 100000
open Go.ChangeShapes Go.WideShapes Go.ChangeAt Go.RowKit
/-- A ring of l lies at p. -/
def IsRing (w : World) (p : Nat) (l : List Rg.T) : Prop := l.Pairwise Rg.lt ∧ (∀ t ∈ l, Rg.Ok t) ∧ l.length ≤ 100 ∧ ∃ pw : Nat → Nat, ∀ c, c < 3 → w.cell? ⟨p, c, none⟩ = some (.pointer (some ⟨pw c, 0, none⟩)) ∧ IsWave w (pw c) (Rg.A l c) 10
theorem IsRing.keep {w w' : World} {p : Nat} {l : List Rg.T} (h : IsRing w p l) (hb : Below w.heap.size w w') : IsRing w' p l := by
  obtain ⟨h1, h2, h3, pw, h4⟩ := h
  exact ⟨h1, h2, h3, pw, fun c hc => ⟨below_keep hb (h4 c hc).1, (h4 c hc).2.keep hb⟩⟩
theorem IsRing.nodup {w : World} {p : Nat} {l : List Rg.T} (h : IsRing w p l) : l.Nodup := h.1.imp fun {a b} hab => by intro e; subst e; exact Rg.lt_irrefl _ hab
theorem wlen_wave (p wd : Nat) (l : List Nat) (w : World) (h : IsWave w p l wd) : Calls Try.prog 27 #[.pointer (some ⟨p, 0, none⟩)] w fun e w' => e = .returned (.int .i64 l.length) ∧ w' = w := by
  obtain ⟨_, _, _, ad, cap, c0, _⟩ := h
  exact wlen_cell p _ w c0
theorem rlen_nil (w : World) : Calls Try.prog 15 #[.pointer none] w fun e w' => e = .returned (.int .i64 0) ∧ w' = w := by
  go_enter Try.func15, Try.ntmps15
  go_wp2
  go_ret
  exact ⟨rfl, rfl⟩
theorem rlen_any (p : Nat) (l : List Rg.T) (w : World) (h : IsRing w p l) : Calls Try.prog 15 #[.pointer (some ⟨p, 0, none⟩)] w fun e w' => e = .returned (.int .i64 l.length) ∧ w' = w := by
  obtain ⟨_, _, _, pw, h4⟩ := h
  have c0 := (h4 0 (by omega)).1
  have WL := wlen_wave (pw 0) 10 _ w (h4 0 (by omega)).2
  rw [Rg.A_length] at WL
  clear h4
  go_enter Try.func15, Try.ntmps15
  go_wp2_with (go_at_call 27; refine WL.mono ?_; rintro e w' ⟨rfl, rfl⟩)
  go_ret
  exact ⟨rfl, rfl⟩
/-- A step. -/
theorem step_any (p c : Nat) (l : List Rg.T) (P : Rg.T → Bool) (v : Int) (w : World) (h : IsRing w p l) (hc : c < 3) (hP : Rg.Lower c P) (hv : -9223372036854775808 ≤ v) :
    Calls Try.prog 45 #[.pointer (some ⟨p, 0, none⟩), .int .i64 c, .int .i64 (l.countP P : Nat), .int .i64 v] w fun e w' => e = .returned (.int .i64 (l.countP (Rg.ahd c v P) : Nat)) ∧ Below w.heap.size w w' := by
  have hnd := h.nodup
  obtain ⟨h1, h2, h3, pw, h4⟩ := h
  obtain ⟨c0, hw⟩ := h4 c hc
  have hs := Rg.step_eq hc hnd h2 hP v
  have hcp : l.countP P ≤ l.length := List.countP_le_length
  have hcp2 : l.countP (Rg.ahd c v P) ≤ l.length := List.countP_le_length
  have hal := Rg.A_length l c
  have WL := hid fun W (hb : Below w.heap.size w W) => wlen_wave (pw c) 10 _ W (hw.keep hb)
  have WC := hid fun W (hb : Below w.heap.size w W) => wcount_any (pw c) 10 _ 0 l.length v 1000 W (hw.keep hb) (by omega)
  have WR := hid fun W (hb : Below w.heap.size w W) => wrank_any (pw c) 10 _ v (l.countP P : Nat) W (hw.keep hb) hv
  rw [Wv.rng_zero, hal] at WC WR
  rw [hal] at WL
  have e1 : Wv.hiEnd l.length (l.length : Int) = l.length := by unfold Wv.hiEnd; omega
  have e2 : Wv.hiEnd l.length ((l.countP P : Nat) : Int) = l.countP P := by unfold Wv.hiEnd; omega
  rw [e1] at WC
  rw [e2] at WR
  have e3 : (Rg.A l c).take l.length = Rg.A l c := by rw [← hal, List.take_length]
  rw [e3] at WC
  have k1 := Wv.cntR_le (Rg.A l c) v 1000
  have k2 := Wv.cntR_le ((Rg.A l c).take (l.countP P)) v v
  rw [hal] at k1
  rw [List.length_take] at k2
  have hs2 : (l.length : Int) - (Wv.cntR (Rg.A l c) v 1000 : Nat) + (Wv.cntR ((Rg.A l c).take (l.countP P)) v v : Nat) = (l.countP (Rg.ahd c v P) : Nat) := hs
  generalize Wv.cntR (Rg.A l c) v 1000 = x1 at *
  generalize Wv.cntR ((Rg.A l c).take (l.countP P)) v v = x2 at *
  generalize l.countP (Rg.ahd c v P) = r at *
  generalize l.countP P = i at *
  have HS := hid hs2
  clear h1 h2 h4 hs hs2 hw e1 e2 e3 hP hal hnd
  go_enter Try.func45, Try.ntmps45
  go_upto_region 2 with fail
  have WL0 := WL.out w (Below.refl _ _)
  have WC0 := WC.out w (Below.refl _ _)
  go_wp2_with (first | (go_at_call 27; refine WL0.mono ?_; rintro e w' ⟨rfl, rfl⟩) | (go_at_call 58; refine WC0.mono ?_; rintro e w2 ⟨rfl, hb2⟩))
  go_wp2_with ((go_at_call 59; refine (WR.out w2 hb2).mono ?_; rintro e w3 ⟨rfl, hb3⟩))
  go_ret
  exact ⟨by rw [HS.out]; rfl, below_then hb2 hb3⟩
/-- The column to begin with. -/
theorem begin_any (t : Rg.T) (w : World) : Calls Try.prog 44 #[tv t] w fun e w' => e = .returned (.int .i64 (Rg.start t : Nat)) ∧ Below w.heap.size w w' := by
  unfold tv
  have AH := hid fun c hc W => ahead_any c hc W
  go_enter Try.func44, Try.ntmps44
  go_upto_region 1 with fail
  obtain ⟨w1, hw1, HX, HB, HD, hz⟩ := ids_box w t
  rw [← hw1]
  clear hw1
  go_wp2
  go_loopw [4] (fun s4 wr => ∃ i : Nat, i ≤ 3 ∧ s4 = .int .i64 i ∧ wr = w1 ∧ Hid (∀ j, j < i → ¬ (Rg.at' t j = 0 ∧ Rg.at' t (Rg.pv j) ≠ 0))) (fun s4 _ => 3 - (intOf s4).toNat)
  case atStart => exact ⟨0, by omega, rfl, rfl, fun j hj => absurd hj (Nat.not_lt_zero _)⟩
  case round =>
    obtain ⟨i, hi, rfl, hww, HE⟩ := hrel
    subst hww
    by_cases hlt : i < 3
    · have hpv := Rg.pv_lt i
      have c0 := HX.out.cell (tl_get t i hlt)
      have c1 := HX.out.cell (tl_get t (Rg.pv i) hpv)
      by_cases h0 : Rg.at' t i = 0
      · rw [h0] at c0
        by_cases h1 : Rg.at' t (Rg.pv i) = 0
        · rw [h1] at c1
          have H1 := hid h1
          clear h0 h1
          go_wp2_with (go_at_call 31; refine (AH.out _ hlt _).mono ?_; rintro e w' ⟨rfl, rfl⟩)
          go_roundw
          case rel =>
            refine ⟨i + 1, by omega, by go_num, trivial, fun j hj => ?_⟩
            by_cases hji : j < i
            · exact HE.out j hji
            · obtain rfl : j = i := by omega
              intro h; exact h.2 H1.out
          case measure => simp [intOf]; omega
        · have H0 := hid h0
          have H1 := hid h1
          clear h0
          go_wp2_with (go_at_call 31; refine (AH.out _ hlt _).mono ?_; rintro e w' ⟨rfl, rfl⟩)
          go_ret
          refine ⟨?_, HB.out⟩
          have he := HE.out
          have hs : Rg.start t = i := by
            have a0 := H0.out
            have a1 := H1.out
            have b0 := he 0
            have b1 := he 1
            unfold Rg.start
            rcases Rg.c3 hlt with rfl | rfl | rfl <;> simp [Rg.at', Rg.pv] at a0 a1 b0 b1 ⊢ <;> (repeat' split) <;> first | rfl | omega
          rw [hs]; rfl
      · have H0 := hid h0
        go_wp2_with (go_at_call 31; refine (AH.out _ hlt _).mono ?_; rintro e w' ⟨rfl, rfl⟩)
        go_roundw
        case rel =>
          refine ⟨i + 1, by omega, by go_num, trivial, fun j hj => ?_⟩
          by_cases hji : j < i
          · exact HE.out j hji
          · obtain rfl : j = i := by omega
            intro h; exact H0.out h.1
        case measure => simp [intOf]; omega
    · obtain rfl : i = 3 := by omega
      have hs : Rg.start t = 0 := by
        have b0 := HE.out 0 (by omega)
        have b1 := HE.out 1 (by omega)
        have b2 := HE.out 2 (by omega)
        unfold Rg.start
        simp [Rg.at', Rg.pv] at b0 b1 b2 ⊢
        (repeat' split) <;> first | rfl | omega
      have HS := hid hs
      clear hs
      go_wp2
      go_ret
      exact ⟨by rw [HS.out]; rfl, HB.out⟩
/-- A block of three cells. -/
theorem new3 (w : World) (a b c : Value) (t : TypeId) : ∃ w1, w1 = w.alloc (.cells #[a, b, c] t) ∧ Hid (Blk w1 w.heap.size [a, b, c] t) ∧ Hid (Below w.heap.size w w1) :=
  ⟨_, rfl, Blk.new w [a, b, c] t, (Below.refl _ _).alloc (Nat.le_refl _) _⟩
theorem set3 {w : World} {b : Nat} {x y z : Value} {t : TypeId} (h : Blk w b [x, y, z] t) (v0 v1 v2 : Value) : Blk (((w.setCell ⟨b, 0, none⟩ v0).setCell ⟨b, 1, none⟩ v1).setCell ⟨b, 2, none⟩ v2) b [v0, v1, v2] t := ((h.set 0 v0).set 1 v1).set 2 v2
theorem below_set3 {w X : World} {b : Nat} (h : Below w.heap.size w X) (hb : w.heap.size ≤ b) (v0 v1 v2 : Value) : Below w.heap.size w (((X.setCell ⟨b, 0, none⟩ v0).setCell ⟨b, 1, none⟩ v1).setCell ⟨b, 2, none⟩ v2) := ((h.setCell hb _).setCell hb _).setCell hb _
theorem blk_set3 {X : World} {b q : Nat} {A : List Value} {t : TypeId} (h : Blk X q A t) (hb : q ≠ b) (v0 v1 v2 : Value) : Blk (((X.setCell ⟨b, 0, none⟩ v0).setCell ⟨b, 1, none⟩ v1).setCell ⟨b, 2, none⟩ v2) q A t := ((h.other hb 0 v0).other hb 1 v1).other hb 2 v2
theorem rows_ret {fn : Func} {tmps : Array Value} {Z : World} {b k : Nat} {v0 v1 v2 : Value} (ht : tmps.getD k undef = .pointer (some ⟨b, 0, none⟩)) (hZ : Blk Z b [v0, v1, v2] 58) (hf : fn.results = #[.cell k 58]) :
    (results fn tmps).run Try.prog Z = .ok (.agg #[v0, v1, v2]) Z := by
  have h0 := hZ.cell (i := 0) rfl
  have h1 := hZ.cell (i := 1) rfl
  have h2 := hZ.cell (i := 2) rfl
  have ht' : tmps[k]?.getD undef = .pointer (some ⟨b, 0, none⟩) := by simpa using ht
  simp [results, hf, ht', go_sem, h0, h1, h2]
/-- The way from c, the place of the range told as counts. -/
def fv (l : List Rg.T) (r : Nat × (Rg.T → Bool) × (Rg.T → Bool)) : Value := .agg #[.int .i64 r.1, .int .i64 (l.countP r.2.1 : Nat), .int .i64 (l.countP r.2.2 : Nat)]
set_option maxHeartbeats 1000000 in
theorem find_any (p : Nat) (l : List Rg.T) (t : Rg.T) (w : World) (h : IsRing w p l) (ht : ∀ c, c < 3 → -9223372036854775808 ≤ Rg.at' t c) :
    Calls Try.prog 28 #[.pointer (some ⟨p, 0, none⟩), tv t] w fun e w' => e = .returned (fv l (Rg.fnd t)) ∧ Below w.heap.size w w' := by
  have AH := hid fun c hc W => ahead_any c hc W
  have BG := hid fun W => begin_any t W
  have HR := hid h
  have HT := hid ht
  have ST := hid (Rg.start_lt t)
  clear h ht
  unfold tv at *
  go_enter Try.func28, Try.ntmps28
  go_upto_region 1 with fail
  obtain ⟨w1, hw1, HX, HB, HD, hz⟩ := ids_box w t
  rw [← hw1]
  clear hw1
  obtain ⟨w2, hw2, HY, HB2⟩ := new3 w1 (.int .i64 0) (.int .i64 0) (.int .i64 0) 58
  rw [hz] at HY
  rw [← hw2]
  have c0 := (ids_cells (HX.out.keep HB2.out)).1
  have c1 := (ids_cells (HX.out.keep HB2.out)).2.1
  have c2 := (ids_cells (HX.out.keep HB2.out)).2.2
  have hz2 : w2.heap.size = w.heap.size + 1 + 1 := by rw [hw2]; simp [hz]
  clear hw2
  go_upto_region 2 with (go_at_call 44; refine (BG.out _).mono ?_; rintro e w3 ⟨rfl, hb3⟩)
  have RL := rlen_any p l w3 (HR.out.keep (below_then (below_then HB.out HB2.out) hb3))
  have HB4 := hid (below_then (below_then HB.out HB2.out) hb3)
  have HX4 := hid ((HX.out.keep HB2.out).keep hb3)
  have HY4 := hid (HY.out.keep hb3)
  have hz4 := hb3.size
  have HL := hid (show l.length ≤ 100 from HR.out.2.2.1)
  clear HX HY HB HB2 HD hb3 BG c0 c1 c2
  go_upto_region 3 with (go_at_call 15; refine RL.mono ?_; rintro e w4 ⟨rfl, rfl⟩)
  have hle := HB4.out.size
  obtain ⟨w5, hw5, HF5, HB5⟩ := new3 w4 (.int .i64 (Rg.start t : Nat)) (.int .i64 0) (.int .i64 l.length) 58
  rw [← hw5]
  have HX5 := hid (HX4.out.keep HB5.out)
  have HY5 := hid (HY4.out.keep HB5.out)
  have HB6 := hid (below_then HB4.out HB5.out)
  clear hw5 HX4 HY4 HB4 RL
  go_wp2
  go_loopw [13, 5] (fun s13 s5 wr => ∃ (k c : Nat) (P Q : Rg.T → Bool), k ≤ 3 ∧ c < 3 ∧ s13 = .int .i64 k ∧ s5 = .int .i64 c ∧ Hid (Below w.heap.size w wr) ∧ Hid (Blk wr w.heap.size (tl t) 24) ∧ Hid (Blk wr (w.heap.size + 1) [.int .i64 0, .int .i64 0, .int .i64 0] 58) ∧
      Hid (Blk wr w4.heap.size [.int .i64 c, .int .i64 (l.countP P : Nat), .int .i64 (l.countP Q : Nat)] 58) ∧ Hid (Rg.way t (3 - k) c P Q = Rg.fnd t) ∧ Hid (Rg.Lower c P) ∧ Hid (Rg.Lower c Q)) (fun s13 s5 _ => 3 - (intOf s13).toNat)
  case atStart =>
    refine ⟨0, Rg.start t, (fun _ => false), (fun _ => true), by omega, ST.out, rfl, rfl, HB6.out, HX5.out, HY5.out, ?_, rfl, fun _ _ _ h => h, fun _ _ _ h => h⟩
    have e1 : l.countP (fun _ => false) = 0 := by simp
    have e2 : l.countP (fun _ => true) = l.length := by simp
    rw [e1, e2]; exact HF5.out
  case round =>
    obtain ⟨k, c, P, Q, hk, hc, rfl, rfl, HB, HX, HY, HF, HW, HP, HQ⟩ := hrel
    have hcl := HL.out
    have q1 : l.countP P ≤ l.length := List.countP_le_length
    have q2 : l.countP Q ≤ l.length := List.countP_le_length
    by_cases hlt : k < 3
    · have hpv := Rg.pv_lt c
      have c0 := HX.out.cell (tl_get t (Rg.pv c) hpv)
      by_cases h0 : Rg.at' t (Rg.pv c) = 0
      · rw [h0] at c0
        have hw : Rg.fnd t = (c, P, Q) := by
          rw [← HW.out, show 3 - k = (3 - k - 1) + 1 by omega]
          unfold Rg.way
          rw [if_pos h0]
        have HWW := hid hw
        have d0 := HF.out.cell (i := 0) rfl
        have d1 := HF.out.cell (i := 1) rfl
        have d2 := HF.out.cell (i := 2) rfl
        have r0 := HY.out.cell (i := 0) rfl
        have r1 := HY.out.cell (i := 1) rfl
        have r2 := HY.out.cell (i := 2) rfl
        have s0 := HY.out.free 0
        have s1 := HY.out.free 1
        have s2 := HY.out.free 2
        clear h0 hw
        go_wp2_with (go_at_call 31; refine (AH.out _ hc _).mono ?_; rintro e w' ⟨rfl, rfl⟩)
        have HZ := hid (set3 HY.out (.int .i64 c) (.int .i64 (l.countP P : Nat)) (.int .i64 (l.countP Q : Nat)))
        exact bodyPost_ret (v := fv l (c, P, Q)) (rows_ret rfl HZ.out Try.results28) rfl ⟨by rw [HWW.out], below_set3 HB.out (by omega) _ _ _⟩
      · have hv := HT.out (Rg.pv c) hpv
        obtain ⟨x, hx⟩ : ∃ x, x = Rg.at' t (Rg.pv c) := ⟨_, rfl⟩
        rw [← hx] at c0 h0 hv
        have d0 := HF.out.cell (i := 0) rfl
        have d1 := HF.out.cell (i := 1) rfl
        have d2 := HF.out.cell (i := 2) rfl
        have hRn := HR.out.keep HB.out
        have S1 := hid fun q : Later wr.heap.size wr => step_any p c l P x q.it (hRn.keep q.low) hc HP.out hv
        have S2 := hid fun q : Later wr.heap.size wr => step_any p c l Q x q.it (hRn.keep q.low) hc HQ.out hv
        have g0 := fun q : Later wr.heap.size wr => q.keep c0
        have g1 := fun q : Later wr.heap.size wr => q.keep d0
        have g2 := fun q : Later wr.heap.size wr => q.keep d1
        have g3 := fun q : Later wr.heap.size wr => q.keep d2
        have hnw : Rg.way t (3 - (k + 1)) (Rg.pv c) (Rg.ahd c x P) (Rg.ahd c x Q) = Rg.fnd t := by
          rw [← HW.out, show 3 - k = (3 - (k + 1)) + 1 by omega]
          conv => rhs; unfold Rg.way
          rw [← hx, if_neg h0]
        have HNW := hid hnw
        have HP2 := hid (Rg.lower_ahd hc x HP.out)
        have HQ2 := hid (Rg.lower_ahd hc x HQ.out)
        obtain ⟨n1, hn1⟩ : ∃ n1, n1 = l.countP (Rg.ahd c x P) := ⟨_, rfl⟩
        obtain ⟨n2, hn2⟩ : ∃ n2, n2 = l.countP (Rg.ahd c x Q) := ⟨_, rfl⟩
        rw [← hn1] at S1
        rw [← hn2] at S2
        have HN1 := hid hn1
        have HN2 := hid hn2
        clear hx hRn hnw hn1 hn2 HW
        go_upto_region 6 with (go_at_call 31; refine (AH.out _ hc _).mono ?_; rintro e w' ⟨rfl, hww⟩; have hw2 := hww.symm; subst hw2)
        refine wp_region_later_tail 21 wr.heap.size (by kernel_rfl) (by kernel_rfl) ?_
        simp only [List.take_succ_cons, List.take_zero, List.drop_succ_cons, List.drop_zero]
        repeat (go_big_quiet_step (first | (go_at_call 31; with_reducible exact Later.call_same (AH.out _ hc _)) | (go_at_call 45; with_reducible exact Later.call (Nat.le_refl _) (S1.out _)) | (go_at_call 45; with_reducible exact Later.call (Nat.le_refl _) (S2.out _))))
        refine wpQuiet_nil ?_
        rintro wq ⟨q, hq⟩
        have hlow : Below wr.heap.size wr wq := by rw [hq]; exact q.low
        have HFq := hid (HF.out.keep hlow)
        have HXq := hid (HX.out.keep hlow)
        have HYq := hid (HY.out.keep hlow)
        have HBq := hid (below_then HB.out hlow)
        have k0 := HFq.out.cell (i := 0) rfl
        have k1 := HFq.out.cell (i := 1) rfl
        have k2 := HFq.out.cell (i := 2) rfl
        have s0 := HFq.out.free 0
        have s1 := HFq.out.free 1
        have s2 := HFq.out.free 2
        have hxlt := HXq.out.lt
        clear g0 g1 g2 g3 d0 d1 d2 c0 S1 S2 hq q hlow
        go_upto_region 7 with fail
        go_wp2_with (go_at_call 31; refine (AH.out _ hc _).mono ?_; rintro e w' ⟨rfl, rfl⟩)
        go_roundw
        case rel =>
          refine ⟨k + 1, Rg.pv c, Rg.ahd c x P, Rg.ahd c x Q, by omega, hpv, by go_num, rfl, hid (below_set3 HBq.out (by omega) _ _ _), hid (blk_set3 HXq.out (by omega) _ _ _), hid (blk_set3 HYq.out (by omega) _ _ _), hid ?_, HNW, HP2, HQ2⟩
          rw [← HN1.out, ← HN2.out]
          exact set3 HFq.out _ _ _
        case measure => simp [intOf]; omega
    · obtain rfl : k = 3 := by omega
      have hw : Rg.fnd t = (c, P, Q) := by rw [← HW.out]; rfl
      have HWW := hid hw
      have d0 := HF.out.cell (i := 0) rfl
      have d1 := HF.out.cell (i := 1) rfl
      have d2 := HF.out.cell (i := 2) rfl
      have r0 := HY.out.cell (i := 0) rfl
      have r1 := HY.out.cell (i := 1) rfl
      have r2 := HY.out.cell (i := 2) rfl
      have s0 := HY.out.free 0
      have s1 := HY.out.free 1
      have s2 := HY.out.free 2
      clear hw
      go_wp2
      have HZ := hid (set3 HY.out (.int .i64 c) (.int .i64 (l.countP P : Nat)) (.int .i64 (l.countP Q : Nat)))
      exact bodyPost_ret (v := fv l (c, P, Q)) (rows_ret rfl HZ.out Try.results28) rfl ⟨by rw [HWW.out], below_set3 HB.out (by omega) _ _ _⟩
end Go.Proofs.Ytagadfgginneeaa
