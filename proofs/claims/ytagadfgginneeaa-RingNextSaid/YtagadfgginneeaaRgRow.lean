/- A ring: a row of an order, how many match. -/
import Derived.Test.YtagadfgginneeaaRgAsk
namespace Go.Proofs.Ytagadfgginneeaa
set_option linter.unusedVariables false
set_option linter.unusedSimpArgs false
set_option maxRecDepth 100000
open Go.ChangeShapes Go.WideShapes Go.ChangeAt Go.RowKit
def setT (t : Rg.T) (d : Nat) (v : Int) : Rg.T := if d = 0 then (v, t.2.1, t.2.2) else if d = 1 then (t.1, v, t.2.2) else (t.1, t.2.1, v)
theorem tl_set (t : Rg.T) (d : Nat) (v : Int) (h : d < 3) : (tl t).set d (.int .i64 v) = tl (setT t d v) := by
  rcases Rg.c3 h with rfl | rfl | rfl <;> rfl
theorem at_set (t : Rg.T) (d e : Nat) (v : Int) (h : d < 3) (k : e < 3) : Rg.at' (setT t d v) e = if e = d then v else Rg.at' t e := by
  rcases Rg.c3 h with rfl | rfl | rfl <;> rcases Rg.c3 k with rfl | rfl | rfl <;> rfl
theorem at_ext {a b : Rg.T} (h : ∀ d, d < 3 → Rg.at' a d = Rg.at' b d) : a = b := Rg.ext (h 0 (by omega)) (h 1 (by omega)) (h 2 (by omega))
/-- The column k steps ahead. -/
def pvk (c k : Nat) : Nat := (c + 2 * k) % 3
theorem pvk_lt (c k : Nat) : pvk c k < 3 := Nat.mod_lt _ (by decide)
theorem pvk_zero (c : Nat) (h : c < 3) : pvk c 0 = c := by unfold pvk; omega
theorem pvk_succ (c k : Nat) : Rg.pv (pvk c k) = pvk c (k + 1) := by unfold pvk Rg.pv; omega
theorem A_at {l : List Rg.T} {c i : Nat} {t : Rg.T} (h : (Rg.O l c)[i]? = some t) (ht : Rg.Ok t) : (((Rg.A l c).getD i 0 : Nat) : Int) = Rg.at' t (Rg.pv c) := by
  unfold Rg.A
  rw [List.getD, List.getElem?_map, h]
  have := ht (Rg.pv c) (Rg.pv_lt c)
  simp; omega
theorem two_zero (w : World) : ∃ w1, w1 = (w.alloc (.cells #[.int .i64 0, .int .i64 0, .int .i64 0] 24)).alloc (.cells #[.int .i64 0, .int .i64 0, .int .i64 0] 24) ∧ Hid (Blk w1 w.heap.size (tl (0, 0, 0)) 24) ∧ Hid (Blk w1 (w.heap.size + 1) (tl (0, 0, 0)) 24) ∧ Hid (Below w.heap.size w w1) :=
  ⟨_, rfl, (Blk.new w (tl (0, 0, 0)) 24).alloc _, Blk.new' (by simp) rfl, ((Below.refl _ _).alloc (Nat.le_refl _) _).alloc (by simp) _⟩
set_option maxHeartbeats 1000000 in
theorem row_any (p c i : Nat) (l : List Rg.T) (t : Rg.T) (w : World) (h : IsRing w p l) (hc : c < 3) (hi : (Rg.O l c)[i]? = some t) :
    Calls Try.prog 29 #[.pointer (some ⟨p, 0, none⟩), .int .i64 c, .int .i64 i] w fun e w' => e = .returned (tv t) ∧ Below w.heap.size w w' := by
  have hil : i < l.length := by
    have := (List.getElem?_eq_some_iff.1 hi).1
    rwa [Rg.O_length] at this
  obtain ⟨hidx, hmem⟩ := Rg.idx_at hc h.nodup hil hi
  have HR := hid h
  have HM := hid hmem
  have HND := hid h.nodup
  have HOK := hid (h.2.1 t hmem)
  have HL := hid (show l.length ≤ 100 from h.2.2.1)
  have AH := hid fun c hc W => ahead_any c hc W
  have HI := hid hidx
  clear h hmem hi hidx
  go_enter Try.func29, Try.ntmps29
  go_upto_region 2 with fail
  obtain ⟨w1, hw1, HX, HY, HB⟩ := two_zero w
  rw [show (w.alloc (.cells #[.int .i64 0, .int .i64 0, .int .i64 0] 24)).alloc (.cells #[.int .i64 0, .int .i64 0, .int .i64 0] 24) = w1 from hw1.symm]
  clear hw1
  go_wp2
  go_loopw [9, 1, 2] (fun s9 s1 s2 wr => ∃ (k : Nat) (tc : Rg.T), k ≤ 3 ∧ s9 = .int .i64 k ∧ s1 = .int .i64 (pvk c k : Nat) ∧ s2 = .int .i64 (l.countP (fun s => decide (Rg.ltc (pvk c k) s t)) : Nat) ∧ Hid (Below w.heap.size w wr) ∧ Hid (Blk wr w.heap.size (tl (0, 0, 0)) 24) ∧ Hid (Blk wr (w.heap.size + 1) (tl tc) 24) ∧ Hid (∀ j, 1 ≤ j → j ≤ k → Rg.at' tc (pvk c j) = Rg.at' t (pvk c j))) (fun s9 _ _ _ => 3 - (intOf s9).toNat)
  case atStart =>
    refine ⟨0, (0, 0, 0), by omega, rfl, by rw [pvk_zero c hc], ?_, HB.out, HX.out, HY.out, fun j h1 h2 => by omega⟩
    rw [pvk_zero c hc, HI.out]
  case round =>
    obtain ⟨k, tc, hk, rfl, rfl, rfl, HB, HX, HY, HD⟩ := hrel
    have hcl := HL.out
    have hck := pvk_lt c k
    obtain ⟨q1, q2⟩ := Rg.at_idx hck HND.out HM.out
    by_cases hlt : k < 3
    · have hRn := HR.out.keep HB.out
      obtain ⟨_, _, _, pw, h4⟩ := hRn
      obtain ⟨c0, hwv⟩ := h4 _ hck
      have ha := A_at q2 HOK.out
      have hst := step_any p (pvk c k) l (fun s => decide (Rg.ltc (pvk c k) s t)) (Rg.at' t (Rg.pv (pvk c k))) wr
      have hP : Rg.ahd (pvk c k) (Rg.at' t (Rg.pv (pvk c k))) (fun s => decide (Rg.ltc (pvk c k) s t)) = fun s => decide (Rg.ltc (Rg.pv (pvk c k)) s t) := funext fun s => Rg.ahd_idx hck s t
      have hv := HOK.out (Rg.pv (pvk c k)) (Rg.pv_lt _)
      have WA := wacc_in (pw (pvk c k)) 10 (l.countP (fun s => decide (Rg.ltc (pvk c k) s t))) (Rg.A l (pvk c k)) wr hwv (by rw [Rg.A_length]; exact q1)
      rw [ha] at WA
      have ST := hid fun W (hb : Below wr.heap.size wr W) => step_any p (pvk c k) l (fun s => decide (Rg.ltc (pvk c k) s t)) (Rg.at' t (Rg.pv (pvk c k))) W ((HR.out.keep HB.out).keep hb) hck (Rg.lower_idx t) (by omega)
      rw [hP] at ST
      have hd := pvk_lt c (k + 1)
      rw [pvk_succ] at WA ST hv
      obtain ⟨x, hx⟩ : ∃ x, x = Rg.at' t (pvk c (k + 1)) := ⟨_, rfl⟩
      rw [← hx] at WA ST hv
      have HXX := hid hx
      clear hst hP q2 ha hwv h4 hx
      have AH2 := hid fun W => AH.out (pvk c k) hck W
      rw [pvk_succ] at AH2
      have ST0 := ST.out wr (Below.refl _ _)
      generalize hi0 : l.countP (fun s => decide (Rg.ltc (pvk c k) s t)) = i0 at *
      generalize hi1 : l.countP (fun s => decide (Rg.ltc (pvk c (k + 1)) s t)) = i1 at *
      have HI1 := hid hi1
      clear hi0 hi1 ST0
      go_upto_region 5 with (go_at_call 46; refine WA.mono ?_; rintro e w2 ⟨rfl, hb2⟩)
      have ST2 := ST.out w2 hb2
      have HB2 := hid hb2
      clear ST WA
      go_upto_region 6 with (go_at_call 45; refine ST2.mono ?_; rintro e w3 ⟨rfl, hb3⟩)
      have HY3 := hid (HY.out.keep (below_then HB2.out hb3))
      have HX3 := hid (HX.out.keep (below_then HB2.out hb3))
      have HB3 := hid (below_then HB.out (below_then HB2.out hb3))
      have c1 := HY3.out.cell (tl_get tc _ hd)
      have f1 := HY3.out.free (pvk c (k + 1))
      clear ST2 hb3 HY HX HB HB2 hb2 c0
      generalize hdd : pvk c (k + 1) = d at *
      have HDD := hid hdd
      clear hdd
      go_wp2_with (go_at_call 31; refine (AH2.out _).mono ?_; rintro e w' ⟨rfl, hww⟩; have hw2 := hww.symm; subst hw2)
      go_roundw
      case rel =>
        refine ⟨k + 1, setT tc d x, by omega, by go_num, by rw [HDD.out], by rw [HDD.out, HI1.out], HB3.out.setCell (by show w.heap.size ≤ w.heap.size + 1; omega) _, HX3.out.other (by omega) _ _, ?_, ?_⟩
        · rw [← tl_set _ _ _ hd]; exact HY3.out.set d _
        · intro j h1 h2
          have hj := pvk_lt c j
          rw [at_set _ _ _ _ hd hj]
          split
          · rename_i e; rw [e]; exact HXX.out
          · rename_i e
            refine HD.out j h1 ?_
            have : j ≠ k + 1 := by intro e'; apply e; rw [e']; exact HDD.out
            omega
      case measure => simp [intOf]; omega
    · obtain rfl : k = 3 := by omega
      have hte : tc = t := at_ext fun d hd => by
        obtain ⟨j, h1, h2, h3⟩ : ∃ j, 1 ≤ j ∧ j ≤ 3 ∧ pvk c j = d := by
          rcases Rg.c3 hc with rfl | rfl | rfl <;> rcases Rg.c3 hd with rfl | rfl | rfl
          · exact ⟨3, by omega, by omega, rfl⟩
          · exact ⟨2, by omega, by omega, rfl⟩
          · exact ⟨1, by omega, by omega, rfl⟩
          · exact ⟨1, by omega, by omega, rfl⟩
          · exact ⟨3, by omega, by omega, rfl⟩
          · exact ⟨2, by omega, by omega, rfl⟩
          · exact ⟨2, by omega, by omega, rfl⟩
          · exact ⟨1, by omega, by omega, rfl⟩
          · exact ⟨3, by omega, by omega, rfl⟩
        rw [← h3]; exact HD.out j h1 h2
      subst hte
      have d0 := (ids_cells HY.out).1
      have d1 := (ids_cells HY.out).2.1
      have d2 := (ids_cells HY.out).2.2
      have r0 := HX.out.cell (i := 0) rfl
      have r1 := HX.out.cell (i := 1) rfl
      have r2 := HX.out.cell (i := 2) rfl
      have s0 := HX.out.free 0
      have s1 := HX.out.free 1
      have s2 := HX.out.free 2
      clear q1 q2
      go_wp2
      have HZ := hid (set3 HX.out (.int .i64 tc.1) (.int .i64 tc.2.1) (.int .i64 tc.2.2))
      exact bodyPost_ret (v := tv tc) (ids_ret rfl HZ.out Try.results29) rfl ⟨rfl, below_set3 HB.out (by omega) _ _ _⟩
theorem count_nil (t : Rg.T) (w : World) : Calls Try.prog 16 #[.pointer none, tv t] w fun e w' => e = .returned (.int .i64 0) ∧ Below w.heap.size w w' := by
  unfold tv
  go_enter Try.func16, Try.ntmps16
  go_upto_region 1 with fail
  obtain ⟨w1, hw1, HX, HB, HD, hz⟩ := ids_box w t
  rw [← hw1]
  clear hw1
  go_wp2
  go_ret
  exact ⟨rfl, HB.out⟩
theorem count_any (p : Nat) (l : List Rg.T) (t : Rg.T) (w : World) (h : IsRing w p l) (ht : ∀ c, c < 3 → -9223372036854775808 ≤ Rg.at' t c) :
    Calls Try.prog 16 #[.pointer (some ⟨p, 0, none⟩), tv t] w fun e w' => e = .returned (.int .i64 (l.countP (Rg.mt t) : Nat)) ∧ Below w.heap.size w w' := by
  have HR := hid h
  have HT := hid ht
  have hce := Rg.count_eq l t
  have hL := h.2.2.1
  have hq : l.countP (Rg.fnd t).2.2 ≤ l.length := List.countP_le_length
  clear h ht
  unfold tv
  go_enter Try.func16, Try.ntmps16
  go_upto_region 1 with fail
  obtain ⟨w1, hw1, HX, HB, HD, hz⟩ := ids_box w t
  rw [← hw1]
  obtain ⟨c0, c1, c2⟩ := ids_cells HX.out
  clear hw1
  have FD := find_any p l t w1 (HR.out.keep HB.out) HT.out
  unfold fv tv at FD
  obtain ⟨r, hr⟩ : ∃ r, r = (l.countP (Rg.mt t) : Nat) := ⟨_, rfl⟩
  have HRR := hid hr
  rw [← hr] at hce
  clear hr
  generalize (Rg.fnd t).1 = cc at *
  generalize l.countP (Rg.fnd t).2.1 = n1 at *
  generalize l.countP (Rg.fnd t).2.2 = n2 at *
  go_wp2_with (go_at_call 28; refine FD.mono ?_; rintro e w2 ⟨rfl, hb2⟩)
  go_ret
  refine ⟨?_, (below_then HB.out hb2).alloc (by have := (below_then HB.out hb2).size; omega) _⟩
  rw [← HRR.out]
  show Ending.returned (Value.int .i64 ((n2 : Int) - n1)) = _
  rw [show (n2 : Int) - n1 = (r : Nat) by omega]
end Go.Proofs.Ytagadfgginneeaa
