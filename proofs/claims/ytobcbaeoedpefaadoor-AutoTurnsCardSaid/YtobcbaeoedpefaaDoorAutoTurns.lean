/- AutoTurns: the Back of a path has just its words, the other way round, and two Backs undo one another, for every path and word. -/
import Derived.Test.YtobcbaeoedpefaaDoorAuLaid
import Derived.Test.YtobcbaeoedpefaaDoorAuLaw3
namespace Go.Proofs.YtobcbaeoedpefaaDoor
set_option linter.unusedVariables false
set_option linter.unusedSimpArgs false
set_option maxRecDepth 100000
open Go.ChangeShapes Go.WideShapes Go.ChangeAt Go.RowKit
open Au
theorem wf_less {x : Pt} : ∀ {d : Nat}, x.wf (d + 1) = true → x.wf d = true := by
  induction x using Pt.ind with
  | h k t L K ih =>
    intro d h
    rw [wf_mk] at h ⊢
    simp only [Bool.and_eq_true, decide_eq_true_eq, Pt.wfs_all] at h ⊢
    exact ⟨⟨⟨by omega, h.1.1.2⟩, h.1.2⟩, fun y hy => ih y hy (h.2 y hy)⟩
theorem back_may {x : Pt} (h : (Pt.mk 2 [] [] [x]).may = true) : x.wf 1 = true ∧ x.may = true := by
  unfold Pt.may at h
  rw [wf_mk, size_mk] at h
  simp only [Bool.and_eq_true, decide_eq_true_eq, Pt.wfs_all, Pt.sizes] at h
  have h1 := h.1.2 x (by simp)
  refine ⟨h1, ?_⟩
  unfold Pt.may
  rw [Bool.and_eq_true, decide_eq_true_eq]
  have h2 : 1 + (x.size + 0) ≤ 30 := of_decide_eq_true h.2
  exact ⟨wf_less h1, by omega⟩
theorem turns_may {x : Pt} (h : (Pt.mk 2 [] [] [.mk 2 [] [] [x]]).may = true) : x.wf 2 = true ∧ (Pt.mk 2 [] [] [x]).may = true := by
  have h1 := (back_may h).1
  refine ⟨?_, (back_may h).2⟩
  rw [wf_mk] at h1
  simp only [Bool.and_eq_true, Pt.wfs_all] at h1
  exact h1.2 x (by simp)
theorem rx_back (x : Pt) (b : Bool) : (Pt.mk 2 [] [] [x]).rx b = x.rx (!b) := by rw [Pt.rx]; rfl
theorem rx_turnf (x : Pt) : x.rx true = (x.rx false).turn := Pt.rx_turn x false
set_option maxHeartbeats 16000000 in
theorem autoTurns_any (x : Pt) (v u y : Value) (L : List Stp) (w : World) (hP : PtAt w v u x) (hL : StepsAt w y L) (hlow : ∀ t ∈ L, t.low) (hT : T8 w) :
    Calls Tryd.prog 5 #[pv x v u, y] w fun e w' => e = .returned (.bool true) ∧ Below w.heap.size w w' := by
  obtain ⟨a0, n0, c0, a1, n1, c1, rfl, rfl⟩ := pv_open hP
  obtain ⟨ya, yc, rfl, hyl, hym⟩ := hL.open
  obtain ⟨w1, hw1⟩ : ∃ w1, w1 = w.alloc (.cells #[.int .i64 x.kind, str x.text, .slice a0 n0 c0, .slice a1 n1 c1] 25) := ⟨_, rfl⟩
  have hb1 : Below w.heap.size w w1 := by rw [hw1]; exact (Below.refl _ _).alloc (Nat.le_refl _) _
  have hX : Blk w1 w.heap.size [.int .i64 x.kind, str x.text, .slice a0 n0 c0, .slice a1 n1 c1] 25 := by rw [hw1]; exact Blk.new w _ _
  have BG := big_any _ w1 _ _ 0 (hP.keep hb1) (by omega)
  have WD := hid fun W (hb : Below w1.heap.size w1 W) => word_any _ L W ((hL.keep hb1).keep hb) hlow
  have RI := hid fun W (hb : Below w1.heap.size w1 W) => rispath_any _ _ _ W ((hP.keep hb1).keep hb) ((hT.keep hb1).keep hb)
  unfold pv at BG RI ⊢
  obtain ⟨bg, hbg⟩ : ∃ z, z = bigP 0 x := ⟨_, rfl⟩
  obtain ⟨wd, hwd⟩ : ∃ z, z = wordB L := ⟨_, rfl⟩
  obtain ⟨im, him⟩ : ∃ z, z = x.may := ⟨_, rfl⟩
  rw [← hbg] at BG
  rw [← hwd] at WD
  rw [← him] at RI
  have BG := hid BG
  have HB1 := hid hb1
  have HX := hid hX
  have HP := hid hP
  have HL := hid hL
  have HT := hid hT
  have HWD := hid hwd
  have HM := hid him
  obtain ⟨x0, x1, x2, x3⟩ := blk4 hX
  obtain ⟨m, hm⟩ : ∃ m, m = L.length := ⟨_, rfl⟩
  have HML := hid hm
  rw [← hm] at WD hyl ⊢
  clear hb1 hX hP hL hT hwd him hm hbg
  have early : Hid (∀ e w2, e = Ending.returned (.bool true) → Below w1.heap.size w1 w2 → e = .returned (.bool true) ∧ Below w.heap.size w w2) := fun e w2 h hb => ⟨h, below_then HB1.out hb⟩
  cases bg
  case true =>
    go_enter Tryd.func5, Tryd.ntmps5
    go_upto_region 1 with fail
    rw [← hw1]
    clear hw1
    go_wp2_with (go_at_call 13; refine BG.out.mono ?_; rintro e w2 ⟨rfl, hb2⟩)
    go_ret
    exact early.out _ _ rfl hb2
  cases wd
  case false =>
    go_enter Tryd.func5, Tryd.ntmps5
    go_upto_region 1 with fail
    rw [← hw1]
    clear hw1
    go_wp2_with (first
      | (go_at_call 13; refine BG.out.mono ?_; rintro e w2 ⟨rfl, hb2⟩; have HB2 := hid hb2; clear hb2)
      | (go_at_call 22; refine (WD.out _ HB2.out).mono ?_; rintro e wq ⟨rfl, hw⟩; rw [hw]; clear hw wq))
    go_ret
    exact early.out _ _ rfl HB2.out
  cases im
  case false =>
    go_enter Tryd.func5, Tryd.ntmps5
    go_upto_region 1 with fail
    rw [← hw1]
    clear hw1
    go_wp2_with (first
      | (go_at_call 13; refine BG.out.mono ?_; rintro e w2 ⟨rfl, hb2⟩; have x0 := below_keep hb2 x0; have x1 := below_keep hb2 x1; have x2 := below_keep hb2 x2; have x3 := below_keep hb2 x3; have HB2 := hid hb2; clear hb2)
      | (go_at_call 22; refine (WD.out _ HB2.out).mono ?_; rintro e wq ⟨rfl, hw⟩; rw [hw]; clear hw wq)
      | (go_at_call 26; refine (RI.out _ HB2.out).mono ?_; rintro e w3 ⟨rfl, hb3⟩))
    go_ret
    exact early.out _ _ rfl (below_then HB2.out hb3)
  go_enter Tryd.func5, Tryd.ntmps5
  go_upto_region 1 with fail
  rw [← hw1]
  clear hw1
  go_upto_region 3 with (first
    | (go_at_call 13; refine BG.out.mono ?_; rintro e w2 ⟨rfl, hb2⟩; have x0 := below_keep hb2 x0; have x1 := below_keep hb2 x1; have x2 := below_keep hb2 x2; have x3 := below_keep hb2 x3; have HB2 := hid hb2; clear hb2)
    | (go_at_call 22; refine (WD.out _ HB2.out).mono ?_; rintro e wq ⟨rfl, hw⟩; rw [hw]; clear hw wq)
    | (go_at_call 26; refine (RI.out _ HB2.out).mono ?_; rintro e w3 ⟨rfl, hb3⟩; have x0 := below_keep hb3 x0; have x1 := below_keep hb3 x1; have x2 := below_keep hb3 x2; have x3 := below_keep hb3 x3; have HB3 := hid (below_then HB2.out hb3); clear hb3))
  obtain ⟨w4, hw4⟩ : ∃ w4, w4 = (w3.alloc (.cells #[.int .i64 x.kind, str x.text, .slice a0 n0 c0, .slice a1 n1 c1] 25)).alloc (.cells #[.int .i64 2, .string ⟨#[]⟩, .slice none 0 0, .slice (some ⟨w3.heap.size, 0, none⟩) 1 1] 25) := ⟨_, rfl⟩
  obtain ⟨w5, hw5⟩ : ∃ w5, w5 = (w4.alloc (.cells #[.int .i64 2, .string ⟨#[]⟩, .slice none 0 0, .slice (some ⟨w3.heap.size, 0, none⟩) 1 1] 25)).alloc (.cells #[.int .i64 2, .string ⟨#[]⟩, .slice none 0 0, .slice (some ⟨w4.heap.size, 0, none⟩) 1 1] 25) := ⟨_, rfl⟩
  have hz4 : w4.heap.size = w3.heap.size + 2 := by rw [hw4]; simp
  have hb4 : Below w3.heap.size w3 w4 := by rw [hw4]; exact ((Below.refl _ _).alloc (Nat.le_refl _) _).alloc (by simp) _
  have hb5 : Below w4.heap.size w4 w5 := by rw [hw5]; exact ((Below.refl _ _).alloc (Nat.le_refl _) _).alloc (by simp) _
  have k0 : Blk w4 w3.heap.size [.int .i64 x.kind, str x.text, .slice a0 n0 c0, .slice a1 n1 c1] 25 := by rw [hw4]; exact (Blk.new w3 _ _).alloc _
  have k1 : Blk w4 (w3.heap.size + 1) [.int .i64 2, .string ⟨#[]⟩, .slice none 0 0, .slice (some ⟨w3.heap.size, 0, none⟩) 1 1] 25 := by rw [hw4]; exact Blk.new' (by simp) rfl
  have k2 : Blk w5 w4.heap.size [.int .i64 2, .string ⟨#[]⟩, .slice none 0 0, .slice (some ⟨w3.heap.size, 0, none⟩) 1 1] 25 := by rw [hw5]; exact (Blk.new w4 _ _).alloc _
  have k3 : Blk w5 (w4.heap.size + 1) [.int .i64 2, .string ⟨#[]⟩, .slice none 0 0, .slice (some ⟨w4.heap.size, 0, none⟩) 1 1] 25 := by rw [hw5]; exact Blk.new' (by simp) rfl
  have HB5 := hid (HB3.out.trans (((hb4.trans (hb5.mono hb4.size))).mono HB3.out.size))
  have HB05 := hid (below_then HB1.out HB5.out)
  have hP5 := HP.out.keep HB05.out
  have hQ5 := pt_one 2 (by decide) (k0.keep hb5) hP5
  have hR5 := pt_one (x := .mk 2 [] [] [x]) 2 (by decide) k2 hQ5
  have HT5 := hid (HT.out.keep HB05.out)
  have HP5 := hid hP5
  have HQ5 := hid hQ5
  have HR5 := hid hR5
  have HX5 := hid (HX.out.keep HB5.out)
  have HK1 := hid (k1.keep hb5)
  have HK3 := hid k3
  obtain ⟨p0, p1, p2, p3⟩ := blk4 HX5.out
  obtain ⟨q0, q1, q2, q3⟩ := blk4 HK1.out
  obtain ⟨r0, r1, r2, r3⟩ := blk4 HK3.out
  obtain ⟨i0, i1, i2, i3⟩ := blk4 k1
  have HZ4 := hid hz4
  clear hz4 hb4 hb5 k0 k1 k2 k3 hP5 hQ5 hR5
  go_upto_region 4 with fail
  rw [← hw4]
  clear hw4
  go_upto_region 5 with fail
  rw [← hw5]
  clear hw5 i0 i1 i2 i3 x0 x1 x2 x3
  by_cases hc : 200 < Rx.cnt (x.rx false)
  case pos =>
    have N1 := new_full HP5.out HT5.out HM.out.symm hc
    have N2 := fun W (hb : Below w5.heap.size w5 W) => new_some (HQ5.out.keep hb) (HT5.out.keep hb)
    have N3 := fun W (hb : Below w5.heap.size w5 W) => new_some (HR5.out.keep hb) (HT5.out.keep hb)
    unfold pv at N1 N2 N3
    simp only [Pt.kind, Pt.text] at N1 N2 N3
    have N1 := hid N1
    have N2 := hid N2
    have N3 := hid N3
    go_wp2_with fail
    refine N1.out.mono ?_
    rintro e w6 ⟨rfl, hb6⟩
    have HB6 := hid hb6
    have q0 := below_keep hb6 q0
    have q1 := below_keep hb6 q1
    have q2 := below_keep hb6 q2
    have q3 := below_keep hb6 q3
    have r0 := below_keep hb6 r0
    have r1 := below_keep hb6 r1
    have r2 := below_keep hb6 r2
    have r3 := below_keep hb6 r3
    clear hb6
    go_wp2_with fail
    refine (N2.out _ HB6.out).mono ?_
    rintro e w7 ⟨⟨pq, kq, rfl⟩, hb7⟩
    have HB7 := hid (below_then HB6.out hb7)
    have r0 := below_keep hb7 r0
    have r1 := below_keep hb7 r1
    have r2 := below_keep hb7 r2
    have r3 := below_keep hb7 r3
    clear hb7
    go_wp2_with fail
    refine (N3.out _ HB7.out).mono ?_
    rintro e w8 ⟨⟨pr, kr, rfl⟩, hb8⟩
    have HB8 := hid (below_then HB7.out hb8)
    clear hb8
    go_wp2
    go_ret
    exact ⟨rfl, HB05.out.trans (HB8.out.mono HB05.out.size)⟩
  have N1 := new_ok HP5.out HT5.out HM.out.symm (by omega)
  by_cases hr : (Pt.mk 2 [] [] [.mk 2 [] [] [x]]).may = true
  case neg =>
    have hr : (Pt.mk 2 [] [] [.mk 2 [] [] [x]]).may = false := by simpa using hr
    have N2 := fun W (hb : Below w5.heap.size w5 W) => new_some (HQ5.out.keep hb) (HT5.out.keep hb)
    have N3 := fun W (hb : Below w5.heap.size w5 W) => new_bad (HR5.out.keep hb) (HT5.out.keep hb) hr
    have N4 := fun W (hb : Below w5.heap.size w5 W) => rispath_any _ _ _ W (HR5.out.keep hb) (HT5.out.keep hb)
    rw [hr] at N4
    unfold pv at N1 N2 N3 N4
    simp only [Pt.kind, Pt.text] at N1 N2 N3 N4
    have N1 := hid N1
    have N2 := hid N2
    have N3 := hid N3
    have N4 := hid N4
    go_wp2_with fail
    refine N1.out.mono ?_
    rintro e w6 ⟨p, rfl, hb6, hA6⟩
    have HB6 := hid hb6
    have q0 := below_keep hb6 q0
    have q1 := below_keep hb6 q1
    have q2 := below_keep hb6 q2
    have q3 := below_keep hb6 q3
    have r0 := below_keep hb6 r0
    have r1 := below_keep hb6 r1
    have r2 := below_keep hb6 r2
    have r3 := below_keep hb6 r3
    clear hb6 hA6
    go_wp2_with fail
    refine (N2.out _ HB6.out).mono ?_
    rintro e w7 ⟨⟨pq, kq, rfl⟩, hb7⟩
    have HB7 := hid (below_then HB6.out hb7)
    have r0 := below_keep hb7 r0
    have r1 := below_keep hb7 r1
    have r2 := below_keep hb7 r2
    have r3 := below_keep hb7 r3
    clear hb7
    go_wp2_with fail
    refine (N3.out _ HB7.out).mono ?_
    rintro e w8 ⟨rfl, hb8⟩
    have HB8 := hid (below_then HB7.out hb8)
    have r0 := below_keep hb8 r0
    have r1 := below_keep hb8 r1
    have r2 := below_keep hb8 r2
    have r3 := below_keep hb8 r3
    clear hb8
    by_cases hk : kq = 0
    · subst hk
      go_wp2_with (go_at_call 26; refine (N4.out _ HB8.out).mono ?_; rintro e w9 ⟨rfl, hb9⟩)
      go_ret
      exact ⟨rfl, HB05.out.trans ((below_then HB8.out hb9).mono HB05.out.size)⟩
    · have hk1 : (kq == 0) = false := beq_eq_false_iff_ne.2 hk
      have hk2 : (kq != 0) = true := bne_iff_ne.2 hk
      go_wp2_with (go_at_call 26; refine (N4.out _ HB8.out).mono ?_; rintro e w9 ⟨rfl, hb9⟩)
      go_ret
      exact ⟨rfl, HB05.out.trans ((below_then HB8.out hb9).mono HB05.out.size)⟩
  obtain ⟨hw2, hqm⟩ := turns_may hr
  have hq1 : (Pt.mk 2 [] [] [x]).rx false = (x.rx false).turn := by rw [rx_back, ← rx_turnf]; rfl
  have hr1 : (Pt.mk 2 [] [] [.mk 2 [] [] [x]]).rx false = x.rx false := by rw [rx_back, rx_back]; rfl
  have N2 := fun W (hb : Below w5.heap.size w5 W) => new_ok (HQ5.out.keep hb) (HT5.out.keep hb) hqm (by rw [rx_back]; exact cnt_small hw2 (Nat.le_refl _))
  have N3 := fun W (hb : Below w5.heap.size w5 W) => new_ok (HR5.out.keep hb) (HT5.out.keep hb) hr (by rw [hr1]; exact cnt_small hw2 (Nat.le_refl _))
  rw [hq1] at N2
  rw [hr1] at N3
  unfold pv at N1 N2 N3
  simp only [Pt.kind, Pt.text] at N1 N2 N3
  have N1 := hid N1
  have N2 := hid N2
  have N3 := hid N3
  clear hq1 hr1 hw2 hqm hr hc
  go_wp2_with fail
  refine N1.out.mono ?_
  rintro e w6 ⟨p, rfl, hb6, hA6⟩
  have HB6 := hid hb6
  have HA6 := hid hA6
  have q0 := below_keep hb6 q0
  have q1 := below_keep hb6 q1
  have q2 := below_keep hb6 q2
  have q3 := below_keep hb6 q3
  have r0 := below_keep hb6 r0
  have r1 := below_keep hb6 r1
  have r2 := below_keep hb6 r2
  have r3 := below_keep hb6 r3
  clear hb6 hA6
  go_wp2_with fail
  refine (N2.out _ HB6.out).mono ?_
  rintro e w7 ⟨pq, rfl, hb7, hA7⟩
  have HB7 := hid (below_then HB6.out hb7)
  have HA7 := hid hA7
  have HA67 := hid (HA6.out.keep hb7)
  have r0 := below_keep hb7 r0
  have r1 := below_keep hb7 r1
  have r2 := below_keep hb7 r2
  have r3 := below_keep hb7 r3
  clear hb7 hA7
  go_wp2_with fail
  refine (N3.out _ HB7.out).mono ?_
  rintro e w8 ⟨pr, rfl, hb8, hA8⟩
  have HB8 := hid (below_then HB7.out hb8)
  have HB08 := hid (HB05.out.trans (HB8.out.mono HB05.out.size))
  obtain ⟨r, hrr⟩ : ∃ r, r = x.rx false := ⟨_, rfl⟩
  have HPA := hid fun W (hb : Below w8.heap.size w8 W) => (show IsAuto w5.heap.size W p r from by rw [hrr]; exact (HA67.out.keep hb8).keep hb)
  have HQA := hid fun W (hb : Below w8.heap.size w8 W) => (show IsAuto w6.heap.size W pq r.turn from by rw [hrr]; exact (HA7.out.keep hb8).keep hb)
  have HRA := hid fun W (hb : Below w8.heap.size w8 W) => (show IsAuto w7.heap.size W pr r from by rw [hrr]; exact hA8.keep hb)
  have HW := HWD.out
  obtain ⟨hon, hl8⟩ := wordB_ones HW.symm
  have HON := hid hon
  have hm8 : m ≤ 8 := by rw [HML.out]; exact hl8
  have HL8 := hid (HL.out.keep HB08.out)
  have HTK := hid fun i (hi : i < m) => (show ((L.map turnStp).reverse).take (i + 1) = ((L.map turnStp).reverse).take i ++ [turnStp (L[m - 1 - i]'(by have := HML.out; omega))] from by
    rw [List.take_add_one, List.getElem?_eq_getElem (by simp; have := HML.out; omega)]
    simp only [Option.toList_some, List.getElem_reverse, List.getElem_map, List.length_map]
    have := HML.out
    subst this
    rfl)
  have HFL := hid (show ((L.map turnStp).reverse).take m = (L.map turnStp).reverse from List.take_of_length_le (by simp; have := HML.out; omega))
  have HLT := hid fun i => (show (((L.map turnStp).reverse).take i).length ≤ 8 from by rw [List.length_take]; simp; have := HML.out; omega)
  obtain ⟨ya', yc', b, off, fv, hve, e1, e2, e3, e4, hrow, htx⟩ := HL8.out
  rw [← HML.out] at hve
  cases hve
  rw [← HML.out] at e1 e4
  have HROW := hid hrow
  have HTX := hid htx
  obtain ⟨iS, hiS, hzS, hsS, hbS⟩ := info_two Tryd.infoStep
  clear hb8 hA8 hrr HW hon hl8 q0 q1 q2 q3 p0 p1 p2 p3 hrow htx
  clear r0 r1 r2 r3
  go_wp2
  go_loopw [13, 14] (fun s13 s14 wr => ∃ (i : Nat) (v : Value) (xs : List Value), i ≤ m ∧ s13 = v ∧ s14 = .int .i64 ((m : Int) - 1 - i) ∧ Hid (Below w8.heap.size w8 wr) ∧ Hid (SrOld w8 wr v xs (((L.map turnStp).reverse).take i))) (fun _ s14 _ => (intOf s14 + 1).toNat)
  case atStart => exact ⟨0, _, [], by omega, rfl, by simp, Below.refl _ _, SrOld.nil _ _⟩
  case round =>
    obtain ⟨i, vv, xs, hi, hvv, rfl, HBr, HV⟩ := hrel
    have hvv := hvv.symm
    subst hvv
    by_cases hlt : i < m
    case pos =>
      obtain ⟨k, hk⟩ : ∃ k, k = m - 1 - i := ⟨_, rfl⟩
      have hkz : (m : Int) - 1 - i = (k : Nat) := by omega
      have hkm : k < m := by omega
      have hkL : k < L.length := by rw [← HML.out]; exact hkm
      obtain rfl := e4 (by omega)
      have hr5 := HROW.out k hkL
      have htt := HTX.out k hkL
      have htk := HTK.out i hlt
      simp only [← hk] at htk
      obtain ⟨s, hsd⟩ : ∃ s, s = L[k] := ⟨_, rfl⟩
      rw [← hsd] at hr5 htt htk
      obtain ⟨ta, tc, htf, t1, t2, t3, htr⟩ := htt.open
      rw [htf] at hr5 htt
      obtain ⟨sf, st, sb, sn, stx⟩ := s
      simp only at hr5 htt htr t1
      obtain ⟨tn, htn⟩ : ∃ tn, tn = stx.length := ⟨_, rfl⟩
      rw [← htn] at hr5 htt t1
      obtain ⟨_, _, d2, _, d4⟩ := hr5
      have HTT := hid htt
      have HTK1 := hid htk
      have E2 := hid d2
      have E4 := hid d4
      have HTN := hid htn
      have d2 := below_keep HBr.out d2
      have d4 := below_keep HBr.out d4
      have HOWN := hid fun o => HV.out.own.alloc (w := wr) o
      have HLI := HLT.out i
      have B1 := hid (show (((L.map turnStp).reverse).take i).length + 1 ≤ maxLen by unfold maxLen; omega)
      have B2 := hid (show ((((L.map turnStp).reverse).take i).length + 1) * 48 ≤ 140737488355328 by omega)
      have B3 := hid (show ∀ (b : Bool) (a2 : Option Addr) (n cap2 : Nat), ∀ u ∈ [Value.int .i64 0, .int .i64 0, .bool b, .bool false, .slice a2 n cap2], u.oneCell' = true from fun b a2 n cap2 u hu => by
        simp only [List.mem_cons, List.not_mem_nil, or_false] at hu
        rcases hu with rfl | rfl | rfl | rfl | rfl <;> rfl)
      have B4 := hid (show ∀ (o : Obj), w8.heap.size ≤ (wr.alloc o).heap.size from fun o => by have := HBr.out.size; simp; omega)
      clear hsd htf htk htt htn hk htr t3 hkL HLI
      cases sb
      case false =>
        go_upto_region 14 with fail
        go_region_held3 (fun w' => w'.cell? ⟨b, off + k * 5 + 2, none⟩ = some (.bool false) ∧ w'.cell? ⟨b, off + k * 5 + 4, none⟩ = some (.slice ta tn tc))
          (first
            | (refine ⟨?_, ?_⟩ <;> with_reducible assumption)
            | (refine ⟨?_, ?_⟩ <;> assumption)
            | go_keep)
          (first
            | (refine step_append_lies _ (by rfl) (.tmp 84) (.tmp 97) 36 (by rfl) w8.heap.size 48 iS _ 5 48 Tryd.underlying36 hiS hzS hsS hbS rfl (by decide) vv _ xs (by rfl) (HOWN.out _) ⟨wr.heap.size, 0, none⟩ 1 1 [.int .i64 0, .int .i64 0, .bool true, .bool false, .slice ta tn tc] (by rfl) (by rfl) (World.news_of_block (cs := #[.int .i64 0, .int .i64 0, .bool true, .bool false, .slice ta tn tc]) (t := 48) (fr := (0, 0)) (heap_alloc_new wr.drew _)) (B3.out _ _ _ _) (Nat.one_pos) B1.out B2.out (B4.out _) (wr.heap.size + 1) (by simp) ?_; intro g cap w5 hown hgr hg hlt; have hb5 : Below w8.heap.size w8 w5 := ((below_drawn HBr.out 1).alloc HBr.out.size _).grown hgr (B4.out _) (fun q hq => (HV.out.own.lt q hq).1); have y0 := below_keep hb5 (show w8.cell? ⟨b, off + k * 5 + 2, none⟩ = some (.bool false) from E2.out); have y1 := below_keep hb5 (show w8.cell? ⟨b, off + k * 5 + 4, none⟩ = some (.slice ta tn tc) from E4.out); have HB5 := hid hb5; have HOW := hid hown; clear hown hgr hg hlt hb5)
            | fail)
        have HSN := hid (SrOld.snoc (s := ⟨0, 0, true, false, stx⟩) HV.out HOW.out HTT.out)
        clear y0 y1
        go_wp2
        go_roundw
        case rel => exact ⟨i + 1, _, _, by omega, rfl, by go_num, HB5.out, hid (by have h := HSN.out; simp only [List.length_take, List.length_reverse, List.length_map] at h; rw [HTK1.out]; exact h)⟩
        case measure => simp [intOf]; omega

      case true =>
        go_upto_region 14 with fail
        go_region_held3 (fun w' => w'.cell? ⟨b, off + k * 5 + 2, none⟩ = some (.bool true) ∧ w'.cell? ⟨b, off + k * 5 + 4, none⟩ = some (.slice ta tn tc))
          (first
            | (refine ⟨?_, ?_⟩ <;> with_reducible assumption)
            | (refine ⟨?_, ?_⟩ <;> assumption)
            | go_keep)
          (first
            | (refine step_append_lies _ (by rfl) (.tmp 84) (.tmp 97) 36 (by rfl) w8.heap.size 48 iS _ 5 48 Tryd.underlying36 hiS hzS hsS hbS rfl (by decide) vv _ xs (by rfl) (HOWN.out _) ⟨wr.heap.size, 0, none⟩ 1 1 [.int .i64 0, .int .i64 0, .bool false, .bool false, .slice ta tn tc] (by rfl) (by rfl) (World.news_of_block (cs := #[.int .i64 0, .int .i64 0, .bool false, .bool false, .slice ta tn tc]) (t := 48) (fr := (0, 0)) (heap_alloc_new wr.drew _)) (B3.out _ _ _ _) (Nat.one_pos) B1.out B2.out (B4.out _) (wr.heap.size + 1) (by simp) ?_; intro g cap w5 hown hgr hg hlt; have hb5 : Below w8.heap.size w8 w5 := ((below_drawn HBr.out 1).alloc HBr.out.size _).grown hgr (B4.out _) (fun q hq => (HV.out.own.lt q hq).1); have y0 := below_keep hb5 (show w8.cell? ⟨b, off + k * 5 + 2, none⟩ = some (.bool true) from E2.out); have y1 := below_keep hb5 (show w8.cell? ⟨b, off + k * 5 + 4, none⟩ = some (.slice ta tn tc) from E4.out); have HB5 := hid hb5; have HOW := hid hown; clear hown hgr hg hlt hb5)
            | fail)
        have HSN := hid (SrOld.snoc (s := ⟨0, 0, false, false, stx⟩) HV.out HOW.out HTT.out)
        clear y0 y1
        go_wp2
        go_roundw
        case rel => exact ⟨i + 1, _, _, by omega, rfl, by go_num, HB5.out, hid (by have h := HSN.out; simp only [List.length_take, List.length_reverse, List.length_map] at h; rw [HTK1.out]; exact h)⟩
        case measure => simp [intOf]; omega

    obtain rfl : i = m := by omega
    have HV1 := hid (show SrOld w8 wr vv xs (L.map turnStp).reverse from by rw [← HFL.out]; exact HV.out)
    have HLr := hid (HL8.out.keep HBr.out)
    have HVr := hid (HV1.out.steps HBr.out)
    have TA := hid fun W (hb : Below wr.heap.size wr W) => takes_au _ _ (HPA.out W (HBr.out.trans (hb.mono HBr.out.size))) (HLr.out.keep hb) HON.out
    have TB := hid fun W (hb : Below wr.heap.size wr W) => takes_au _ _ (HQA.out W (HBr.out.trans (hb.mono HBr.out.size))) (HVr.out.keep hb) (ones_turn HON.out)
    have TC := hid fun W (hb : Below wr.heap.size wr W) => takes_au _ _ (HRA.out W (HBr.out.trans (hb.mono HBr.out.size))) (HLr.out.keep hb) HON.out
    have SA := hid fun W (hb : Below wr.heap.size wr W) => steps_au (HPA.out W (HBr.out.trans (hb.mono HBr.out.size)))
    have SC := hid fun W (hb : Below wr.heap.size wr W) => steps_au (HRA.out W (HBr.out.trans (hb.mono HBr.out.size)))
    have KN := hid fun W (hb : Below wr.heap.size wr W) => known_any W (HT.out.keep (HB08.out.trans ((HBr.out.trans (hb.mono HBr.out.size)).mono HB08.out.size)))
    have TB := TB.out
    rw [word_turn, Rx.has_turn] at TB
    have TB := hid TB
    obtain ⟨z, hz⟩ : ∃ z, z = r.has (wordOf L) := ⟨_, rfl⟩
    have TA := TA.out
    have TB := TB.out
    have TC := TC.out
    rw [← HML.out] at TA TC
    rw [← hz] at TA TB TC
    have TA := hid TA
    have TB := hid TB
    have TC := hid TC
    have HB9 := hid (Below.refl wr.heap.size wr)
    clear hz
    cases z
    case false =>
      go_wp2_with fail
      refine (TA.out _ HB9.out).mono ?_
      rintro e w10 ⟨rfl, hb⟩
      have HB10 := hid (below_then HB9.out hb)
      clear hb
      go_wp2_with fail
      refine (TB.out _ HB10.out).mono ?_
      rintro e w11 ⟨rfl, hb⟩
      have HB11 := hid (below_then HB10.out hb)
      clear hb
      go_wp2_with fail
      refine (TA.out _ HB11.out).mono ?_
      rintro e w12 ⟨rfl, hb⟩
      have HB12 := hid (below_then HB11.out hb)
      clear hb
      go_wp2_with fail
      refine (TC.out _ HB12.out).mono ?_
      rintro e w13 ⟨rfl, hb⟩
      have HB13 := hid (below_then HB12.out hb)
      clear hb
      go_wp2_with fail
      refine (SA.out _ HB13.out).mono ?_
      rintro e w14 ⟨⟨v14, rfl, hS14⟩, hb⟩
      have HB14 := hid (below_then HB13.out hb)
      have HS14 := hid hS14
      clear hb hS14
      go_wp2_with fail
      refine (SC.out _ HB14.out).mono ?_
      rintro e w15 ⟨⟨v15, rfl, hS15⟩, hb⟩
      have HB15 := hid (below_then HB14.out hb)
      have LS := lsteps_any _ _ _ _ w15 (HS14.out.keep hb) hS15
      rw [sameSs_refl] at LS
      have LS := hid LS
      clear hb hS15
      go_wp2_with fail
      refine LS.out.mono ?_
      rintro e w16 ⟨rfl, hb⟩
      have HB16 := hid (below_then HB15.out hb)
      clear hb
      go_wp2_with fail
      refine (KN.out _ HB16.out).mono ?_
      rintro e w17 ⟨rfl, hb⟩
      have HB17 := hid (below_then HB16.out hb)
      clear hb
      go_wp2
      go_ret
      exact ⟨rfl, HB08.out.trans ((HBr.out.trans (HB17.out.mono HBr.out.size)).mono HB08.out.size)⟩

    case true =>
      go_wp2_with fail
      refine (TA.out _ HB9.out).mono ?_
      rintro e w10 ⟨rfl, hb⟩
      have HB10 := hid (below_then HB9.out hb)
      clear hb
      go_wp2_with fail
      refine (TB.out _ HB10.out).mono ?_
      rintro e w11 ⟨rfl, hb⟩
      have HB11 := hid (below_then HB10.out hb)
      clear hb
      go_wp2_with fail
      refine (TA.out _ HB11.out).mono ?_
      rintro e w12 ⟨rfl, hb⟩
      have HB12 := hid (below_then HB11.out hb)
      clear hb
      go_wp2_with fail
      refine (TC.out _ HB12.out).mono ?_
      rintro e w13 ⟨rfl, hb⟩
      have HB13 := hid (below_then HB12.out hb)
      clear hb
      go_wp2_with fail
      refine (SA.out _ HB13.out).mono ?_
      rintro e w14 ⟨⟨v14, rfl, hS14⟩, hb⟩
      have HB14 := hid (below_then HB13.out hb)
      have HS14 := hid hS14
      clear hb hS14
      go_wp2_with fail
      refine (SC.out _ HB14.out).mono ?_
      rintro e w15 ⟨⟨v15, rfl, hS15⟩, hb⟩
      have HB15 := hid (below_then HB14.out hb)
      have LS := lsteps_any _ _ _ _ w15 (HS14.out.keep hb) hS15
      rw [sameSs_refl] at LS
      have LS := hid LS
      clear hb hS15
      go_wp2_with fail
      refine LS.out.mono ?_
      rintro e w16 ⟨rfl, hb⟩
      have HB16 := hid (below_then HB15.out hb)
      clear hb
      go_wp2_with fail
      refine (KN.out _ HB16.out).mono ?_
      rintro e w17 ⟨rfl, hb⟩
      have HB17 := hid (below_then HB16.out hb)
      clear hb
      go_wp2
      go_ret
      exact ⟨rfl, HB08.out.trans ((HBr.out.trans (HB17.out.mono HBr.out.size)).mono HB08.out.size)⟩


theorem autoTurns_walk (H : Type) (enc : TypeId × Value → H) (W : World) (base : Nat) (args : Array Value) (ds gs : List (DataW H)) (before : List MemPlace)
    (hval : ∀ (j : Nat) t v, Tryd.f5.params[j]? = some t → args[j]? = some v → Value.okWide Tryd.prog W .any base t v)
    (hW : DataW.Whole enc Tryd.prog Tryd.f5.params.toList Rows.autoTurnsSpec.vars false W args.toList ds gs before)
    (hz : (DataW.weightsEach Tryd.prog (Tryd.f5.params.toList ++ Rows.autoTurnsSpec.plain.varTypes Tryd.prog) (ds ++ gs)).all (· ≤ reachBytes) = true)
    (hL : laidMetH Tryd.prog Rows.autoTurnsRow.laid W) (hsh : W.ShapedOpen Tryd.prog) :
    Calls Tryd.prog 5 args W fun e W' => e = .returned (.bool true) ∧ Below W.heap.size W W' := by
  obtain ⟨p, q, hA, _, _, _, _⟩ := hW
  rw [Tryd.params5] at hA hval
  rw [Tryd.params5] at hz
  obtain ⟨v0, vs0, d0, ds0, p0, q0, hargs, rfl, rfl, h0, r0⟩ := trodAll_cons hA
  obtain ⟨v1, vs1, d1, ds1, p1, q1, rfl, rfl, rfl, h1, r1⟩ := trodAll_cons r0
  obtain ⟨rfl, rfl, rfl⟩ := trodAll_nil r1
  obtain rfl : args = #[v0, v1] := by cases args; simp_all
  obtain ⟨y0, a0, b0, rfl, P0⟩ := arg_pt (hval 0 25 v0 rfl rfl) h0 (sized_arg hz (j := 0) (t := 25) (d := d0) rfl rfl)
  obtain ⟨l1, L1, b1⟩ := arg_steps (hval 1 36 v1 rfl rfl) h1 (sized_arg hz (j := 1) (t := 36) (d := d1) rfl rfl)
  exact autoTurns_any y0 a0 b0 v1 l1 W P0 L1 b1 (t8_of hL hsh)

theorem autoTurns_lifted (os : Os) (started : os.Started) (H : Type) (enc : TypeId × Value → H) (F : Stop.Interp) :
    ReturnsInHanded {} Tryd.checked os 5 .any ((OpenSpec.ofChange Rows.autoTurnsSpec).preRow enc Tryd.prog Tryd.f5 Rows.autoTurnsRow.domain false Rows.autoTurnsRow.laid) (((OpenSpec.ofChange Rows.autoTurnsSpec).at F).post enc Tryd.prog Tryd.f5 false true false false) := by
  obtain ⟨places, hx⟩ : ∃ places, DataW.whole enc Tryd.prog ((laidWorld os).forCall (fun _ _ => 0) ⟨#[], #[.agg #[.int .i64 0, .string ByteArray.empty, .slice none 0 0, .slice none 0 0], .slice none 0 0], []⟩).memory Tryd.f5.params.toList Rows.autoTurnsSpec.vars false (#[.agg #[.int .i64 0, .string ByteArray.empty, .slice none 0 0, .slice none 0 0], .slice none 0 0] : Array Value).toList 8 = some ([.agg [.lit (.int .i64 0), .lit (.string []), .nil, .nil], .nil], [], places) := ⟨[], by kernel_rfl⟩
  refine returnsInHanded_of_row (C := Tryd.checked) (s := OpenSpec.ofChange Rows.autoTurnsSpec) own started (by kernel_rfl) Tryd.func5
    (witness_row_at (enc := enc) (C := Tryd.checked) false (laidWorld os) #[.agg #[.int .i64 0, .string ByteArray.empty, .slice none 0 0, .slice none 0 0], .slice none 0 0] rfl (by kernel_rfl) (by kernel_rfl) (by kernel_rfl)
      (OpenSpec.preRow_of_cond 8 hx (by kernel_rfl) (fun k hk => by cases hk) (by kernel_rfl) (laidMet_of_run' 8 (by kernel_rfl) (by kernel_rfl)))) ?_
  intro W base args ds gs before hval hW _ _ hz hL hsh _
  refine (autoTurns_walk H enc W base args ds gs before hval hW hz hL hsh).mono fun e W' ⟨he, hb⟩ => ⟨_, he, ?_⟩
  exact law_post (fn := Tryd.f5) (s := Rows.autoTurnsSpec) (tb := 4) rfl (fun ds hd => by match ds, hd with | [d0, d1], _ => rfl) rfl Tryd.underlying4 (by kernel_rfl) hW hb

theorem autoTurns_said : Rows.AutoTurnsSaid :=
  OpenClaim.holds_of_cond 5 Tryd.f5 rfl rfl rfl rfl rfl rfl rfl ⟨rfl, rfl, rfl, rfl, rfl⟩ rfl rfl rfl rfl rfl (by kernel_rfl) Tryd.func5 (by kernel_rfl)
    (of_decide_eq_true (by kernel_rfl)) (by unfold Func.isWrapper; first | (rw [if_pos (by decide +kernel)]; kernel_rfl) | (rw [if_neg (by decide +kernel)]; exact ⟨rfl, rfl⟩))
    (fun os started H enc _ F => by rw [OpenClaim.pre_eq_preRow]; exact autoTurns_lifted os started H enc F)

theorem autoTurns_plain (f : FuncId) (fn : Func) (hf : Tryd.pinned.checked.prog.funcNamed Rows.autoTurnsRow.func = some f) (hfn : Tryd.pinned.checked.prog.funcs[f]? = some fn) :
    false = Tryd.pinned.checked.prog.looks [] ∧ ∀ (j : Nat) t, fn.params[j]? = some t → Tryd.pinned.checked.prog.wantsStandIn t = false := by
  obtain rfl : f = 5 := Option.some.inj ((show Tryd.prog.funcNamed Rows.autoTurnsRow.func = some 5 by kernel_rfl).symm.trans hf) |>.symm
  obtain rfl : fn = Tryd.f5 := (Option.some.inj (Tryd.func5.symm.trans hfn)).symm
  refine ⟨by kernel_rfl, fun j t ht => ?_⟩
  have h := Array.mem_of_getElem? ht
  have hall : Tryd.f5.params.all (fun t => !Tryd.prog.wantsStandIn t) = true := by kernel_rfl
  have := Array.all_eq_true_iff_forall_mem.1 hall t h
  show Tryd.prog.wantsStandIn t = false
  simpa using this

/-- THE STATEMENT. -/
theorem autoTurns_card : Rows.AutoTurnsCardSaid :=
  Claim7.holds_tied_plain_at .later [] _ _ _ _ autoTurns_said (fun _ h => by cases h) (by kernel_rfl) (fun _ h => by cases h) autoTurns_row_tie rfl ⟨rfl, rfl⟩ (by kernel_rfl) rfl autoTurns_plain (by kernel_rfl)
end Go.Proofs.YtobcbaeoedpefaaDoor
