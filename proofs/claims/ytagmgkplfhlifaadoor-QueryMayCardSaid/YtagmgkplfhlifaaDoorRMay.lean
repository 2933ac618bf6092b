/- The document's own may and IsPath. -/
import Derived.Test.YtagmgkplfhlifaaDoorRPath
namespace Go.Proofs.YtagmgkplfhlifaaDoor
set_option linter.unusedVariables false
set_option linter.unusedSimpArgs false
set_option maxRecDepth 100000
open Go.ChangeShapes Go.WideShapes Go.ChangeAt Go.RowKit
open Au
set_option maxHeartbeats 8000000 in
theorem rmayp_any : ∀ (x : Pt) (w : World) (v u : Value) (d : Nat), PtAt w v u x → T8 w → d ≤ 6 →
    Calls Tryd.prog 35 #[pv x v u, .int .i64 d] w fun e w' => e = .returned (.int .i64 (rmayZ x d)) ∧ Below w.heap.size w w' := by
  intro x
  induction x using Pt.ind with
  | h k t L K ih =>
    intro w v u d hP hT hd
    have IH := hid ih
    have KI := hid (fun w => rkids_any k w)
    have IR := hid (fun t w (h : t.length ≤ 9223372036854775807) h2 => riri_any t w h h2)
    obtain ⟨w1, hw1, hz, HX, HP, HB⟩ := pt_box w (.mk k t L K) v u hP
    have HT := hid (hT.keep HB.out)
    obtain ⟨hk, htl, hL, hll, a, cap, b, off, f, g, rfl, q1, q2, q3, q4, hrow, hkid⟩ := HP.out.open
    simp only [Pt.kids, Pt.kind, Pt.text, Pt.texts] at q1 q3 q4 hrow hkid hk htl hL hll hw1 HX
    obtain ⟨ta, tc, rfl, r1, r2, r3, hr⟩ := hL.open
    have HR := hid hr
    have HLL := hid hll
    have HROW := hid hrow
    have HKID := hid hkid
    have HP0 := hid hP
    obtain ⟨c0, c1, c2, c3⟩ := blk4 HX.out
    have g0 := fun p : Later w1.heap.size w1 => p.keep c0
    have g1 := fun p : Later w1.heap.size w1 => p.keep c1
    have g2 := fun p : Later w1.heap.size w1 => p.keep c2
    have g3 := fun p : Later w1.heap.size w1 => p.keep c3
    have HNO := hid fun (h : (Pt.mk k t L K).wf d = false) wz (hb : Below w.heap.size w wz) => (show Ending.returned (.int .i64 (-1)) = .returned (.int .i64 (rmayZ (.mk k t L K) d)) ∧ Below w.heap.size w wz from ⟨by unfold rmayZ; rw [h]; rfl, hb⟩)
    have hb1 := HB.out.size
    clear hr hll hrow hkid hP hT hL ih
    unfold pv
    simp only [Pt.kind, Pt.text, Pt.kids]
    go_enter Tryd.func35, Tryd.ntmps35
    go_upto_region 1 with fail
    rw [← hw1]
    clear hw1
    obtain ⟨kk, hkk⟩ : ∃ kk, kk = Pt.kidsOf k := ⟨_, rfl⟩
    rw [← hkk] at KI
    by_cases hA : kk = (K.length : Int)
    case neg =>
      have d3 : (kk != (K.length : Int)) = true := bne_iff_ne.2 hA
      have hno : (Pt.mk k t L K).wf d = false := by rw [wf_mk, show decide ((K.length : Int) = Pt.kidsOf k) = false from decide_eq_false (by rw [← hkk]; exact fun h => hA h.symm)]; simp
      have HN2 := hid (HNO.out hno)
      clear hno hkk hA
      refine wp_region_later w1.heap.size (by kernel_rfl) (by kernel_rfl) ?_
      repeat (go_big_quiet_step (first | (go_at_call 52; with_reducible exact Later.call_same (KI.out _)) | fail))
      refine wpQuiet_nil ?_
      rintro w3 ⟨p, rfl⟩
      have hb3 := hid p.low
      clear g0 g1 g2 g3
      go_wp2
      go_ret
      exact HN2.out _ (below_then HB.out hb3.out)
    have d3 : (kk != (K.length : Int)) = false := by rw [hA]; simp
    have HKK := hid (show (K.length : Int) = Pt.kidsOf k by rw [← hkk, hA])
    by_cases hd5 : 5 < d
    · have d2 : decide ((5 : Int) < (d : Int)) = true := decide_eq_true (by omega)
      have hno : (Pt.mk k t L K).wf d = false := by rw [wf_mk, show decide (d ≤ 5) = false from decide_eq_false (by omega)]; simp
      have HN2 := hid (HNO.out hno)
      clear hno hkk hA
      refine wp_region_later w1.heap.size (by kernel_rfl) (by kernel_rfl) ?_
      repeat (go_big_quiet_step (first | (go_at_call 52; with_reducible exact Later.call_same (KI.out _)) | fail))
      refine wpQuiet_nil ?_
      rintro w3 ⟨p, rfl⟩
      have hb3 := hid p.low
      clear g0 g1 g2 g3
      go_wp2
      go_ret
      exact HN2.out _ (below_then HB.out hb3.out)
    have d2 : decide ((5 : Int) < (d : Int)) = false := decide_eq_false (by omega)
    have HTX := hid fun (h : Pt.txt k t L = false) => (show (Pt.mk k t L K).wf d = false by rw [wf_mk, h]; simp)
    by_cases k1 : k = 1
    · subst k1
      cases hLL : L with
      | cons s L' =>
        have hno := HTX.out (by unfold Pt.txt; rw [if_pos rfl, hLL]; rfl)
        have l0 : decide (0 < L.length) = true := decide_eq_true (by rw [hLL]; simp)
        rw [← hLL]
        obtain ⟨n, hn⟩ : ∃ n, n = L.length := ⟨_, rfl⟩
        rw [← hn] at l0 c2 r1 r3 g2 ⊢
        clear hn hLL HR HLL
        have HN2 := hid (HNO.out hno)
        clear hno hkk hA
        refine wp_region_later w1.heap.size (by kernel_rfl) (by kernel_rfl) ?_
        repeat (go_big_quiet_step (first | (go_at_call 52; with_reducible exact Later.call_same (KI.out _)) | fail))
        refine wpQuiet_nil ?_
        rintro w3 ⟨p, rfl⟩
        have hb3 := hid p.low
        clear g0 g1 g2 g3
        go_wp2
        go_ret
        exact HN2.out _ (below_then HB.out hb3.out)
      | nil =>
        have hK0 : K = [] := List.eq_nil_of_length_eq_zero (by have := HKK.out; unfold Pt.kidsOf at this; simp at this; simpa using this)
        subst hK0 hLL
        have C := hid fun w h => IR.out t w (by omega) h
        simp only [List.length_nil] at c2 c3 g2 g3 d3 hA r1 r3 ⊢
        cases hiri : Tm.isIRI t
        · have hno := HTX.out (by unfold Pt.txt; rw [if_pos rfl, hiri]; rfl)
          have HN2 := hid (HNO.out hno)
          rw [hiri] at C
          clear hno hkk hiri
          refine wp_region_later w1.heap.size (by kernel_rfl) (by kernel_rfl) ?_
          repeat (go_big_quiet_step (first | (go_at_call 52; with_reducible exact Later.call_same (KI.out _)) | fail))
          refine wpQuiet_nil ?_
          rintro w3 ⟨p, rfl⟩
          have HB3 := hid (below_then HB.out p.low)
          have HB13 := hid p.low
          have e0 := p.keep c0
          have e1 := p.keep c1
          have e2 := p.keep c2
          have e3 := p.keep c3
          obtain ⟨w3, hw3⟩ : ∃ w3, w3 = p.it := ⟨_, rfl⟩
          rw [← hw3] at HB3 HB13 e0 e1 e2 e3 ⊢
          clear hw3 p g0 g1 g2 g3 c0 c1 c2 c3
          have HT3 := hid (HT.out.keep HB13.out)
          go_wp2_with (go_at_call 53; refine (C.out _ HT3.out).mono ?_; rintro e w4 ⟨rfl, hb⟩)
          go_ret
          exact HN2.out _ (below_then HB3.out hb)
        · have hyes : (Pt.mk 1 t [] []).wf d = true := wf_yes 1 t [] [] d (by omega) HKK.out (by unfold Pt.txt; rw [if_pos rfl, hiri]; rfl) (fun j hj => absurd hj (by simp))
          have HYES := hid fun wz (hb : Below w.heap.size w wz) => (show Ending.returned (.int .i64 1) = .returned (.int .i64 (rmayZ (.mk 1 t [] []) d)) ∧ Below w.heap.size w wz from ⟨by unfold rmayZ; rw [hyes]; rfl, hb⟩)
          rw [hiri] at C
          clear hkk hiri hyes
          refine wp_region_later w1.heap.size (by kernel_rfl) (by kernel_rfl) ?_
          repeat (go_big_quiet_step (first | (go_at_call 52; with_reducible exact Later.call_same (KI.out _)) | fail))
          refine wpQuiet_nil ?_
          rintro w3 ⟨p, rfl⟩
          have HB3 := hid (below_then HB.out p.low)
          have HB13 := hid p.low
          have e0 := p.keep c0
          have e1 := p.keep c1
          have e2 := p.keep c2
          have e3 := p.keep c3
          obtain ⟨w3, hw3⟩ : ∃ w3, w3 = p.it := ⟨_, rfl⟩
          rw [← hw3] at HB3 HB13 e0 e1 e2 e3 ⊢
          clear hw3 p g0 g1 g2 g3 c0 c1 c2 c3
          have HT3 := hid (HT.out.keep HB13.out)
          go_wp2_with fail
          refine (C.out _ HT3.out).mono ?_
          rintro e w4 ⟨rfl, hb⟩
          have f0 := below_keep hb e0
          have f1 := below_keep hb e1
          have f2 := below_keep hb e2
          have f3 := below_keep hb e3
          have HB4 := hid (below_then HB3.out hb)
          clear hb
          go_wp2
          go_loopw [5] (fun s5 wr => s5 = .int .i64 0 ∧ wr = w4) (fun _ _ => 0)
          case atStart => exact ⟨rfl, rfl⟩
          case round =>
            obtain ⟨rfl, hww⟩ := hrel
            subst hww
            go_wp2
            obtain ⟨wy, rfl⟩ : ∃ wy : World, wy = wr := ⟨_, rfl⟩
            go_loopw [6, 7] (fun s6 s7 wr => s6 = .int .i64 1 ∧ s7 = .int .i64 0 ∧ wr = wy) (fun _ _ _ => 0)
            case atStart => exact ⟨rfl, rfl, rfl⟩
            case round =>
              obtain ⟨rfl, rfl, hww⟩ := hrel
              subst hww
              go_wp2
              go_ret
              exact HYES.out _ HB4.out
    have b1 : (k != 1) = true := bne_iff_ne.2 k1
    by_cases h0 : t = []
    case neg =>
      have t0 : (t == []) = false := beq_eq_false_iff_ne.2 h0
      have t1 : (t != []) = true := bne_iff_ne.2 h0
      have hno := HTX.out (by unfold Pt.txt; rw [if_neg k1, show t.isEmpty = false by simpa using h0]; split <;> rfl)
      have HN2 := hid (HNO.out hno)
      clear hno hkk hA
      refine wp_region_later w1.heap.size (by kernel_rfl) (by kernel_rfl) ?_
      repeat (go_big_quiet_step (first | (go_at_call 52; with_reducible exact Later.call_same (KI.out _)) | fail))
      refine wpQuiet_nil ?_
      rintro w3 ⟨p, rfl⟩
      have hb3 := hid p.low
      clear g0 g1 g2 g3
      go_wp2
      go_ret
      exact HN2.out _ (below_then HB.out hb3.out)
    subst h0
    by_cases k8 : k = 8
    · subst k8
      have hK0 : K = [] := List.eq_nil_of_length_eq_zero (by have := HKK.out; unfold Pt.kidsOf at this; simp at this; simpa using this)
      subst hK0
      have d3' : (kk != (0 : Int)) = false := by rw [hA]; rfl
      simp only [List.length_nil] at c3 g3 d3 hA ⊢
      obtain ⟨n, hn⟩ : ∃ n, n = L.length := ⟨_, rfl⟩
      have HN := hid hn
      rw [← hn] at c2 g2 r1 r3 HR ⊢
      clear hn
      by_cases hlo : n < 1
      · have hno := HTX.out (by unfold Pt.txt; rw [if_neg (by decide), if_pos rfl, ← HN.out, show decide (1 ≤ n) = false from decide_eq_false (by omega)]; simp)
        have HN2 := hid (HNO.out hno)
        clear hno hkk hA
        refine wp_region_later w1.heap.size (by kernel_rfl) (by kernel_rfl) ?_
        repeat (go_big_quiet_step (first | (go_at_call 52; with_reducible exact Later.call_same (KI.out _)) | fail))
        refine wpQuiet_nil ?_
        rintro w3 ⟨p, rfl⟩
        have HB3 := hid (below_then HB.out p.low)
        have HB13 := hid p.low
        have e0 := p.keep c0
        have e1 := p.keep c1
        have e2 := p.keep c2
        have e3 := p.keep c3
        obtain ⟨w3, hw3⟩ : ∃ w3, w3 = p.it := ⟨_, rfl⟩
        rw [← hw3] at HB3 HB13 e0 e1 e2 e3 ⊢
        clear hw3 p g0 g1 g2 g3 c0 c1 c2 c3
        have HT3 := hid (HT.out.keep HB13.out)
        go_wp2
        go_ret
        exact HN2.out _ HB3.out
      by_cases hhi : 4 < n
      · have hno := HTX.out (by unfold Pt.txt; rw [if_neg (by decide), if_pos rfl, ← HN.out, show decide (n ≤ 4) = false from decide_eq_false (by omega)]; simp)
        have HN2 := hid (HNO.out hno)
        clear hno hkk hA
        refine wp_region_later w1.heap.size (by kernel_rfl) (by kernel_rfl) ?_
        repeat (go_big_quiet_step (first | (go_at_call 52; with_reducible exact Later.call_same (KI.out _)) | fail))
        refine wpQuiet_nil ?_
        rintro w3 ⟨p, rfl⟩
        have HB3 := hid (below_then HB.out p.low)
        have HB13 := hid p.low
        have e0 := p.keep c0
        have e1 := p.keep c1
        have e2 := p.keep c2
        have e3 := p.keep c3
        obtain ⟨w3, hw3⟩ : ∃ w3, w3 = p.it := ⟨_, rfl⟩
        rw [← hw3] at HB3 HB13 e0 e1 e2 e3 ⊢
        clear hw3 p g0 g1 g2 g3 c0 c1 c2 c3
        have HT3 := hid (HT.out.keep HB13.out)
        go_wp2
        go_ret
        exact HN2.out _ HB3.out
      clear hkk hA
      refine wp_region_later w1.heap.size (by kernel_rfl) (by kernel_rfl) ?_
      repeat (go_big_quiet_step (first | (go_at_call 52; with_reducible exact Later.call_same (KI.out _)) | fail))
      refine wpQuiet_nil ?_
      rintro w3 ⟨p, rfl⟩
      have HB3 := hid (below_then HB.out p.low)
      have HB13 := hid p.low
      have e0 := p.keep c0
      have e1 := p.keep c1
      have e2 := p.keep c2
      have e3 := p.keep c3
      obtain ⟨w3, hw3⟩ : ∃ w3, w3 = p.it := ⟨_, rfl⟩
      rw [← hw3] at HB3 HB13 e0 e1 e2 e3 ⊢
      clear hw3 p g0 g1 g2 g3 c0 c1 c2 c3
      have HT3 := hid (HT.out.keep HB13.out)
      go_wp2
      go_loopw [5] (fun s5 wr => ∃ i : Nat, i ≤ n ∧ s5 = .int .i64 i ∧ Hid (Below w3.heap.size w3 wr) ∧ Hid ((L.take i).all Tm.isIRI = true)) (fun s5 _ => n - (intOf s5).toNat)
      case atStart => exact ⟨0, by omega, rfl, Below.refl _ _, rfl⟩
      case round =>
        obtain ⟨i, hi, rfl, HBr, HAll⟩ := hrel
        have f0 := below_keep HBr.out e0
        have f1 := below_keep HBr.out e1
        have f2 := below_keep HBr.out e2
        have f3 := below_keep HBr.out e3
        clear e0 e1 e2 e3
        have HB5 := hid (below_then HB3.out HBr.out)
        by_cases hlt : i < n
        · obtain ⟨bb, oo, hab, hc⟩ := HR.out.get hlt
          have z0 := below_keep HBr.out (below_keep HB13.out (hc i hlt))
          have hsl := HLL.out i
          subst hab
          have HM := hid (show L.getD i [] ∈ L ∧ L.take (i + 1) = L.take i ++ [L.getD i []] from by
            have hil : i < L.length := by rw [← HN.out]; exact hlt
            have hgd : L.getD i [] = L[i] := by simp [List.getD, hil]
            rw [hgd]
            exact ⟨List.getElem_mem _, by rw [List.take_add_one, List.getElem?_eq_getElem hil]; rfl⟩)
          obtain ⟨s, hs⟩ : ∃ s, s = L.getD i [] := ⟨_, rfl⟩
          rw [← hs] at z0 hsl HM
          have C := hid (IR.out s wr (by omega) (HT3.out.keep HBr.out))
          clear hc hs
          cases hb : Tm.isIRI s
          · rw [hb] at C
            have hno := HTX.out (by
              unfold Pt.txt; rw [if_neg (by decide), if_pos rfl]
              have : L.all Tm.isIRI = false := by rw [List.all_eq_false]; exact ⟨s, HM.out.1, by rw [hb]; simp⟩
              rw [this]; simp)
            have HN2 := hid (HNO.out hno)
            clear hb hno
            go_wp2_with (go_at_call 53; refine C.out.mono ?_; rintro e w4 ⟨rfl, hb⟩)
            go_ret
            exact HN2.out _ (below_then HB5.out hb)
          · rw [hb] at C
            have HFF := hid (show (L.take (i + 1)).all Tm.isIRI = true by rw [HM.out.2, List.all_append, HAll.out]; simp [hb])
            clear hb
            go_wp2_with (go_at_call 53; refine C.out.mono ?_; rintro e w4 ⟨rfl, hb⟩)
            go_roundw
            case rel => exact ⟨i + 1, by omega, by go_num, below_then HBr.out hb, HFF.out⟩
            case measure => simp [intOf]; omega
        · obtain rfl : i = n := by omega
          have hall : L.all Tm.isIRI = true := by have h := HAll.out; rwa [HN.out, List.take_length] at h
          have hyes : (Pt.mk 8 [] L []).wf d = true := wf_yes 8 [] L [] d (by omega) HKK.out (by
            unfold Pt.txt; rw [if_neg (by decide), if_pos rfl, hall, ← HN.out, show decide (1 ≤ i) = true from decide_eq_true (by omega), show decide (i ≤ 4) = true from decide_eq_true (by omega)]; rfl) (fun j hj => absurd hj (by simp))
          have HYES := hid fun wz (hb : Below w.heap.size w wz) => (show Ending.returned (.int .i64 1) = .returned (.int .i64 (rmayZ (.mk 8 [] L []) d)) ∧ Below w.heap.size w wz from ⟨by unfold rmayZ; rw [hyes]; rfl, hb⟩)
          clear hall hyes
          go_wp2
          obtain ⟨wy, rfl⟩ : ∃ wy : World, wy = wr := ⟨_, rfl⟩
          go_loopw [6, 7] (fun s6 s7 wr => s6 = .int .i64 1 ∧ s7 = .int .i64 0 ∧ wr = wy) (fun _ _ _ => 0)
          case atStart => exact ⟨rfl, rfl, rfl⟩
          case round =>
            obtain ⟨rfl, rfl, hww⟩ := hrel
            subst hww
            go_wp2
            go_ret
            exact HYES.out _ HB5.out
    have b8 : (k != 8) = true := bne_iff_ne.2 k8
    have b8' : (k == 8) = false := beq_eq_false_iff_ne.2 k8
    have b1' : (k == 1) = false := beq_eq_false_iff_ne.2 k1
    cases hLL : L with
    | cons s L' =>
      have hno := HTX.out (by unfold Pt.txt; rw [if_neg k1, if_neg k8, hLL]; rfl)
      have l0 : decide (0 < L.length) = true := decide_eq_true (by rw [hLL]; simp)
      rw [← hLL]
      obtain ⟨n, hn⟩ : ∃ n, n = L.length := ⟨_, rfl⟩
      rw [← hn] at l0 c2 r1 r3 g2 ⊢
      clear hn hLL HR HLL
      have HN2 := hid (HNO.out hno)
      clear hno hkk hA
      refine wp_region_later w1.heap.size (by kernel_rfl) (by kernel_rfl) ?_
      repeat (go_big_quiet_step (first | (go_at_call 52; with_reducible exact Later.call_same (KI.out _)) | fail))
      refine wpQuiet_nil ?_
      rintro w3 ⟨p, rfl⟩
      have hb3 := hid p.low
      clear g0 g1 g2 g3
      go_wp2
      go_ret
      exact HN2.out _ (below_then HB.out hb3.out)
    | nil =>
      subst hLL
      simp only [List.length_nil] at c2 g2 r1 r3 ⊢
      have HTY := hid (show Pt.txt k [] [] = true by unfold Pt.txt; rw [if_neg k1, if_neg k8]; rfl)
      have HK2 := hid (show K.length ≤ 2 by
        have h2 := HKK.out; unfold Pt.kidsOf at h2; split at h2 <;> (try split at h2) <;> (try split at h2) <;> omega)
      clear hkk hA
      refine wp_region_later w1.heap.size (by kernel_rfl) (by kernel_rfl) ?_
      repeat (go_big_quiet_step (first | (go_at_call 52; with_reducible exact Later.call_same (KI.out _)) | fail))
      refine wpQuiet_nil ?_
      rintro w3 ⟨p, rfl⟩
      have HB3 := hid (below_then HB.out p.low)
      have HB13 := hid p.low
      have e0 := p.keep c0
      have e1 := p.keep c1
      have e2 := p.keep c2
      have e3 := p.keep c3
      obtain ⟨w3, hw3⟩ : ∃ w3, w3 = p.it := ⟨_, rfl⟩
      rw [← hw3] at HB3 HB13 e0 e1 e2 e3 ⊢
      clear hw3 p g0 g1 g2 g3 c0 c1 c2 c3
      have HT3 := hid (HT.out.keep HB13.out)
      go_wp2
      go_loopw [5] (fun s5 wr => s5 = .int .i64 0 ∧ wr = w3) (fun _ _ => 0)
      case atStart => exact ⟨rfl, rfl⟩
      case round =>
        obtain ⟨rfl, hww⟩ := hrel
        obtain ⟨wq, rfl⟩ : ∃ wq : World, wq = wr := ⟨_, rfl⟩
        subst hww
        obtain ⟨N, hN⟩ : ∃ N, N = K.length := ⟨_, rfl⟩
        have HN := hid hN
        rw [← hN] at q1 q4 e3 d3 ⊢
        have hNm : N ≤ 9223372036854775807 := by unfold maxLen at q2; omega
        clear hN
        go_wp2
        go_loopw [6, 7] (fun s6 s7 wr => ∃ i : Nat, i ≤ N ∧ s6 = .int .i64 ((1 + Pt.sizes (K.take i) : Nat)) ∧ s7 = .int .i64 i ∧ Hid (Below wq.heap.size wq wr) ∧ Hid (∀ j, j < i → (K.getD j default).wf (d + 1) = true) ∧ Hid (Pt.sizes (K.take i) < 64 * i + 1)) (fun _ s7 _ => N - (intOf s7).toNat)
        case atStart => exact ⟨0, by omega, (by simp [Pt.sizes]), rfl, Below.refl _ _, fun j hj => absurd hj (Nat.not_lt_zero j), hid (by simp [Pt.sizes])⟩
        case round =>
          obtain ⟨i, hi, rfl, rfl, HBr, HWf, HSz⟩ := hrel
          have f0 := below_keep HBr.out e0
          have f1 := below_keep HBr.out e1
          have f2 := below_keep HBr.out e2
          have f3 := below_keep HBr.out e3
          clear e0 e1 e2 e3
          have HB5 := hid (below_then HB3.out HBr.out)
          by_cases hlt : i < N
          · have ha := q4 (by omega)
            subst ha
            have hiK : i < K.length := by rw [← HN.out]; exact hlt
            have hgd : K[i] = K.getD i default := by simp [List.getD, hiK]
            have hr4 := HROW.out i hiK
            have hkp := HKID.out i hiK
            rw [hgd] at hr4 hkp
            have hmem : K.getD i default ∈ K := by rw [← hgd]; exact List.getElem_mem _
            have hsz := sizes_getD K i hiK
            obtain ⟨y, hy⟩ : ∃ y, y = K.getD i default := ⟨_, rfl⟩
            rw [← hy] at hr4 hkp hmem hsz
            obtain ⟨_, _, hLk, _, ak, capk, _, _, _, _, hgi, _⟩ := hkp.open
            obtain ⟨ta', tc', hfi, _⟩ := hLk.open
            rw [hfi, hgi] at hr4 hkp
            obtain ⟨n1, hn1⟩ : ∃ n1, n1 = y.texts.length := ⟨_, rfl⟩
            obtain ⟨n2, hn2⟩ : ∃ n2, n2 = y.kids.length := ⟨_, rfl⟩
            rw [← hn1, ← hn2] at hr4 hkp
            clear hfi hgi hLk hn1 hn2
            have hr4 := (hr4.keep HB13.out).keep HBr.out
            obtain ⟨z0, z1, z2, z3⟩ := hr4
            have C := IH.out y hmem wr _ _ (d + 1) ((hkp.keep HB13.out).keep HBr.out) (HT3.out.keep HBr.out) (by omega)
            rw [show ((d + 1 : Nat) : Int) = (d : Int) + 1 by omega] at C
            unfold pv at C
            obtain ⟨r, hrr⟩ : ∃ r, r = rmayZ y (d + 1) := ⟨_, rfl⟩
            rw [← hrr] at C
            have C := hid C
            have HY := hid hy
            have HIK := hid hiK
            have HS2 := hid hsz
            clear hkp hmem hgd hy hiK hsz
            by_cases hneg : r < 0
            · have hwn : y.wf (d + 1) = false := by
                cases hw : y.wf (d + 1)
                · rfl
                · unfold rmayZ at hrr; rw [hw, if_pos rfl] at hrr; omega
              have hno := wf_no k [] [] K d i HIK.out (by rw [← HY.out]; exact hwn)
              have HN2 := hid (HNO.out hno)
              clear hno hwn hrr
              go_wp2_with (go_at_call 35; refine C.out.mono ?_; rintro e w4 ⟨rfl, hb⟩)
              go_ret
              exact HN2.out _ (below_then HB5.out hb)
            · have hwy : y.wf (d + 1) = true := by
                cases hw : y.wf (d + 1)
                · unfold rmayZ at hrr; rw [hw] at hrr; simp at hrr; omega
                · rfl
              have hry : r = (y.size : Nat) := by unfold rmayZ at hrr; rw [hwy, if_pos rfl] at hrr; exact hrr
              have hs64 := wf_size64 hwy
              subst hry
              have HWY := hid hwy
              have hSZ := HSz.out
              have hK2 := HK2.out
              have hNN := HN.out
              have hadd : IntKind.i64.wrap (((1 + Pt.sizes (K.take i) : Nat) : Int) + ((y.size : Nat) : Int)) = ((1 + Pt.sizes (K.take (i + 1)) : Nat) : Int) := by
                rw [HS2.out, IntWalk.i64_in _ ⟨by omega, by omega⟩]; omega
              obtain ⟨sz, hsz⟩ : ∃ sz, sz = 1 + Pt.sizes (K.take i) := ⟨_, rfl⟩
              have hszb : sz < 1000 := by omega
              have HSZ := hid hsz
              have HADD := hid hadd
              rw [← hsz] at hadd ⊢
              clear hrr hwy hsz hadd hSZ hK2 hNN
              go_wp2_with (go_at_call 35; refine C.out.mono ?_; rintro e w4 ⟨rfl, hb⟩)
              go_roundw
              case rel =>
                have h1 := HS2.out
                have h2 := HSZ.out
                have h3 := HSz.out
                refine ⟨i + 1, by omega, ?_, by go_num, below_then HBr.out hb, fun j hj => ?_, (show Pt.sizes (K.take (i + 1)) < 64 * (i + 1) + 1 by omega)⟩
                · rw [h1, h2]; go_num
                · by_cases hji : j < i
                  · exact HWf.out j hji
                  · obtain rfl : j = i := by omega
                    rw [← HY.out]; exact HWY.out
              case measure => simp [intOf]; omega
          · obtain rfl : i = N := by omega
            have hyes : (Pt.mk k [] [] K).wf d = true := wf_yes k [] [] K d (by omega) HKK.out HTY.out (fun j hj => HWf.out j (by rw [HN.out]; exact hj))
            have HYES := hid fun wz (hb : Below w.heap.size w wz) => (show Ending.returned (.int .i64 ((1 + Pt.sizes (K.take i) : Nat))) = .returned (.int .i64 (rmayZ (.mk k [] [] K) d)) ∧ Below w.heap.size w wz from ⟨by unfold rmayZ; rw [hyes, size_mk, HN.out, List.take_length]; rfl, hb⟩)
            obtain ⟨sz, hsz⟩ : ∃ sz, sz = 1 + Pt.sizes (K.take i) := ⟨_, rfl⟩
            rw [← hsz] at HYES ⊢
            clear hsz hyes
            go_wp2
            go_ret
            exact HYES.out _ HB5.out
theorem rispath_any (x : Pt) (v u : Value) (w : World) (hP : PtAt w v u x) (hT : T8 w) :
    Calls Tryd.prog 20 #[pv x v u] w fun e w' => e = .returned (.bool x.may) ∧ Below w.heap.size w w' := by
  obtain ⟨w1, hw1⟩ : ∃ w1, w1 = w.alloc (.cells #[.int .i64 x.kind, str x.text, v, u] 25) := ⟨_, rfl⟩
  have HB := hid (show Below w.heap.size w w1 by rw [hw1]; exact (Below.refl _ _).alloc (Nat.le_refl _) _)
  have hX : Blk w1 w.heap.size [.int .i64 x.kind, str x.text, v, u] 25 := by rw [hw1]; exact Blk.new w _ _
  have C := rmayp_any x w1 v u 0 (hP.keep HB.out) (hT.keep HB.out) (by omega)
  rw [← rmayZ_may x]
  obtain ⟨r, hr⟩ : ∃ r, r = rmayZ x 0 := ⟨_, rfl⟩
  rw [← hr] at C ⊢
  have C := hid C
  clear hr
  obtain ⟨k, t, L, K⟩ := x
  obtain ⟨hk, _, hLk, _, ak, capk, _, _, _, _, hgi, _⟩ := hP.open
  obtain ⟨ta, tc, hfi, _⟩ := hLk.open
  unfold pv at C ⊢
  simp only [Pt.kind, Pt.text] at C hX hw1 ⊢
  subst hfi
  rw [hgi] at C hX hw1 ⊢
  obtain ⟨n1, hn1⟩ : ∃ n1, n1 = (Pt.mk k t L K).texts.length := ⟨_, rfl⟩
  obtain ⟨n2, hn2⟩ : ∃ n2, n2 = (Pt.mk k t L K).kids.length := ⟨_, rfl⟩
  rw [← hn1, ← hn2] at C hX hw1 ⊢
  obtain ⟨c0, c1, c2, c3⟩ := blk4 hX
  clear hP hn1 hn2 hgi hLk hX
  by_cases h1 : 1 ≤ r
  · by_cases h2 : r ≤ 30
    · rw [decide_eq_true h1, decide_eq_true h2]
      go_enter Tryd.func20, Tryd.ntmps20
      go_upto_region 1 with fail
      rw [← hw1]
      clear hw1
      go_wp2_with (go_at_call 35; refine C.out.mono ?_; rintro e w5 ⟨rfl, hb⟩)
      go_ret
      exact ⟨rfl, below_then HB.out hb⟩
    · rw [decide_eq_false h2, Bool.and_false]
      go_enter Tryd.func20, Tryd.ntmps20
      go_upto_region 1 with fail
      rw [← hw1]
      clear hw1
      go_wp2_with (go_at_call 35; refine C.out.mono ?_; rintro e w5 ⟨rfl, hb⟩)
      go_ret
      exact ⟨(show Ending.returned (.bool (decide (r ≤ 30))) = Ending.returned (.bool false) by rw [decide_eq_false (by omega)]), below_then HB.out hb⟩
  · rw [decide_eq_false h1, Bool.false_and]
    go_enter Tryd.func20, Tryd.ntmps20
    go_upto_region 1 with fail
    rw [← hw1]
    clear hw1
    go_wp2_with (go_at_call 35; refine C.out.mono ?_; rintro e w5 ⟨rfl, hb⟩)
    go_ret
    exact ⟨rfl, below_then HB.out hb⟩
end Go.Proofs.YtagmgkplfhlifaaDoor
