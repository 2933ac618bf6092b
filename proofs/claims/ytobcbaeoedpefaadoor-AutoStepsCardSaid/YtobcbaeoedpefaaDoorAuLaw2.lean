/- Stage 13's laws: New of any path, the laws' comparison of steps. -/
import Derived.Test.YtobcbaeoedpefaaDoorAuLaw
import Derived.Test.YtobcbaeoedpefaaDoorAuAlt
import Derived.Test.YtobcbaeoedpefaaDoorBig
import Derived.Test.YtobcbaeoedpefaaDoorRMay
namespace Go.Proofs.YtobcbaeoedpefaaDoor
set_option linter.unusedVariables false
set_option linter.unusedSimpArgs false
set_option maxRecDepth 100000
open Go.ChangeShapes Go.WideShapes Go.ChangeAt Go.RowKit
open Au
theorem may_wf {x : Pt} (h : x.may = true) : x.wf 0 = true := by unfold Pt.may at h; rw [Bool.and_eq_true] at h; exact h.1
/-- New, of any path. -/
theorem new_any (x : Pt) (v u : Value) (w : World) (hP : PtAt w v u x) (hT : T8 w) : Calls Tryd.prog 14 #[pv x v u] w (NewPost x w) :=
  new_au x v u w hP hT fun h => add_any x 0 (may_wf h)
/-- How steps stand to steps. -/
def sameS (s t : Stp) : Bool := s.from_ == t.from_ && s.to == t.to && s.back == t.back && s.not == t.not && s.texts == t.texts
def sameSs (L K : List Stp) : Bool := decide (L.length = K.length) && (List.range L.length).all fun i => sameS (L.getD i default) (K.getD i default)
theorem sameS_refl (s : Stp) : sameS s s = true := by simp [sameS]
theorem sameSs_refl (L : List Stp) : sameSs L L = true := by simp [sameSs, sameS_refl]
theorem sameSs_no {L K : List Stp} {i : Nat} (hi : i < L.length) (h : sameS (L.getD i default) (K.getD i default) = false) : sameSs L K = false := by
  cases hc : sameSs L K
  · rfl
  · simp only [sameSs, Bool.and_eq_true, List.all_eq_true, List.mem_range] at hc
    rw [hc.2 i hi] at h; cases h
theorem sameSs_yes {L K : List Stp} (h : L.length = K.length) (h' : ∀ j, j < L.length → sameS (L.getD j default) (K.getD j default) = true) : sameSs L K = true := by
  simp only [sameSs, Bool.and_eq_true, List.all_eq_true, List.mem_range, decide_eq_true_eq]
  exact ⟨h, h'⟩
theorem texts_eq {s t : Stp} (h0 : s.from_ = t.from_) (h1 : s.to = t.to) (h2 : s.back = t.back) (h3 : s.not = t.not) (h : s.texts.length = t.texts.length) (h' : ∀ j, j < s.texts.length → s.texts.getD j [] = t.texts.getD j []) : sameS s t = true := by
  have : s.texts = t.texts := List.ext_getElem h fun i hi hk => by have := h' i hi; simpa [List.getD, hi, hk] using this
  simp [sameS, h0, h1, h2, h3, this]
set_option maxHeartbeats 8000000 in
theorem lsteps_any (v v' : Value) (L K : List Stp) (w : World) (h : StepsAt w v L) (h' : StepsAt w v' K) : Calls Tryd.prog 18 #[v, v'] w fun e w' => e = .returned (.bool (sameSs L K)) ∧ Below w.heap.size w w' := by
  obtain ⟨a, cap, b, off, fv, rfl, q1, q2, q3, q4, hrow, htx⟩ := h
  obtain ⟨a', cap', b', off', fv', rfl, p1, p2, p3, p4, hrow', htx'⟩ := h'
  obtain ⟨ANS, hA⟩ : ∃ z, z = sameSs L K := ⟨_, rfl⟩
  rw [← hA]
  have HA := hid hA
  have HROW := hid hrow
  have HTX := hid htx
  have HROW' := hid hrow'
  have HTX' := hid htx'
  obtain ⟨m, hm⟩ : ∃ m, m = L.length := ⟨_, rfl⟩
  obtain ⟨m', hm'⟩ : ∃ m', m' = K.length := ⟨_, rfl⟩
  have HM := hid hm
  have HM' := hid hm'
  rw [← hm] at q1 q4 ⊢
  rw [← hm'] at p1 p4 ⊢
  have hmm : m ≤ 9223372036854775807 := by unfold maxLen at q2; omega
  clear hrow htx hm hA hrow' htx' hm'
  by_cases hmk : m = m'
  case neg =>
    have HF := hid (show ANS = false by rw [HA.out]; unfold sameSs; rw [decide_eq_false (by have := HM.out; have := HM'.out; omega), Bool.false_and])
    have e1 : ((m : Int) != (m' : Int)) = true := bne_iff_ne.2 (by omega)
    have e2 : ((m : Int) == (m' : Int)) = false := beq_eq_false_iff_ne.2 (by omega)
    go_enter Tryd.func18, Tryd.ntmps18
    go_wp2
    go_ret
    exact ⟨by rw [HF.out]; rfl, Below.refl _ _⟩
  subst hmk
  go_enter Tryd.func18, Tryd.ntmps18
  go_wp2
  go_loopw [5] (fun s5 wr => ∃ i : Nat, i ≤ m ∧ s5 = .int .i64 i ∧ Hid (Below w.heap.size w wr) ∧ Hid (∀ j, j < i → sameS (L.getD j default) (K.getD j default) = true)) (fun s5 _ => m - (intOf s5).toNat)
  case atStart => exact ⟨0, by omega, rfl, Below.refl _ _, fun j hj => absurd hj (Nat.not_lt_zero j)⟩
  case round =>
    obtain ⟨i, hi, rfl, HBr, HE⟩ := hrel
    by_cases hlt : i < m
    case neg =>
      obtain rfl : i = m := by omega
      have HF := hid (show ANS = true by rw [HA.out]; exact sameSs_yes (by rw [← HM.out, ← HM'.out]) (fun j hj => HE.out j (by have := HM.out; omega)))
      go_wp2
      go_ret
      exact ⟨by rw [HF.out]; rfl, HBr.out⟩
    have hiL : i < L.length := by rw [← HM.out]; exact hlt
    have hiK : i < K.length := by rw [← HM'.out]; exact hlt
    obtain rfl := q4 (by omega)
    obtain rfl := p4 (by omega)
    have hr5 := (HROW.out i hiL).keep HBr.out
    have htt := (HTX.out i hiL).keep HBr.out
    have hr5' := (HROW'.out i hiK).keep HBr.out
    have htt' := (HTX'.out i hiK).keep HBr.out
    have hno : sameS L[i] K[i] = false → ANS = false := fun h => by
      rw [HA.out]; exact sameSs_no hiL (by simpa [List.getD, hiL, hiK] using h)
    have hyes : sameS L[i] K[i] = true → ∀ j, j < i + 1 → sameS (L.getD j default) (K.getD j default) = true := fun h j hj => by
      by_cases hji : j < i
      · exact HE.out j hji
      · obtain rfl : j = i := by omega
        simpa [List.getD, hiL, hiK] using h
    obtain ⟨s, hsd⟩ : ∃ s, s = L[i] := ⟨_, rfl⟩
    obtain ⟨t, htd⟩ : ∃ t, t = K[i] := ⟨_, rfl⟩
    rw [← hsd] at hr5 htt hno hyes
    rw [← htd] at hr5' htt' hno hyes
    obtain ⟨ta, tc, htf, t1, t2, t3, htr⟩ := htt.open
    obtain ⟨ua, uc, huf, u1, u2, u3, hur⟩ := htt'.open
    rw [htf] at hr5
    rw [huf] at hr5'
    obtain ⟨f0, f1, f2, f3, tx⟩ := s
    obtain ⟨g0, g1, g2, g3, ux⟩ := t
    simp only at hr5 hr5' t1 u1 htr hur
    obtain ⟨d0, d1, d2, d3, d4⟩ := hr5
    obtain ⟨e0, e1, e2, e3, e4⟩ := hr5'
    have HNO := hid hno
    have HYES := hid hyes
    obtain ⟨n, hn⟩ : ∃ n, n = tx.length := ⟨_, rfl⟩
    obtain ⟨n', hn'⟩ : ∃ n', n' = ux.length := ⟨_, rfl⟩
    have HN := hid hn
    have HN' := hid hn'
    rw [← hn] at d4 t1 htr
    rw [← hn'] at e4 u1 hur
    have hnn : n ≤ 9223372036854775807 := by unfold maxLen at t2; omega
    clear hsd htd htf huf htt htt' hno hyes hn hn' hiL hiK t3 u3 q1 p1 q2 p2
    have d0q := fun p : Later wr.heap.size wr => p.keep d0
    have d1q := fun p : Later wr.heap.size wr => p.keep d1
    have d2q := fun p : Later wr.heap.size wr => p.keep d2
    have d3q := fun p : Later wr.heap.size wr => p.keep d3
    have d4q := fun p : Later wr.heap.size wr => p.keep d4
    have e0q := fun p : Later wr.heap.size wr => p.keep e0
    have e1q := fun p : Later wr.heap.size wr => p.keep e1
    have e2q := fun p : Later wr.heap.size wr => p.keep e2
    have e3q := fun p : Later wr.heap.size wr => p.keep e3
    have e4q := fun p : Later wr.heap.size wr => p.keep e4
    by_cases c0 : f0 = g0
    case neg =>
      have HF := hid (HNO.out (by simp [sameS, c0]))
      have h1 : (f0 == g0) = false := beq_eq_false_iff_ne.2 c0
      have h2 : (f0 != g0) = true := bne_iff_ne.2 c0
      go_upto_region 6 with fail
      refine wp_region_later wr.heap.size (by kernel_rfl) (by kernel_rfl) ?_
      simp only [List.append_eq, List.cons_append, List.nil_append]
      repeat (go_big_quiet_step (fail))
      refine wpQuiet_nil ?_
      rintro wn ⟨p, rfl⟩
      have HBn := hid (below_then HBr.out p.low)
      clear d0q d1q d2q d3q d4q e0q e1q e2q e3q e4q
      go_wp2
      go_ret
      exact ⟨by rw [HF.out]; rfl, HBn.out⟩
    subst c0
    by_cases c1 : f1 = g1
    case neg =>
      have HF := hid (HNO.out (by simp [sameS, c1]))
      have h1 : (f1 == g1) = false := beq_eq_false_iff_ne.2 c1
      have h2 : (f1 != g1) = true := bne_iff_ne.2 c1
      go_upto_region 6 with fail
      refine wp_region_later wr.heap.size (by kernel_rfl) (by kernel_rfl) ?_
      simp only [List.append_eq, List.cons_append, List.nil_append]
      repeat (go_big_quiet_step (fail))
      refine wpQuiet_nil ?_
      rintro wn ⟨p, rfl⟩
      have HBn := hid (below_then HBr.out p.low)
      clear d0q d1q d2q d3q d4q e0q e1q e2q e3q e4q
      go_wp2
      go_ret
      exact ⟨by rw [HF.out]; rfl, HBn.out⟩
    subst c1
    by_cases c2 : f2 = g2
    case neg =>
      have HF := hid (HNO.out (by simp [sameS, c2]))
      have h1 : (f2 == g2) = false := beq_eq_false_iff_ne.2 c2
      have h2 : (f2 != g2) = true := bne_iff_ne.2 c2
      go_upto_region 6 with fail
      refine wp_region_later wr.heap.size (by kernel_rfl) (by kernel_rfl) ?_
      simp only [List.append_eq, List.cons_append, List.nil_append]
      repeat (go_big_quiet_step (fail))
      refine wpQuiet_nil ?_
      rintro wn ⟨p, rfl⟩
      have HBn := hid (below_then HBr.out p.low)
      clear d0q d1q d2q d3q d4q e0q e1q e2q e3q e4q
      go_wp2
      go_ret
      exact ⟨by rw [HF.out]; rfl, HBn.out⟩
    subst c2
    by_cases c3 : f3 = g3
    case neg =>
      have HF := hid (HNO.out (by simp [sameS, c3]))
      have h1 : (f3 == g3) = false := beq_eq_false_iff_ne.2 c3
      have h2 : (f3 != g3) = true := bne_iff_ne.2 c3
      go_upto_region 6 with fail
      refine wp_region_later wr.heap.size (by kernel_rfl) (by kernel_rfl) ?_
      simp only [List.append_eq, List.cons_append, List.nil_append]
      repeat (go_big_quiet_step (fail))
      refine wpQuiet_nil ?_
      rintro wn ⟨p, rfl⟩
      have HBn := hid (below_then HBr.out p.low)
      clear d0q d1q d2q d3q d4q e0q e1q e2q e3q e4q
      go_wp2
      go_ret
      exact ⟨by rw [HF.out]; rfl, HBn.out⟩
    subst c3
    by_cases c4 : n = n'
    case neg =>
      have HF := hid (HNO.out (by
        have : tx ≠ ux := fun e => c4 (by rw [HN.out, HN'.out, e])
        simp [sameS, this]))
      have h1 : ((n : Int) == (n' : Int)) = false := beq_eq_false_iff_ne.2 (by omega)
      have h2 : ((n : Int) != (n' : Int)) = true := bne_iff_ne.2 (by omega)
      go_upto_region 6 with fail
      refine wp_region_later wr.heap.size (by kernel_rfl) (by kernel_rfl) ?_
      simp only [List.append_eq, List.cons_append, List.nil_append]
      repeat (go_big_quiet_step (fail))
      refine wpQuiet_nil ?_
      rintro wn ⟨p, rfl⟩
      have HBn := hid (below_then HBr.out p.low)
      clear d0q d1q d2q d3q d4q e0q e1q e2q e3q e4q
      go_wp2
      go_ret
      exact ⟨by rw [HF.out]; rfl, HBn.out⟩
    subst c4
    have HT := hid htr
    have HU := hid hur
    clear htr hur
    go_upto_region 6 with fail
    refine wp_region_later wr.heap.size (by kernel_rfl) (by kernel_rfl) ?_
    simp only [List.append_eq, List.cons_append, List.nil_append]
    repeat (go_big_quiet_step (fail))
    refine wpQuiet_nil ?_
    rintro wn ⟨p, rfl⟩
    have HWN := hid p.low
    clear d0q d1q d2q d3q d4q e0q e1q e2q e3q e4q
    go_wp2
    obtain ⟨wn, hwn⟩ : ∃ wn, wn = p.it := ⟨_, rfl⟩
    rw [← hwn] at HWN ⊢
    clear hwn p
    go_loopw [6] (fun s6 wq => ∃ k : Nat, k ≤ n ∧ s6 = .int .i64 k ∧ Hid (Below wr.heap.size wr wq) ∧ Hid (∀ j, j < k → tx.getD j [] = ux.getD j [])) (fun s6 _ => n - (intOf s6).toNat)
    case atStart => exact ⟨0, by omega, rfl, HWN.out, fun j hj => absurd hj (Nat.not_lt_zero j)⟩
    case round =>
      obtain ⟨k, hk, rfl, HBq, HX⟩ := hrel
      have d4 := below_keep HBq.out d4
      have e4 := below_keep HBq.out e4
      by_cases hkl : k < n
      case neg =>
        obtain rfl : k = n := by omega
        have HF := hid (HYES.out (texts_eq rfl rfl rfl rfl (by show tx.length = ux.length; rw [← HN.out, ← HN'.out]) (fun j hj => HX.out j (by have := HN.out; show _ < _; simp only at hj; omega))))
        go_wp2
        go_roundw
        case rel => exact ⟨i + 1, by omega, by go_num, below_then HBr.out HBq.out, HF.out⟩
        case measure => simp [intOf]; omega
      obtain ⟨tb, tof, rfl, hc⟩ := HT.out.get hkl
      obtain ⟨ub, uo, rfl, hc'⟩ := HU.out.get hkl
      have x0 := below_keep HBq.out (hc k hkl)
      have x1 := below_keep HBq.out (hc' k hkl)
      have HXN := hid (show ∀ y z, y = tx.getD k [] → z = ux.getD k [] → (y = z → ∀ j, j < k + 1 → tx.getD j [] = ux.getD j []) ∧ (y ≠ z → tx ≠ ux) from fun y z hy hz => ⟨fun e j hj => by
        by_cases hjk : j < k
        · exact HX.out j hjk
        · obtain rfl : j = k := by omega
          rw [← hy, ← hz, e], fun hne e => hne (by rw [hy, hz, e])⟩)
      obtain ⟨y, hy⟩ : ∃ y, y = tx.getD k [] := ⟨_, rfl⟩
      obtain ⟨z, hz⟩ : ∃ z, z = ux.getD k [] := ⟨_, rfl⟩
      rw [← hy] at x0
      rw [← hz] at x1
      have HXN := hid (HXN.out y z hy hz)
      clear hc hc' hy hz
      by_cases hyz : y = z
      · have HF := hid (HXN.out.1 hyz)
        subst hyz
        go_upto_region 11 with fail
        go_quiet (fail)
        have HBn := hid (below_drawn HBq.out nq)
        go_wp2
        go_roundw
        case rel => exact ⟨k + 1, by omega, by go_num, HBn.out, HF.out⟩
        case measure => simp [intOf]; omega
      · have HF := hid (HNO.out (by have := HXN.out.2 hyz; simp [sameS, this]))
        have h1 : (y == z) = false := beq_eq_false_iff_ne.2 hyz
        have h2 : (y != z) = true := bne_iff_ne.2 hyz
        go_upto_region 11 with fail
        go_quiet (fail)
        have HBn := hid (below_drawn (below_then HBr.out HBq.out) nq)
        go_wp2
        go_ret
        exact ⟨by rw [HF.out]; rfl, HBn.out⟩
end Go.Proofs.YtobcbaeoedpefaaDoor
