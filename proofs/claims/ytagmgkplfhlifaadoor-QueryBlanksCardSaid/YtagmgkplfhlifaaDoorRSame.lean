/- The document's SamePath. -/
import Derived.Test.YtagmgkplfhlifaaDoorQPath
namespace Go.Proofs.YtagmgkplfhlifaaDoor
set_option linter.unusedVariables false
set_option linter.unusedSimpArgs false
set_option maxRecDepth 100000
open Go.ChangeShapes Go.WideShapes Go.ChangeAt Go.RowKit
open Au
namespace Au
mutual
def Pt.same : Pt → Pt → Bool | .mk k t L K, .mk k' t' L' K' => decide (k = k') && decide (t = t') && decide (L = L') && Pt.sames K K'
def Pt.sames : List Pt → List Pt → Bool
  | [], [] => true
  | x :: r, y :: s => x.same y && Pt.sames r s
  | _, _ => false
end
theorem Pt.sames_len : ∀ K K' : List Pt, Pt.sames K K' = true → K.length = K'.length
  | [], [], _ => rfl
  | x :: r, y :: s, h => by rw [Pt.sames, Bool.and_eq_true] at h; simp [Pt.sames_len r s h.2]
  | [], _ :: _, h => by simp [Pt.sames] at h
  | _ :: _, [], h => by simp [Pt.sames] at h
theorem Pt.sames_iff : ∀ (K K' : List Pt), K.length = K'.length → (Pt.sames K K' = true ↔ ∀ i, i < K.length → (K.getD i default).same (K'.getD i default) = true)
  | [], [], _ => by simp [Pt.sames]
  | x :: r, y :: s, h => by
    rw [Pt.sames, Bool.and_eq_true, Pt.sames_iff r s (by simpa using h)]
    constructor
    · rintro ⟨h1, h2⟩ i hi
      cases i with
      | zero => exact h1
      | succ i => exact h2 i (by simpa using hi)
    · intro h2
      exact ⟨h2 0 (by simp), fun i hi => h2 (i + 1) (by simpa using hi)⟩
  | [], _ :: _, h => by cases h
  | _ :: _, [], h => by cases h
theorem Pt.same_iff (x : Pt) : ∀ y : Pt, x.same y = true ↔ x = y := by
  induction x using Pt.ind with
  | h k t L K ih =>
    intro y
    obtain ⟨k', t', L', K'⟩ := y
    rw [Pt.same]
    simp only [Bool.and_eq_true, decide_eq_true_eq]
    constructor
    · rintro ⟨⟨⟨rfl, rfl⟩, rfl⟩, h⟩
      have hl := Pt.sames_len K K' h
      have h5 := (Pt.sames_iff K K' hl).1 h
      have : K = K' := List.ext_getElem hl fun i h1 h2 => by
        have h3 := h5 i h1
        simp only [List.getD, List.getElem?_eq_getElem h1, List.getElem?_eq_getElem h2, Option.getD_some] at h3
        exact (ih _ (List.getElem_mem h1) _).1 h3
      rw [this]
    · intro h
      cases h
      refine ⟨⟨⟨rfl, rfl⟩, rfl⟩, (Pt.sames_iff K K rfl).2 fun i hi => ?_⟩
      simp only [List.getD, List.getElem?_eq_getElem hi, Option.getD_some]
      exact (ih _ (List.getElem_mem hi) _).2 rfl
end Au
theorem sm_pv_open {W : World} {v u : Value} {x : Pt} (h : PtAt W v u x) : ∃ a n c a' n' c', v = .slice a n c ∧ u = .slice a' n' c' := by
  obtain ⟨_, _, hL, _, a', c', _, _, _, _, hg, _⟩ := h.open
  obtain ⟨a, c, hf, _⟩ := hL.open
  exact ⟨a, _, c, a', _, c', hf, hg⟩
def SameOk (x : Pt) : Prop := ∀ (y : Pt) (v u v' u' : Value) (w : World), PtAt w v u x → PtAt w v' u' y →
  Calls Tryd.prog 16 #[pv x v u, pv y v' u'] w fun e w' => e = .returned (.bool (x.same y)) ∧ Below w.heap.size w w'
set_option maxHeartbeats 4000000 in
theorem rsame_of (k : Int) (t : T) (L : List T) (K : List Pt) (IH : Hid (∀ x ∈ K, SameOk x)) : SameOk (.mk k t L K) := by
  intro y v u v' u' w hP hP'
  obtain ⟨k', t', L', K'⟩ := y
  obtain ⟨w1, hw1, hz1, HX1, HP1, HB1⟩ := pt_box w _ v u hP
  obtain ⟨w2, hw2, hz2, HX2, HP2, HB2⟩ := pt_box w1 _ v' u' (hP'.keep HB1.out)
  have HX1 := hid (HX1.out.keep HB2.out)
  have HP1 := hid (HP1.out.keep HB2.out)
  have HB := hid (HB1.out.trans (HB2.out.mono HB1.out.size))
  obtain ⟨c0, c1, c2, c3⟩ := blk4 HX1.out
  obtain ⟨d0, d1, d2, d3⟩ := blk4 HX2.out
  obtain ⟨hk, ht, hL, hl, a, cap, b, off, f, g, rfl, h1, h2, h3, h4, hc, hK⟩ := HP1.out.open
  obtain ⟨hk', ht', hL', hl', a', cap', b', off', f', g', rfl, h1', h2', h3', h4', hc', hK'⟩ := HP2.out.open
  obtain ⟨ta, tc, rfl, q1, q2, q3, hr⟩ := hL.open
  obtain ⟨ta', tc', rfl, q1', q2', q3', hr'⟩ := hL'.open
  simp only [Pt.kind, Pt.text, Pt.texts, Pt.kids] at hw1 hw2 c0 c1 c2 c3 d0 d1 d2 d3 hk ht hk' ht' h1 h2 h4 hc hK h1' h2' h4' hc' hK' q1 q2 q3 hr q1' q2' q3' hr' hl hl' ⊢
  have HA := hid (show (Pt.mk k t L K).same (.mk k' t' L' K') = (decide (k = k') && decide (t = t') && decide (L = L') && Pt.sames K K') by rw [Pt.same])
  obtain ⟨ANS, hA⟩ : ∃ z, z = (Pt.mk k t L K).same (.mk k' t' L' K') := ⟨_, rfl⟩
  rw [← hA] at HA ⊢
  rw [hz1] at d0 d1 d2 d3
  have HR := hid hr
  have HR' := hid hr'
  have HC := hid hc
  have HC' := hid hc'
  have HK := hid hK
  have HK' := hid hK'
  have HLL := hid hl
  have HLL' := hid hl'
  unfold pv
  simp only [Pt.kind, Pt.text]
  clear hA HX1 HX2 HP1 HP2 HB1 HB2 hP hP' hz2 hr hr' hc hc' hK hK' hL hL' hl hl'
  by_cases e1 : k = k'
  case neg =>
    have b1 : (k == k') = false := beq_eq_false_iff_ne.2 e1
    have HF := hid (show ANS = false by rw [HA.out, decide_eq_false e1]; rfl)
    obtain ⟨N, hN⟩ : ∃ N, N = K.length := ⟨_, rfl⟩
    obtain ⟨M, hM⟩ : ∃ N, N = L.length := ⟨_, rfl⟩
    obtain ⟨N', hN'⟩ : ∃ N, N = K'.length := ⟨_, rfl⟩
    obtain ⟨M', hM'⟩ : ∃ N, N = L'.length := ⟨_, rfl⟩
    rw [← hN, ← hM] at hw1 ⊢
    rw [← hN', ← hM'] at hw2 ⊢
    clear HA hN hM hN' hM'
    go_enter Tryd.func16, Tryd.ntmps16
    go_upto_region 1 with fail
    rw [← hw1, ← hw2]
    clear hw1 hw2
    go_wp2
    go_ret
    exact ⟨by rw [HF.out]; rfl, HB.out⟩
  subst e1
  by_cases e2 : t = t'
  case neg =>
    have b1 : (t == t') = false := beq_eq_false_iff_ne.2 e2
    have HF := hid (show ANS = false by rw [HA.out, decide_eq_false e2]; simp)
    obtain ⟨N, hN⟩ : ∃ N, N = K.length := ⟨_, rfl⟩
    obtain ⟨M, hM⟩ : ∃ N, N = L.length := ⟨_, rfl⟩
    obtain ⟨N', hN'⟩ : ∃ N, N = K'.length := ⟨_, rfl⟩
    obtain ⟨M', hM'⟩ : ∃ N, N = L'.length := ⟨_, rfl⟩
    rw [← hN, ← hM] at hw1 ⊢
    rw [← hN', ← hM'] at hw2 ⊢
    clear HA hN hM hN' hM'
    go_enter Tryd.func16, Tryd.ntmps16
    go_upto_region 1 with fail
    rw [← hw1, ← hw2]
    clear hw1 hw2
    go_wp2
    go_ret
    exact ⟨by rw [HF.out]; rfl, HB.out⟩
  subst e2
  have HA := hid (show ANS = (decide (L = L') && Pt.sames K K') by rw [HA.out, decide_eq_true rfl, decide_eq_true rfl]; simp)
  by_cases e3 : L.length = L'.length
  case neg =>
    have HF := hid (show ANS = false by rw [HA.out, decide_eq_false (fun h => e3 (by rw [h]))]; rfl)
    obtain ⟨N, hN⟩ : ∃ N, N = K.length := ⟨_, rfl⟩
    obtain ⟨M, hM⟩ : ∃ N, N = L.length := ⟨_, rfl⟩
    obtain ⟨N', hN'⟩ : ∃ N, N = K'.length := ⟨_, rfl⟩
    obtain ⟨M', hM'⟩ : ∃ N, N = L'.length := ⟨_, rfl⟩
    rw [← hM] at c2
    rw [← hM'] at d2
    rw [← hN] at c3
    rw [← hN'] at d3
    rw [← hM, ← hM'] at e3
    rw [← hN, ← hM] at hw1 ⊢
    rw [← hN', ← hM'] at hw2 ⊢
    have b3 : ((M : Int) == (M' : Int)) = false := beq_eq_false_iff_ne.2 (by omega)
    clear HA hN hM hN' hM' HC HC' HK HK' HR HR' HLL HLL' h1 h2 h3 h4 h1' h2' h3' h4' q1 q2 q3 q1' q2' q3'
    go_enter Tryd.func16, Tryd.ntmps16
    go_upto_region 1 with fail
    rw [← hw1, ← hw2]
    clear hw1 hw2
    go_wp2
    go_ret
    exact ⟨by rw [HF.out]; rfl, HB.out⟩
  by_cases e4 : K.length = K'.length
  case neg =>
    have HF := hid (show ANS = false by
      rw [HA.out]
      cases hs : Pt.sames K K'
      · simp
      · exact absurd (Pt.sames_len K K' hs) e4)
    obtain ⟨N, hN⟩ : ∃ N, N = K.length := ⟨_, rfl⟩
    obtain ⟨M, hM⟩ : ∃ N, N = L.length := ⟨_, rfl⟩
    obtain ⟨N', hN'⟩ : ∃ N, N = K'.length := ⟨_, rfl⟩
    rw [← e3, ← hM] at d2
    rw [← hM] at c2
    rw [← hN] at c3
    rw [← hN'] at d3
    rw [← hN, ← hN'] at e4
    rw [← hN, ← hM] at hw1 ⊢
    rw [← hN', ← e3, ← hM] at hw2 ⊢
    have b3 : ((N : Int) == (N' : Int)) = false := beq_eq_false_iff_ne.2 (by omega)
    clear HA hN hM hN' HC HC' HK HK' HR HR' HLL HLL' h1 h2 h3 h4 h1' h2' h3' h4' q1 q2 q3 q1' q2' q3' e3
    go_enter Tryd.func16, Tryd.ntmps16
    go_upto_region 1 with fail
    rw [← hw1, ← hw2]
    clear hw1 hw2
    go_wp2
    go_ret
    exact ⟨by rw [HF.out]; rfl, HB.out⟩
  obtain ⟨N, hN⟩ : ∃ N, N = K.length := ⟨_, rfl⟩
  obtain ⟨M, hM⟩ : ∃ N, N = L.length := ⟨_, rfl⟩
  have HNM := hid (show N = K.length ∧ M = L.length ∧ N = K'.length ∧ M = L'.length from ⟨hN, hM, hN.trans e4, hM.trans e3⟩)
  rw [← e3, ← hM] at d2 q1' q3' hw2
  rw [← hM] at c2 q1 q3 hw1
  rw [← hN] at c3 h1 h4 hw1
  rw [← e4, ← hN] at d3 h1' h4' hw2
  rw [← e4, ← e3, ← hN, ← hM]
  have HRG := hid (fun i (hi : i < M) => HR.out.get (show i < L.length by rw [← hM]; exact hi))
  have HRG' := hid (fun i (hi : i < M) => HR'.out.get (show i < L'.length by rw [← e3, ← hM]; exact hi))
  have hMm : M ≤ 9223372036854775807 := by unfold maxLen at q2; omega
  have hNm : N ≤ 9223372036854775807 := by unfold maxLen at h2; omega
  clear hN hM e3 e4 HR HR'
  go_enter Tryd.func16, Tryd.ntmps16
  go_upto_region 1 with fail
  rw [← hw1, ← hw2]
  clear hw1 hw2
  go_wp2
  go_loopw [5] (fun s5 wr => ∃ i : Nat, i ≤ M ∧ s5 = .int .i64 i ∧ Hid (Below w2.heap.size w2 wr) ∧ Hid (L.take i = L'.take i)) (fun s5 _ => M - (intOf s5).toNat)
  case atStart => exact ⟨0, by omega, rfl, Below.refl _ _, rfl⟩
  case round =>
    obtain ⟨i, hi, rfl, HBr, HTk⟩ := hrel
    have c2r := below_keep HBr.out c2
    have d2r := below_keep HBr.out d2
    have c3r := below_keep HBr.out c3
    have d3r := below_keep HBr.out d3
    by_cases hlt : i < M
    case pos =>
      obtain ⟨bb, bo, hab, hcc⟩ := HRG.out i hlt
      obtain ⟨bb', bo', hab', hcc'⟩ := HRG'.out i hlt
      subst hab hab'
      have r0 := below_keep HBr.out (hcc i (by rw [← HNM.out.2.1]; exact hlt))
      have r0' := below_keep HBr.out (hcc' i (by rw [← HNM.out.2.2.2]; exact hlt))
      have hsl := HLL.out i
      have hsl' := HLL'.out i
      have HEQ := hid (show L.getD i [] = L'.getD i [] → L.take (i + 1) = L'.take (i + 1) from fun h => by
        have h1 : i < L.length := by rw [← HNM.out.2.1]; exact hlt
        have h2 : i < L'.length := by rw [← HNM.out.2.2.2]; exact hlt
        rw [List.take_add_one, List.take_add_one, HTk.out, List.getElem?_eq_getElem h1, List.getElem?_eq_getElem h2]
        simp only [List.getD, List.getElem?_eq_getElem h1, List.getElem?_eq_getElem h2, Option.getD_some] at h
        rw [h])
      have HNE := hid (show ¬ (L.getD i [] = L'.getD i []) → ANS = false from fun h => by
        rw [HA.out, decide_eq_false (p := L = L') (fun e => h (by rw [e]))]; rfl)
      obtain ⟨s, hs⟩ : ∃ s, s = L.getD i [] := ⟨_, rfl⟩
      obtain ⟨s', hs'⟩ : ∃ s, s = L'.getD i [] := ⟨_, rfl⟩
      rw [← hs] at HEQ HNE r0 hsl
      rw [← hs'] at HEQ HNE r0' hsl'
      clear hs hs' hcc hcc'
      have c2q := fun p : Later wr.heap.size wr => p.keep c2r
      have d2q := fun p : Later wr.heap.size wr => p.keep d2r
      have r0q := fun p : Later wr.heap.size wr => p.keep r0
      have r0q' := fun p : Later wr.heap.size wr => p.keep r0'
      by_cases hss : s = s'
      · subst hss
        have HTk2 := hid (HEQ.out rfl)
        clear HEQ HNE
        go_upto_region 6 with fail
        refine wp_region_later wr.heap.size (by kernel_rfl) (by kernel_rfl) ?_
        repeat (go_big_quiet_step (fail))
        refine wpQuiet_nil ?_
        rintro wn ⟨p, rfl⟩
        have HBn := hid (below_then HBr.out p.low)
        clear c2q d2q r0q r0q'
        go_wp2
        go_roundw
        case rel => exact ⟨i + 1, by omega, by go_num, HBn.out, HTk2.out⟩
        case measure => simp [intOf]; omega
      · have HF := hid (HNE.out hss)
        have b1 : (s == s') = false := beq_eq_false_iff_ne.2 hss
        clear HEQ HNE
        go_upto_region 6 with fail
        refine wp_region_later wr.heap.size (by kernel_rfl) (by kernel_rfl) ?_
        repeat (go_big_quiet_step (fail))
        refine wpQuiet_nil ?_
        rintro wn ⟨p, rfl⟩
        have HBn := hid (below_then HBr.out p.low)
        clear c2q d2q r0q r0q'
        go_wp2
        go_ret
        exact ⟨by rw [HF.out]; rfl, HB.out.trans (HBn.out.mono HB.out.size)⟩
    case neg =>
      obtain rfl : i = M := by omega
      have HLE := hid (show L = L' from by
        have h := HTk.out
        rw [List.take_of_length_le (by rw [← HNM.out.2.1]; exact Nat.le_refl _), List.take_of_length_le (by rw [← HNM.out.2.2.2]; exact Nat.le_refl _)] at h
        exact h)
      have HA := hid (show ANS = Pt.sames K K' by rw [HA.out, decide_eq_true HLE.out]; rfl)
      obtain ⟨wa, hwa⟩ : ∃ wa, wa = wr := ⟨_, rfl⟩
      have HBa := hid HBr.out
      rw [← hwa] at HBa c2r c3r d2r d3r ⊢
      clear hwa HTk HBr HRG HRG' HLE HLL HLL' c0 c1 c2 c3 d0 d1 d2 d3 q1 q1' q2 q2' q3 q3' hi hlt
      go_wp2
      go_loopw [6] (fun s6 wr => ∃ j : Nat, j ≤ N ∧ s6 = .int .i64 j ∧ Hid (Below wa.heap.size wa wr) ∧ Hid (∀ l, l < j → (K.getD l default).same (K'.getD l default) = true)) (fun s6 _ => N - (intOf s6).toNat)
      case atStart => exact ⟨0, by omega, rfl, Below.refl _ _, fun l hl => absurd hl (Nat.not_lt_zero _)⟩
      case round =>
        obtain ⟨j, hj, rfl, HBr, HSm⟩ := hrel
        have c3s := below_keep HBr.out c3r
        have d3s := below_keep HBr.out d3r
        by_cases hlt : j < N
        case neg =>
          obtain rfl : j = N := by omega
          have HF := hid (show ANS = true by
            rw [HA.out]
            refine (Pt.sames_iff K K' (HNM.out.1.symm.trans HNM.out.2.2.1)).2 (fun l hl => HSm.out l (by rw [HNM.out.1]; exact hl)))
          go_wp2
          go_ret
          exact ⟨by rw [HF.out]; rfl, HB.out.trans ((HBa.out.trans (HBr.out.mono HBa.out.size)).mono HB.out.size)⟩
        case pos =>
          have ha := h4 (by omega)
          have ha' := h4' (by omega)
          subst ha ha'
          have hjK : j < K.length := by rw [← HNM.out.1]; exact hlt
          have hjK' : j < K'.length := by rw [← HNM.out.2.2.1]; exact hlt
          obtain ⟨r0, r1, r2, r3⟩ := HC.out j hjK
          obtain ⟨s0, s1, s2, s3⟩ := HC'.out j hjK'
          have hx := HK.out j hjK
          have hy := HK'.out j hjK'
          obtain ⟨xa, xn, xc, xa', xn', xc', e1, e2⟩ := sm_pv_open hx
          obtain ⟨ya, yn, yc, ya', yn', yc', e3, e4⟩ := sm_pv_open hy
          rw [e1] at r2 hx
          rw [e2] at r3 hx
          rw [e3] at s2 hy
          rw [e4] at s3 hy
          have hgd : K[j] = K.getD j default := by simp [List.getD, hjK]
          have hgd' : K'[j] = K'.getD j default := by simp [List.getD, hjK']
          have hmem : K[j] ∈ K := List.getElem_mem _
          rw [hgd] at r0 r1 hx hmem
          rw [hgd'] at s0 s1 hy
          have HBw := hid (HBa.out.trans (HBr.out.mono HBa.out.size))
          have C := hid fun p : Later wr.heap.size wr => IH.out _ hmem _ _ _ _ _ p.it ((hx.keep HBw.out).keep p.low) ((hy.keep HBw.out).keep p.low)
          have HSX := hid (show (K.getD j default).same (K'.getD j default) = true → ∀ l, l < j + 1 → (K.getD l default).same (K'.getD l default) = true from fun h l hl => by
            by_cases hlj : l = j
            · subst hlj; exact h
            · exact HSm.out l (by omega))
          have HNX := hid (show (K.getD j default).same (K'.getD j default) = false → ANS = false from fun h => by
            rw [HA.out]
            cases hs : Pt.sames K K'
            · rfl
            · have := (Pt.sames_iff K K' (HNM.out.1.symm.trans HNM.out.2.2.1)).1 hs j hjK
              rw [h] at this; cases this)
          obtain ⟨x, hxe⟩ : ∃ x, x = K.getD j default := ⟨_, rfl⟩
          obtain ⟨y, hye⟩ : ∃ x, x = K'.getD j default := ⟨_, rfl⟩
          rw [← hxe] at C r0 r1 HSX HNX
          rw [← hye] at C s0 s1 HSX HNX
          unfold pv at C
          obtain ⟨xk, hxk⟩ : ∃ z, z = x.kind := ⟨_, rfl⟩
          obtain ⟨xt, hxt⟩ : ∃ z, z = x.text := ⟨_, rfl⟩
          obtain ⟨yk, hyk⟩ : ∃ z, z = y.kind := ⟨_, rfl⟩
          obtain ⟨yt, hyt⟩ : ∃ z, z = y.text := ⟨_, rfl⟩
          rw [← hxk, ← hxt, ← hyk, ← hyt] at C
          rw [← hxk] at r0
          rw [← hxt] at r1
          rw [← hyk] at s0
          rw [← hyt] at s1
          obtain ⟨bb, hbb⟩ : ∃ z, z = x.same y := ⟨_, rfl⟩
          rw [← hbb] at C HSX HNX
          have c3q := fun p : Later wr.heap.size wr => p.keep c3s
          have d3q := fun p : Later wr.heap.size wr => p.keep d3s
          have r0q := fun p : Later wr.heap.size wr => p.keep (below_keep HBw.out r0)
          have r1q := fun p : Later wr.heap.size wr => p.keep (below_keep HBw.out r1)
          have r2q := fun p : Later wr.heap.size wr => p.keep (below_keep HBw.out r2)
          have r3q := fun p : Later wr.heap.size wr => p.keep (below_keep HBw.out r3)
          have s0q := fun p : Later wr.heap.size wr => p.keep (below_keep HBw.out s0)
          have s1q := fun p : Later wr.heap.size wr => p.keep (below_keep HBw.out s1)
          have s2q := fun p : Later wr.heap.size wr => p.keep (below_keep HBw.out s2)
          have s3q := fun p : Later wr.heap.size wr => p.keep (below_keep HBw.out s3)
          clear hxe hye hxk hxt hyk hyt hbb hx hy hmem hgd hgd' e1 e2 e3 e4 r0 r1 r2 r3 s0 s1 s2 s3 hjK hjK'
          cases bb
          case false =>
            have HF := hid (HNX.out rfl)
            clear HSX HNX
            go_upto_region 11 with fail
            refine wp_region_later wr.heap.size (by kernel_rfl) (by kernel_rfl) ?_
            repeat (go_big_quiet_step (first | (go_at_call 16; with_reducible exact Later.call (Nat.le_refl _) (C.out _)) | fail))
            refine wpQuiet_nil ?_
            rintro wn ⟨p, rfl⟩
            have HBn := hid (below_then HBw.out p.low)
            clear c3q d3q r0q r1q r2q r3q s0q s1q s2q s3q C
            go_wp2
            go_ret
            exact ⟨by rw [HF.out]; rfl, HB.out.trans (HBn.out.mono HB.out.size)⟩
          case true =>
            have HS2 := hid (HSX.out rfl)
            clear HSX HNX
            go_upto_region 11 with fail
            refine wp_region_later wr.heap.size (by kernel_rfl) (by kernel_rfl) ?_
            repeat (go_big_quiet_step (first | (go_at_call 16; with_reducible exact Later.call (Nat.le_refl _) (C.out _)) | fail))
            refine wpQuiet_nil ?_
            rintro wn ⟨p, rfl⟩
            have HBn := hid (below_then HBr.out p.low)
            clear c3q d3q r0q r1q r2q r3q s0q s1q s2q s3q C
            go_wp2
            go_roundw
            case rel => exact ⟨j + 1, by omega, by go_num, HBn.out, HS2.out⟩
            case measure => simp [intOf]; omega
theorem rsame_any : ∀ x : Pt, SameOk x := by
  intro x
  induction x using Pt.ind with
  | h k t L K ih => exact rsame_of k t L K (hid ih)
end Go.Proofs.YtagmgkplfhlifaaDoor
