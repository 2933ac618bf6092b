/- slices.Equal of texts; query's sameButKids; a path at an address. -/
import Derived.Test.YtagmgkplfhlifaaDoorSmMap
import Derived.Test.YtagmgkplfhlifaaDoorQPath
namespace Go.Proofs.YtagmgkplfhlifaaDoor
set_option linter.unusedVariables false
set_option linter.unusedSimpArgs false
set_option maxRecDepth 100000
open Go.ChangeShapes Go.WideShapes Go.ChangeAt Go.RowKit
open Au
set_option maxHeartbeats 2000000 in
theorem seq_any (L L' : List T) (v v' : Value) (w : World) (hL : TextsAt w v L) (hL' : TextsAt w v' L') (hl : ∀ i, (L.getD i []).length ≤ 140737488351232) (hl' : ∀ i, (L'.getD i []).length ≤ 140737488351232) :
    Calls Tryd.prog 49 #[v, v'] w fun e w' => e = .returned (.bool (decide (L = L'))) ∧ Below w.heap.size w w' := by
  obtain ⟨a, c, rfl, q1, q2, q3, hr⟩ := hL.open
  obtain ⟨a', c', rfl, q1', q2', q3', hr'⟩ := hL'.open
  obtain ⟨ANS, hA⟩ : ∃ z, z = decide (L = L') := ⟨_, rfl⟩
  rw [← hA]
  have HA := hid hA
  have HR := hid hr
  have HR' := hid hr'
  have HLL := hid hl
  have HLL' := hid hl'
  obtain ⟨M, hM⟩ : ∃ N, N = L.length := ⟨_, rfl⟩
  obtain ⟨M', hM'⟩ : ∃ N, N = L'.length := ⟨_, rfl⟩
  have HM := hid hM
  have HM' := hid hM'
  rw [← hM] at HR q1 q3 ⊢
  rw [← hM'] at HR' q1' q3' ⊢
  clear hA hr hr' hl hl' hL hL' hM hM'
  by_cases e3 : M = M'
  case neg =>
    have HF := hid (show ANS = false by rw [HA.out, decide_eq_false (fun h => e3 (by rw [HM.out, HM'.out, h]))])
    have b3 : ((M : Int) != (M' : Int)) = true := bne_iff_ne.2 (by omega)
    go_enter Tryd.func49, Tryd.ntmps49
    go_wp2
    go_ret
    exact ⟨by rw [HF.out]; rfl, Below.refl _ _⟩
  subst e3
  have hMb : M ≤ 9223372036854775807 := by unfold maxLen at q2; omega
  go_enter Tryd.func49, Tryd.ntmps49
  go_wp2
  go_loopw [13] (fun s13 wr => ∃ i : Nat, i ≤ M ∧ s13 = .int .i64 i ∧ Hid (Below w.heap.size w wr) ∧ Hid (L.take i = L'.take i)) (fun s13 _ => M - (intOf s13).toNat)
  case atStart => exact ⟨0, by omega, rfl, Below.refl _ _, rfl⟩
  case round =>
    obtain ⟨i, hi, rfl, HBr, HTk⟩ := hrel
    by_cases hlt : i < M
    case pos =>
      obtain ⟨b, off, hab, hc⟩ := HR.out.get hlt
      obtain ⟨b', off', hab', hc'⟩ := HR'.out.get hlt
      have d0 := below_keep HBr.out (hc i hlt)
      have d0' := below_keep HBr.out (hc' i hlt)
      have hsl := HLL.out i
      have hsl' := HLL'.out i
      subst hab hab'
      have hiL : i < L.length := by rw [← HM.out]; exact hlt
      have hiL' : i < L'.length := by rw [← HM'.out]; exact hlt
      have HEQ := hid (show L.getD i [] = L'.getD i [] → L.take (i + 1) = L'.take (i + 1) from fun h => by
        rw [List.take_add_one, List.take_add_one, HTk.out, List.getElem?_eq_getElem hiL, List.getElem?_eq_getElem hiL']
        simp only [List.getD, List.getElem?_eq_getElem hiL, List.getElem?_eq_getElem hiL', Option.getD_some] at h
        rw [h])
      have HNE := hid (show ¬ (L.getD i [] = L'.getD i []) → ANS = false from fun h => by
        rw [HA.out, decide_eq_false (p := L = L') (fun e => h (by rw [e]))])
      obtain ⟨s, hs⟩ : ∃ s, s = L.getD i [] := ⟨_, rfl⟩
      obtain ⟨s', hs'⟩ : ∃ s, s = L'.getD i [] := ⟨_, rfl⟩
      rw [← hs] at d0 hsl HEQ HNE
      rw [← hs'] at d0' hsl' HEQ HNE
      clear hc hc' hs hs' hiL hiL'
      have d0q := fun p : Later wr.heap.size wr => p.keep d0
      have d0q' := fun p : Later wr.heap.size wr => p.keep d0'
      by_cases hss : s = s'
      · subst hss
        have b1 : (s != s) = false := bne_self_eq_false s
        have HT2 := hid (HEQ.out rfl)
        clear HEQ HNE
        go_upto_region 6 with fail
        refine wp_region_later wr.heap.size (by kernel_rfl) (by kernel_rfl) ?_
        repeat (go_big_quiet_step (fail))
        refine wpQuiet_nil ?_
        rintro wn ⟨p, rfl⟩
        have HBn := hid (below_then HBr.out p.low)
        clear d0q d0q'
        go_wp2
        go_roundw
        case rel => exact ⟨i + 1, by omega, by go_num, HBn.out, HT2.out⟩
        case measure => simp [intOf]; omega
      · have HF := hid (HNE.out hss)
        have b1 : (s != s') = true := bne_iff_ne.2 hss
        have b2 : (s == s') = false := beq_eq_false_iff_ne.2 hss
        clear HEQ HNE
        go_upto_region 6 with fail
        refine wp_region_later wr.heap.size (by kernel_rfl) (by kernel_rfl) ?_
        repeat (go_big_quiet_step (fail))
        refine wpQuiet_nil ?_
        rintro wn ⟨p, rfl⟩
        have HBn := hid (below_then HBr.out p.low)
        clear d0q d0q'
        go_wp2
        go_ret
        exact ⟨by rw [HF.out]; rfl, HBn.out⟩
    case neg =>
      obtain rfl : i = M := by omega
      have HF := hid (show ANS = true by
        rw [HA.out, decide_eq_true_iff]
        have h := HTk.out
        rw [List.take_of_length_le (by rw [← HM.out]; exact Nat.le_refl _), List.take_of_length_le (by rw [← HM'.out]; exact Nat.le_refl _)] at h
        exact h)
      go_wp2
      go_ret
      exact ⟨by rw [HF.out]; rfl, HBr.out⟩
/-- Are two paths one but for their Kids? -/
def topEq (x y : Pt) : Bool := decide (x.kind = y.kind) && decide (x.text = y.text) && decide (x.texts = y.texts) && decide (x.kids.length = y.kids.length)
set_option maxHeartbeats 2000000 in
theorem sbk_any (x y : Pt) (b o b' o' : Nat) (v u v' u' : Value) (w : World) (hr : Row4 w b o x v u) (hr' : Row4 w b' o' y v' u') (hP : PtAt w v u x) (hP' : PtAt w v' u' y) :
    Calls Tryd.prog 33 #[.pointer (some ⟨b, o, none⟩), .pointer (some ⟨b', o', none⟩)] w fun e w' => e = .returned (.bool (topEq x y)) ∧ Below w.heap.size w w' := by
  have hPo := hP
  have hPo' := hP'
  obtain ⟨c0, c1, c2, c3⟩ := hr
  obtain ⟨d0, d1, d2, d3⟩ := hr'
  obtain ⟨hk, ht, hL, hl, a, cap, _, _, _, _, rfl, h1, h2, _⟩ := hPo.open
  obtain ⟨hk', ht', hL', hl', a', cap', _, _, _, _, rfl, h1', h2', _⟩ := hPo'.open
  have SE := hid fun p : Later w.heap.size w => seq_any x.texts y.texts v v' p.it (hL.keep p.low) (hL'.keep p.low) hl hl'
  obtain ⟨ta, tc, rfl, q1, q2, _⟩ := hL.open
  obtain ⟨ta', tc', rfl, q1', q2', _⟩ := hL'.open
  obtain ⟨ANS, hA⟩ : ∃ z, z = topEq x y := ⟨_, rfl⟩
  rw [← hA]
  unfold topEq at hA
  obtain ⟨k, ek⟩ : ∃ z, z = x.kind := ⟨_, rfl⟩
  obtain ⟨k', ek'⟩ : ∃ z, z = y.kind := ⟨_, rfl⟩
  obtain ⟨t, et⟩ : ∃ z, z = x.text := ⟨_, rfl⟩
  obtain ⟨t', et'⟩ : ∃ z, z = y.text := ⟨_, rfl⟩
  obtain ⟨B, eB⟩ : ∃ z, z = decide (x.texts = y.texts) := ⟨_, rfl⟩
  obtain ⟨M, eM⟩ : ∃ z, z = x.texts.length := ⟨_, rfl⟩
  obtain ⟨M', eM'⟩ : ∃ z, z = y.texts.length := ⟨_, rfl⟩
  obtain ⟨N, eN⟩ : ∃ z, z = x.kids.length := ⟨_, rfl⟩
  obtain ⟨N', eN'⟩ : ∃ z, z = y.kids.length := ⟨_, rfl⟩
  rw [← ek, ← ek', ← et, ← et', ← eB, ← eN, ← eN'] at hA
  rw [← eB, ← eM, ← eM'] at SE
  rw [← ek] at c0 hk
  rw [← ek'] at d0 hk'
  rw [← et] at c1 ht
  rw [← et'] at d1 ht'
  rw [← eM] at c2
  rw [← eM'] at d2
  rw [← eN] at c3
  rw [← eN'] at d3
  have HA := hid hA
  clear hA ek ek' et et' eB eM eM' eN eN' hP hP' hPo hPo' hL hL' hl hl' q1 q1' h1 h1'
  have c0q := fun p : Later w.heap.size w => p.keep c0
  have c1q := fun p : Later w.heap.size w => p.keep c1
  have c2q := fun p : Later w.heap.size w => p.keep c2
  have c3q := fun p : Later w.heap.size w => p.keep c3
  have d0q := fun p : Later w.heap.size w => p.keep d0
  have d1q := fun p : Later w.heap.size w => p.keep d1
  have d2q := fun p : Later w.heap.size w => p.keep d2
  have d3q := fun p : Later w.heap.size w => p.keep d3
  by_cases e1 : k = k'
  case neg =>
    have b1 : (k == k') = false := beq_eq_false_iff_ne.2 e1
    have HF := hid (show ANS = false by rw [HA.out, decide_eq_false e1]; rfl)
    clear HA e1
    go_enter Tryd.func33, Tryd.ntmps33
    go_upto_region 1 with fail
    refine wp_region_later w.heap.size (by kernel_rfl) (by kernel_rfl) ?_
    repeat (go_big_quiet_step (fail))
    refine wpQuiet_nil ?_
    rintro wn ⟨p, rfl⟩
    have hb := hid p.low
    clear c0q c1q c2q c3q d0q d1q d2q d3q
    go_wp2
    go_ret
    exact ⟨by rw [HF.out]; rfl, hb.out⟩
  subst e1
  by_cases e2 : t = t'
  case neg =>
    have b1 : (t == t') = false := beq_eq_false_iff_ne.2 e2
    have HF := hid (show ANS = false by rw [HA.out, decide_eq_false e2]; simp)
    clear HA e2
    go_enter Tryd.func33, Tryd.ntmps33
    go_upto_region 1 with fail
    refine wp_region_later w.heap.size (by kernel_rfl) (by kernel_rfl) ?_
    repeat (go_big_quiet_step (fail))
    refine wpQuiet_nil ?_
    rintro wn ⟨p, rfl⟩
    have hb := hid p.low
    clear c0q c1q c2q c3q d0q d1q d2q d3q
    go_wp2
    go_ret
    exact ⟨by rw [HF.out]; rfl, hb.out⟩
  subst e2
  have HA := hid (show ANS = (B && decide (N = N')) by rw [HA.out, decide_eq_true rfl, decide_eq_true rfl]; simp)
  cases B
  · have HF := hid (show ANS = false from HA.out)
    clear HA
    go_enter Tryd.func33, Tryd.ntmps33
    go_upto_region 1 with fail
    refine wp_region_later w.heap.size (by kernel_rfl) (by kernel_rfl) ?_
    repeat (go_big_quiet_step (first | (go_at_call 49; with_reducible exact Later.call (Nat.le_refl _) (SE.out _)) | fail))
    refine wpQuiet_nil ?_
    rintro wn ⟨p, rfl⟩
    have hb := hid p.low
    clear c0q c1q c2q c3q d0q d1q d2q d3q
    go_wp2
    go_ret
    exact ⟨by rw [HF.out]; rfl, hb.out⟩
  · have HF := hid (show ANS = decide (N = N') from HA.out)
    have HN := hid (show ((N : Int) == (N' : Int)) = decide (N = N') by rw [Bool.eq_iff_iff, beq_iff_eq, decide_eq_true_iff]; omega)
    obtain ⟨E, hE⟩ : ∃ z, z = decide (N = N') := ⟨_, rfl⟩
    rw [← hE] at HF HN
    have hn1 := HN.out
    clear HA hE
    go_enter Tryd.func33, Tryd.ntmps33
    go_upto_region 1 with fail
    refine wp_region_later w.heap.size (by kernel_rfl) (by kernel_rfl) ?_
    repeat (go_big_quiet_step (first | (go_at_call 49; with_reducible exact Later.call (Nat.le_refl _) (SE.out _)) | fail))
    refine wpQuiet_nil ?_
    rintro wn ⟨p, rfl⟩
    have hb := hid p.low
    clear c0q c1q c2q c3q d0q d1q d2q d3q
    go_wp2
    go_ret
    exact ⟨by rw [HF.out]; rfl, hb.out⟩
end Go.Proofs.YtagmgkplfhlifaaDoor
