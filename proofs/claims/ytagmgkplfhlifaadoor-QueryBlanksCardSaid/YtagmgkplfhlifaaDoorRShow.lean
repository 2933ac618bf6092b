/- The document's Show: a path's text. -/
import Derived.Test.YtagmgkplfhlifaaDoorQpShow
import Derived.Test.YtagmgkplfhlifaaDoorQpShowA
namespace Go.Proofs.YtagmgkplfhlifaaDoor
set_option linter.unusedVariables false
set_option linter.unusedSimpArgs false
set_option maxRecDepth 100000
open Go.ChangeShapes Go.WideShapes Go.ChangeAt Go.RowKit
open Au
def RShowOk (x : Pt) : Prop := ∀ (v u : Value) (w : World), x.show.length ≤ 1000000000 → PtAt w v u x →
  Calls Tryd.prog 22 #[pv x v u] w fun e w' => e = .returned (str x.show) ∧ Below w.heap.size w w'
def RWithinOk (x : Pt) : Prop := ∀ (v u : Value) (w : World), x.showKid.length ≤ 1000000000 → PtAt w v u x →
  Calls Tryd.prog 37 #[pv x v u] w fun e w' => e = .returned (str x.showKid) ∧ Below w.heap.size w w'
theorem rsign_5 (w : World) : Calls Tryd.prog 38 #[.int .i64 5] w fun e w' => e = .returned (.string ⟨#[42]⟩) ∧ w' = w := by
  go_enter Tryd.func38, Tryd.ntmps38
  go_wp2
  go_ret
  exact ⟨rfl, rfl⟩
theorem rsign_6 (w : World) : Calls Tryd.prog 38 #[.int .i64 6] w fun e w' => e = .returned (.string ⟨#[43]⟩) ∧ w' = w := by
  go_enter Tryd.func38, Tryd.ntmps38
  go_wp2
  go_ret
  exact ⟨rfl, rfl⟩
theorem rsign_7 (w : World) : Calls Tryd.prog 38 #[.int .i64 7] w fun e w' => e = .returned (.string ⟨#[63]⟩) ∧ w' = w := by
  go_enter Tryd.func38, Tryd.ntmps38
  go_wp2
  go_ret
  exact ⟨rfl, rfl⟩
set_option maxHeartbeats 2000000 in
theorem rwithin_of (x : Pt) (hok : RShowOk x) : RWithinOk x := by
  have HO := hid hok
  clear hok
  intro v u w hlen hP
  obtain ⟨w1, hw1, hz, HX, HP, HB⟩ := pt_box w x v u hP
  obtain ⟨c0, c1, c2, c3⟩ := blk4 HX.out
  have hsl : x.show.length ≤ 1000000000 := by unfold Pt.showKid at hlen; split at hlen; exact hlen; simp at hlen; omega
  have C := hid (HO.out v u w1 hsl HP.out)
  obtain ⟨s, hs⟩ : ∃ s, s = x.show := ⟨_, rfl⟩
  rw [← hs] at hsl
  clear hlen
  have HA := hid (show x.showKid = if x.kind = 1 then s else 40 :: (s ++ [41]) by rw [hs]; rfl)
  rw [← hs] at C
  obtain ⟨ANS, hA⟩ : ∃ z, z = x.showKid := ⟨_, rfl⟩
  rw [← hA] at HA ⊢
  unfold pv at C ⊢
  obtain ⟨k, t, L, K⟩ := x
  simp only [Pt.kind, Pt.text] at hw1 C HA c0 c1 c2 c3 ⊢
  clear hs hA HX hP HP
  by_cases h : k = 1
  · subst h
    have HA := hid (show ANS = s from HA.out)
    go_enter Tryd.func37, Tryd.ntmps37
    go_upto_region 1 with fail
    rw [← hw1]
    clear hw1
    go_wp2_with (go_at_call 22; refine C.out.mono ?_; rintro e w' ⟨rfl, hb⟩)
    go_ret
    exact ⟨by rw [HA.out]; rfl, below_then HB.out hb⟩
  · have b1 : (k == 1) = false := beq_eq_false_iff_ne.2 h
    have HA := hid (show ANS = 40 :: (s ++ [41]) from HA.out.trans (if_neg h))
    clear h
    go_enter Tryd.func37, Tryd.ntmps37
    go_upto_region 1 with fail
    rw [← hw1]
    clear hw1
    go_wp2_with (go_at_call 22; refine C.out.mono ?_; rintro e w' ⟨rfl, hb⟩)
    go_ret
    exact ⟨by rw [HA.out]; simp [qba_append], below_then HB.out hb⟩
set_option maxHeartbeats 2000000 in
theorem rshow_iri (t : T) : RShowOk (.mk 1 t [] []) := by
  intro v u w hlen hP
  obtain ⟨w1, hw1, hz, HX, HP, HB⟩ := pt_box w _ v u hP
  obtain ⟨c0, c1, c2, c3⟩ := blk4 HX.out
  rw [Pt.show_iri]
  have htl : t.length ≤ 1000000000 := by rw [Pt.show_iri] at hlen; simp at hlen; omega
  clear hlen
  unfold pv
  simp only [Pt.kind, Pt.text] at hw1 c0 c1 c2 c3 ⊢
  clear HX hP HP
  go_enter Tryd.func22, Tryd.ntmps22
  go_upto_region 1 with fail
  rw [← hw1]
  clear hw1
  go_wp2
  go_ret
  exact ⟨by simp [qba_append], HB.out⟩
set_option maxHeartbeats 2000000 in
theorem rshow_back (x : Pt) (hk : RWithinOk x) : RShowOk (.mk 2 [] [] [x]) := by
  have HK := hid hk
  clear hk
  intro v u w hlen hP
  obtain ⟨w1, hw1, hz, HX, HP, HB⟩ := pt_box w _ v u hP
  obtain ⟨c0, c1, c2, c3⟩ := blk4 HX.out
  obtain ⟨b, off, cap, ka, kn, kc, la, ln, lc, rfl, q1, q2, r0, r1, r2, r3, hx⟩ := sh_kid1 HP.out
  rw [Pt.show_back] at hlen ⊢
  have hsl : x.showKid.length ≤ 1000000000 := by simp at hlen; omega
  clear hlen
  have C := hid (HK.out _ _ w1 hsl hx)
  obtain ⟨s, hs⟩ : ∃ s, s = x.showKid := ⟨_, rfl⟩
  rw [← hs] at C hsl ⊢
  unfold pv at C ⊢
  simp only [Pt.kind, Pt.text] at hw1 c0 c1 c2 c3
  obtain ⟨xk, hxk⟩ : ∃ z, z = x.kind := ⟨_, rfl⟩
  obtain ⟨xt, hxt⟩ : ∃ z, z = x.text := ⟨_, rfl⟩
  rw [← hxk, ← hxt] at C
  rw [← hxk] at r0
  rw [← hxt] at r1
  simp only [Pt.kind, Pt.text]
  clear HX hP HP hx HK hs hxk hxt
  go_enter Tryd.func22, Tryd.ntmps22
  go_upto_region 1 with fail
  rw [← hw1]
  clear hw1
  go_wp2_with (go_at_call 37; refine C.out.mono ?_; rintro e w' ⟨rfl, hb⟩)
  go_ret
  exact ⟨by simp [qba_append], below_then HB.out hb⟩
set_option maxHeartbeats 2000000 in
theorem rshow_star (x : Pt) (hk : RWithinOk x) : RShowOk (.mk 5 [] [] [x]) := by
  have HK := hid hk
  clear hk
  intro v u w hlen hP
  obtain ⟨w1, hw1, hz, HX, HP, HB⟩ := pt_box w _ v u hP
  obtain ⟨c0, c1, c2, c3⟩ := blk4 HX.out
  obtain ⟨b, off, cap, ka, kn, kc, la, ln, lc, rfl, q1, q2, r0, r1, r2, r3, hx⟩ := sh_kid1 HP.out
  rw [Pt.show_star] at hlen ⊢
  have hsl : x.showKid.length ≤ 1000000000 := by simp at hlen; omega
  clear hlen
  have C := hid fun p : Later w1.heap.size w1 => HK.out _ _ p.it hsl (hx.keep p.low)
  obtain ⟨s, hs⟩ : ∃ s, s = x.showKid := ⟨_, rfl⟩
  rw [← hs] at C hsl ⊢
  unfold pv at C ⊢
  simp only [Pt.kind, Pt.text] at hw1 c0 c1 c2 c3
  obtain ⟨xk, hxk⟩ : ∃ z, z = x.kind := ⟨_, rfl⟩
  obtain ⟨xt, hxt⟩ : ∃ z, z = x.text := ⟨_, rfl⟩
  rw [← hxk, ← hxt] at C
  rw [← hxk] at r0
  rw [← hxt] at r1
  simp only [Pt.kind, Pt.text]
  clear HX hP HP hx HK hs hxk hxt
  have c0q := fun p : Later w1.heap.size w1 => p.keep c0
  have c3q := fun p : Later w1.heap.size w1 => p.keep c3
  have r0q := fun p : Later w1.heap.size w1 => p.keep r0
  have r1q := fun p : Later w1.heap.size w1 => p.keep r1
  have r2q := fun p : Later w1.heap.size w1 => p.keep r2
  have r3q := fun p : Later w1.heap.size w1 => p.keep r3
  go_enter Tryd.func22, Tryd.ntmps22
  go_upto_region 1 with fail
  rw [← hw1]
  clear hw1
  go_upto_region 19 with fail
  refine wp_region_later w1.heap.size (by kernel_rfl) (by kernel_rfl) ?_
  repeat (go_big_quiet_step (first | (go_at_call 37; with_reducible exact Later.call (Nat.le_refl _) (C.out _)) | (go_at_call 38; with_reducible exact Later.call_same (rsign_5 _)) | fail))
  refine wpQuiet_nil ?_
  rintro w3 ⟨p, rfl⟩
  have hb3 := hid p.low
  clear c0q c3q r0q r1q r2q r3q C
  go_wp2
  go_ret
  exact ⟨by simp [qba_append], below_then HB.out hb3.out⟩
set_option maxHeartbeats 2000000 in
theorem rshow_plus (x : Pt) (hk : RWithinOk x) : RShowOk (.mk 6 [] [] [x]) := by
  have HK := hid hk
  clear hk
  intro v u w hlen hP
  obtain ⟨w1, hw1, hz, HX, HP, HB⟩ := pt_box w _ v u hP
  obtain ⟨c0, c1, c2, c3⟩ := blk4 HX.out
  obtain ⟨b, off, cap, ka, kn, kc, la, ln, lc, rfl, q1, q2, r0, r1, r2, r3, hx⟩ := sh_kid1 HP.out
  rw [Pt.show_plus] at hlen ⊢
  have hsl : x.showKid.length ≤ 1000000000 := by simp at hlen; omega
  clear hlen
  have C := hid fun p : Later w1.heap.size w1 => HK.out _ _ p.it hsl (hx.keep p.low)
  obtain ⟨s, hs⟩ : ∃ s, s = x.showKid := ⟨_, rfl⟩
  rw [← hs] at C hsl ⊢
  unfold pv at C ⊢
  simp only [Pt.kind, Pt.text] at hw1 c0 c1 c2 c3
  obtain ⟨xk, hxk⟩ : ∃ z, z = x.kind := ⟨_, rfl⟩
  obtain ⟨xt, hxt⟩ : ∃ z, z = x.text := ⟨_, rfl⟩
  rw [← hxk, ← hxt] at C
  rw [← hxk] at r0
  rw [← hxt] at r1
  simp only [Pt.kind, Pt.text]
  clear HX hP HP hx HK hs hxk hxt
  have c0q := fun p : Later w1.heap.size w1 => p.keep c0
  have c3q := fun p : Later w1.heap.size w1 => p.keep c3
  have r0q := fun p : Later w1.heap.size w1 => p.keep r0
  have r1q := fun p : Later w1.heap.size w1 => p.keep r1
  have r2q := fun p : Later w1.heap.size w1 => p.keep r2
  have r3q := fun p : Later w1.heap.size w1 => p.keep r3
  go_enter Tryd.func22, Tryd.ntmps22
  go_upto_region 1 with fail
  rw [← hw1]
  clear hw1
  go_upto_region 19 with fail
  refine wp_region_later w1.heap.size (by kernel_rfl) (by kernel_rfl) ?_
  repeat (go_big_quiet_step (first | (go_at_call 37; with_reducible exact Later.call (Nat.le_refl _) (C.out _)) | (go_at_call 38; with_reducible exact Later.call_same (rsign_6 _)) | fail))
  refine wpQuiet_nil ?_
  rintro w3 ⟨p, rfl⟩
  have hb3 := hid p.low
  clear c0q c3q r0q r1q r2q r3q C
  go_wp2
  go_ret
  exact ⟨by simp [qba_append], below_then HB.out hb3.out⟩
set_option maxHeartbeats 2000000 in
theorem rshow_maybe (x : Pt) (hk : RWithinOk x) : RShowOk (.mk 7 [] [] [x]) := by
  have HK := hid hk
  clear hk
  intro v u w hlen hP
  obtain ⟨w1, hw1, hz, HX, HP, HB⟩ := pt_box w _ v u hP
  obtain ⟨c0, c1, c2, c3⟩ := blk4 HX.out
  obtain ⟨b, off, cap, ka, kn, kc, la, ln, lc, rfl, q1, q2, r0, r1, r2, r3, hx⟩ := sh_kid1 HP.out
  rw [Pt.show_maybe] at hlen ⊢
  have hsl : x.showKid.length ≤ 1000000000 := by simp at hlen; omega
  clear hlen
  have C := hid fun p : Later w1.heap.size w1 => HK.out _ _ p.it hsl (hx.keep p.low)
  obtain ⟨s, hs⟩ : ∃ s, s = x.showKid := ⟨_, rfl⟩
  rw [← hs] at C hsl ⊢
  unfold pv at C ⊢
  simp only [Pt.kind, Pt.text] at hw1 c0 c1 c2 c3
  obtain ⟨xk, hxk⟩ : ∃ z, z = x.kind := ⟨_, rfl⟩
  obtain ⟨xt, hxt⟩ : ∃ z, z = x.text := ⟨_, rfl⟩
  rw [← hxk, ← hxt] at C
  rw [← hxk] at r0
  rw [← hxt] at r1
  simp only [Pt.kind, Pt.text]
  clear HX hP HP hx HK hs hxk hxt
  have c0q := fun p : Later w1.heap.size w1 => p.keep c0
  have c3q := fun p : Later w1.heap.size w1 => p.keep c3
  have r0q := fun p : Later w1.heap.size w1 => p.keep r0
  have r1q := fun p : Later w1.heap.size w1 => p.keep r1
  have r2q := fun p : Later w1.heap.size w1 => p.keep r2
  have r3q := fun p : Later w1.heap.size w1 => p.keep r3
  go_enter Tryd.func22, Tryd.ntmps22
  go_upto_region 1 with fail
  rw [← hw1]
  clear hw1
  go_upto_region 19 with fail
  refine wp_region_later w1.heap.size (by kernel_rfl) (by kernel_rfl) ?_
  repeat (go_big_quiet_step (first | (go_at_call 37; with_reducible exact Later.call (Nat.le_refl _) (C.out _)) | (go_at_call 38; with_reducible exact Later.call_same (rsign_7 _)) | fail))
  refine wpQuiet_nil ?_
  rintro w3 ⟨p, rfl⟩
  have hb3 := hid p.low
  clear c0q c3q r0q r1q r2q r3q C
  go_wp2
  go_ret
  exact ⟨by simp [qba_append], below_then HB.out hb3.out⟩
set_option maxHeartbeats 2000000 in
theorem rshow_seq (x y : Pt) (hk : RWithinOk x) (hk2 : RWithinOk y) : RShowOk (.mk 3 [] [] [x, y]) := by
  have HK := hid hk
  have HK2 := hid hk2
  clear hk hk2
  intro v u w hlen hP
  obtain ⟨w1, hw1, hz, HX, HP, HB⟩ := pt_box w _ v u hP
  obtain ⟨c0, c1, c2, c3⟩ := blk4 HX.out
  obtain ⟨b, off, cap, ka, kn, kc, la, ln, lc, ka', kn', kc', la', ln', lc', rfl, q1, q2, ⟨r0, r1, r2, r3, hx⟩, s0, s1, s2, s3, hx'⟩ := sh_kid2 HP.out
  rw [Pt.show_seq] at hlen ⊢
  have hsl : x.showKid.length ≤ 1000000000 := by simp at hlen; omega
  have hsl2 : y.showKid.length ≤ 1000000000 := by simp at hlen; omega
  have hsl3 : x.showKid.length + 1 + y.showKid.length ≤ 1000000000 := by simp at hlen; omega
  clear hlen
  have C := hid fun p : Later w1.heap.size w1 => HK.out _ _ p.it hsl (hx.keep p.low)
  have C2 := hid fun p : Later w1.heap.size w1 => HK2.out _ _ p.it hsl2 (hx'.keep p.low)
  obtain ⟨s, hs⟩ : ∃ s, s = x.showKid := ⟨_, rfl⟩
  obtain ⟨s', hs'⟩ : ∃ s, s = y.showKid := ⟨_, rfl⟩
  rw [← hs] at C hsl hsl3
  rw [← hs'] at C2 hsl2 hsl3
  rw [← hs, ← hs']
  unfold pv at C C2 ⊢
  simp only [Pt.kind, Pt.text] at hw1 c0 c1 c2 c3
  obtain ⟨xk, hxk⟩ : ∃ z, z = x.kind := ⟨_, rfl⟩
  obtain ⟨xt, hxt⟩ : ∃ z, z = x.text := ⟨_, rfl⟩
  obtain ⟨yk, hyk⟩ : ∃ z, z = y.kind := ⟨_, rfl⟩
  obtain ⟨yt, hyt⟩ : ∃ z, z = y.text := ⟨_, rfl⟩
  rw [← hxk, ← hxt] at C
  rw [← hyk, ← hyt] at C2
  rw [← hxk] at r0
  rw [← hxt] at r1
  rw [← hyk] at s0
  rw [← hyt] at s1
  simp only [Pt.kind, Pt.text]
  clear HX hP HP hx hx' HK HK2 hs hs' hxk hxt hyk hyt
  have c3q := fun p : Later w1.heap.size w1 => p.keep c3
  have r0q := fun p : Later w1.heap.size w1 => p.keep r0
  have r1q := fun p : Later w1.heap.size w1 => p.keep r1
  have r2q := fun p : Later w1.heap.size w1 => p.keep r2
  have r3q := fun p : Later w1.heap.size w1 => p.keep r3
  have s0q := fun p : Later w1.heap.size w1 => p.keep s0
  have s1q := fun p : Later w1.heap.size w1 => p.keep s1
  have s2q := fun p : Later w1.heap.size w1 => p.keep s2
  have s3q := fun p : Later w1.heap.size w1 => p.keep s3
  go_enter Tryd.func22, Tryd.ntmps22
  go_upto_region 1 with fail
  rw [← hw1]
  clear hw1
  go_upto_region 7 with fail
  refine wp_region_later w1.heap.size (by kernel_rfl) (by kernel_rfl) ?_
  repeat (go_big_quiet_step (first | (go_at_call 37; with_reducible exact Later.call (Nat.le_refl _) (C.out _)) | (go_at_call 37; with_reducible exact Later.call (Nat.le_refl _) (C2.out _)) | fail))
  refine wpQuiet_nil ?_
  rintro w3 ⟨p, rfl⟩
  have hb3 := hid p.low
  clear c3q r0q r1q r2q r3q s0q s1q s2q s3q C C2
  go_wp2
  go_ret
  exact ⟨by simp [qba_append], below_then HB.out hb3.out⟩
set_option maxHeartbeats 2000000 in
theorem rshow_alt (x y : Pt) (hk : RWithinOk x) (hk2 : RWithinOk y) : RShowOk (.mk 4 [] [] [x, y]) := by
  have HK := hid hk
  have HK2 := hid hk2
  clear hk hk2
  intro v u w hlen hP
  obtain ⟨w1, hw1, hz, HX, HP, HB⟩ := pt_box w _ v u hP
  obtain ⟨c0, c1, c2, c3⟩ := blk4 HX.out
  obtain ⟨b, off, cap, ka, kn, kc, la, ln, lc, ka', kn', kc', la', ln', lc', rfl, q1, q2, ⟨r0, r1, r2, r3, hx⟩, s0, s1, s2, s3, hx'⟩ := sh_kid2 HP.out
  rw [Pt.show_alt] at hlen ⊢
  have hsl : x.showKid.length ≤ 1000000000 := by simp at hlen; omega
  have hsl2 : y.showKid.length ≤ 1000000000 := by simp at hlen; omega
  have hsl3 : x.showKid.length + 1 + y.showKid.length ≤ 1000000000 := by simp at hlen; omega
  clear hlen
  have C := hid fun p : Later w1.heap.size w1 => HK.out _ _ p.it hsl (hx.keep p.low)
  have C2 := hid fun p : Later w1.heap.size w1 => HK2.out _ _ p.it hsl2 (hx'.keep p.low)
  obtain ⟨s, hs⟩ : ∃ s, s = x.showKid := ⟨_, rfl⟩
  obtain ⟨s', hs'⟩ : ∃ s, s = y.showKid := ⟨_, rfl⟩
  rw [← hs] at C hsl hsl3
  rw [← hs'] at C2 hsl2 hsl3
  rw [← hs, ← hs']
  unfold pv at C C2 ⊢
  simp only [Pt.kind, Pt.text] at hw1 c0 c1 c2 c3
  obtain ⟨xk, hxk⟩ : ∃ z, z = x.kind := ⟨_, rfl⟩
  obtain ⟨xt, hxt⟩ : ∃ z, z = x.text := ⟨_, rfl⟩
  obtain ⟨yk, hyk⟩ : ∃ z, z = y.kind := ⟨_, rfl⟩
  obtain ⟨yt, hyt⟩ : ∃ z, z = y.text := ⟨_, rfl⟩
  rw [← hxk, ← hxt] at C
  rw [← hyk, ← hyt] at C2
  rw [← hxk] at r0
  rw [← hxt] at r1
  rw [← hyk] at s0
  rw [← hyt] at s1
  simp only [Pt.kind, Pt.text]
  clear HX hP HP hx hx' HK HK2 hs hs' hxk hxt hyk hyt
  have c3q := fun p : Later w1.heap.size w1 => p.keep c3
  have r0q := fun p : Later w1.heap.size w1 => p.keep r0
  have r1q := fun p : Later w1.heap.size w1 => p.keep r1
  have r2q := fun p : Later w1.heap.size w1 => p.keep r2
  have r3q := fun p : Later w1.heap.size w1 => p.keep r3
  have s0q := fun p : Later w1.heap.size w1 => p.keep s0
  have s1q := fun p : Later w1.heap.size w1 => p.keep s1
  have s2q := fun p : Later w1.heap.size w1 => p.keep s2
  have s3q := fun p : Later w1.heap.size w1 => p.keep s3
  go_enter Tryd.func22, Tryd.ntmps22
  go_upto_region 1 with fail
  rw [← hw1]
  clear hw1
  go_upto_region 9 with fail
  refine wp_region_later w1.heap.size (by kernel_rfl) (by kernel_rfl) ?_
  repeat (go_big_quiet_step (first | (go_at_call 37; with_reducible exact Later.call (Nat.le_refl _) (C.out _)) | (go_at_call 37; with_reducible exact Later.call (Nat.le_refl _) (C2.out _)) | fail))
  refine wpQuiet_nil ?_
  rintro w3 ⟨p, rfl⟩
  have hb3 := hid p.low
  clear c3q r0q r1q r2q r3q s0q s1q s2q s3q C C2
  go_wp2
  go_ret
  exact ⟨by simp [qba_append], below_then HB.out hb3.out⟩
/-- What stands there behind i texts. -/
def rnS (L : List T) (i : Nat) : T := if i = 0 then [33, 40] else [33, 40, 60] ++ Lib.join (L.take i) [62, 124, 60] ++ [62]
theorem join_snoc (L : List T) (x sep : T) (h : L ≠ []) : Lib.join (L ++ [x]) sep = Lib.join L sep ++ sep ++ x := by
  cases L with
  | nil => exact absurd rfl h
  | cons y r =>
    rw [List.cons_append, Lib.join_cons, Lib.join_cons]
    simp [Lib.joinTail]
theorem rnS_one (L : List T) (h : 0 < L.length) : rnS L 1 = [33, 40] ++ [60] ++ L.getD 0 [] ++ [62] := by
  cases L with
  | nil => simp at h
  | cons x r => unfold rnS; simp [Lib.join_one]
theorem rnS_succ (L : List T) (i : Nat) (h : i < L.length) (h0 : 0 < i) : rnS L (i + 1) = rnS L i ++ [124] ++ [60] ++ L.getD i [] ++ [62] := by
  have a1 : ¬ (i + 1 = 0) := by omega
  have a2 : ¬ (i = 0) := by omega
  unfold rnS
  rw [if_neg a1, if_neg a2, List.take_add_one, List.getElem?_eq_getElem h]
  have hne : L.take i ≠ [] := by intro e; have := congrArg List.length e; rw [List.length_take, List.length_nil] at this; omega
  rw [show (some L[i]).toList = [L[i]] from rfl, join_snoc _ _ _ hne]
  simp [List.getD, h]
theorem rnS_len (L : List T) : ∀ i, i ≤ L.length → (rnS L i).length ≤ (rnS L L.length).length := by
  have step : ∀ i, i < L.length → (rnS L i).length ≤ (rnS L (i + 1)).length := fun i hi => by
    by_cases h0 : i = 0
    · subst h0
      rw [rnS_one L hi]
      unfold rnS; simp
    · rw [rnS_succ L i hi (by omega)]; simp only [List.length_append, List.length_singleton]; omega
  intro i hi
  obtain ⟨k, hk⟩ : ∃ k, L.length = i + k := ⟨L.length - i, by omega⟩
  rw [hk]
  have : ∀ j, i + j ≤ L.length → (rnS L i).length ≤ (rnS L (i + j)).length := fun j => by
    induction j with
    | zero => intro _; exact Nat.le_refl _
    | succ j ih => intro h; exact Nat.le_trans (ih (by omega)) (step (i + j) (by omega))
  exact this k (by omega)
theorem rnS_all (L : List T) (h : 0 < L.length) : rnS L L.length ++ [41] = (Pt.mk 8 [] L []).show := by
  rw [Pt.show_not]; unfold rnS
  rw [if_neg (by omega), List.take_length]; simp
set_option maxHeartbeats 2000000 in
theorem rshow_not (L : List T) (hne : 0 < L.length) (hle : L.length ≤ 1000) : RShowOk (.mk 8 [] L []) := by
  intro v u w hlen hP
  obtain ⟨w1, hw1, hz, HX, HP, HB⟩ := pt_box w _ v u hP
  obtain ⟨c0, c1, c2, c3⟩ := blk4 HX.out
  obtain ⟨_, _, hL, hll, _⟩ := HP.out.open
  obtain ⟨ta, tc, rfl, q1, q2, q3, hr⟩ := hL.open
  simp only [Pt.kind, Pt.text, Pt.texts] at hw1 c0 c1 c2 c3 q1 q2 q3 hr hll
  obtain ⟨b, off, rfl, hc⟩ := hr.get (i := 0) hne
  rw [← rnS_all L hne] at hlen ⊢
  have HLN := hid (rnS_len L)
  have HS := hid (rnS_succ L)
  have H1 := hid (rnS_one L hne)
  have H0 := hid (show rnS L 0 = [33, 40] from rfl)
  have HLL := hid hll
  have HC := hid hc
  have hl9 : (rnS L L.length).length ≤ 1000000000 := by simp at hlen; omega
  obtain ⟨n, hn⟩ : ∃ n, n = L.length := ⟨_, rfl⟩
  obtain ⟨f, hf⟩ : ∃ f, f = rnS L := ⟨_, rfl⟩
  rw [← hn, ← hf] at hl9
  rw [← hn] at c2 hw1 q1 HC hne hle
  rw [← hf] at HLN HS H1 H0
  rw [← hn] at HLN HS
  rw [← hf, ← hn]
  unfold pv
  simp only [Pt.kind, Pt.text, Pt.texts]
  rw [← hn]
  clear hlen hP HX HP hL hr hc hn hf hll
  go_enter Tryd.func22, Tryd.ntmps22
  go_upto_region 1 with fail
  rw [← hw1]
  clear hw1
  go_wp2
  go_loopg [3, 4] n (fun gk s3 s4 wr => wr = w1 ∧ ∃ i : Nat, i ≤ n ∧ n - i ≤ gk ∧ s3 = str (f i) ∧ s4 = .int .i64 i)
  case atStart => exact ⟨rfl, 0, by omega, by omega, by rw [H0.out], rfl⟩
  case round =>
    obtain ⟨rfl, i, hi, hg, rfl, rfl⟩ := hrel
    have hfl := HLN.out i hi
    have hfl1 : (f i).length ≤ 1000000000 := by omega
    clear hfl
    by_cases hlt : i < n
    case neg =>
      obtain rfl : i = n := by omega
      go_wp2
      go_ret
      exact ⟨by simp [qba_append], HB.out⟩
    case pos =>
      have d0 := HC.out i hlt
      have hsl := HLL.out i
      have hf2 := HLN.out (i + 1) (by omega)
      by_cases h0 : i = 0
      · subst h0
        rw [Nat.add_zero] at d0
        have h3 := H1.out
        have hst : f (0 + 1) = f 0 ++ [60] ++ L.getD 0 [] ++ [62] := by rw [Nat.zero_add, h3, H0.out]
        have HST := hid hst
        have hsum : (f 0).length + 1 + (L.getD 0 []).length + 1 ≤ 1000000000 := by rw [hst] at hf2; simp only [List.length_append, List.length_singleton] at hf2; omega
        obtain ⟨s, hs⟩ : ∃ s, s = L.getD 0 [] := ⟨_, rfl⟩
        rw [← hs] at d0 hsl hsum HST
        clear hs hst hf2 h3
        go_wp2
        go_roundg (n - 1)
        case measure => omega
        case rel => exact ⟨rfl, 1, by omega, Nat.le_refl _, by rw [show (1 : Nat) = 0 + 1 from rfl, HST.out]; simp [qba_append], by go_num⟩
      · have hst := HS.out i hlt (by omega)
        have HST := hid hst
        have hi0 : 0 < i := by omega
        have hsum : (f i).length + 1 + 1 + (L.getD i []).length + 1 ≤ 1000000000 := by rw [hst] at hf2; simp only [List.length_append, List.length_singleton] at hf2; omega
        obtain ⟨s, hs⟩ : ∃ s, s = L.getD i [] := ⟨_, rfl⟩
        rw [← hs] at d0 hsl hsum HST
        clear hs hst hf2 h0
        go_wp2
        go_roundg (n - (i + 1))
        case measure => omega
        case rel => exact ⟨rfl, i + 1, by omega, Nat.le_refl _, by rw [HST.out]; simp [qba_append], by go_num⟩
theorem rshow_any : ∀ (x : Pt) (d : Nat), x.wf d = true → RShowOk x := by
  intro x
  induction x using Pt.ind with
  | h k t L K ih =>
    intro d hw
    rcases (Pt.wf_cases hw).2 with ⟨rfl, rfl, rfl, _⟩ | ⟨rfl, rfl, rfl, h1, h4, _⟩ | ⟨x, hk, rfl, rfl, rfl, hx⟩ | ⟨x, y, hk, rfl, rfl, rfl, hx, hy⟩
    · exact rshow_iri t
    · exact rshow_not L (by omega) (by omega)
    · have hx := rwithin_of x (ih x (by simp) _ hx)
      rcases hk with rfl | rfl | rfl | rfl
      · exact rshow_back x hx
      · exact rshow_star x hx
      · exact rshow_plus x hx
      · exact rshow_maybe x hx
    · have hx := rwithin_of x (ih x (by simp) _ hx)
      have hy := rwithin_of y (ih y (by simp) _ hy)
      rcases hk with rfl | rfl
      · exact rshow_seq x y hx hy
      · exact rshow_alt x y hx hy
end Go.Proofs.YtagmgkplfhlifaaDoor
