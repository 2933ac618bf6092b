/- Has and many of the document: a path has a word by its parts. -/
import Derived.Test.YtobcbaeoedpefaaDoorRfTakes
import Derived.Test.YtobcbaeoedpefaaDoorAuCnt
namespace Go.Proofs.YtobcbaeoedpefaaDoor
set_option linter.unusedVariables false
set_option linter.unusedSimpArgs false
set_option maxRecDepth 100000
open Go.ChangeShapes Go.WideShapes Go.ChangeAt Go.RowKit
open Au
/-- The document's Has answers what the path's words are. -/
def HasOk (x : Pt) : Prop := ∀ (v u y : Value) (L : List Stp) (w : World), PtAt w v u x → StepsAt w y L → ones L → L.length ≤ 8 →
  Calls Tryd.prog 24 #[pv x v u, y] w fun e w' => e = .returned (.bool ((x.rx false).has (wordOf L))) ∧ Below w.heap.size w w'
theorem kid1 {W : World} {v u : Value} {k : Int} {t : T} {L : List T} {x : Pt} (h : PtAt W v u (.mk k t L [x])) : ∃ b off cap ka kn kc la ln lc, u = .slice (some ⟨b, off, none⟩) 1 cap ∧ 1 ≤ cap ∧ cap ≤ maxLen ∧
    W.cell? ⟨b, off, none⟩ = some (.int .i64 x.kind) ∧ W.cell? ⟨b, off + 1, none⟩ = some (str x.text) ∧ W.cell? ⟨b, off + 2, none⟩ = some (.slice ka kn kc) ∧ W.cell? ⟨b, off + 3, none⟩ = some (.slice la ln lc) ∧ PtAt W (.slice ka kn kc) (.slice la ln lc) x := by
  obtain ⟨_, _, _, _, a, cap, b, off, f, g, rfl, h1, h2, h3, h4, hc, hK⟩ := h.open
  obtain rfl := h4 (by simp [Pt.kids])
  obtain ⟨r0, r1, r2, r3⟩ := hc 0 (by simp [Pt.kids])
  have hk := hK 0 (by simp [Pt.kids])
  simp only [Pt.kids, List.getElem_cons_zero, Nat.zero_mul, Nat.add_zero, List.length_cons, List.length_nil] at r0 r1 r2 r3 hk h1 ⊢
  obtain ⟨ka, kn, kc, la, ln, lc, e1, e2⟩ := pv_open hk
  rw [e1] at r2 hk
  rw [e2] at r3 hk
  exact ⟨b, off, cap, ka, kn, kc, la, ln, lc, rfl, h1, h2, r0, r1, r2, r3, hk⟩
theorem kid2 {W : World} {v u : Value} {k : Int} {t : T} {L : List T} {x y : Pt} (h : PtAt W v u (.mk k t L [x, y])) : ∃ b off cap ka kn kc la ln lc ka' kn' kc' la' ln' lc', u = .slice (some ⟨b, off, none⟩) 2 cap ∧ 2 ≤ cap ∧ cap ≤ maxLen ∧
    (W.cell? ⟨b, off, none⟩ = some (.int .i64 x.kind) ∧ W.cell? ⟨b, off + 1, none⟩ = some (str x.text) ∧ W.cell? ⟨b, off + 2, none⟩ = some (.slice ka kn kc) ∧ W.cell? ⟨b, off + 3, none⟩ = some (.slice la ln lc) ∧ PtAt W (.slice ka kn kc) (.slice la ln lc) x) ∧
    (W.cell? ⟨b, off + 4, none⟩ = some (.int .i64 y.kind) ∧ W.cell? ⟨b, off + 5, none⟩ = some (str y.text) ∧ W.cell? ⟨b, off + 6, none⟩ = some (.slice ka' kn' kc') ∧ W.cell? ⟨b, off + 7, none⟩ = some (.slice la' ln' lc') ∧ PtAt W (.slice ka' kn' kc') (.slice la' ln' lc') y) := by
  obtain ⟨_, _, _, _, a, cap, b, off, f, g, rfl, h1, h2, h3, h4, hc, hK⟩ := h.open
  obtain rfl := h4 (by simp [Pt.kids])
  obtain ⟨r0, r1, r2, r3⟩ := hc 0 (by simp [Pt.kids])
  have hk := hK 0 (by simp [Pt.kids])
  obtain ⟨s0, s1, s2, s3⟩ := hc 1 (by simp [Pt.kids])
  have hk' := hK 1 (by simp [Pt.kids])
  simp only [Pt.kids, List.getElem_cons_zero, List.getElem_cons_succ, Nat.zero_mul, Nat.one_mul, Nat.add_zero, List.length_cons, List.length_nil] at r0 r1 r2 r3 hk s0 s1 s2 s3 hk' h1 ⊢
  obtain ⟨ka, kn, kc, la, ln, lc, e1, e2⟩ := pv_open hk
  rw [e1] at r2 hk
  rw [e2] at r3 hk
  obtain ⟨ka', kn', kc', la', ln', lc', e1, e2⟩ := pv_open hk'
  rw [e1] at s2 hk'
  rw [e2] at s3 hk'
  exact ⟨b, off, cap, ka, kn, kc, la, ln, lc, ka', kn', kc', la', ln', lc', rfl, h1, h2, ⟨r0, r1, r2, r3, hk⟩, s0, s1, s2, s3, hk'⟩
theorem rx_maybe' (x : Pt) : (Pt.mk 7 [] [] [x]).rx false = .maybe (x.rx false) := by rw [Pt.rx]; rfl
theorem rx_star' (x : Pt) : (Pt.mk 5 [] [] [x]).rx false = .star (x.rx false) := by rw [Pt.rx]; rfl
theorem rx_plus' (x : Pt) : (Pt.mk 6 [] [] [x]).rx false = .plus (x.rx false) := by rw [Pt.rx]; rfl
theorem rx_seq' (x y : Pt) : (Pt.mk 3 [] [] [x, y]).rx false = .seq (x.rx false) (y.rx false) := by rw [Pt.rx]; rfl
theorem rx_alt' (x y : Pt) : (Pt.mk 4 [] [] [x, y]).rx false = .alt (x.rx false) (y.rx false) := by rw [Pt.rx]; rfl
theorem rx_back' (x : Pt) : (Pt.mk 2 [] [] [x]).rx false = (x.rx false).turn := by rw [← Pt.rx_turn x false, Pt.rx]; rfl
theorem rx_iri' (t : T) : (Pt.mk 1 t [] []).rx false = .leaf ⟨false, false, [t]⟩ := by rw [Pt.rx]; rfl
theorem rx_not' (L : List T) : (Pt.mk 8 [] L []).rx false = .leaf ⟨false, true, L⟩ := by rw [Pt.rx]; rfl
theorem maybe_has' (a : Rx) (w : List S) : (Rx.maybe a).has w = (w.isEmpty || a.has w) := by
  rw [Bool.eq_iff_iff, Rx.has_lang, Bool.or_eq_true, List.isEmpty_iff, Rx.has_lang]; rfl
theorem leaf_one (l : Lb) (s : S) : (Rx.leaf l).has [s] = l.takes s := by
  rw [Bool.eq_iff_iff, Rx.has_lang]
  simp [Rx.lang]
theorem leaf_not (l : Lb) (w : List S) (h : w.length ≠ 1) : (Rx.leaf l).has w = false := by
  cases hc : (Rx.leaf l).has w
  · rfl
  · rw [Rx.has_lang] at hc
    obtain ⟨s, rfl, _⟩ := hc
    simp at h
theorem word_len (L : List Stp) : (wordOf L).length = L.length := by unfold wordOf; rw [List.length_map]
set_option maxHeartbeats 4000000 in
theorem has_maybe' (x : Pt) (IH : Hid (HasOk x)) : HasOk (.mk 7 [] [] [x]) := by
  intro v u y L w hP hL ho hl8
  obtain ⟨b, off, cap, ka, kn, kc, la, ln, lc, rfl, q1, q2, r0, r1, r2, r3, hk⟩ := kid1 hP
  obtain ⟨a0, n0, c0, a1, n1, c1, rfl, hu1⟩ := pv_open hP
  clear hu1
  obtain ⟨w1, hw1⟩ : ∃ w1, w1 = w.alloc (.cells #[.int .i64 7, str [], .slice a0 n0 c0, .slice (some ⟨b, off, none⟩) 1 cap] 25) := ⟨_, rfl⟩
  have hb1 : Below w.heap.size w w1 := by rw [hw1]; exact (Below.refl _ _).alloc (Nat.le_refl _) _
  have hX : Blk w1 w.heap.size [.int .i64 7, str [], .slice a0 n0 c0, .slice (some ⟨b, off, none⟩) 1 cap] 25 := by rw [hw1]; exact Blk.new w _ _
  obtain ⟨x0, x1, x2, x3⟩ := blk4 hX
  have HB := hid hb1
  have HL := hid (hL.keep hb1)
  have HO := hid ho
  obtain ⟨ya, yc, rfl, y1, y2⟩ := hL.open
  have HK := hid (hk.keep hb1)
  have r0 := below_keep hb1 r0
  have r1 := below_keep hb1 r1
  have r2 := below_keep hb1 r2
  have r3 := below_keep hb1 r3
  have I1 := hid fun W (hb : Below w1.heap.size w1 W) => IH.out _ _ _ L W (HK.out.keep hb) (HL.out.keep hb) HO.out hl8
  rw [rx_maybe', maybe_has']
  have hem : (wordOf L).isEmpty = decide (L.length = 0) := by cases L <;> simp [wordOf]
  rw [hem]
  obtain ⟨z, hz⟩ : ∃ z, z = (x.rx false).has (wordOf L) := ⟨_, rfl⟩
  rw [← hz] at I1 ⊢
  unfold pv at I1 ⊢
  simp only [Pt.kind, Pt.text]
  obtain ⟨m, hm⟩ : ∃ m, m = L.length := ⟨_, rfl⟩
  rw [← hm] at I1 y1 hl8 ⊢
  clear hb1 hX hP hL ho hk hem hz hm IH
  by_cases hm0 : m = 0
  · have e1 : (((m : Nat) : Int) == 0) = true := by rw [hm0]; rfl
    rw [decide_eq_true hm0]
    clear hm0
    go_enter Tryd.func24, Tryd.ntmps24
    go_upto_region 1 with fail
    rw [← hw1]
    clear hw1
    go_wp2
    go_ret
    exact ⟨rfl, HB.out⟩
  · have e1 : (((m : Nat) : Int) == 0) = false := beq_eq_false_iff_ne.2 (by omega)
    rw [decide_eq_false hm0, Bool.false_or]
    clear hm0
    go_enter Tryd.func24, Tryd.ntmps24
    go_upto_region 1 with fail
    rw [← hw1]
    clear hw1
    go_wp2_with fail
    refine (I1.out _ (Below.refl _ _)).mono ?_
    rintro e w2 ⟨rfl, hb2⟩
    go_wp2
    go_ret
    exact ⟨rfl, below_then HB.out hb2⟩
set_option maxHeartbeats 4000000 in
theorem has_alt' (x y : Pt) (IH : Hid (HasOk x)) (IK : Hid (HasOk y)) : HasOk (.mk 4 [] [] [x, y]) := by
  intro v u y9 L w hP hL ho hl8
  obtain ⟨b, off, cap, ka, kn, kc, la, ln, lc, ka', kn', kc', la', ln', lc', rfl, q1, q2, ⟨r0, r1, r2, r3, hk⟩, s0, s1, s2, s3, hk'⟩ := kid2 hP
  obtain ⟨a0, n0, c0, a1, n1, c1, rfl, hu1⟩ := pv_open hP
  clear hu1
  obtain ⟨w1, hw1⟩ : ∃ w1, w1 = w.alloc (.cells #[.int .i64 4, str [], .slice a0 n0 c0, .slice (some ⟨b, off, none⟩) 2 cap] 25) := ⟨_, rfl⟩
  have hb1 : Below w.heap.size w w1 := by rw [hw1]; exact (Below.refl _ _).alloc (Nat.le_refl _) _
  have hX : Blk w1 w.heap.size [.int .i64 4, str [], .slice a0 n0 c0, .slice (some ⟨b, off, none⟩) 2 cap] 25 := by rw [hw1]; exact Blk.new w _ _
  obtain ⟨x0, x1, x2, x3⟩ := blk4 hX
  have HB := hid hb1
  have HL := hid (hL.keep hb1)
  have HO := hid ho
  obtain ⟨ya, yc, rfl, y1, y2⟩ := hL.open
  have HK := hid (hk.keep hb1)
  have r0 := below_keep hb1 r0
  have r1 := below_keep hb1 r1
  have r2 := below_keep hb1 r2
  have r3 := below_keep hb1 r3
  have HK' := hid (hk'.keep hb1)
  have s0 := below_keep hb1 s0
  have s1 := below_keep hb1 s1
  have s2 := below_keep hb1 s2
  have s3 := below_keep hb1 s3
  have I1 := hid fun W (hb : Below w1.heap.size w1 W) => IH.out _ _ _ L W (HK.out.keep hb) (HL.out.keep hb) HO.out hl8
  have I2 := hid fun W (hb : Below w1.heap.size w1 W) => IK.out _ _ _ L W (HK'.out.keep hb) (HL.out.keep hb) HO.out hl8
  rw [rx_alt', alt_has]
  obtain ⟨z, hz⟩ : ∃ z, z = (x.rx false).has (wordOf L) := ⟨_, rfl⟩
  obtain ⟨z2, hz2⟩ : ∃ z, z = (y.rx false).has (wordOf L) := ⟨_, rfl⟩
  rw [← hz] at I1 ⊢
  rw [← hz2] at I2 ⊢
  unfold pv at I1 I2 ⊢
  simp only [Pt.kind, Pt.text]
  obtain ⟨m, hm⟩ : ∃ m, m = L.length := ⟨_, rfl⟩
  rw [← hm] at I1 I2 y1 hl8 ⊢
  clear hb1 hX hP hL ho hk hk' hz hz2 hm IH IK
  go_enter Tryd.func24, Tryd.ntmps24
  go_upto_region 1 with fail
  rw [← hw1]
  clear hw1
  go_wp2_with fail
  refine (I1.out _ (Below.refl _ _)).mono ?_
  rintro e w2 ⟨rfl, hb2⟩
  have HB2 := hid hb2
  have x3 := below_keep hb2 x3
  have s0 := below_keep hb2 s0
  have s1 := below_keep hb2 s1
  have s2 := below_keep hb2 s2
  have s3 := below_keep hb2 s3
  clear hb2
  cases z
  · go_wp2_with fail
    refine (I2.out _ HB2.out).mono ?_
    rintro e w3 ⟨rfl, hb3⟩
    go_wp2
    go_ret
    exact ⟨rfl, below_then HB.out (below_then HB2.out hb3)⟩
  · go_wp2
    go_ret
    exact ⟨rfl, below_then HB.out HB2.out⟩
set_option maxHeartbeats 4000000 in
theorem has_iri' (t : T) : HasOk (.mk 1 t [] []) := by
  intro v u y L w hP hL ho hl8
  obtain ⟨a0, n0, c0, a1, n1, c1, rfl, hu1⟩ := pv_open hP
  subst hu1
  obtain ⟨w1, hw1⟩ : ∃ w1, w1 = w.alloc (.cells #[.int .i64 1, str t, .slice a0 n0 c0, .slice a1 n1 c1] 25) := ⟨_, rfl⟩
  have hb1 : Below w.heap.size w w1 := by rw [hw1]; exact (Below.refl _ _).alloc (Nat.le_refl _) _
  have hX : Blk w1 w.heap.size [.int .i64 1, str t, .slice a0 n0 c0, .slice a1 n1 c1] 25 := by rw [hw1]; exact Blk.new w _ _
  obtain ⟨x0, x1, x2, x3⟩ := blk4 hX
  have HB := hid hb1
  have HL := hid (hL.keep hb1)
  have HO := hid ho
  obtain ⟨ya, yc, rfl, y1, y2⟩ := hL.open
  have x0q := fun p : Later w1.heap.size w1 => p.keep x0
  have x1q := fun p : Later w1.heap.size w1 => p.keep x1
  have x2q := fun p : Later w1.heap.size w1 => p.keep x2
  rw [rx_iri']
  unfold pv
  simp only [Pt.kind, Pt.text]
  by_cases h1 : L.length = 1
  case neg =>
    rw [leaf_not _ _ (by rw [word_len]; exact h1)]
    obtain ⟨m, hm⟩ : ∃ m, m = L.length := ⟨_, rfl⟩
    rw [← hm] at h1 y1 hl8 ⊢
    have e1 : (((m : Nat) : Int) == 1) = false := beq_eq_false_iff_ne.2 (by omega)
    clear hb1 hX hP hL ho hm h1
    go_enter Tryd.func24, Tryd.ntmps24
    go_upto_region 1 with fail
    rw [← hw1]
    clear hw1
    go_upto_region 4 with fail
    refine wp_region_later w1.heap.size (by kernel_rfl) (by kernel_rfl) ?_
    repeat (go_big_quiet_step (fail))
    refine wpQuiet_nil ?_
    rintro w3 ⟨p, rfl⟩
    have hb3 := hid p.low
    clear x0q x1q x2q
    go_wp2
    go_ret
    exact ⟨rfl, below_then HB.out hb3.out⟩
  obtain ⟨s, rfl⟩ : ∃ s, L = [s] := by
    rcases L with _ | ⟨s, _ | ⟨s2, r⟩⟩
    · simp at h1
    · exact ⟨s, rfl⟩
    · simp at h1
  obtain ⟨_, _, sb, so, fv, hve, _, _, _, h4, hrow, htx⟩ := HL.out
  cases hve
  obtain rfl := h4 (by simp)
  have hr5 := hrow 0 (by simp)
  have htt := htx 0 (by simp)
  simp only [List.getElem_cons_zero, Nat.zero_mul, Nat.add_zero] at hr5 htt
  have ho1 : s.texts.length = 1 := HO.out 0 (by simp)
  obtain ⟨ta, tc, htf, t1, t2, t3, htr⟩ := htt.open
  rw [ho1] at htf t1 htr
  obtain ⟨tb, toff, rfl, htc⟩ := htr.get (i := 0) (by omega)
  have t0 := htc 0 (by omega)
  rw [Nat.add_zero] at t0
  rw [htf] at hr5
  obtain ⟨_, _, e2, _, e4⟩ := hr5
  have hw9 : wordOf [s] = [(s.back, s.texts.getD 0 [])] := rfl
  rw [hw9, leaf_one]
  obtain ⟨tx, htx⟩ : ∃ tx, tx = s.texts.getD 0 [] := ⟨_, rfl⟩
  obtain ⟨bk, hbk⟩ : ∃ z, z = s.back := ⟨_, rfl⟩
  rw [← htx] at t0 ⊢
  rw [← hbk] at e2 ⊢
  have e2q := fun p : Later w1.heap.size w1 => p.keep e2
  have e4q := fun p : Later w1.heap.size w1 => p.keep e4
  have t0q := fun p : Later w1.heap.size w1 => p.keep t0
  have hans : Lb.takes ⟨false, false, [t]⟩ (bk, tx) = (!bk && (tx == t)) := by
    unfold Lb.takes
    cases bk <;> simp <;> rw [Bool.eq_iff_iff, decide_eq_true_eq, beq_iff_eq]
  rw [hans]
  obtain ⟨z, hz⟩ : ∃ z, (tx == t) = z := ⟨_, rfl⟩
  rw [hz]
  simp only [List.length_cons, List.length_nil] at y1 hl8 ⊢
  clear hb1 hX hP hL ho h1 hrow htt ho1 htf t1 htr htc htx hbk hw9 hans h4 t3 HL HO e2 e4 t0
  cases bk
  case true =>
    go_enter Tryd.func24, Tryd.ntmps24
    go_upto_region 1 with fail
    rw [← hw1]
    clear hw1
    go_upto_region 4 with fail
    refine wp_region_later w1.heap.size (by kernel_rfl) (by kernel_rfl) ?_
    repeat (go_big_quiet_step (fail))
    refine wpQuiet_nil ?_
    rintro w3 ⟨p, rfl⟩
    have hb3 := hid p.low
    clear x0q x1q x2q e2q e4q t0q
    go_wp2
    go_ret
    exact ⟨rfl, below_then HB.out hb3.out⟩
  cases z
  case false =>
    go_enter Tryd.func24, Tryd.ntmps24
    go_upto_region 1 with fail
    rw [← hw1]
    clear hw1
    go_upto_region 4 with fail
    refine wp_region_later w1.heap.size (by kernel_rfl) (by kernel_rfl) ?_
    repeat (go_big_quiet_step (fail))
    refine wpQuiet_nil ?_
    rintro w3 ⟨p, rfl⟩
    have hb3 := hid p.low
    clear x0q x1q x2q e2q e4q t0q
    go_wp2
    go_ret
    exact ⟨rfl, below_then HB.out hb3.out⟩
  case true =>
    go_enter Tryd.func24, Tryd.ntmps24
    go_upto_region 1 with fail
    rw [← hw1]
    clear hw1
    go_upto_region 4 with fail
    refine wp_region_later w1.heap.size (by kernel_rfl) (by kernel_rfl) ?_
    repeat (go_big_quiet_step (fail))
    refine wpQuiet_nil ?_
    rintro w3 ⟨p, rfl⟩
    have hb3 := hid p.low
    clear x0q x1q x2q e2q e4q t0q
    go_wp2
    go_ret
    exact ⟨rfl, below_then HB.out hb3.out⟩
set_option maxHeartbeats 4000000 in
theorem has_not' (L0 : List T) (hl0 : L0.length ≤ 140737488351232) : HasOk (.mk 8 [] L0 []) := by
  intro v u y L w hP hL ho hl8
  obtain ⟨a0, n0, c0, a1, n1, c1, rfl, hu1⟩ := pv_open hP
  obtain ⟨_, _, hTX, _⟩ := hP.open
  simp only [Pt.texts] at hTX
  subst hu1
  obtain ⟨w1, hw1⟩ : ∃ w1, w1 = w.alloc (.cells #[.int .i64 8, str [], .slice a0 n0 c0, .slice a1 n1 c1] 25) := ⟨_, rfl⟩
  have hb1 : Below w.heap.size w w1 := by rw [hw1]; exact (Below.refl _ _).alloc (Nat.le_refl _) _
  have hX : Blk w1 w.heap.size [.int .i64 8, str [], .slice a0 n0 c0, .slice a1 n1 c1] 25 := by rw [hw1]; exact Blk.new w _ _
  obtain ⟨x0, x1, x2, x3⟩ := blk4 hX
  have HB := hid hb1
  have HL := hid (hL.keep hb1)
  have HO := hid ho
  obtain ⟨ya, yc, rfl, y1, y2⟩ := hL.open
  have x0q := fun p : Later w1.heap.size w1 => p.keep x0
  have x1q := fun p : Later w1.heap.size w1 => p.keep x1
  have x2q := fun p : Later w1.heap.size w1 => p.keep x2
  rw [rx_not']
  unfold pv
  simp only [Pt.kind, Pt.text]
  by_cases h1 : L.length = 1
  case neg =>
    rw [leaf_not _ _ (by rw [word_len]; exact h1)]
    obtain ⟨m, hm⟩ : ∃ m, m = L.length := ⟨_, rfl⟩
    rw [← hm] at h1 y1 hl8 ⊢
    have e1 : (((m : Nat) : Int) == 1) = false := beq_eq_false_iff_ne.2 (by omega)
    clear hb1 hX hP hL ho hm h1
    go_enter Tryd.func24, Tryd.ntmps24
    go_upto_region 1 with fail
    rw [← hw1]
    clear hw1
    go_upto_region 6 with fail
    refine wp_region_later w1.heap.size (by kernel_rfl) (by kernel_rfl) ?_
    repeat (go_big_quiet_step (fail))
    refine wpQuiet_nil ?_
    rintro w3 ⟨p, rfl⟩
    have hb3 := hid p.low
    clear x0q x1q x2q
    go_wp2
    go_ret
    exact ⟨rfl, below_then HB.out hb3.out⟩
  obtain ⟨s, rfl⟩ : ∃ s, L = [s] := by
    rcases L with _ | ⟨s, _ | ⟨s2, r⟩⟩
    · simp at h1
    · exact ⟨s, rfl⟩
    · simp at h1
  obtain ⟨_, _, sb, so, fv, hve, _, _, _, h4, hrow, htx⟩ := HL.out
  cases hve
  obtain rfl := h4 (by simp)
  have hr5 := hrow 0 (by simp)
  have htt := htx 0 (by simp)
  simp only [List.getElem_cons_zero, Nat.zero_mul, Nat.add_zero] at hr5 htt
  have ho1 : s.texts.length = 1 := HO.out 0 (by simp)
  obtain ⟨ta, tc, htf, t1, t2, t3, htr⟩ := htt.open
  rw [ho1] at htf t1 htr
  obtain ⟨tb, toff, rfl, htc⟩ := htr.get (i := 0) (by omega)
  have t0 := htc 0 (by omega)
  rw [Nat.add_zero] at t0
  rw [htf] at hr5
  obtain ⟨_, _, e2, _, e4⟩ := hr5
  have hw9 : wordOf [s] = [(s.back, s.texts.getD 0 [])] := rfl
  rw [hw9, leaf_one]
  obtain ⟨tx, htx⟩ : ∃ tx, tx = s.texts.getD 0 [] := ⟨_, rfl⟩
  obtain ⟨bk, hbk⟩ : ∃ z, z = s.back := ⟨_, rfl⟩
  rw [← htx] at t0 ⊢
  rw [← hbk] at e2 ⊢
  have e2q := fun p : Later w1.heap.size w1 => p.keep e2
  have e4q := fun p : Later w1.heap.size w1 => p.keep e4
  have t0q := fun p : Later w1.heap.size w1 => p.keep t0
  obtain ⟨c, hc⟩ : ∃ c, c = L0.contains tx := ⟨_, rfl⟩
  have hans : Lb.takes ⟨false, true, L0⟩ (bk, tx) = (!bk && !c) := by
    unfold Lb.takes
    rw [← hc]
    cases bk <;> cases c <;> rfl
  rw [hans]
  have CO := hid fun p : Later w1.heap.size w1 => place_any (.slice a0 n0 c0) L0 tx p.it ((hTX.keep hb1).keep p.low) hl0
  have HZ := placeZ_neg L0 tx
  obtain ⟨z, hz⟩ : ∃ z, z = placeZ L0 tx := ⟨_, rfl⟩
  rw [← hz] at CO HZ
  have hg : decide (z < 0) = !c := by
    rw [hc, Bool.eq_iff_iff, decide_eq_true_eq, HZ, Bool.not_eq_true', ← Bool.not_eq_true, List.contains_iff_mem]
  simp only [List.length_cons, List.length_nil] at y1 hl8 ⊢
  clear hb1 hX hP hL ho h1 hrow htt ho1 htf t1 htr htc htx hbk hw9 hans h4 t3 HL HO e2 e4 t0 hz hc HZ hTX
  cases bk
  case true =>
    go_enter Tryd.func24, Tryd.ntmps24
    go_upto_region 1 with fail
    rw [← hw1]
    clear hw1
    go_upto_region 6 with fail
    refine wp_region_later w1.heap.size (by kernel_rfl) (by kernel_rfl) ?_
    repeat (go_big_quiet_step (fail))
    refine wpQuiet_nil ?_
    rintro w3 ⟨p, rfl⟩
    have hb3 := hid p.low
    clear x0q x1q x2q e2q e4q t0q
    go_wp2
    go_ret
    exact ⟨rfl, below_then HB.out hb3.out⟩
  cases c
  case false =>
    have hg : decide (z < 0) = true := hg
    go_enter Tryd.func24, Tryd.ntmps24
    go_upto_region 1 with fail
    rw [← hw1]
    clear hw1
    go_upto_region 6 with fail
    refine wp_region_later w1.heap.size (by kernel_rfl) (by kernel_rfl) ?_
    repeat (go_big_quiet_step ((first | (go_at_call 27; with_reducible exact Later.call_same (CO.out _)) | fail)))
    refine wpQuiet_nil ?_
    rintro w3 ⟨p, rfl⟩
    have hb3 := hid p.low
    clear x0q x1q x2q e2q e4q t0q
    go_wp2
    go_ret
    exact ⟨rfl, below_then HB.out hb3.out⟩
  case true =>
    have hg : decide (z < 0) = false := hg
    go_enter Tryd.func24, Tryd.ntmps24
    go_upto_region 1 with fail
    rw [← hw1]
    clear hw1
    go_upto_region 6 with fail
    refine wp_region_later w1.heap.size (by kernel_rfl) (by kernel_rfl) ?_
    repeat (go_big_quiet_step ((first | (go_at_call 27; with_reducible exact Later.call_same (CO.out _)) | fail)))
    refine wpQuiet_nil ?_
    rintro w3 ⟨p, rfl⟩
    have hb3 := hid p.low
    clear x0q x1q x2q e2q e4q t0q
    go_wp2
    go_ret
    exact ⟨rfl, below_then HB.out hb3.out⟩
theorem hs_front {W : World} {a : Option Addr} {n c : Nat} {L : List Stp} (h : StepsAt W (.slice a n c) L) (k : Nat) (hk : k ≤ L.length) : StepsAt W (.slice a k c) (L.take k) := by
  obtain ⟨a', cap, b, off, f, he, h2, h3, h4, h5, h6, h7⟩ := h
  cases he
  have hl : (L.take k).length = k := by rw [List.length_take]; omega
  refine ⟨a, c, b, off, f, by rw [hl], by omega, h3, h4, fun hp => h5 (by omega), fun i hi => ?_, fun i hi => ?_⟩
  · rw [List.getElem_take]; exact h6 i (by omega)
  · rw [List.getElem_take]; exact h7 i (by omega)
theorem hs_empty {W : World} {a : Option Addr} {c : Nat} (hc : c ≤ maxLen) (h : a = none → c = 0) : StepsAt W (.slice a 0 c) [] :=
  ⟨a, c, 0, 0, fun _ => undef, rfl, Nat.zero_le _, hc, h, fun h => absurd h (by simp), fun i h => absurd h (by simp), fun i h => absurd h (by simp)⟩
theorem hs_back1 {W : World} {b o : Nat} {n c : Nat} {L : List Stp} (h : StepsAt W (.slice (some ⟨b, o, none⟩) n c) L) (k : Nat) (hk : k ≤ L.length) : StepsAt W (.slice (some ⟨b, o + k * 5, none⟩) (n - k) (c - k)) (L.drop k) := by
  obtain ⟨a', cap, b', off, f, he, h2, h3, h4, h5, h6, h7⟩ := h
  cases he
  have hl : (L.drop k).length = L.length - k := by rw [List.length_drop]
  refine ⟨_, c - k, b, o + k * 5, fun i => f (i + k), by rw [hl], by omega, by omega, (fun h => by cases h), fun _ => rfl, fun i hi => ?_, fun i hi => ?_⟩
  · have hp : 0 < L.length := by omega
    have := h5 hp
    cases this
    rw [List.getElem_drop]
    have := h6 (k + i) (by omega)
    show Row5 W b (o + k * 5 + i * 5) L[k + i] (f (i + k))
    rw [show o + k * 5 + i * 5 = o + (k + i) * 5 by omega, show i + k = k + i by omega]
    exact this
  · rw [List.getElem_drop]
    show TextsAt W (f (i + k)) _
    rw [show i + k = k + i by omega]
    exact h7 (k + i) (by omega)
theorem hs_back {W : World} {a : Option Addr} {n c : Nat} {L : List Stp} (h : StepsAt W (.slice a n c) L) (k : Nat) (hk : k ≤ L.length) : StepsAt W (.slice (a.map fun x => x.add (k * 5)) (n - k) (c - k)) (L.drop k) := by
  cases a with
  | none =>
    obtain ⟨a', cap, b', off, f, he, h2, h3, h4, h5, h6, h7⟩ := h
    cases he
    have hl : L = [] := by
      cases L with
      | nil => rfl
      | cons s r => exact absurd (h5 (by simp)) (by simp)
    subst hl
    have hc := h4 rfl
    subst hc
    simpa using (hs_empty (W := W) (a := none) (c := 0) (by unfold maxLen; omega) (fun _ => rfl))
  | some ad =>
    obtain ⟨a', cap, b', off, f, he, h2, h3, h4, h5, h6, h7⟩ := h
    cases he
    by_cases hp : 0 < L.length
    · have := h5 hp
      cases this
      have hb := hs_back1 (W := W) (b := b') (o := off) (n := L.length) (c := c) (L := L) ⟨_, c, b', off, f, rfl, h2, h3, h4, h5, h6, h7⟩ k hk
      by_cases hk0 : k = 0
      · subst hk0; simpa [Addr.add] using hb
      · have : ¬ (k * 5 = 0) := by omega
        simpa [Addr.add, this, hk0] using hb
    · have hl : L = [] := List.eq_nil_of_length_eq_zero (by omega)
      subst hl
      have hk0 : k = 0 := by simpa using hk
      subst hk0
      simpa using (hs_empty (W := W) (a := some (ad.add 0)) (c := c) h3 (fun h => by cases h))
theorem hs_back3 {W : World} {a : Option Addr} {n c : Nat} {L : List Stp} (h : StepsAt W (.slice a n c) L) (k : Nat) (hk : c - k = 0) : StepsAt W (.slice a (n - k) 0) (L.drop k) := by
  obtain ⟨a', cap, b', off, f, he, h2, h3, h4, h5, h6, h7⟩ := h
  cases he
  have hl : L.drop k = [] := List.drop_eq_nil_of_le (by omega)
  rw [hl, show L.length - k = 0 by omega]
  exact hs_empty (by unfold maxLen; omega) (fun _ => rfl)
set_option maxHeartbeats 8000000 in
theorem has_seq' (x y : Pt) (IH : Hid (HasOk x)) (IK : Hid (HasOk y)) : HasOk (.mk 3 [] [] [x, y]) := by
  intro v u y9 L w hP hL ho hl8
  obtain ⟨b, off, cap, ka, kn, kc, la, ln, lc, ka', kn', kc', la', ln', lc', rfl, q1, q2, ⟨r0, r1, r2, r3, hk⟩, s0, s1, s2, s3, hk'⟩ := kid2 hP
  obtain ⟨a0, n0, c0, a1, n1, c1, rfl, hu1⟩ := pv_open hP
  clear hu1
  obtain ⟨w1, hw1⟩ : ∃ w1, w1 = w.alloc (.cells #[.int .i64 3, str [], .slice a0 n0 c0, .slice (some ⟨b, off, none⟩) 2 cap] 25) := ⟨_, rfl⟩
  have hb1 : Below w.heap.size w w1 := by rw [hw1]; exact (Below.refl _ _).alloc (Nat.le_refl _) _
  have hX : Blk w1 w.heap.size [.int .i64 3, str [], .slice a0 n0 c0, .slice (some ⟨b, off, none⟩) 2 cap] 25 := by rw [hw1]; exact Blk.new w _ _
  obtain ⟨x0, x1, x2, x3⟩ := blk4 hX
  have HB := hid hb1
  have HL := hid (hL.keep hb1)
  have HO := hid ho
  obtain ⟨ya, yc, rfl, y1, y2⟩ := hL.open
  have HK := hid (hk.keep hb1)
  have r0 := below_keep hb1 r0
  have r1 := below_keep hb1 r1
  have r2 := below_keep hb1 r2
  have r3 := below_keep hb1 r3
  have HK' := hid (hk'.keep hb1)
  have s0 := below_keep hb1 s0
  have s1 := below_keep hb1 s1
  have s2 := below_keep hb1 s2
  have s3 := below_keep hb1 s3
  rw [rx_seq', seq_has_any, word_len]
  obtain ⟨g, hg⟩ : ∃ g : Nat → Bool, ∀ k, g k = ((x.rx false).has ((wordOf L).take k) && (y.rx false).has ((wordOf L).drop k)) := ⟨_, fun _ => rfl⟩
  rw [show (fun k => (x.rx false).has ((wordOf L).take k) && (y.rx false).has ((wordOf L).drop k)) = g from funext fun k => (hg k).symm]
  obtain ⟨m, hm⟩ : ∃ m, m = L.length := ⟨_, rfl⟩
  have HM := hid hm
  obtain ⟨ANS, hans⟩ : ∃ z, z = (List.range (m + 1)).any g := ⟨_, rfl⟩
  have HANS := hid hans
  rw [← hm] at y1 hl8 ⊢
  rw [← hans]
  have HG := hid hg
  have I1 := hid fun i (hi : i ≤ m) W (hb : Below w1.heap.size w1 W) => (show Calls Tryd.prog 24 #[pv x (.slice ka kn kc) (.slice la ln lc), .slice ya i yc] W fun e w' => e = .returned (.bool ((x.rx false).has ((wordOf L).take i))) ∧ Below W.heap.size W w' from by
    have h := IH.out _ _ _ (L.take i) W (HK.out.keep hb) ((hs_front HL.out i (by omega)).keep hb) (fun j hj => by rw [List.getElem_take]; exact HO.out j _) (by rw [List.length_take]; omega)
    rw [show wordOf (L.take i) = (wordOf L).take i by unfold wordOf; rw [List.map_take]] at h
    exact h)
  have I2 := hid fun i vv (hv : StepsAt w1 vv (L.drop i)) W (hb : Below w1.heap.size w1 W) => (show Calls Tryd.prog 24 #[pv y (.slice ka' kn' kc') (.slice la' ln' lc'), vv] W fun e w' => e = .returned (.bool ((y.rx false).has ((wordOf L).drop i))) ∧ Below W.heap.size W w' from by
    have h := IK.out _ _ _ (L.drop i) W (HK'.out.keep hb) (hv.keep hb) (fun j hj => by rw [List.getElem_drop]; exact HO.out _ _) (by rw [List.length_drop]; omega)
    rw [show wordOf (L.drop i) = (wordOf L).drop i by unfold wordOf; rw [List.map_drop]] at h
    exact h)
  have HT1 := hid fun i (hi : i ≤ m) => (show StepsAt w1 (.slice (ya.map fun x => x.add (i * 5)) (m - i) (yc - i)) (L.drop i) from by have h := hs_back HL.out i (by omega); rw [← hm] at h; exact h)
  have HT2 := hid fun i (hc : yc - i = 0) => (show StepsAt w1 (.slice ya (m - i) 0) (L.drop i) from by have h := hs_back3 HL.out i hc; rw [← hm] at h; exact h)
  unfold pv at I1 I2 ⊢
  simp only [Pt.kind, Pt.text]
  clear hb1 hX hP hL ho hk hk' hm IH IK hg hans
  go_enter Tryd.func24, Tryd.ntmps24
  go_upto_region 1 with fail
  rw [← hw1]
  clear hw1
  go_wp2
  go_loopw [8] (fun s8 wr => ∃ i : Nat, i ≤ m + 1 ∧ s8 = .int .i64 i ∧ Hid (Below w1.heap.size w1 wr) ∧ Hid ((List.range i).any g = false)) (fun s8 _ => m + 1 - (intOf s8).toNat)
  case atStart => exact ⟨0, by omega, rfl, Below.refl _ _, rfl⟩
  case round =>
    obtain ⟨i, hi, rfl, HBr, HN⟩ := hrel
    by_cases hlt : i ≤ m
    case neg =>
      obtain rfl : i = m + 1 := by omega
      have HF := hid (HANS.out.trans HN.out)
      go_wp2
      go_ret
      exact ⟨by rw [HF.out]; rfl, HB.out.trans (HBr.out.mono HB.out.size)⟩
    have hiy : i ≤ yc := by omega
    have HGI := hid (HG.out i)
    obtain ⟨ga, hga⟩ : ∃ z, z = (x.rx false).has ((wordOf L).take i) := ⟨_, rfl⟩
    obtain ⟨gb, hgb⟩ : ∃ z, z = (y.rx false).has ((wordOf L).drop i) := ⟨_, rfl⟩
    have C1 := hid fun p : Later wr.heap.size wr => I1.out i hlt p.it (below_then HBr.out p.low)
    have C2 := hid fun vv (hv : StepsAt w1 vv (L.drop i)) (p : Later wr.heap.size wr) => I2.out i vv hv p.it (below_then HBr.out p.low)
    rw [← hga] at HGI C1
    rw [← hgb] at HGI C2
    have x3q := fun p : Later wr.heap.size wr => p.keep (below_keep HBr.out x3)
    have r0q := fun p : Later wr.heap.size wr => p.keep (below_keep HBr.out r0)
    have r1q := fun p : Later wr.heap.size wr => p.keep (below_keep HBr.out r1)
    have r2q := fun p : Later wr.heap.size wr => p.keep (below_keep HBr.out r2)
    have r3q := fun p : Later wr.heap.size wr => p.keep (below_keep HBr.out r3)
    have s0q := fun p : Later wr.heap.size wr => p.keep (below_keep HBr.out s0)
    have s1q := fun p : Later wr.heap.size wr => p.keep (below_keep HBr.out s1)
    have s2q := fun p : Later wr.heap.size wr => p.keep (below_keep HBr.out s2)
    have s3q := fun p : Later wr.heap.size wr => p.keep (below_keep HBr.out s3)
    have HR := hid (show (List.range (i + 1)).any g = (ga && gb) by rw [List.range_succ, List.any_append, HN.out, List.any_cons, HGI.out]; simp)
    have HY := hid (show (ga && gb) = true → ANS = true from fun h => by
      rw [HANS.out, List.any_eq_true]
      exact ⟨i, List.mem_range.2 (by omega), by rw [HGI.out, h]⟩)
    clear hga hgb
    cases ga
    case false =>
      go_upto_region 22 with fail
      refine wp_region_later wr.heap.size (by kernel_rfl) (by kernel_rfl) ?_
      repeat (go_big_quiet_step (first | (go_at_call 24; with_reducible exact Later.call (Nat.le_refl _) (C1.out _)) | fail))
      refine wpQuiet_nil ?_
      rintro wn ⟨p, hwn⟩
      have HBn := hid (show Below w1.heap.size w1 wn by rw [hwn]; exact below_then HBr.out p.low)
      clear hwn p x3q r0q r1q r2q r3q s0q s1q s2q s3q
      go_wp2
      go_roundw
      case rel => exact ⟨i + 1, by omega, by go_num, HBn.out, hid (by rw [HR.out]; rfl)⟩
      case measure => simp [intOf]; omega
    by_cases hci : i < yc
    · have C3 := hid (C2.out _ (HT1.out i hlt))
      have q1 : ¬ (yc = i) := by omega
      have q2 : ¬ (yc - i = 0) := by omega
      have q3 : ¬ (i = yc) := by omega
      have q4 : ¬ (yc ≤ i) := by omega
      cases gb
      case false =>
        go_upto_region 22 with fail
        refine wp_region_later wr.heap.size (by kernel_rfl) (by kernel_rfl) ?_
        repeat (go_big_quiet_step (first | (go_at_call 24; with_reducible exact Later.call (Nat.le_refl _) (C1.out _)) | (go_at_call 24; with_reducible exact Later.call (Nat.le_refl _) (C3.out _)) | fail))
        refine wpQuiet_nil ?_
        rintro wn ⟨p, hwn⟩
        have HBn := hid (show Below w1.heap.size w1 wn by rw [hwn]; exact below_then HBr.out p.low)
        clear hwn p x3q r0q r1q r2q r3q s0q s1q s2q s3q
        go_wp2
        go_roundw
        case rel => exact ⟨i + 1, by omega, by go_num, HBn.out, hid (by rw [HR.out]; rfl)⟩
        case measure => simp [intOf]; omega
      case true =>
        go_upto_region 22 with fail
        refine wp_region_later wr.heap.size (by kernel_rfl) (by kernel_rfl) ?_
        repeat (go_big_quiet_step (first | (go_at_call 24; with_reducible exact Later.call (Nat.le_refl _) (C1.out _)) | (go_at_call 24; with_reducible exact Later.call (Nat.le_refl _) (C3.out _)) | fail))
        refine wpQuiet_nil ?_
        rintro wn ⟨p, hwn⟩
        have HBn := hid (show Below w1.heap.size w1 wn by rw [hwn]; exact below_then HBr.out p.low)
        clear hwn p x3q r0q r1q r2q r3q s0q s1q s2q s3q
        have hF := hid (HY.out rfl)
        go_wp2
        go_ret
        exact ⟨by rw [hF.out]; rfl, HB.out.trans (HBn.out.mono HB.out.size)⟩
    · have hcz : yc - i = 0 := by omega
      have C3 := hid (C2.out _ (HT2.out i hcz))
      cases gb
      case false =>
        go_upto_region 22 with fail
        refine wp_region_later wr.heap.size (by kernel_rfl) (by kernel_rfl) ?_
        repeat (go_big_quiet_step (first | (go_at_call 24; with_reducible exact Later.call (Nat.le_refl _) (C1.out _)) | (go_at_call 24; with_reducible exact Later.call (Nat.le_refl _) (C3.out _)) | fail))
        refine wpQuiet_nil ?_
        rintro wn ⟨p, hwn⟩
        have HBn := hid (show Below w1.heap.size w1 wn by rw [hwn]; exact below_then HBr.out p.low)
        clear hwn p x3q r0q r1q r2q r3q s0q s1q s2q s3q
        go_wp2
        go_roundw
        case rel => exact ⟨i + 1, by omega, by go_num, HBn.out, hid (by rw [HR.out]; rfl)⟩
        case measure => simp [intOf]; omega
      case true =>
        go_upto_region 22 with fail
        refine wp_region_later wr.heap.size (by kernel_rfl) (by kernel_rfl) ?_
        repeat (go_big_quiet_step (first | (go_at_call 24; with_reducible exact Later.call (Nat.le_refl _) (C1.out _)) | (go_at_call 24; with_reducible exact Later.call (Nat.le_refl _) (C3.out _)) | fail))
        refine wpQuiet_nil ?_
        rintro wn ⟨p, hwn⟩
        have HBn := hid (show Below w1.heap.size w1 wn by rw [hwn]; exact below_then HBr.out p.low)
        clear hwn p x3q r0q r1q r2q r3q s0q s1q s2q s3q
        have hF := hid (HY.out rfl)
        go_wp2
        go_ret
        exact ⟨by rw [hF.out]; rfl, HB.out.trans (HBn.out.mono HB.out.size)⟩
set_option maxHeartbeats 8000000 in
theorem has_back' (x : Pt) (IH : Hid (HasOk x)) : HasOk (.mk 2 [] [] [x]) := by
  intro v u y L w hP hL ho hl8
  obtain ⟨b, off, cap, ka, kn, kc, la, ln, lc, rfl, q1, q2, r0, r1, r2, r3, hk⟩ := kid1 hP
  obtain ⟨a0, n0, c0, a1, n1, c1, rfl, hu1⟩ := pv_open hP
  clear hu1
  obtain ⟨w1, hw1⟩ : ∃ w1, w1 = w.alloc (.cells #[.int .i64 2, str [], .slice a0 n0 c0, .slice (some ⟨b, off, none⟩) 1 cap] 25) := ⟨_, rfl⟩
  have hb1 : Below w.heap.size w w1 := by rw [hw1]; exact (Below.refl _ _).alloc (Nat.le_refl _) _
  have hX : Blk w1 w.heap.size [.int .i64 2, str [], .slice a0 n0 c0, .slice (some ⟨b, off, none⟩) 1 cap] 25 := by rw [hw1]; exact Blk.new w _ _
  obtain ⟨x0, x1, x2, x3⟩ := blk4 hX
  have HB := hid hb1
  have HL := hid (hL.keep hb1)
  have HO := hid ho
  obtain ⟨ya, yc, rfl, y1, y2⟩ := hL.open
  have HK := hid (hk.keep hb1)
  have r0 := below_keep hb1 r0
  have r1 := below_keep hb1 r1
  have r2 := below_keep hb1 r2
  have r3 := below_keep hb1 r3
  rw [rx_back']
  have hW : (x.rx false).turn.has (wordOf L) = (x.rx false).has (wordOf ((L.map turnStp).reverse)) := by
    rw [word_turn, ← Rx.has_turn (x.rx false) (Rx.turnW (wordOf L)), Rx.turnW_turn]
  rw [hW]
  have I1 := hid fun vv W (hb : Below w1.heap.size w1 W) (hv : StepsAt W vv (L.map turnStp).reverse) => IH.out _ _ vv _ W (HK.out.keep hb) hv (ones_turn HO.out) (by simp; exact hl8)
  obtain ⟨ANS, hans⟩ : ∃ z, z = (x.rx false).has (wordOf ((L.map turnStp).reverse)) := ⟨_, rfl⟩
  rw [← hans] at I1 ⊢
  obtain ⟨m, hm⟩ : ∃ m, m = L.length := ⟨_, rfl⟩
  have HML := hid hm
  rw [← hm] at y1 hl8 ⊢
  unfold pv at I1 ⊢
  simp only [Pt.kind, Pt.text]
  clear hm
  have HTK := hid fun i (hi : i < m) => (show ((L.map turnStp).reverse).take (i + 1) = ((L.map turnStp).reverse).take i ++ [turnStp (L[m - 1 - i]'(by have := HML.out; omega))] from by
    rw [List.take_add_one, List.getElem?_eq_getElem (by simp; have := HML.out; omega)]
    simp only [Option.toList_some, List.getElem_reverse, List.getElem_map, List.length_map]
    have := HML.out
    subst this
    rfl)
  have HFL := hid (show ((L.map turnStp).reverse).take m = (L.map turnStp).reverse from List.take_of_length_le (by simp; have := HML.out; omega))
  have HLT := hid fun i => (show (((L.map turnStp).reverse).take i).length ≤ 8 from by rw [List.length_take]; simp; have := HML.out; omega)
  obtain ⟨ya', yc', b9, o9, fv, hve, e1, e2, e3, e4, hrow, htx⟩ := HL.out
  rw [← HML.out] at hve
  cases hve
  rw [← HML.out] at e1 e4
  have HROW := hid hrow
  have HTX := hid htx
  obtain ⟨iS, hiS, hzS, hsS, hbS⟩ := info_two Tryd.infoStep
  clear hb1 hX hP hL ho hk hW hans IH hrow htx
  go_enter Tryd.func24, Tryd.ntmps24
  go_upto_region 1 with fail
  rw [← hw1]
  clear hw1
  go_wp2
  go_loopw [6, 7] (fun s6 s7 wr => ∃ (i : Nat) (v : Value) (xs : List Value), i ≤ m ∧ s6 = v ∧ s7 = .int .i64 ((m : Int) - 1 - i) ∧ Hid (Below w1.heap.size w1 wr) ∧ Hid (SrOld w1 wr v xs (((L.map turnStp).reverse).take i))) (fun _ s7 _ => (intOf s7 + 1).toNat)
  case atStart => exact ⟨0, _, [], by omega, rfl, by simp, Below.refl _ _, SrOld.nil _ _⟩
  case round =>
    obtain ⟨i, vv, xs, hi, hvv, rfl, HBr, HV⟩ := hrel
    have hvv := hvv.symm
    subst hvv
    by_cases hlt : i < m
    case pos =>
      obtain ⟨k, hk⟩ : ∃ k, k = m - 1 - i := ⟨_, rfl⟩
      have hkz : (m : Int) - 1 - i = (k : Nat) := by omega
      have hkm : k < m := by omega
      have hkL : k < L.length := by rw [← HML.out]; exact hkm
      obtain rfl := e4 (by omega)
      have hr5 := HROW.out k hkL
      have htt := HTX.out k hkL
      have htk := HTK.out i hlt
      simp only [← hk] at htk
      obtain ⟨s, hsd⟩ : ∃ s, s = L[k] := ⟨_, rfl⟩
      rw [← hsd] at hr5 htt htk
      obtain ⟨ta, tc, htf, t1, t2, t3, htr⟩ := htt.open
      rw [htf] at hr5 htt
      obtain ⟨sf, st, sb, sn, stx⟩ := s
      simp only at hr5 htt htr t1
      obtain ⟨tn, htn⟩ : ∃ tn, tn = stx.length := ⟨_, rfl⟩
      rw [← htn] at hr5 htt t1
      obtain ⟨_, _, d2, _, d4⟩ := hr5
      have HTT := hid htt
      have HTK1 := hid htk
      have E2 := hid d2
      have E4 := hid d4
      have HTN := hid htn
      have d2 := below_keep HBr.out d2
      have d4 := below_keep HBr.out d4
      have HOWN := hid fun o => HV.out.own.alloc (w := wr) o
      have HLI := HLT.out i
      have B1 := hid (show (((L.map turnStp).reverse).take i).length + 1 ≤ maxLen by unfold maxLen; omega)
      have B2 := hid (show ((((L.map turnStp).reverse).take i).length + 1) * 48 ≤ 140737488355328 by omega)
      have B3 := hid (show ∀ (b : Bool) (a2 : Option Addr) (n cap2 : Nat), ∀ u ∈ [Value.int .i64 0, .int .i64 0, .bool b, .bool false, .slice a2 n cap2], u.oneCell' = true from fun b a2 n cap2 u hu => by
        simp only [List.mem_cons, List.not_mem_nil, or_false] at hu
        rcases hu with rfl | rfl | rfl | rfl | rfl <;> rfl)
      have B4 := hid (show ∀ (o : Obj), w1.heap.size ≤ (wr.alloc o).heap.size from fun o => by have := HBr.out.size; simp; omega)
      clear hsd htf htk htt htn hk htr t3 hkL HLI
      cases sb
      case false =>
        go_upto_region 12 with fail
        go_region_held3 (fun w' => w'.cell? ⟨b9, o9 + k * 5 + 2, none⟩ = some (.bool false) ∧ w'.cell? ⟨b9, o9 + k * 5 + 4, none⟩ = some (.slice ta tn tc))
          (first
            | (refine ⟨?_, ?_⟩ <;> with_reducible assumption)
            | (refine ⟨?_, ?_⟩ <;> assumption)
            | go_keep)
          (first
            | (refine step_append_lies _ (by rfl) (.tmp 66) (.tmp 79) 36 (by rfl) w1.heap.size 48 iS _ 5 48 Tryd.underlying36 hiS hzS hsS hbS rfl (by decide) vv _ xs (by rfl) (HOWN.out _) ⟨wr.heap.size, 0, none⟩ 1 1 [.int .i64 0, .int .i64 0, .bool true, .bool false, .slice ta tn tc] (by rfl) (by rfl) (World.news_of_block (cs := #[.int .i64 0, .int .i64 0, .bool true, .bool false, .slice ta tn tc]) (t := 48) (fr := (0, 0)) (heap_alloc_new wr.drew _)) (B3.out _ _ _ _) (Nat.one_pos) B1.out B2.out (B4.out _) (wr.heap.size + 1) (by simp) ?_; intro g cap5 w5 hown hgr hg hlt; have hb5 : Below w1.heap.size w1 w5 := ((below_drawn HBr.out 1).alloc HBr.out.size _).grown hgr (B4.out _) (fun q hq => (HV.out.own.lt q hq).1); have y0 := below_keep hb5 (show w1.cell? ⟨b9, o9 + k * 5 + 2, none⟩ = some (.bool false) from E2.out); have y1 := below_keep hb5 (show w1.cell? ⟨b9, o9 + k * 5 + 4, none⟩ = some (.slice ta tn tc) from E4.out); have HB5 := hid hb5; have HOW := hid hown; clear hown hgr hg hlt hb5)
            | fail)
        have HSN := hid (SrOld.snoc (s := ⟨0, 0, true, false, stx⟩) HV.out HOW.out HTT.out)
        clear y0 y1
        go_wp2
        go_roundw
        case rel => exact ⟨i + 1, _, _, by omega, rfl, by go_num, HB5.out, hid (by have h := HSN.out; simp only [List.length_take, List.length_reverse, List.length_map] at h; rw [HTK1.out]; exact h)⟩
        case measure => simp [intOf]; omega
      case true =>
        go_upto_region 12 with fail
        go_region_held3 (fun w' => w'.cell? ⟨b9, o9 + k * 5 + 2, none⟩ = some (.bool true) ∧ w'.cell? ⟨b9, o9 + k * 5 + 4, none⟩ = some (.slice ta tn tc))
          (first
            | (refine ⟨?_, ?_⟩ <;> with_reducible assumption)
            | (refine ⟨?_, ?_⟩ <;> assumption)
            | go_keep)
          (first
            | (refine step_append_lies _ (by rfl) (.tmp 66) (.tmp 79) 36 (by rfl) w1.heap.size 48 iS _ 5 48 Tryd.underlying36 hiS hzS hsS hbS rfl (by decide) vv _ xs (by rfl) (HOWN.out _) ⟨wr.heap.size, 0, none⟩ 1 1 [.int .i64 0, .int .i64 0, .bool false, .bool false, .slice ta tn tc] (by rfl) (by rfl) (World.news_of_block (cs := #[.int .i64 0, .int .i64 0, .bool false, .bool false, .slice ta tn tc]) (t := 48) (fr := (0, 0)) (heap_alloc_new wr.drew _)) (B3.out _ _ _ _) (Nat.one_pos) B1.out B2.out (B4.out _) (wr.heap.size + 1) (by simp) ?_; intro g cap5 w5 hown hgr hg hlt; have hb5 : Below w1.heap.size w1 w5 := ((below_drawn HBr.out 1).alloc HBr.out.size _).grown hgr (B4.out _) (fun q hq => (HV.out.own.lt q hq).1); have y0 := below_keep hb5 (show w1.cell? ⟨b9, o9 + k * 5 + 2, none⟩ = some (.bool true) from E2.out); have y1 := below_keep hb5 (show w1.cell? ⟨b9, o9 + k * 5 + 4, none⟩ = some (.slice ta tn tc) from E4.out); have HB5 := hid hb5; have HOW := hid hown; clear hown hgr hg hlt hb5)
            | fail)
        have HSN := hid (SrOld.snoc (s := ⟨0, 0, false, false, stx⟩) HV.out HOW.out HTT.out)
        clear y0 y1
        go_wp2
        go_roundw
        case rel => exact ⟨i + 1, _, _, by omega, rfl, by go_num, HB5.out, hid (by have h := HSN.out; simp only [List.length_take, List.length_reverse, List.length_map] at h; rw [HTK1.out]; exact h)⟩
        case measure => simp [intOf]; omega
    obtain rfl : i = m := by omega
    have HV1 := hid (show SrOld w1 wr vv xs (L.map turnStp).reverse from by rw [← HFL.out]; exact HV.out)
    have CI := hid (I1.out _ wr HBr.out (HV1.out.steps HBr.out))
    have x3 := below_keep HBr.out x3
    have r0 := below_keep HBr.out r0
    have r1 := below_keep HBr.out r1
    have r2 := below_keep HBr.out r2
    have r3 := below_keep HBr.out r3
    go_wp2_with fail
    refine CI.out.mono ?_
    rintro e w2 ⟨rfl, hb2⟩
    go_wp2
    go_ret
    exact ⟨rfl, HB.out.trans ((below_then HBr.out hb2).mono HB.out.size)⟩
/-- Has the star the first q steps? -/
def starB (r : Rx) (W : List S) (q : Nat) : Bool := (Rx.star r).has (W.take q)
def tabB (r : Rx) (W : List S) (i j q : Nat) : Bool := (decide (q = 0) || (List.range i).any (fun a => decide (a < q) && (starB r W a && r.has ((W.take q).drop a)))) || (decide (i < q) && (decide (q < j) && (starB r W i && r.has ((W.take q).drop i))))
theorem many_last {A : Rx.Lg} {w : List S} (h : Rx.Many A w) : w ≠ [] → ∃ u v, w = u ++ v ∧ v ≠ [] ∧ Rx.Many A u ∧ A v := by
  induction h with
  | nil => intro h; exact absurd rfl h
  | @step u v hu hv ih =>
    intro hne
    by_cases hve : v = []
    · subst hve
      exact ⟨[], u, by simp, by simpa using hne, Rx.Many.nil, hu⟩
    · obtain ⟨u', v', h1, h2, h3, h4⟩ := ih hve
      exact ⟨u ++ u', v', by rw [h1, List.append_assoc], h2, Rx.Many.step hu h3, h4⟩
theorem star_tab (r : Rx) (W : List S) (q : Nat) (hq : q ≤ W.length) : starB r W q = (decide (q = 0) || (List.range q).any (fun a => decide (a < q) && (starB r W a && r.has ((W.take q).drop a)))) := by
  rw [Bool.eq_iff_iff, Bool.or_eq_true, decide_eq_true_eq, List.any_eq_true]
  unfold starB
  rw [Rx.has_lang]
  constructor
  · intro h
    by_cases h0 : q = 0
    · exact Or.inl h0
    · right
      have hne : W.take q ≠ [] := by
        intro e
        have := congrArg List.length e
        rw [List.length_take, List.length_nil] at this
        omega
      obtain ⟨u, v, h1, h2, h3, h4⟩ := many_last h hne
      have hl := congrArg List.length h1
      rw [List.length_take, List.length_append] at hl
      have hv : 0 < v.length := List.length_pos_iff.2 h2
      have hu : W.take u.length = u := by
        have e := congrArg (List.take u.length) h1
        rw [List.take_take, Nat.min_eq_left (by omega), List.take_left] at e
        exact e
      have hd : (W.take q).drop u.length = v := by rw [h1, List.drop_left]
      refine ⟨u.length, List.mem_range.2 (by omega), ?_⟩
      rw [Bool.and_eq_true, Bool.and_eq_true, decide_eq_true_eq, hu, hd, Rx.has_lang, Rx.has_lang]
      exact ⟨by omega, h3, h4⟩
  · rintro (h0 | ⟨a, _, h⟩)
    · subst h0
      rw [List.take_zero]
      exact Rx.Many.nil
    · rw [Bool.and_eq_true, Bool.and_eq_true, decide_eq_true_eq, Rx.has_lang, Rx.has_lang] at h
      have e : W.take q = W.take a ++ (W.take q).drop a := by
        have h1 := (List.take_append_drop a (W.take q)).symm
        rw [List.take_take, Nat.min_eq_left (by omega)] at h1
        exact h1
      rw [e]
      exact Rx.many_snoc h.2.1 h.2.2
theorem tab_at (r : Rx) (W : List S) (i j : Nat) (hi : i ≤ W.length) : tabB r W i j i = starB r W i := by
  unfold tabB
  rw [star_tab r W i hi, decide_eq_false (Nat.lt_irrefl i), Bool.false_and, Bool.or_false]
theorem tab_start (r : Rx) (W : List S) : tabB r W 0 1 = fun q => if q = 0 then true else false := by
  funext q
  unfold tabB
  by_cases h : q = 0
  · simp [h]
  · simp [h]
theorem tab_yes (r : Rx) (W : List S) (i j : Nat) (hij : i < j) (h : (starB r W i && r.has ((W.take j).drop i)) = true) : tabB r W i (j + 1) = fun q => if q = j then true else tabB r W i j q := by
  funext q
  unfold tabB
  by_cases hq : q = j
  · subst hq; rw [h, decide_eq_true hij, decide_eq_true (Nat.lt_succ_self q)]; simp
  · rw [if_neg hq, decide_eq_decide.2 (show q < j + 1 ↔ q < j by omega)]
theorem tab_no (r : Rx) (W : List S) (i j : Nat) (h : (starB r W i && r.has ((W.take j).drop i)) = false) : tabB r W i (j + 1) = tabB r W i j := by
  funext q
  unfold tabB
  by_cases hq : q = j
  · subst hq; rw [h]; simp
  · rw [decide_eq_decide.2 (show q < j + 1 ↔ q < j by omega)]
theorem tab_next (r : Rx) (W : List S) (i q : Nat) : tabB r W (i + 1) (i + 2) q = ((decide (q = 0) || (List.range i).any (fun a => decide (a < q) && (starB r W a && r.has ((W.take q).drop a)))) || (decide (i < q) && (starB r W i && r.has ((W.take q).drop i)))) := by
  unfold tabB
  have e : (decide (i + 1 < q) && (decide (q < i + 2) && (starB r W (i + 1) && r.has ((W.take q).drop (i + 1))))) = false := by
    by_cases h1 : i + 1 < q
    · rw [decide_eq_false (show ¬ q < i + 2 by omega)]; simp
    · rw [decide_eq_false h1]; simp
  rw [e, Bool.or_false, List.range_succ, List.any_append, List.any_cons, List.any_nil, Bool.or_false, Bool.or_assoc]
theorem tab_skip (r : Rx) (W : List S) (i j : Nat) (h : starB r W i = false) : tabB r W i j = tabB r W (i + 1) (i + 2) := by
  funext q
  rw [tab_next, h]
  unfold tabB
  rw [h]
  simp
theorem tab_row (r : Rx) (W : List S) (i n q : Nat) (hq : q < n + 1) : tabB r W i (n + 1) q = tabB r W (i + 1) (i + 2) q := by
  rw [tab_next]
  unfold tabB
  rw [decide_eq_true hq, Bool.true_and]
theorem rowB_congr {n : Nat} {f g : Nat → Bool} (h : ∀ q, q < n → f q = g q) : rowB n f = rowB n g := by
  unfold rowB
  apply List.map_congr_left
  intro q hq
  rw [h q (List.mem_range.1 hq)]
theorem plus_star (r : Rx) (W : List S) (h : 0 < W.length) : (Rx.plus r).has W = (Rx.star r).has W := by
  rw [Bool.eq_iff_iff, Rx.has_lang, Rx.has_lang]
  constructor
  · rintro ⟨u, v, rfl, hu, hv⟩; exact Rx.Many.step hu hv
  · intro hm
    cases hm with
    | nil => simp at h
    | @step u v hu hv => exact ⟨u, v, rfl, hu, hv⟩
theorem plus_nil (r : Rx) : (Rx.plus r).has [] = r.has [] := by
  rw [Bool.eq_iff_iff, Rx.has_lang, Rx.has_lang]
  show Rx.cat _ _ _ ↔ _
  rw [Rx.cat_nil]
  exact ⟨fun h => h.1, fun h => ⟨h, Rx.Many.nil⟩⟩
theorem star_nil (r : Rx) : (Rx.star r).has [] = true := by
  rw [Rx.has_lang]; exact Rx.Many.nil
def manyB (once : Bool) (r : Rx) (W : List S) : Bool := if once then (Rx.plus r).has W else (Rx.star r).has W
set_option maxHeartbeats 16000000 in
theorem many_any (x : Pt) (IH : Hid (HasOk x)) (once : Bool) (v u y : Value) (L : List Stp) (w : World) (hP : PtAt w v u x) (hL : StepsAt w y L) (ho : ones L) (hl8 : L.length ≤ 8) :
    Calls Tryd.prog 37 #[pv x v u, y, .bool once] w fun e w' => e = .returned (.bool (manyB once (x.rx false) (wordOf L))) ∧ Below w.heap.size w w' := by
  obtain ⟨a0, n0, c0, a1, n1, c1, rfl, rfl⟩ := pv_open hP
  obtain ⟨w1, hw1⟩ : ∃ w1, w1 = w.alloc (.cells #[.int .i64 x.kind, str x.text, .slice a0 n0 c0, .slice a1 n1 c1] 25) := ⟨_, rfl⟩
  have hb1 : Below w.heap.size w w1 := by rw [hw1]; exact (Below.refl _ _).alloc (Nat.le_refl _) _
  have hX : Blk w1 w.heap.size [.int .i64 x.kind, str x.text, .slice a0 n0 c0, .slice a1 n1 c1] 25 := by rw [hw1]; exact Blk.new w _ _
  obtain ⟨x0, x1, x2, x3⟩ := blk4 hX
  have HB := hid hb1
  have HL := hid (hL.keep hb1)
  have HP := hid (hP.keep hb1)
  have HO := hid ho
  obtain ⟨ya, yc, rfl, y1, y2⟩ := hL.open
  obtain ⟨r, hr⟩ : ∃ r, r = x.rx false := ⟨_, rfl⟩
  obtain ⟨W, hW⟩ : ∃ W, W = wordOf L := ⟨_, rfl⟩
  have hWl : W.length = L.length := by rw [hW, word_len]
  obtain ⟨m, hm⟩ : ∃ m, m = L.length := ⟨_, rfl⟩
  rw [← hm] at y1 hl8 hWl ⊢
  have I0 := hid fun Wd (hb : Below w1.heap.size w1 Wd) => (show Calls Tryd.prog 24 #[pv x (.slice a0 n0 c0) (.slice a1 n1 c1), .slice ya m yc] Wd fun e w' => e = .returned (.bool (r.has W)) ∧ Below Wd.heap.size Wd w' from by
    have h := IH.out _ _ _ L Wd (HP.out.keep hb) (HL.out.keep hb) HO.out (by omega)
    rw [← hr, ← hW, ← hm] at h
    exact h)
  have I1 := hid fun i j (hij : i < j) (hj : j ≤ m) Wd (hb : Below w1.heap.size w1 Wd) => (show Calls Tryd.prog 24 #[pv x (.slice a0 n0 c0) (.slice a1 n1 c1), .slice (ya.map fun x => x.add (i * 5)) (j - i) (yc - i)] Wd fun e w' => e = .returned (.bool (r.has ((W.take j).drop i))) ∧ Below Wd.heap.size Wd w' from by
    have h := IH.out _ _ _ ((L.take j).drop i) Wd (HP.out.keep hb) ((hs_back (hs_front HL.out j (by omega)) i (by rw [List.length_take]; omega)).keep hb) (fun k hk => by rw [List.getElem_drop, List.getElem_take]; exact HO.out _ _) (by rw [List.length_drop, List.length_take]; omega)
    rw [← hr, show wordOf ((L.take j).drop i) = (W.take j).drop i by rw [hW]; unfold wordOf; rw [List.map_drop, List.map_take]] at h
    exact h)
  obtain ⟨ANS, hans⟩ : ∃ z, z = manyB once r W := ⟨_, rfl⟩
  have HANS := hid hans
  rw [← hr, ← hW, ← hans]
  have HWL := hid hWl
  unfold pv at I0 I1 ⊢
  obtain ⟨iB, hiB, hzB, hsB, hbB⟩ := info_two Tryd.infoBool1
  obtain ⟨N, hN⟩ : ∃ N : Nat, N = m + 1 := ⟨_, rfl⟩
  have hNz : (m : Int) + 1 = (N : Nat) := by omega
  have HNM := hid hN
  have mk1 : ∀ W : World, (Instr.makeSlice 38 (.int .i64 (N : Int)) (.int .i64 (N : Int))).run Tryd.prog W = .ok (.slice (some ⟨W.heap.size, 0, none⟩) N N) (W.alloc (.cells (madeCells #[.bool false] N) 4)) := fun W => by
    have h := run_make W 38 4 iB _ Tryd.underlying38 hiB hzB .i64 .i64 N N (by omega) (by omega) (by rw [hbB]; omega) (by omega)
    rw [hsB, show (Value.bool false).cells = #[.bool false] from rfl] at h
    simpa using h
  obtain ⟨w2, hw2⟩ : ∃ w2, w2 = w1.alloc (.cells (madeCells #[.bool false] N) 4) := ⟨_, rfl⟩
  have hb2 : Below w1.heap.size w1 w2 := by rw [hw2]; exact (Below.refl _ _).alloc (Nat.le_refl _) _
  have hX2 : Blk w2 w1.heap.size (rowB N (fun _ => false)) 4 := by rw [hw2]; exact Blk.new' rfl (madeB N)
  have k0 := hX2.cell (rowB_get (show 0 < N by omega))
  have k1 := hX2.free 0
  have hX3 := hX2.set 0 (.bool true)
  rw [rowB_set (by omega)] at hX3
  have HX3 := hid (show Blk (w2.setCell ⟨w1.heap.size, 0, none⟩ (.bool true)) w1.heap.size (rowB N (tabB r W 0 1)) 4 by rw [tab_start]; simpa using hX3)
  have HB3 := hid (hb2.setCell (p := ⟨w1.heap.size, 0, none⟩) (Nat.le_refl _) (.bool true))
  obtain ⟨ob, hob⟩ : ∃ b, b = w1.heap.size := ⟨_, rfl⟩
  have hob1 : w1.heap.size ≤ ob := by omega
  have hN9 : N ≤ 9 := by omega
  clear hb1 hX hP hL ho hr hW hWl hm IH hans hN hb2 hX2 hX3
  go_enter Tryd.func37, Tryd.ntmps37
  go_upto_region 1 with fail
  rw [← hw1]
  clear hw1
  go_upto_region 3 with fail
  rw [← hw2]
  clear hw2
  go_upto_region 4 with fail
  obtain ⟨w3, hw3⟩ : ∃ w3, w3 = w2.setCell ⟨w1.heap.size, 0, none⟩ (.bool true) := ⟨_, rfl⟩
  rw [← hw3] at HX3 HB3 ⊢
  rw [← hob] at HX3 ⊢
  clear hw3 hob k0 k1
  go_wp2
  go_loopw [9] (fun s9 wr => ∃ i : Nat, i ≤ m ∧ s9 = .int .i64 i ∧ Hid (Below w1.heap.size w1 wr) ∧ Hid (Blk wr ob (rowB N (tabB r W i (i + 1))) 4)) (fun s9 _ => m - (intOf s9).toNat)
  case atStart => exact ⟨0, by omega, rfl, HB3.out, HX3.out⟩
  case round =>
    clear HX3 HB3
    obtain ⟨i, hi, rfl, HBr, HA⟩ := hrel
    by_cases hlt : i < m
    case pos =>
      go_wp2
      go_loopw [10] (fun s10 wr => ∃ j : Nat, i < j ∧ j ≤ m + 1 ∧ s10 = .int .i64 j ∧ Hid (Below w1.heap.size w1 wr) ∧ Hid (Blk wr ob (rowB N (tabB r W i j)) 4)) (fun s10 _ => m + 1 - (intOf s10).toNat)
      case atStart => exact ⟨i + 1, by omega, by omega, by go_num, HBr.out, HA.out⟩
      case round =>
        clear HBr HA
        obtain ⟨j, hij, hj, rfl, HBr, HA⟩ := hrel
        by_cases hjm : j ≤ m
        case neg =>
          obtain rfl : j = m + 1 := by omega
          have HF := hid (show Blk wr ob (rowB N (tabB r W (i + 1) (i + 1 + 1))) 4 by rw [← rowB_congr (fun q hq => tab_row r W i m q (by rw [← HNM.out]; exact hq))]; exact HA.out)
          go_wp2
          go_roundw
          case rel => exact ⟨i + 1, by omega, by go_num, HBr.out, HF.out⟩
          case measure => simp [intOf]; omega
        have k0 := HA.out.cell (rowB_get (show i < N by omega))
        rw [tab_at r W i j (by rw [HWL.out]; omega)] at k0
        have HC := hid (show (starB r W i && r.has ((W.take j).drop i)) = (starB r W i && r.has ((W.take j).drop i)) from rfl)
        have HSK := hid (tab_skip r W i j)
        obtain ⟨si, hsi⟩ : ∃ z, z = starB r W i := ⟨_, rfl⟩
        rw [← hsi] at k0 HSK
        have HSI := hid hsi
        clear hsi
        cases si
        case false =>
          have HF := hid (show Blk wr ob (rowB N (tabB r W (i + 1) (i + 1 + 1))) 4 by rw [← HSK.out rfl]; exact HA.out)
          go_wp2
          go_roundw
          case rel => exact ⟨i + 1, by omega, by go_num, HBr.out, HF.out⟩
          case measure => simp [intOf]; omega
        obtain ⟨hz, hhz⟩ : ∃ z, z = r.has ((W.take j).drop i) := ⟨_, rfl⟩
        have C1 := hid fun p : Later wr.heap.size wr => I1.out i j hij hjm p.it (below_then HBr.out p.low)
        rw [← hhz] at C1
        have HC := hid (show (starB r W i && r.has ((W.take j).drop i)) = hz by rw [← HSI.out, ← hhz, Bool.true_and])
        have x0q := fun p : Later wr.heap.size wr => p.keep (below_keep HBr.out x0)
        have x1q := fun p : Later wr.heap.size wr => p.keep (below_keep HBr.out x1)
        have x2q := fun p : Later wr.heap.size wr => p.keep (below_keep HBr.out x2)
        have x3q := fun p : Later wr.heap.size wr => p.keep (below_keep HBr.out x3)
        have q1 : ¬ (yc = i) := by omega
        have q2 : ¬ (yc - i = 0) := by omega
        have q3 : ¬ (i = yc) := by omega
        have q4 : ¬ (yc ≤ i) := by omega
        have q5 : i ≤ j := by omega
        have q6 : j ≤ yc := by omega
        have q7 : i ≤ yc := by omega
        clear hhz
        go_upto_region 10 with fail
        refine wp_region_later wr.heap.size (by kernel_rfl) (by kernel_rfl) ?_
        repeat (go_big_quiet_step (first | (go_at_call 24; with_reducible exact Later.call (Nat.le_refl _) (C1.out _)) | fail))
        refine wpQuiet_nil ?_
        rintro wz ⟨p, hwz⟩
        have hbz : Below wr.heap.size wr wz := by rw [hwz]; exact p.low
        have HBz := hid (below_then HBr.out hbz)
        have HAz := hid (HA.out.keep hbz)
        clear hwz p hbz x0q x1q x2q x3q q1 q2 q3 q4
        cases hz
        case false =>
          go_wp2
          go_roundw
          case rel => exact ⟨j + 1, by omega, by omega, by go_num, HBz.out, hid (by rw [tab_no _ _ _ _ HC.out]; exact HAz.out)⟩
          case measure => simp [intOf]; omega
        have y0 := HAz.out.cell (rowB_get (show j < N by omega))
        have y1' := HAz.out.free j
        have hS := HAz.out.set j (.bool true)
        rw [rowB_set (show j < N by omega), ← tab_yes _ _ _ _ hij HC.out] at hS
        have HS1 := hid (show Blk (wz.setCell ⟨ob, j, none⟩ (.bool true)) ob (rowB N (tabB r W i (j + 1))) 4 by simpa using hS)
        have HB1 := hid (HBz.out.setCell (p := ⟨ob, j, none⟩) hob1 (.bool true))
        clear hS
        go_wp2
        go_roundw
        case rel => exact ⟨j + 1, by omega, by omega, by go_num, HB1.out, HS1.out⟩
        case measure => simp [intOf]; omega
    obtain rfl : i = m := by omega
    have k0 := HA.out.cell (rowB_get (show i < N by omega))
    rw [tab_at r W i (i + 1) (by rw [HWL.out]; exact Nat.le_refl _)] at k0
    have hst : starB r W i = (Rx.star r).has W := by unfold starB; rw [← HWL.out, List.take_length]
    rw [hst] at k0
    have x0r := below_keep HBr.out x0
    have x1r := below_keep HBr.out x1
    have x2r := below_keep HBr.out x2
    have x3r := below_keep HBr.out x3
    by_cases hi0 : i = 0
    · subst hi0
      have hW0 : W = [] := List.eq_nil_of_length_eq_zero HWL.out
      have CI := I0.out wr HBr.out
      have hA := HANS.out
      subst hW0
      rw [star_nil] at k0
      cases once
      case false =>
        have hF := hid (show ANS = true by rw [hA]; unfold manyB; rw [if_neg (by simp), star_nil])
        clear hA CI hst
        go_wp2
        go_ret
        exact ⟨by rw [hF.out]; rfl, HB.out.trans (HBr.out.mono HB.out.size)⟩
      case true =>
        have hF := hid (show r.has [] = ANS by rw [hA]; unfold manyB; rw [if_pos rfl, plus_nil])
        rw [hF.out] at CI
        have CI := hid CI
        clear hA hst
        go_wp2_with fail
        refine CI.out.mono ?_
        rintro e w5 ⟨rfl, hb5⟩
        go_wp2
        go_ret
        exact ⟨rfl, HB.out.trans ((below_then HBr.out hb5).mono HB.out.size)⟩
    · have hA : (Rx.star r).has W = ANS := by
        rw [HANS.out]; unfold manyB
        cases once
        · rw [if_neg (by simp)]
        · rw [if_pos rfl, plus_star r W (by rw [HWL.out]; omega)]
      rw [hA] at k0
      have e1 : decide ((0 : Int) < (i : Int)) = true := decide_eq_true (by omega)
      have e2 : decide (0 < i) = true := decide_eq_true (by omega)
      clear hA hst hi0
      cases ANS
      · go_wp2
        go_ret
        exact ⟨rfl, HB.out.trans (HBr.out.mono HB.out.size)⟩
      · go_wp2
        go_ret
        exact ⟨rfl, HB.out.trans (HBr.out.mono HB.out.size)⟩
set_option maxHeartbeats 4000000 in
theorem has_star' (x : Pt) (IH : Hid (HasOk x)) : HasOk (.mk 5 [] [] [x]) := by
  intro v u y L w hP hL ho hl8
  obtain ⟨b, off, cap, ka, kn, kc, la, ln, lc, rfl, q1, q2, r0, r1, r2, r3, hk⟩ := kid1 hP
  obtain ⟨a0, n0, c0, a1, n1, c1, rfl, hu1⟩ := pv_open hP
  clear hu1
  obtain ⟨w1, hw1⟩ : ∃ w1, w1 = w.alloc (.cells #[.int .i64 5, str [], .slice a0 n0 c0, .slice (some ⟨b, off, none⟩) 1 cap] 25) := ⟨_, rfl⟩
  have hb1 : Below w.heap.size w w1 := by rw [hw1]; exact (Below.refl _ _).alloc (Nat.le_refl _) _
  have hX : Blk w1 w.heap.size [.int .i64 5, str [], .slice a0 n0 c0, .slice (some ⟨b, off, none⟩) 1 cap] 25 := by rw [hw1]; exact Blk.new w _ _
  obtain ⟨x0, x1, x2, x3⟩ := blk4 hX
  have HB := hid hb1
  have HL := hid (hL.keep hb1)
  have HO := hid ho
  obtain ⟨ya, yc, rfl, y1, y2⟩ := hL.open
  have HK := hid (hk.keep hb1)
  have r0 := below_keep hb1 r0
  have r1 := below_keep hb1 r1
  have r2 := below_keep hb1 r2
  have r3 := below_keep hb1 r3
  have C1 := hid fun p : Later w1.heap.size w1 => many_any x IH false _ _ _ L p.it (HK.out.keep p.low) (HL.out.keep p.low) HO.out hl8
  have e : manyB false (x.rx false) (wordOf L) = ((Pt.mk 5 [] [] [x]).rx false).has (wordOf L) := by rw [rx_star']; rfl
  rw [e] at C1
  unfold pv at C1 ⊢
  simp only [Pt.kind, Pt.text]
  obtain ⟨z, hz⟩ : ∃ z, z = ((Pt.mk 5 [] [] [x]).rx false).has (wordOf L) := ⟨_, rfl⟩
  rw [← hz] at C1 ⊢
  obtain ⟨m, hm⟩ : ∃ m, m = L.length := ⟨_, rfl⟩
  rw [← hm] at C1 y1 hl8 ⊢
  have x0q := fun p : Later w1.heap.size w1 => p.keep x0
  have x3q := fun p : Later w1.heap.size w1 => p.keep x3
  have r0q := fun p : Later w1.heap.size w1 => p.keep r0
  have r1q := fun p : Later w1.heap.size w1 => p.keep r1
  have r2q := fun p : Later w1.heap.size w1 => p.keep r2
  have r3q := fun p : Later w1.heap.size w1 => p.keep r3
  clear hb1 hX hP hL ho hk e hz hm IH
  go_enter Tryd.func24, Tryd.ntmps24
  go_upto_region 1 with fail
  rw [← hw1]
  clear hw1
  go_upto_region 25 with fail
  refine wp_region_later w1.heap.size (by kernel_rfl) (by kernel_rfl) ?_
  repeat (go_big_quiet_step (first | (go_at_call 37; with_reducible exact Later.call (Nat.le_refl _) (C1.out _)) | fail))
  refine wpQuiet_nil ?_
  rintro w3 ⟨p, rfl⟩
  have hb3 := hid p.low
  clear x0q x3q r0q r1q r2q r3q
  go_wp2
  go_ret
  exact ⟨rfl, below_then HB.out hb3.out⟩
set_option maxHeartbeats 4000000 in
theorem has_plus' (x : Pt) (IH : Hid (HasOk x)) : HasOk (.mk 6 [] [] [x]) := by
  intro v u y L w hP hL ho hl8
  obtain ⟨b, off, cap, ka, kn, kc, la, ln, lc, rfl, q1, q2, r0, r1, r2, r3, hk⟩ := kid1 hP
  obtain ⟨a0, n0, c0, a1, n1, c1, rfl, hu1⟩ := pv_open hP
  clear hu1
  obtain ⟨w1, hw1⟩ : ∃ w1, w1 = w.alloc (.cells #[.int .i64 6, str [], .slice a0 n0 c0, .slice (some ⟨b, off, none⟩) 1 cap] 25) := ⟨_, rfl⟩
  have hb1 : Below w.heap.size w w1 := by rw [hw1]; exact (Below.refl _ _).alloc (Nat.le_refl _) _
  have hX : Blk w1 w.heap.size [.int .i64 6, str [], .slice a0 n0 c0, .slice (some ⟨b, off, none⟩) 1 cap] 25 := by rw [hw1]; exact Blk.new w _ _
  obtain ⟨x0, x1, x2, x3⟩ := blk4 hX
  have HB := hid hb1
  have HL := hid (hL.keep hb1)
  have HO := hid ho
  obtain ⟨ya, yc, rfl, y1, y2⟩ := hL.open
  have HK := hid (hk.keep hb1)
  have r0 := below_keep hb1 r0
  have r1 := below_keep hb1 r1
  have r2 := below_keep hb1 r2
  have r3 := below_keep hb1 r3
  have C1 := hid fun p : Later w1.heap.size w1 => many_any x IH true _ _ _ L p.it (HK.out.keep p.low) (HL.out.keep p.low) HO.out hl8
  have e : manyB true (x.rx false) (wordOf L) = ((Pt.mk 6 [] [] [x]).rx false).has (wordOf L) := by rw [rx_plus']; rfl
  rw [e] at C1
  unfold pv at C1 ⊢
  simp only [Pt.kind, Pt.text]
  obtain ⟨z, hz⟩ : ∃ z, z = ((Pt.mk 6 [] [] [x]).rx false).has (wordOf L) := ⟨_, rfl⟩
  rw [← hz] at C1 ⊢
  obtain ⟨m, hm⟩ : ∃ m, m = L.length := ⟨_, rfl⟩
  rw [← hm] at C1 y1 hl8 ⊢
  have x0q := fun p : Later w1.heap.size w1 => p.keep x0
  have x3q := fun p : Later w1.heap.size w1 => p.keep x3
  have r0q := fun p : Later w1.heap.size w1 => p.keep r0
  have r1q := fun p : Later w1.heap.size w1 => p.keep r1
  have r2q := fun p : Later w1.heap.size w1 => p.keep r2
  have r3q := fun p : Later w1.heap.size w1 => p.keep r3
  clear hb1 hX hP hL ho hk e hz hm IH
  go_enter Tryd.func24, Tryd.ntmps24
  go_upto_region 1 with fail
  rw [← hw1]
  clear hw1
  go_upto_region 25 with fail
  refine wp_region_later w1.heap.size (by kernel_rfl) (by kernel_rfl) ?_
  repeat (go_big_quiet_step (first | (go_at_call 37; with_reducible exact Later.call (Nat.le_refl _) (C1.out _)) | fail))
  refine wpQuiet_nil ?_
  rintro w3 ⟨p, rfl⟩
  have hb3 := hid p.low
  clear x0q x3q r0q r1q r2q r3q
  go_wp2
  go_ret
  exact ⟨rfl, below_then HB.out hb3.out⟩
theorem has_ok (x : Pt) : ∀ d, x.wf d = true → HasOk x := by
  induction x using Pt.ind with
  | h k t L K ih =>
    intro d h
    rw [wf_mk] at h
    simp only [Bool.and_eq_true, decide_eq_true_eq, Pt.wfs_all] at h
    obtain ⟨⟨⟨_, hk⟩, htx⟩, hkids⟩ := h
    have IH : ∀ y ∈ K, HasOk y := fun y hy => ih y hy _ (hkids y hy)
    clear ih hkids
    unfold Pt.kidsOf at hk
    unfold Pt.txt at htx
    have none : (K.length : Int) = 0 → K = [] := fun e => List.eq_nil_of_length_eq_zero (by omega)
    have one : (K.length : Int) = 1 → ∃ x, K = [x] := fun e => by
      match K, e with
      | [x], _ => exact ⟨x, rfl⟩
      | [], e => simp at e
      | _ :: _ :: r, e => simp at e; omega
    have two : (K.length : Int) = 2 → ∃ x y, K = [x, y] := fun e => by
      match K, e with
      | [x, y], _ => exact ⟨x, y, rfl⟩
      | [], e => simp at e
      | [_], e => simp at e
      | _ :: _ :: _ :: r, e => simp at e; omega
    by_cases h1 : k = 1
    · subst h1
      rw [if_pos rfl, Bool.and_eq_true, List.isEmpty_iff] at htx
      obtain rfl := none (by rw [hk]; rfl)
      obtain ⟨rfl, _⟩ := htx
      exact has_iri' t
    by_cases h8 : k = 8
    · subst h8
      rw [if_neg (by decide), if_pos rfl] at htx
      simp only [Bool.and_eq_true, List.isEmpty_iff, decide_eq_true_eq] at htx
      obtain rfl := none (by rw [hk]; rfl)
      obtain ⟨⟨⟨rfl, _⟩, h4⟩, _⟩ := htx
      exact has_not' L (by omega)
    rw [if_neg h1, if_neg h8, Bool.and_eq_true, List.isEmpty_iff, List.isEmpty_iff] at htx
    obtain ⟨rfl, rfl⟩ := htx
    rw [if_neg (by omega)] at hk
    by_cases h2 : k = 2 ∨ k = 5 ∨ k = 6 ∨ k = 7
    · rw [if_pos h2] at hk
      obtain ⟨x, rfl⟩ := one hk
      have IX := hid (IH x (by simp))
      rcases h2 with rfl | rfl | rfl | rfl
      · exact has_back' x IX
      · exact has_star' x IX
      · exact has_plus' x IX
      · exact has_maybe' x IX
    rw [if_neg h2] at hk
    by_cases h3 : k = 3 ∨ k = 4
    · rw [if_pos h3] at hk
      obtain ⟨x, y, rfl⟩ := two hk
      have IX := hid (IH x (by simp))
      have IY := hid (IH y (by simp))
      rcases h3 with rfl | rfl
      · exact has_seq' x y IX IY
      · exact has_alt' x y IX IY
    · rw [if_neg h3] at hk
      omega
end Go.Proofs.YtobcbaeoedpefaaDoor
