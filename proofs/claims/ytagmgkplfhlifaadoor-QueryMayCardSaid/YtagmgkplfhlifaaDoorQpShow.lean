/- query.Show: a path's text. -/
import Derived.Test.YtagmgkplfhlifaaDoorQPath
import Derived.Test.YtagmgkplfhlifaaDoorShelf
namespace Go.Proofs.YtagmgkplfhlifaaDoor
set_option linter.unusedVariables false
set_option linter.unusedSimpArgs false
set_option maxRecDepth 100000
open Go.ChangeShapes Go.WideShapes Go.ChangeAt Go.RowKit
open Au
namespace Au
def Qp.showOf (k : Int) (t : T) (L : List T) (S : List T) : T :=
  if k = 1 then 60 :: (t ++ [62]) else if k = 8 then [33, 40, 60] ++ Lib.join L [62, 124, 60] ++ [62, 41]
  else if k = 2 then 94 :: S.headD [] else if k = 3 then S.headD [] ++ [47] ++ S.getD 1 [] else if k = 4 then S.headD [] ++ [124] ++ S.getD 1 []
  else if k = 5 then S.headD [] ++ [42] else if k = 6 then S.headD [] ++ [43] else if k = 7 then S.headD [] ++ [63] else []
mutual
def Pt.show : Pt → T | .mk k t L K => Qp.showOf k t L (Pt.shows K)
def Pt.shows : List Pt → List T | [] => [] | x :: r => (if x.kind = 1 then x.show else 40 :: (x.show ++ [41])) :: Pt.shows r
end
def Pt.showKid (x : Pt) : T := if x.kind = 1 then x.show else 40 :: (x.show ++ [41])
theorem Pt.show_iri (t : T) : (Pt.mk 1 t [] []).show = 60 :: (t ++ [62]) := by rw [Pt.show]; rfl
theorem Pt.show_not (L : List T) : (Pt.mk 8 [] L []).show = [33, 40, 60] ++ Lib.join L [62, 124, 60] ++ [62, 41] := by rw [Pt.show]; rfl
theorem Pt.show_back (x : Pt) : (Pt.mk 2 [] [] [x]).show = 94 :: x.showKid := by rw [Pt.show, Pt.shows]; rfl
theorem Pt.show_seq (x y : Pt) : (Pt.mk 3 [] [] [x, y]).show = x.showKid ++ [47] ++ y.showKid := by rw [Pt.show, Pt.shows, Pt.shows]; rfl
theorem Pt.show_alt (x y : Pt) : (Pt.mk 4 [] [] [x, y]).show = x.showKid ++ [124] ++ y.showKid := by rw [Pt.show, Pt.shows, Pt.shows]; rfl
theorem Pt.show_star (x : Pt) : (Pt.mk 5 [] [] [x]).show = x.showKid ++ [42] := by rw [Pt.show, Pt.shows]; rfl
theorem Pt.show_plus (x : Pt) : (Pt.mk 6 [] [] [x]).show = x.showKid ++ [43] := by rw [Pt.show, Pt.shows]; rfl
theorem Pt.show_maybe (x : Pt) : (Pt.mk 7 [] [] [x]).show = x.showKid ++ [63] := by rw [Pt.show, Pt.shows]; rfl
end Au
theorem qba_append (a b : List UInt8) : (⟨a.toArray⟩ ++ ⟨b.toArray⟩ : ByteArray) = ⟨(a ++ b).toArray⟩ := by
  apply ByteArray.ext
  rw [ByteArray.data_append]
  simp
def ShowOk (x : Pt) : Prop := ∀ (v u : Value) (w : World), x.show.length ≤ 1000000000 → PtAt w v u x →
  Calls Tryd.prog 36 #[pv x v u] w fun e w' => e = .returned (str x.show) ∧ Below w.heap.size w w'
def ShowKidOk (x : Pt) : Prop := ∀ (v u : Value) (w : World), x.showKid.length ≤ 1000000000 → PtAt w v u x →
  Calls Tryd.prog 55 #[pv x v u] w fun e w' => e = .returned (str x.showKid) ∧ Below w.heap.size w w'
theorem sh_pv_open {W : World} {v u : Value} {x : Pt} (h : PtAt W v u x) : ∃ a n c a' n' c', v = .slice a n c ∧ u = .slice a' n' c' := by
  obtain ⟨_, _, hL, _, a', c', _, _, _, _, hg, _⟩ := h.open
  obtain ⟨a, c, hf, _⟩ := hL.open
  exact ⟨a, _, c, a', _, c', hf, hg⟩
theorem sh_kid1 {W : World} {v u : Value} {k : Int} {t : T} {L : List T} {x : Pt} (h : PtAt W v u (.mk k t L [x])) : ∃ b off cap ka kn kc la ln lc, u = .slice (some ⟨b, off, none⟩) 1 cap ∧ 1 ≤ cap ∧ cap ≤ maxLen ∧
    W.cell? ⟨b, off, none⟩ = some (.int .i64 x.kind) ∧ W.cell? ⟨b, off + 1, none⟩ = some (str x.text) ∧ W.cell? ⟨b, off + 2, none⟩ = some (.slice ka kn kc) ∧ W.cell? ⟨b, off + 3, none⟩ = some (.slice la ln lc) ∧ PtAt W (.slice ka kn kc) (.slice la ln lc) x := by
  obtain ⟨_, _, _, _, a, cap, b, off, f, g, rfl, h1, h2, h3, h4, hc, hK⟩ := h.open
  obtain rfl := h4 (by simp [Pt.kids])
  obtain ⟨r0, r1, r2, r3⟩ := hc 0 (by simp [Pt.kids])
  have hk := hK 0 (by simp [Pt.kids])
  simp only [Pt.kids, List.getElem_cons_zero, Nat.zero_mul, Nat.add_zero, List.length_cons, List.length_nil] at r0 r1 r2 r3 hk h1 ⊢
  obtain ⟨ka, kn, kc, la, ln, lc, e1, e2⟩ := sh_pv_open hk
  rw [e1] at r2 hk
  rw [e2] at r3 hk
  exact ⟨b, off, cap, ka, kn, kc, la, ln, lc, rfl, h1, h2, r0, r1, r2, r3, hk⟩
theorem sh_kid2 {W : World} {v u : Value} {k : Int} {t : T} {L : List T} {x y : Pt} (h : PtAt W v u (.mk k t L [x, y])) : ∃ b off cap ka kn kc la ln lc ka' kn' kc' la' ln' lc', u = .slice (some ⟨b, off, none⟩) 2 cap ∧ 2 ≤ cap ∧ cap ≤ maxLen ∧
    (W.cell? ⟨b, off, none⟩ = some (.int .i64 x.kind) ∧ W.cell? ⟨b, off + 1, none⟩ = some (str x.text) ∧ W.cell? ⟨b, off + 2, none⟩ = some (.slice ka kn kc) ∧ W.cell? ⟨b, off + 3, none⟩ = some (.slice la ln lc) ∧ PtAt W (.slice ka kn kc) (.slice la ln lc) x) ∧
    (W.cell? ⟨b, off + 4, none⟩ = some (.int .i64 y.kind) ∧ W.cell? ⟨b, off + 5, none⟩ = some (str y.text) ∧ W.cell? ⟨b, off + 6, none⟩ = some (.slice ka' kn' kc') ∧ W.cell? ⟨b, off + 7, none⟩ = some (.slice la' ln' lc') ∧ PtAt W (.slice ka' kn' kc') (.slice la' ln' lc') y) := by
  obtain ⟨_, _, _, _, a, cap, b, off, f, g, rfl, h1, h2, h3, h4, hc, hK⟩ := h.open
  obtain rfl := h4 (by simp [Pt.kids])
  obtain ⟨r0, r1, r2, r3⟩ := hc 0 (by simp [Pt.kids])
  have hk := hK 0 (by simp [Pt.kids])
  obtain ⟨s0, s1, s2, s3⟩ := hc 1 (by simp [Pt.kids])
  have hk' := hK 1 (by simp [Pt.kids])
  simp only [Pt.kids, List.getElem_cons_zero, List.getElem_cons_succ, Nat.zero_mul, Nat.one_mul, Nat.add_zero, List.length_cons, List.length_nil] at r0 r1 r2 r3 hk s0 s1 s2 s3 hk' h1 ⊢
  obtain ⟨ka, kn, kc, la, ln, lc, e1, e2⟩ := sh_pv_open hk
  rw [e1] at r2 hk
  rw [e2] at r3 hk
  obtain ⟨ka', kn', kc', la', ln', lc', e1, e2⟩ := sh_pv_open hk'
  rw [e1] at s2 hk'
  rw [e2] at s3 hk'
  exact ⟨b, off, cap, ka, kn, kc, la, ln, lc, ka', kn', kc', la', ln', lc', rfl, h1, h2, ⟨r0, r1, r2, r3, hk⟩, s0, s1, s2, s3, hk'⟩
set_option maxHeartbeats 2000000 in
theorem qshowkid_of (x : Pt) (hok : ShowOk x) : ShowKidOk x := by
  have HO := hid hok
  clear hok
  intro v u w hlen hP
  obtain ⟨w1, hw1, hz, HX, HP, HB⟩ := pt_box w x v u hP
  obtain ⟨c0, c1, c2, c3⟩ := blk4 HX.out
  have hsl : x.show.length ≤ 1000000000 := by unfold Pt.showKid at hlen; split at hlen; exact hlen; simp at hlen; omega
  have C := hid (HO.out v u w1 hsl HP.out)
  obtain ⟨s, hs⟩ : ∃ s, s = x.show := ⟨_, rfl⟩
  rw [← hs] at hsl
  clear hlen
  have HA := hid (show x.showKid = if x.kind = 1 then s else 40 :: (s ++ [41]) by rw [hs]; rfl)
  rw [← hs] at C
  obtain ⟨ANS, hA⟩ : ∃ z, z = x.showKid := ⟨_, rfl⟩
  rw [← hA] at HA ⊢
  unfold pv at C ⊢
  obtain ⟨k, t, L, K⟩ := x
  simp only [Pt.kind, Pt.text] at hw1 C HA c0 c1 c2 c3 ⊢
  clear hs hA HX hP HP
  by_cases h : k = 1
  · subst h
    have HA := hid (show ANS = s from HA.out)
    go_enter Tryd.func55, Tryd.ntmps55
    go_upto_region 1 with fail
    rw [← hw1]
    clear hw1
    go_wp2_with (go_at_call 36; refine C.out.mono ?_; rintro e w' ⟨rfl, hb⟩)
    go_ret
    exact ⟨by rw [HA.out]; rfl, below_then HB.out hb⟩
  · have b1 : (k == 1) = false := beq_eq_false_iff_ne.2 h
    have HA := hid (show ANS = 40 :: (s ++ [41]) from HA.out.trans (if_neg h))
    clear h
    go_enter Tryd.func55, Tryd.ntmps55
    go_upto_region 1 with fail
    rw [← hw1]
    clear hw1
    go_wp2_with (go_at_call 36; refine C.out.mono ?_; rintro e w' ⟨rfl, hb⟩)
    go_ret
    exact ⟨by rw [HA.out]; simp [qba_append], below_then HB.out hb⟩
set_option maxHeartbeats 2000000 in
theorem qshow_iri (t : T) : ShowOk (.mk 1 t [] []) := by
  intro v u w hlen hP
  obtain ⟨w1, hw1, hz, HX, HP, HB⟩ := pt_box w _ v u hP
  obtain ⟨c0, c1, c2, c3⟩ := blk4 HX.out
  rw [Pt.show_iri]
  have htl : t.length ≤ 1000000000 := by rw [Pt.show_iri] at hlen; simp at hlen; omega
  clear hlen
  unfold pv
  simp only [Pt.kind, Pt.text] at hw1 c0 c1 c2 c3 ⊢
  clear HX hP HP
  go_enter Tryd.func36, Tryd.ntmps36
  go_upto_region 1 with fail
  rw [← hw1]
  clear hw1
  go_wp2
  go_ret
  exact ⟨by simp [qba_append], HB.out⟩
set_option maxHeartbeats 2000000 in
theorem qshow_not (L : List T) (hne : 0 < L.length) (hle : L.length ≤ 1000) : ShowOk (.mk 8 [] L []) := by
  intro v u w hlen hP
  obtain ⟨w1, hw1, hz, HX, HP, HB⟩ := pt_box w _ v u hP
  obtain ⟨c0, c1, c2, c3⟩ := blk4 HX.out
  obtain ⟨_, _, hL, _⟩ := HP.out.open
  obtain ⟨ta, tc, rfl, q1, q2, q3, hr⟩ := hL.open
  simp only [Pt.kind, Pt.text, Pt.texts] at hw1 c0 c1 c2 c3 q1 q2 q3 hr
  obtain ⟨b, off, rfl, hc⟩ := hr.get (i := 0) hne
  rw [Pt.show_not] at hlen ⊢
  have hjl : (Lib.join L [62, 124, 60]).length ≤ 1000000000 := by simp at hlen; omega
  have hmap : ((L.map fun t => (⟨t.toArray⟩ : ByteArray)).map (·.data.toList)) = L := by rw [List.map_map]; exact (List.map_congr_left (fun a _ => by simp)).trans (List.map_id L)
  have JN := Tryd.strings_Join b off tc (L.map fun t => (⟨t.toArray⟩ : ByteArray)) ⟨#[62, 124, 60]⟩ w1 (fun j x hj => by
    rw [List.getElem?_map] at hj
    cases hg : L[j]? with
    | none => rw [hg] at hj; cases hj
    | some t =>
      rw [hg] at hj
      cases hj
      have hlt : j < L.length := (List.getElem?_eq_some_iff.1 hg).1
      have := hc j hlt
      rw [show L.getD j [] = t by simp [List.getD, hg]] at this
      exact this) (lt_of_cell (hc 0 hne)) (by rw [List.length_map]; omega) (by rw [List.length_map]; exact q1) (by rw [hmap]; exact Nat.le_trans hjl (by omega))
  rw [hmap, List.length_map] at JN
  have JN := hid JN
  obtain ⟨s, hs⟩ : ∃ s, s = Lib.join L [62, 124, 60] := ⟨_, rfl⟩
  rw [show (⟨#[62, 124, 60]⟩ : ByteArray).data.toList = [62, 124, 60] from rfl, ← hs] at JN
  rw [← hs] at hjl ⊢
  obtain ⟨n, hn⟩ : ∃ n, n = L.length := ⟨_, rfl⟩
  rw [← hn] at JN c2 hw1
  unfold pv
  simp only [Pt.kind, Pt.text, Pt.texts]
  rw [← hn]
  clear hle hlen hP HX HP hL hr hc hmap hs hn hne
  go_enter Tryd.func36, Tryd.ntmps36
  go_upto_region 1 with fail
  rw [← hw1]
  clear hw1
  go_wp2_with (go_at_call 54; refine JN.out.mono ?_; rintro e w' ⟨rfl, hb⟩)
  go_ret
  exact ⟨by simp [qba_append], below_then HB.out hb⟩
set_option maxHeartbeats 2000000 in
theorem qshow_back (x : Pt) (hk : ShowKidOk x) : ShowOk (.mk 2 [] [] [x]) := by
  have HK := hid hk
  clear hk
  intro v u w hlen hP
  obtain ⟨w1, hw1, hz, HX, HP, HB⟩ := pt_box w _ v u hP
  obtain ⟨c0, c1, c2, c3⟩ := blk4 HX.out
  obtain ⟨b, off, cap, ka, kn, kc, la, ln, lc, rfl, q1, q2, r0, r1, r2, r3, hx⟩ := sh_kid1 HP.out
  rw [Pt.show_back] at hlen ⊢
  have hsl : x.showKid.length ≤ 1000000000 := by simp at hlen; omega
  clear hlen
  have C := hid (HK.out _ _ w1 hsl hx)
  obtain ⟨s, hs⟩ : ∃ s, s = x.showKid := ⟨_, rfl⟩
  rw [← hs] at C hsl ⊢
  unfold pv at C ⊢
  simp only [Pt.kind, Pt.text] at hw1 c0 c1 c2 c3
  obtain ⟨xk, hxk⟩ : ∃ z, z = x.kind := ⟨_, rfl⟩
  obtain ⟨xt, hxt⟩ : ∃ z, z = x.text := ⟨_, rfl⟩
  rw [← hxk, ← hxt] at C
  rw [← hxk] at r0
  rw [← hxt] at r1
  simp only [Pt.kind, Pt.text]
  clear HX hP HP hx HK hs hxk hxt
  go_enter Tryd.func36, Tryd.ntmps36
  go_upto_region 1 with fail
  rw [← hw1]
  clear hw1
  go_wp2_with (go_at_call 55; refine C.out.mono ?_; rintro e w' ⟨rfl, hb⟩)
  go_ret
  exact ⟨by simp [qba_append], below_then HB.out hb⟩
set_option maxHeartbeats 2000000 in
theorem qshow_star (x : Pt) (hk : ShowKidOk x) : ShowOk (.mk 5 [] [] [x]) := by
  have HK := hid hk
  clear hk
  intro v u w hlen hP
  obtain ⟨w1, hw1, hz, HX, HP, HB⟩ := pt_box w _ v u hP
  obtain ⟨c0, c1, c2, c3⟩ := blk4 HX.out
  obtain ⟨b, off, cap, ka, kn, kc, la, ln, lc, rfl, q1, q2, r0, r1, r2, r3, hx⟩ := sh_kid1 HP.out
  rw [Pt.show_star] at hlen ⊢
  have hsl : x.showKid.length ≤ 1000000000 := by simp at hlen; omega
  clear hlen
  have C := hid (HK.out _ _ w1 hsl hx)
  obtain ⟨s, hs⟩ : ∃ s, s = x.showKid := ⟨_, rfl⟩
  rw [← hs] at C hsl ⊢
  unfold pv at C ⊢
  simp only [Pt.kind, Pt.text] at hw1 c0 c1 c2 c3
  obtain ⟨xk, hxk⟩ : ∃ z, z = x.kind := ⟨_, rfl⟩
  obtain ⟨xt, hxt⟩ : ∃ z, z = x.text := ⟨_, rfl⟩
  rw [← hxk, ← hxt] at C
  rw [← hxk] at r0
  rw [← hxt] at r1
  simp only [Pt.kind, Pt.text]
  clear HX hP HP hx HK hs hxk hxt
  go_enter Tryd.func36, Tryd.ntmps36
  go_upto_region 1 with fail
  rw [← hw1]
  clear hw1
  go_wp2_with (go_at_call 55; refine C.out.mono ?_; rintro e w' ⟨rfl, hb⟩)
  go_ret
  exact ⟨by simp [qba_append], below_then HB.out hb⟩
set_option maxHeartbeats 2000000 in
theorem qshow_plus (x : Pt) (hk : ShowKidOk x) : ShowOk (.mk 6 [] [] [x]) := by
  have HK := hid hk
  clear hk
  intro v u w hlen hP
  obtain ⟨w1, hw1, hz, HX, HP, HB⟩ := pt_box w _ v u hP
  obtain ⟨c0, c1, c2, c3⟩ := blk4 HX.out
  obtain ⟨b, off, cap, ka, kn, kc, la, ln, lc, rfl, q1, q2, r0, r1, r2, r3, hx⟩ := sh_kid1 HP.out
  rw [Pt.show_plus] at hlen ⊢
  have hsl : x.showKid.length ≤ 1000000000 := by simp at hlen; omega
  clear hlen
  have C := hid (HK.out _ _ w1 hsl hx)
  obtain ⟨s, hs⟩ : ∃ s, s = x.showKid := ⟨_, rfl⟩
  rw [← hs] at C hsl ⊢
  unfold pv at C ⊢
  simp only [Pt.kind, Pt.text] at hw1 c0 c1 c2 c3
  obtain ⟨xk, hxk⟩ : ∃ z, z = x.kind := ⟨_, rfl⟩
  obtain ⟨xt, hxt⟩ : ∃ z, z = x.text := ⟨_, rfl⟩
  rw [← hxk, ← hxt] at C
  rw [← hxk] at r0
  rw [← hxt] at r1
  simp only [Pt.kind, Pt.text]
  clear HX hP HP hx HK hs hxk hxt
  go_enter Tryd.func36, Tryd.ntmps36
  go_upto_region 1 with fail
  rw [← hw1]
  clear hw1
  go_wp2_with (go_at_call 55; refine C.out.mono ?_; rintro e w' ⟨rfl, hb⟩)
  go_ret
  exact ⟨by simp [qba_append], below_then HB.out hb⟩
set_option maxHeartbeats 2000000 in
theorem qshow_maybe (x : Pt) (hk : ShowKidOk x) : ShowOk (.mk 7 [] [] [x]) := by
  have HK := hid hk
  clear hk
  intro v u w hlen hP
  obtain ⟨w1, hw1, hz, HX, HP, HB⟩ := pt_box w _ v u hP
  obtain ⟨c0, c1, c2, c3⟩ := blk4 HX.out
  obtain ⟨b, off, cap, ka, kn, kc, la, ln, lc, rfl, q1, q2, r0, r1, r2, r3, hx⟩ := sh_kid1 HP.out
  rw [Pt.show_maybe] at hlen ⊢
  have hsl : x.showKid.length ≤ 1000000000 := by simp at hlen; omega
  clear hlen
  have C := hid (HK.out _ _ w1 hsl hx)
  obtain ⟨s, hs⟩ : ∃ s, s = x.showKid := ⟨_, rfl⟩
  rw [← hs] at C hsl ⊢
  unfold pv at C ⊢
  simp only [Pt.kind, Pt.text] at hw1 c0 c1 c2 c3
  obtain ⟨xk, hxk⟩ : ∃ z, z = x.kind := ⟨_, rfl⟩
  obtain ⟨xt, hxt⟩ : ∃ z, z = x.text := ⟨_, rfl⟩
  rw [← hxk, ← hxt] at C
  rw [← hxk] at r0
  rw [← hxt] at r1
  simp only [Pt.kind, Pt.text]
  clear HX hP HP hx HK hs hxk hxt
  go_enter Tryd.func36, Tryd.ntmps36
  go_upto_region 1 with fail
  rw [← hw1]
  clear hw1
  go_wp2_with (go_at_call 55; refine C.out.mono ?_; rintro e w' ⟨rfl, hb⟩)
  go_ret
  exact ⟨by simp [qba_append], below_then HB.out hb⟩
set_option maxHeartbeats 2000000 in
theorem qshow_seq (x y : Pt) (hk : ShowKidOk x) (hk2 : ShowKidOk y) : ShowOk (.mk 3 [] [] [x, y]) := by
  have HK := hid hk
  have HK2 := hid hk2
  clear hk hk2
  intro v u w hlen hP
  obtain ⟨w1, hw1, hz, HX, HP, HB⟩ := pt_box w _ v u hP
  obtain ⟨c0, c1, c2, c3⟩ := blk4 HX.out
  obtain ⟨b, off, cap, ka, kn, kc, la, ln, lc, ka', kn', kc', la', ln', lc', rfl, q1, q2, ⟨r0, r1, r2, r3, hx⟩, s0, s1, s2, s3, hx'⟩ := sh_kid2 HP.out
  rw [Pt.show_seq] at hlen ⊢
  have hsl : x.showKid.length ≤ 1000000000 := by simp at hlen; omega
  have hsl2 : y.showKid.length ≤ 1000000000 := by simp at hlen; omega
  have hsl3 : x.showKid.length + 1 + y.showKid.length ≤ 1000000000 := by simp at hlen; omega
  clear hlen
  have C := hid fun p : Later w1.heap.size w1 => HK.out _ _ p.it hsl (hx.keep p.low)
  have C2 := hid fun p : Later w1.heap.size w1 => HK2.out _ _ p.it hsl2 (hx'.keep p.low)
  obtain ⟨s, hs⟩ : ∃ s, s = x.showKid := ⟨_, rfl⟩
  obtain ⟨s', hs'⟩ : ∃ s, s = y.showKid := ⟨_, rfl⟩
  rw [← hs] at C hsl hsl3
  rw [← hs'] at C2 hsl2 hsl3
  rw [← hs, ← hs']
  unfold pv at C C2 ⊢
  simp only [Pt.kind, Pt.text] at hw1 c0 c1 c2 c3
  obtain ⟨xk, hxk⟩ : ∃ z, z = x.kind := ⟨_, rfl⟩
  obtain ⟨xt, hxt⟩ : ∃ z, z = x.text := ⟨_, rfl⟩
  obtain ⟨yk, hyk⟩ : ∃ z, z = y.kind := ⟨_, rfl⟩
  obtain ⟨yt, hyt⟩ : ∃ z, z = y.text := ⟨_, rfl⟩
  rw [← hxk, ← hxt] at C
  rw [← hyk, ← hyt] at C2
  rw [← hxk] at r0
  rw [← hxt] at r1
  rw [← hyk] at s0
  rw [← hyt] at s1
  simp only [Pt.kind, Pt.text]
  clear HX hP HP hx hx' HK HK2 hs hs' hxk hxt hyk hyt
  have c3q := fun p : Later w1.heap.size w1 => p.keep c3
  have r0q := fun p : Later w1.heap.size w1 => p.keep r0
  have r1q := fun p : Later w1.heap.size w1 => p.keep r1
  have r2q := fun p : Later w1.heap.size w1 => p.keep r2
  have r3q := fun p : Later w1.heap.size w1 => p.keep r3
  have s0q := fun p : Later w1.heap.size w1 => p.keep s0
  have s1q := fun p : Later w1.heap.size w1 => p.keep s1
  have s2q := fun p : Later w1.heap.size w1 => p.keep s2
  have s3q := fun p : Later w1.heap.size w1 => p.keep s3
  go_enter Tryd.func36, Tryd.ntmps36
  go_upto_region 1 with fail
  rw [← hw1]
  clear hw1
  go_upto_region 9 with fail
  refine wp_region_later w1.heap.size (by kernel_rfl) (by kernel_rfl) ?_
  repeat (go_big_quiet_step (first | (go_at_call 55; with_reducible exact Later.call (Nat.le_refl _) (C.out _)) | (go_at_call 55; with_reducible exact Later.call (Nat.le_refl _) (C2.out _)) | fail))
  refine wpQuiet_nil ?_
  rintro w3 ⟨p, rfl⟩
  have hb3 := hid p.low
  clear c3q r0q r1q r2q r3q s0q s1q s2q s3q C C2
  go_wp2
  go_ret
  exact ⟨by simp [qba_append], below_then HB.out hb3.out⟩
set_option maxHeartbeats 2000000 in
theorem qshow_alt (x y : Pt) (hk : ShowKidOk x) (hk2 : ShowKidOk y) : ShowOk (.mk 4 [] [] [x, y]) := by
  have HK := hid hk
  have HK2 := hid hk2
  clear hk hk2
  intro v u w hlen hP
  obtain ⟨w1, hw1, hz, HX, HP, HB⟩ := pt_box w _ v u hP
  obtain ⟨c0, c1, c2, c3⟩ := blk4 HX.out
  obtain ⟨b, off, cap, ka, kn, kc, la, ln, lc, ka', kn', kc', la', ln', lc', rfl, q1, q2, ⟨r0, r1, r2, r3, hx⟩, s0, s1, s2, s3, hx'⟩ := sh_kid2 HP.out
  rw [Pt.show_alt] at hlen ⊢
  have hsl : x.showKid.length ≤ 1000000000 := by simp at hlen; omega
  have hsl2 : y.showKid.length ≤ 1000000000 := by simp at hlen; omega
  have hsl3 : x.showKid.length + 1 + y.showKid.length ≤ 1000000000 := by simp at hlen; omega
  clear hlen
  have C := hid fun p : Later w1.heap.size w1 => HK.out _ _ p.it hsl (hx.keep p.low)
  have C2 := hid fun p : Later w1.heap.size w1 => HK2.out _ _ p.it hsl2 (hx'.keep p.low)
  obtain ⟨s, hs⟩ : ∃ s, s = x.showKid := ⟨_, rfl⟩
  obtain ⟨s', hs'⟩ : ∃ s, s = y.showKid := ⟨_, rfl⟩
  rw [← hs] at C hsl hsl3
  rw [← hs'] at C2 hsl2 hsl3
  rw [← hs, ← hs']
  unfold pv at C C2 ⊢
  simp only [Pt.kind, Pt.text] at hw1 c0 c1 c2 c3
  obtain ⟨xk, hxk⟩ : ∃ z, z = x.kind := ⟨_, rfl⟩
  obtain ⟨xt, hxt⟩ : ∃ z, z = x.text := ⟨_, rfl⟩
  obtain ⟨yk, hyk⟩ : ∃ z, z = y.kind := ⟨_, rfl⟩
  obtain ⟨yt, hyt⟩ : ∃ z, z = y.text := ⟨_, rfl⟩
  rw [← hxk, ← hxt] at C
  rw [← hyk, ← hyt] at C2
  rw [← hxk] at r0
  rw [← hxt] at r1
  rw [← hyk] at s0
  rw [← hyt] at s1
  simp only [Pt.kind, Pt.text]
  clear HX hP HP hx hx' HK HK2 hs hs' hxk hxt hyk hyt
  have c3q := fun p : Later w1.heap.size w1 => p.keep c3
  have r0q := fun p : Later w1.heap.size w1 => p.keep r0
  have r1q := fun p : Later w1.heap.size w1 => p.keep r1
  have r2q := fun p : Later w1.heap.size w1 => p.keep r2
  have r3q := fun p : Later w1.heap.size w1 => p.keep r3
  have s0q := fun p : Later w1.heap.size w1 => p.keep s0
  have s1q := fun p : Later w1.heap.size w1 => p.keep s1
  have s2q := fun p : Later w1.heap.size w1 => p.keep s2
  have s3q := fun p : Later w1.heap.size w1 => p.keep s3
  go_enter Tryd.func36, Tryd.ntmps36
  go_upto_region 1 with fail
  rw [← hw1]
  clear hw1
  go_upto_region 11 with fail
  refine wp_region_later w1.heap.size (by kernel_rfl) (by kernel_rfl) ?_
  repeat (go_big_quiet_step (first | (go_at_call 55; with_reducible exact Later.call (Nat.le_refl _) (C.out _)) | (go_at_call 55; with_reducible exact Later.call (Nat.le_refl _) (C2.out _)) | fail))
  refine wpQuiet_nil ?_
  rintro w3 ⟨p, rfl⟩
  have hb3 := hid p.low
  clear c3q r0q r1q r2q r3q s0q s1q s2q s3q C C2
  go_wp2
  go_ret
  exact ⟨by simp [qba_append], below_then HB.out hb3.out⟩
end Go.Proofs.YtagmgkplfhlifaaDoor
