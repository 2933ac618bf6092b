/- query.Show, and what the laws of chapter 12 know. -/
import Derived.Test.YtagmgkplfhlifaaDoorQpShow
import Derived.Test.YtagmgkplfhlifaaDoorQpWhole
namespace Go.Proofs.YtagmgkplfhlifaaDoor
set_option linter.unusedVariables false
set_option linter.unusedSimpArgs false
set_option maxRecDepth 100000
open Go.ChangeShapes Go.WideShapes Go.ChangeAt Go.RowKit
open Au
set_option maxHeartbeats 2000000 in
theorem qshowf_any (x : Pt) (hok : ShowOk x) (hm : x.may = true) (hl : x.show.length ≤ 1000000000) (v u : Value) (w : World) (hP : PtAt w v u x) (hT : T8 w) :
    Calls Tryd.prog 21 #[pv x v u] w fun e w' => e = .returned (str x.show) ∧ Below w.heap.size w w' := by
  obtain ⟨w1, hw1, hz, HX, HP, HB⟩ := pt_box w x v u hP
  obtain ⟨c0, c1, c2, c3⟩ := blk4 HX.out
  have CI := hid (ispath_any x v u w1 HP.out (hT.keep HB.out))
  rw [hm] at CI
  have CS := hid fun W (hb : Below w1.heap.size w1 W) => hok v u W hl (HP.out.keep hb)
  obtain ⟨s, hs⟩ : ∃ s, s = x.show := ⟨_, rfl⟩
  rw [← hs] at CS ⊢
  unfold pv at CI CS ⊢
  obtain ⟨k, hk⟩ : ∃ z, z = x.kind := ⟨_, rfl⟩
  obtain ⟨t, ht⟩ : ∃ z, z = x.text := ⟨_, rfl⟩
  rw [← hk, ← ht] at CI CS hw1 ⊢
  rw [← hk] at c0
  rw [← ht] at c1
  clear hs hok hm hl hk ht HX hP HP hT
  go_enter Tryd.func21, Tryd.ntmps21
  go_upto_region 1 with fail
  rw [← hw1]
  clear hw1
  go_upto_region 3 with (go_at_call 19; refine CI.out.mono ?_; rintro e w2 ⟨rfl, hb⟩)
  have HB2 := hid hb
  have d0 := below_keep hb c0
  have d1 := below_keep hb c1
  have d2 := below_keep hb c2
  have d3 := below_keep hb c3
  clear c0 c1 c2 c3 hb
  go_wp2_with (go_at_call 36; refine (CS.out _ HB2.out).mono ?_; rintro e w3 ⟨rfl, hb3⟩)
  go_ret
  exact ⟨rfl, HB.out.trans ((HB2.out.trans (hb3.mono HB2.out.size)).mono HB.out.size)⟩
theorem kq_may : Qp.kq.may = true := by kernel_rfl
theorem kq_show : Qp.kq.show = [40, 60, 97, 62, 47, 60, 98, 62, 41, 124, 40, 60, 99, 62, 42, 41] := by kernel_rfl
theorem kq_ok : ShowOk Qp.kq :=
  qshow_alt _ _ (qshowkid_of _ (qshow_seq _ _ (qshowkid_of _ (qshow_iri _)) (qshowkid_of _ (qshow_iri _)))) (qshowkid_of _ (qshow_star _ (qshowkid_of _ (qshow_iri _))))
set_option maxHeartbeats 2000000 in
theorem qknown_any (w : World) (hV : QVars w) : Calls Tryd.prog 17 #[] w fun e w' => e = .returned (.bool true) ∧ Below w.heap.size w w' := by
  have HV := hid hV
  have PF := hid (show Calls Tryd.prog 13 #[str [60, 97, 62, 47, 60, 98, 62, 124, 60, 99, 62, 42]] w fun e w' => ∃ (a : Option Addr) (n c : Nat) (a' : Option Addr) (n' c' : Nat), Hid (PtAt w' (.slice a n c) (.slice a' n' c') Qp.kq) ∧ e = .returned (.tuple #[.agg #[.int .i64 4, str [], .slice a n c, .slice a' n' c'], .int .i64 12, .int .i64 0]) ∧ Hid (Below w.heap.size w w') from by
    refine (qpathf_any _ w (by decide) hV).mono ?_
    rintro e w' ⟨hb, h⟩
    rw [Qp.whole_known] at h
    rcases h with ⟨h, _⟩ | ⟨_, x, a, a', n, c, n', c', j, hx, hP, he⟩ | ⟨_, no, j, _, _, hx, _⟩
    · exact absurd h (by decide)
    · injection hx with hx1 hx2
      subst hx1
      exact ⟨a, n, c, a', n', c', hP.1, he, hb⟩
    · injection hx)
  clear hV
  go_enter Tryd.func17, Tryd.ntmps17
  go_upto_region 2 with (go_at_call 13; refine PF.out.mono ?_; rintro e w5 ⟨a, n, c, a', n', c', HP, rfl, HB⟩)
  clear PF
  obtain ⟨w6, hw6, hz, HX, HP6, HB6⟩ := pt_box w5 Qp.kq _ _ HP.out
  have hb6 := HB6.out
  obtain ⟨c0, c1, c2, c3⟩ := blk4 HX.out
  have HT := hid (((HV.out.keep HB.out).keep HB6.out).1)
  have CI := hid fun W (hb : Below w6.heap.size w6 W) => ispath_any Qp.kq _ _ W (HP6.out.keep hb) (HT.out.keep hb)
  have CS := hid fun W (hb : Below w6.heap.size w6 W) => qshowf_any Qp.kq kq_ok kq_may (by rw [kq_show]; decide) _ _ W (HP6.out.keep hb) (HT.out.keep hb)
  rw [kq_show] at CS
  rw [kq_may] at CI
  unfold pv at CS CI
  simp only [Qp.kq, Pt.kind, Pt.text] at hw6 c0 c1 c2 c3 CS CI
  rw [← hw6]
  have HBB := hid (show Below w.heap.size w w6 from HB.out.trans (HB6.out.mono HB.out.size))
  have HR := hid (Below.refl w6.heap.size w6)
  clear hw6 HX HP HP6 hb6
  go_wp2_with (first
    | (go_at_call 21; refine (CS.out _ HR.out).mono ?_; rintro e w7 ⟨rfl, hb7⟩; have HB7 := hid hb7; have d0 := below_keep hb7 c0; have d1 := below_keep hb7 c1; have d2 := below_keep hb7 c2; have d3 := below_keep hb7 c3; clear hb7)
    | (go_at_call 19; refine (CI.out _ HB7.out).mono ?_; rintro e w8 ⟨rfl, hb8⟩))
  go_ret
  exact ⟨rfl, HBB.out.trans ((HB7.out.trans (hb8.mono HB7.out.size)).mono HBB.out.size)⟩
end Go.Proofs.YtagmgkplfhlifaaDoor
