/- Is a query more than is looked at? -/
import Derived.Test.YtagmgkplfhlifaaDoorQyIs2
import Derived.Test.YtagmgkplfhlifaaDoorBig
namespace Go.Proofs.YtagmgkplfhlifaaDoor
set_option linter.unusedVariables false
set_option linter.unusedSimpArgs false
set_option maxRecDepth 100000
open Go.ChangeShapes Go.WideShapes Go.ChangeAt Go.RowKit
open Au
/-- What wide answers. -/
def WideR (o : Ending) (a b c : Nat) : Prop := ∃ r : Bool, o = .returned (.bool r) ∧ (r = false → a ≤ 20 ∧ b ≤ 20 ∧ c ≤ 20)
set_option maxHeartbeats 8000000 in
theorem wide_any (q : Qy) (vs sl fs : Value) (w : World) (hQ : QyAt w vs sl fs q) :
    Calls Tryd.prog 23 #[qyV q vs sl fs] w fun o w' => WideR o q.ps.length q.fs.length q.vars.length ∧ Below w.heap.size w w' := by
  obtain ⟨ask, V, ps, F, lim, off⟩ := q
  obtain ⟨hV, hP, hF, hl, ho⟩ := hQ
  simp only at hV hP hF hl ho
  have HVA := hid hV
  obtain ⟨va, vc, rfl, hva, hvb, _⟩ := hV.open
  obtain ⟨pa, pc, b, off0, f, g, rfl, h1, h2, h3, h4, h5, h6, h7⟩ := hP
  obtain ⟨fa, fc, fb, foff, rfl, hf1, hf2, hf3, hf4, hf5, hf6⟩ := hF
  have HROW := hid h5
  have HPT := hid h6
  have HOK := hid h7
  have HA := hid h4
  have HF4 := hid hf4
  have HF5 := hid hf5
  unfold qyV
  simp only
  obtain ⟨np, hnp⟩ : ∃ n, n = ps.length := ⟨_, rfl⟩
  obtain ⟨nf, hnf⟩ : ∃ n, n = F.length := ⟨_, rfl⟩
  obtain ⟨nv, hnv⟩ : ∃ n, n = V.length := ⟨_, rfl⟩
  have HNP := hid hnp
  have HNF := hid hnf
  have HNV := hid hnv
  rw [← hnp] at h1
  rw [← hnf] at hf1
  rw [← hnv] at hva
  rw [← hnp, ← hnf, ← hnv]
  clear hnp hnf hnv hV h4 h5 h6 h7 hf4 hf5 hf6
  obtain ⟨w1, hw1⟩ : ∃ w1, w1 = w.alloc (.cells #[.bool ask, .slice va nv vc, .slice pa np pc, .slice fa nf fc, .int .i64 lim, .int .i64 off] 40) := ⟨_, rfl⟩
  have HB1 := hid (show Below w.heap.size w w1 by rw [hw1]; exact (Below.refl _ _).alloc (Nat.le_refl _) _)
  have HX1 := hid (show Blk w1 w.heap.size [.bool ask, .slice va nv vc, .slice pa np pc, .slice fa nf fc, .int .i64 lim, .int .i64 off] 40 by rw [hw1]; exact Blk.new' rfl rfl)
  have early := hid (show ∀ (o : Ending) W, o = .returned (.bool true) → Below w.heap.size w W → WideR o np nf nv ∧ Below w.heap.size w W from fun o W h hb => ⟨⟨true, h, fun h => by cases h⟩, hb⟩)
  by_cases hc : ¬ (np ≤ 20 ∧ nf ≤ 20 ∧ nv ≤ 20)
  · have hc' : 20 < np ∨ (np ≤ 20 ∧ 20 < nf) ∨ (np ≤ 20 ∧ nf ≤ 20 ∧ 20 < nv) := by omega
    clear hc
    rcases hc' with k | ⟨k, k2⟩ | ⟨k, k2, k3⟩
    all_goals
      go_enter Tryd.func23, Tryd.ntmps23
      go_upto_region 1 with fail
      rw [← hw1]
      clear hw1
      have c1 := HX1.out.cell (i := 1) rfl
      have c2 := HX1.out.cell (i := 2) rfl
      have c3 := HX1.out.cell (i := 3) rfl
      go_wp2
      go_ret
      exact early.out _ _ rfl HB1.out
  obtain ⟨k1, k2, k3⟩ := Classical.not_not.1 hc
  clear hc
  have HK := hid (show np ≤ 20 ∧ nf ≤ 20 ∧ nv ≤ 20 from ⟨k1, k2, k3⟩)
  go_enter Tryd.func23, Tryd.ntmps23
  go_upto_region 1 with fail
  rw [← hw1]
  clear hw1
  have c1 := HX1.out.cell (i := 1) rfl
  have c2 := HX1.out.cell (i := 2) rfl
  have c3 := HX1.out.cell (i := 3) rfl
  go_upto_region 4 with fail
  clear c1 c2 c3
  go_loopg [3] np (fun gk s3 wr => ∃ i : Nat, s3 = .int .i64 i ∧ i ≤ np ∧ np - i ≤ gk ∧ Hid (Below w1.heap.size w1 wr))
  case atStart => exact ⟨0, rfl, Nat.zero_le _, Nat.le_refl _, Below.refl _ _⟩
  case round =>
    obtain ⟨i, rfl, hin, hg, HB⟩ := hrel
    have q2 := (HX1.out.keep HB.out).cell (i := 2) rfl
    by_cases hlt : i < np
    · have hltz : (i : Int) < (np : Int) := by omega
      have hiL : i < ps.length := by rw [← HNP.out]; exact hlt
      have ha := HA.out (by omega)
      subst ha
      have HBW := hid (below_then HB1.out HB.out)
      have HR := hid ((HROW.out i hiL).keep HBW.out)
      have hPT := HPT.out i hiL
      generalize ps[i] = x at HR hPT
      generalize f i = v at HR hPT
      generalize g i = u at HR hPT
      have HPX := hid hPT
      obtain ⟨_, _, hTX, _, ua, uc, _, _, _, _, rfl, _⟩ := hPT.open
      obtain ⟨va', vc', rfl, _⟩ := hTX.open
      generalize hK1 : x.p.kids.length = un at HR HPX
      generalize hK2 : x.p.texts.length = vn' at HR HPX
      obtain ⟨c0, c1, c2, c3, c4, c5, c6, c7, c8, c9, c10, c11⟩ := HR.out.open
      have E3 := hid (fun W (h : Below w.heap.size w W) => big_any x.p W _ _ 0 (HPX.out.keep h) (by decide))
      obtain ⟨b3, hb3⟩ : ∃ b3, b3 = bigP 0 x.p := ⟨_, rfl⟩
      rw [← hb3] at E3
      obtain ⟨⟨sv, sk, st, sx⟩, xp, ⟨ov, ok, ot, ox⟩⟩ := x
      unfold pv at E3
      simp only at c0 c1 c2 c3 c4 c5 c6 c7 c8 c9 c10 c11 E3
      clear HR hPT hTX hK1 hK2 hb3
      generalize xp.kind = xk at c4 E3
      generalize xp.text = xt at c5 E3
      clear HPX
      have HB4 := hid (show Below w1.heap.size w1 (wr.alloc (.cells #[str sv, .int .i64 sk, str st, str sx, .int .i64 xk, str xt, .slice va' vn' vc', .slice ua un uc, str ov, .int .i64 ok, str ot, str ox] 53)) from HB.out.alloc HB.out.size _)
      have HU4 := hid (show Blk (wr.alloc (.cells #[str sv, .int .i64 sk, str st, str sx, .int .i64 xk, str xt, .slice va' vn' vc', .slice ua un uc, str ov, .int .i64 ok, str ot, str ox] 53)) wr.heap.size [str sv, .int .i64 sk, str st, str sx, .int .i64 xk, str xt, .slice va' vn' vc', .slice ua un uc, str ov, .int .i64 ok, str ot, str ox] 53 from Blk.new' rfl rfl)
      obtain ⟨w4, hw4⟩ : ∃ w4, w4 = wr.alloc (.cells #[str sv, .int .i64 sk, str st, str sx, .int .i64 xk, str xt, .slice va' vn' vc', .slice ua un uc, str ov, .int .i64 ok, str ot, str ox] 53) := ⟨_, rfl⟩
      rw [← hw4] at HB4 HU4
      go_upto_region 7 with fail
      rw [← hw4]
      clear hw4 q2 c0 c1 c2 c3 c4 c5 c6 c7 c8 c9 c10 c11
      generalize wr.heap.size = wb at HU4 ⊢
      have HBW4 := hid (below_then HB1.out HB4.out)
      have k4 := HU4.out.cell (i := 4) rfl
      have k5 := HU4.out.cell (i := 5) rfl
      have k6 := HU4.out.cell (i := 6) rfl
      have k7 := HU4.out.cell (i := 7) rfl
      cases b3
      · go_upto_region 8 with (go_at_call 18; refine (E3.out _ HBW4.out).mono ?_; rintro e w5 ⟨rfl, hb⟩; have HB5 := hid (below_then HB4.out hb); have HU5 := hid (HU4.out.keep hb); clear hb; have m0 := HU5.out.cell (i := 0) rfl; have m2 := HU5.out.cell (i := 2) rfl; have m3 := HU5.out.cell (i := 3) rfl; have m8 := HU5.out.cell (i := 8) rfl; have m10 := HU5.out.cell (i := 10) rfl; have m11 := HU5.out.cell (i := 11) rfl)
        · go_wp2
          go_ret
          exact early.out _ _ rfl (below_then HB1.out HB5.out)
        · go_roundg (np - (i + 1))
          case measure => omega
          case rel => exact ⟨i + 1, by go_num, by omega, by omega, HB5.out⟩
      · go_wp2_with (go_at_call 18; refine (E3.out _ HBW4.out).mono ?_; rintro e w5 ⟨rfl, hb⟩; have HB5 := hid (below_then HB4.out hb); clear hb)
        go_ret
        exact early.out _ _ rfl (below_then HB1.out HB5.out)
    · obtain rfl : i = np := by omega
      have hltz : ¬ (i : Int) < (i : Int) := by omega
      clear hg hin
      go_upto_region 10 with fail
      have HBA := hid HB.out
      clear q2
      go_loopg [5] nf (fun gk s5 wq => ∃ k : Nat, s5 = .int .i64 k ∧ k ≤ nf ∧ nf - k ≤ gk ∧ Hid (Below w1.heap.size w1 wq))
      case atStart => exact ⟨0, rfl, Nat.zero_le _, Nat.le_refl _, HBA.out⟩
      case round =>
        obtain ⟨k, rfl, hkn, hgk, HBq⟩ := hrel
        have c3 := (HX1.out.keep HBq.out).cell (i := 3) rfl
        by_cases hlt2 : k < nf
        · have hkz : (k : Int) < (nf : Int) := by omega
          have hkF : k < F.length := by rw [← HNF.out]; exact hlt2
          have ha2 := HF4.out (by omega)
          subst ha2
          have HBW := hid (below_then HB1.out HBq.out)
          obtain ⟨d0, d1, d2⟩ := HF5.out k hkF
          have d0 := below_keep HBW.out d0
          have d1 := below_keep HBW.out d1
          clear d2
          generalize F[k] = x at d0 d1
          obtain ⟨fv, fop, nn⟩ := x
          simp only at d0 d1
          go_upto_region 12 with fail
          have c3q := fun p : Later wr.heap.size wr => p.keep c3
          have d0q := fun p : Later wr.heap.size wr => p.keep d0
          have d1q := fun p : Later wr.heap.size wr => p.keep d1
          refine wp_region_later wr.heap.size (by kernel_rfl) (by kernel_rfl) ?_
          repeat (go_big_quiet_step (fail))
          refine wpQuiet_nil ?_
          rintro wy ⟨p1, hwy⟩
          have HBy := hid (below_then HBq.out (show Below wr.heap.size wr wy by rw [hwy]; exact p1.low))
          clear hwy p1 c3q d0q d1q c3 d0 d1
          go_upto_region 13 with fail
          · go_wp2
            go_ret
            exact early.out _ _ rfl (below_then HB1.out HBy.out)
          · go_roundg (nf - (k + 1))
            case measure => omega
            case rel => exact ⟨k + 1, by go_num, by omega, by omega, HBy.out⟩
        · obtain rfl : k = nf := by omega
          have hkz : ¬ (k : Int) < (k : Int) := by omega
          clear hgk hkn
          go_upto_region 15 with fail
          have HBB := hid HBq.out
          clear c3
          go_loopg [6] nv (fun gk s6 wq => ∃ j : Nat, s6 = .int .i64 j ∧ j ≤ nv ∧ nv - j ≤ gk ∧ Hid (Below w1.heap.size w1 wq))
          case atStart => exact ⟨0, rfl, Nat.zero_le _, Nat.le_refl _, HBB.out⟩
          case round =>
            obtain ⟨j, rfl, hjn, hgj, HBj⟩ := hrel
            have c1 := (HX1.out.keep HBj.out).cell (i := 1) rfl
            have HBW := hid (below_then HB1.out HBj.out)
            by_cases hlt3 : j < nv
            · have hjz : (j : Int) < (nv : Int) := by omega
              have HRV := hid (show RowAt wr va nv fun i => str (V.getD i []) by
                obtain ⟨a', c', e, _, _, _, hr⟩ := (HVA.out.keep HBW.out).open
                simp only [Value.slice.injEq] at e
                obtain ⟨rfl, _, rfl⟩ := e
                rw [HNV.out]; exact hr)
              obtain ⟨b1, o1, rfl, hc1⟩ := HRV.out.get hlt3
              have d1 := hc1 j hlt3
              generalize V.getD j [] = x at d1
              clear hc1
              go_upto_region 18 with fail
              · go_wp2
                go_ret
                exact early.out _ _ rfl HBW.out
              · go_roundg (nv - (j + 1))
                case measure => omega
                case rel => exact ⟨j + 1, by go_num, by omega, by omega, HBj.out⟩
            · obtain rfl : j = nv := by omega
              have hjz : ¬ (j : Int) < (j : Int) := by omega
              go_wp2
              go_ret
              exact ⟨⟨false, rfl, fun _ => HK.out⟩, HBW.out⟩
end Go.Proofs.YtagmgkplfhlifaaDoor
