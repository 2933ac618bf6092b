/- ref12's Is, whole. -/
import Derived.Test.YtagmgkplfhlifaaDoorQyRIs
import Derived.Test.YtagmgkplfhlifaaDoorQyRVars
namespace Go.Proofs.YtagmgkplfhlifaaDoor
set_option linter.unusedVariables false
set_option linter.unusedSimpArgs false
set_option maxRecDepth 100000
open Go.ChangeShapes Go.WideShapes Go.ChangeAt Go.RowKit
open Au
set_option maxHeartbeats 8000000 in
theorem rqis_any (I : Int → T → T → Bool) (q : Qy) (vs sl fs : Value) (w : World) (hQ : QyAt w vs sl fs q) (hT : T8 w) (hI : ∀ p ∈ q.ps, JOk I w p.s ∧ JOk I w p.o) (hv : q.vars.length ≤ 140737488351232) :
    Calls Tryd.prog 27 #[qyV q vs sl fs] w fun o w' => o = .returned (.bool (q.is I)) ∧ Below w.heap.size w w' := by
  obtain ⟨ask, V, ps, F, lim, off⟩ := q
  obtain ⟨hV, hP, hF, hl, ho⟩ := hQ
  simp only at hV hP hF hl ho hI hv
  have HVA := hid hV
  have HPA := hid hP
  have HFA := hid hF
  have HI := hid hI
  have HT := hid hT
  obtain ⟨va, vc, rfl, hva, hvb, _⟩ := hV.open
  obtain ⟨pa, pc, b, off0, f, g, rfl, h1, h2, h3, h4, h5, h6, h7⟩ := hP
  obtain ⟨fa, fc, fb, foff, rfl, hf1, hf2, hf3, hf4, hf5, hf6⟩ := hF
  have HROW := hid h5
  have HPT := hid h6
  have HOK := hid h7
  have HA := hid h4
  have HF4 := hid hf4
  have HF5 := hid hf5
  have HF6 := hid hf6
  unfold qyV
  simp only
  obtain ⟨np, hnp⟩ : ∃ n, n = ps.length := ⟨_, rfl⟩
  obtain ⟨nf, hnf⟩ : ∃ n, n = F.length := ⟨_, rfl⟩
  obtain ⟨nv, hnv⟩ : ∃ n, n = V.length := ⟨_, rfl⟩
  have HNP := hid hnp
  have HNF := hid hnf
  have HNV := hid hnv
  obtain ⟨R, hR⟩ : ∃ R, R = Qy.is I ⟨ask, V, ps, F, lim, off⟩ := ⟨_, rfl⟩
  rw [← hR]
  have HRE := hid (show R = ((decide (1 ≤ np) && decide (np ≤ 4) && decide (nf ≤ 3)) && ps.all (Pa.is I) && (decide ((varsOf ps).length ≤ 6) && fisOk (varsOf ps) F && (!(ask && decide (0 < nv)) && askd (varsOf ps) V nv) && limOk lim off)) by
    rw [hR, hnp, hnf, hnv]; rfl)
  rw [← hnp] at h1
  rw [← hnf] at hf1
  rw [← hnv] at hv hva
  rw [← hnp, ← hnf, ← hnv]
  clear hnp hnf hnv hR
  obtain ⟨w1, hw1⟩ : ∃ w1, w1 = w.alloc (.cells #[.bool ask, .slice va nv vc, .slice pa np pc, .slice fa nf fc, .int .i64 lim, .int .i64 off] 40) := ⟨_, rfl⟩
  have HB1 := hid (show Below w.heap.size w w1 by rw [hw1]; exact (Below.refl _ _).alloc (Nat.le_refl _) _)
  have HX1 := hid (show Blk w1 w.heap.size [.bool ask, .slice va nv vc, .slice pa np pc, .slice fa nf fc, .int .i64 lim, .int .i64 off] 40 by rw [hw1]; exact Blk.new' rfl rfl)
  have HLD := hid (show limOk lim off = (decide (-1 ≤ lim) && decide (lim ≤ 1000) && decide (0 ≤ off) && decide (off ≤ 1000)) from rfl)
  by_cases hc : ¬ (1 ≤ np ∧ np ≤ 4 ∧ nf ≤ 3 ∧ -1 ≤ lim ∧ lim ≤ 1000 ∧ 0 ≤ off ∧ off ≤ 1000 ∧ ¬ (ask = true ∧ 0 < nv))
  · have HF := hid (show R = false by
      rw [HRE.out, HLD.out, Bool.eq_false_iff]
      intro h
      apply hc
      simp only [Bool.and_eq_true, decide_eq_true_eq, Bool.not_eq_true', Bool.and_eq_false_iff, decide_eq_false_iff_not] at h
      obtain ⟨⟨⟨⟨h1, h2⟩, h3⟩, _⟩, ⟨_, ⟨h4, _⟩⟩, ⟨⟨h5, h6⟩, h7⟩, h8⟩ := h
      refine ⟨h1, h2, h3, h5, h6, h7, h8, fun h9 => ?_⟩
      rcases h4 with h4 | h4
      · rw [h4] at h9; cases h9.1
      · exact h4 h9.2)
    have hc' : np < 1 ∨ (1 ≤ np ∧ 4 < np) ∨ (1 ≤ np ∧ np ≤ 4 ∧ 3 < nf) ∨ (1 ≤ np ∧ np ≤ 4 ∧ nf ≤ 3 ∧ lim < -1) ∨ (1 ≤ np ∧ np ≤ 4 ∧ nf ≤ 3 ∧ -1 ≤ lim ∧ 1000 < lim) ∨ (1 ≤ np ∧ np ≤ 4 ∧ nf ≤ 3 ∧ -1 ≤ lim ∧ lim ≤ 1000 ∧ off < 0) ∨ (1 ≤ np ∧ np ≤ 4 ∧ nf ≤ 3 ∧ -1 ≤ lim ∧ lim ≤ 1000 ∧ 0 ≤ off ∧ 1000 < off) ∨ (1 ≤ np ∧ np ≤ 4 ∧ nf ≤ 3 ∧ -1 ≤ lim ∧ lim ≤ 1000 ∧ 0 ≤ off ∧ off ≤ 1000 ∧ (ask = true ∧ 0 < nv)) := by
      by_cases ha : ask = true ∧ 0 < nv
      · by_cases 1 ≤ np <;> by_cases np ≤ 4 <;> by_cases nf ≤ 3 <;> by_cases -1 ≤ lim <;> by_cases lim ≤ 1000 <;> by_cases 0 ≤ off <;> by_cases off ≤ 1000 <;> first | (exact .inr (.inr (.inr (.inr (.inr (.inr (.inr ⟨by assumption, by assumption, by assumption, by assumption, by assumption, by assumption, by assumption, ha⟩)))))))  | omega
      · have : ¬ (1 ≤ np ∧ np ≤ 4 ∧ nf ≤ 3 ∧ -1 ≤ lim ∧ lim ≤ 1000 ∧ 0 ≤ off ∧ off ≤ 1000) := fun h => hc ⟨h.1, h.2.1, h.2.2.1, h.2.2.2.1, h.2.2.2.2.1, h.2.2.2.2.2.1, h.2.2.2.2.2.2, ha⟩
        omega
    clear hc h4 h5 h6 h7 hV hI hT hf4 hf5 hf6
    rcases hc' with k | ⟨k, k2⟩ | ⟨k, k2, k3⟩ | ⟨k, k2, k3, k4⟩ | ⟨k, k2, k3, k4, k5⟩ | ⟨k, k2, k3, k4, k5, k6⟩ | ⟨k, k2, k3, k4, k5, k6, k7⟩ | ⟨k, k2, k3, k4, k5, k6, k7, rfl, k8⟩
    all_goals
      go_enter Tryd.func27, Tryd.ntmps27
      go_upto_region 1 with fail
      rw [← hw1]
      clear hw1
      have c0 := HX1.out.cell (i := 0) rfl
      have c1 := HX1.out.cell (i := 1) rfl
      have c2 := HX1.out.cell (i := 2) rfl
      have c3 := HX1.out.cell (i := 3) rfl
      have c4 := HX1.out.cell (i := 4) rfl
      have c5 := HX1.out.cell (i := 5) rfl
      go_wp2
      go_ret
      exact ⟨by rw [HF.out]; rfl, HB1.out⟩
  obtain ⟨k1, k2, k3, l1, l2, l3, l4, hak⟩ := Classical.not_not.1 hc
  clear hc
  have HHD := hid (show R = (ps.all (Pa.is I) && (decide ((varsOf ps).length ≤ 6) && fisOk (varsOf ps) F && askd (varsOf ps) V nv)) by
    have e1 : (!(ask && decide (0 < nv))) = true := by
      cases ask
      · rfl
      · have : ¬ 0 < nv := fun h => hak ⟨rfl, h⟩
        simp [this]
    rw [HRE.out, HLD.out, e1]
    simp [k1, k2, k3, l1, l2, l3, l4])
  have HR1 := hid (show ps.all (Pa.is I) = false → R = false from fun h => by rw [HHD.out, h]; rfl)
  have hak' : ask = false ∨ ask = true ∧ nv = 0 := by
    cases ask
    · exact .inl rfl
    · exact .inr ⟨rfl, by have : ¬ 0 < nv := fun h => hak ⟨rfl, h⟩; omega⟩
  have ha := HA.out (by have := HNP.out; omega)
  subst ha
  clear h4 h5 h6 h7 hV hI hT hf4 hf5 hf6 hak HRE HLD
  go_enter Tryd.func27, Tryd.ntmps27
  go_upto_region 1 with fail
  rw [← hw1]
  clear hw1
  have c0 := HX1.out.cell (i := 0) rfl
  have c1 := HX1.out.cell (i := 1) rfl
  have c2 := HX1.out.cell (i := 2) rfl
  have c3 := HX1.out.cell (i := 3) rfl
  have c4 := HX1.out.cell (i := 4) rfl
  have c5 := HX1.out.cell (i := 5) rfl
  have HAK := hid hak'
  rcases hak' with rfl | ⟨rfl, hnv0⟩
  case inl =>
    go_upto_region 4 with fail
    clear c0 c1 c2 c3 c4 c5 l1 l2 l3 l4
    go_loopg [3] np (fun gk s3 wr => ∃ i : Nat, s3 = .int .i64 i ∧ i ≤ np ∧ np - i ≤ gk ∧ Hid (Below w1.heap.size w1 wr) ∧ Hid ((ps.take i).all (Pa.is I) = true))
    case atStart => exact ⟨0, rfl, Nat.zero_le _, Nat.le_refl _, Below.refl _ _, rfl⟩
    case round =>
      obtain ⟨i, rfl, hin, hg, HB, HALL⟩ := hrel
      have hxr2 := hid ((HX1.out.keep HB.out).cell (i := 2) rfl)
      have q2 := hxr2.out
      by_cases hlt : i < np
      · have hltz : (i : Int) < (np : Int) := by omega
        have hiL : i < ps.length := by rw [← HNP.out]; exact hlt
        clear q2
        have HBW := hid (below_then HB1.out HB.out)
        have HR := hid ((HROW.out i hiL).keep HBW.out)
        have HS := hid (fun hf => gall_step (f := Pa.is I) HALL.out (List.getElem?_eq_getElem hiL) hf)
        have HF := hid (fun hf => gall_stop (f := Pa.is I) (List.getElem?_eq_getElem hiL) hf)
        have hPT := HPT.out i hiL
        have hok := HOK.out i hiL
        have hio := HI.out ps[i] (List.getElem_mem hiL)
        generalize ps[i] = x at HR HS HF hPT hok hio
        generalize f i = v at HR hPT
        generalize g i = u at HR hPT
        have HPX := hid hPT
        obtain ⟨_, _, hTX, _, ua, uc, _, _, _, _, rfl, _⟩ := hPT.open
        obtain ⟨va', vc', rfl, _⟩ := hTX.open
        generalize hK1 : x.p.kids.length = un at HR HPX
        generalize hK2 : x.p.texts.length = vn' at HR HPX
        obtain ⟨c0, c1, c2, c3, c4, c5, c6, c7, c8, c9, c10, c11⟩ := HR.out.open
        have E1 := hid (fun W (h : Below w.heap.size w W) => rend_any I x.s W hok.1 (hio.1.keep h))
        have E2 := hid (fun W (h : Below w.heap.size w W) => rend_any I x.o W hok.2 (hio.2.keep h))
        have E3 := hid (fun W (h : Below w.heap.size w W) => rispath_any x.p _ _ W (HPX.out.keep h) (HT.out.keep h))
        have HIS := hid (show Pa.is I x = (x.s.is I && x.o.is I && x.p.may) from rfl)
        generalize Pa.is I x = bx at HS HF HIS
        generalize x.s.is I = b1 at E1 HIS
        generalize x.o.is I = b2 at E2 HIS
        generalize x.p.may = b3 at E3 HIS
        obtain ⟨⟨sv, sk, st, sx⟩, xp, ⟨ov, ok, ot, ox⟩⟩ := x
        unfold enV at E1 E2
        unfold pv at E3
        simp only at c0 c1 c2 c3 c4 c5 c6 c7 c8 c9 c10 c11 E1 E2 E3
        clear hok hio HR hPT hTX hK1 hK2
        generalize xp.kind = xk at c4 E3
        generalize xp.text = xt at c5 E3
        clear HPX
        have HB4 := hid (show Below w1.heap.size w1 (wr.alloc (.cells #[str sv, .int .i64 sk, str st, str sx, .int .i64 xk, str xt, .slice va' vn' vc', .slice ua un uc, str ov, .int .i64 ok, str ot, str ox] 53)) from HB.out.alloc HB.out.size _)
        have HU4 := hid (show Blk (wr.alloc (.cells #[str sv, .int .i64 sk, str st, str sx, .int .i64 xk, str xt, .slice va' vn' vc', .slice ua un uc, str ov, .int .i64 ok, str ot, str ox] 53)) wr.heap.size [str sv, .int .i64 sk, str st, str sx, .int .i64 xk, str xt, .slice va' vn' vc', .slice ua un uc, str ov, .int .i64 ok, str ot, str ox] 53 from Blk.new' rfl rfl)
        obtain ⟨w4, hw4⟩ : ∃ w4, w4 = wr.alloc (.cells #[str sv, .int .i64 sk, str st, str sx, .int .i64 xk, str xt, .slice va' vn' vc', .slice ua un uc, str ov, .int .i64 ok, str ot, str ox] 53) := ⟨_, rfl⟩
        rw [← hw4] at HB4 HU4
        have qp := hxr2.out
        go_upto_region 7 with fail
        rw [← hw4]
        clear hw4 qp c0 c1 c2 c3 c4 c5 c6 c7 c8 c9 c10 c11
        generalize wr.heap.size = wb at HU4 ⊢
        have HBW4 := hid (below_then HB1.out HB4.out)
        have k0 := HU4.out.cell (i := 0) rfl
        have k1 := HU4.out.cell (i := 1) rfl
        have k2' := HU4.out.cell (i := 2) rfl
        have k3' := HU4.out.cell (i := 3) rfl
        have HFA2 := hid (fun (h : bx = false) => HR1.out (HF.out h))
        cases b1
        · have HZ := hid (HFA2.out (by rw [HIS.out]; rfl))
          go_wp2_with (go_at_call 43; (with_reducible refine (E1.out _ HBW4.out).mono ?_; rintro e w5 ⟨rfl, hb⟩; have HB5 := hid (below_then HB4.out hb); have HBW5 := hid (below_then HB1.out HB5.out); have HU5 := hid (HU4.out.keep hb); have k8 := HU5.out.cell (i := 8) rfl; have k9 := HU5.out.cell (i := 9) rfl; have k10 := HU5.out.cell (i := 10) rfl; have k11 := HU5.out.cell (i := 11) rfl; clear hb))
          go_ret
          exact ⟨by rw [HZ.out]; rfl, HB1.out.trans (HB5.out.mono HB1.out.size)⟩
        · cases b2
          · have HZ := hid (HFA2.out (by rw [HIS.out]; rfl))
            go_wp2_with (go_at_call 43; first
              | (with_reducible refine (E1.out _ HBW4.out).mono ?_; rintro e w5 ⟨rfl, hb⟩; have HB5 := hid (below_then HB4.out hb); have HBW5 := hid (below_then HB1.out HB5.out); have HU5 := hid (HU4.out.keep hb); have k8 := HU5.out.cell (i := 8) rfl; have k9 := HU5.out.cell (i := 9) rfl; have k10 := HU5.out.cell (i := 10) rfl; have k11 := HU5.out.cell (i := 11) rfl; clear hb)
              | (with_reducible refine (E2.out _ HBW5.out).mono ?_; rintro e w6 ⟨rfl, hb⟩; have HB6 := hid (below_then HB5.out hb); have HBW6 := hid (below_then HB1.out HB6.out); have HU6 := hid (HU5.out.keep hb); have k4 := HU6.out.cell (i := 4) rfl; have k5 := HU6.out.cell (i := 5) rfl; have k6 := HU6.out.cell (i := 6) rfl; have k7 := HU6.out.cell (i := 7) rfl; clear hb))
            go_ret
            exact ⟨by rw [HZ.out]; rfl, HB1.out.trans (HB6.out.mono HB1.out.size)⟩
          · cases b3
            · have HZ := hid (HFA2.out (by rw [HIS.out]; rfl))
              go_wp2_with (first
                | (go_at_call 43; first
                  | (with_reducible refine (E1.out _ HBW4.out).mono ?_; rintro e w5 ⟨rfl, hb⟩; have HB5 := hid (below_then HB4.out hb); have HBW5 := hid (below_then HB1.out HB5.out); have HU5 := hid (HU4.out.keep hb); have k8 := HU5.out.cell (i := 8) rfl; have k9 := HU5.out.cell (i := 9) rfl; have k10 := HU5.out.cell (i := 10) rfl; have k11 := HU5.out.cell (i := 11) rfl; clear hb)
                  | (with_reducible refine (E2.out _ HBW5.out).mono ?_; rintro e w6 ⟨rfl, hb⟩; have HB6 := hid (below_then HB5.out hb); have HBW6 := hid (below_then HB1.out HB6.out); have HU6 := hid (HU5.out.keep hb); have k4 := HU6.out.cell (i := 4) rfl; have k5 := HU6.out.cell (i := 5) rfl; have k6 := HU6.out.cell (i := 6) rfl; have k7 := HU6.out.cell (i := 7) rfl; clear hb))
                | (go_at_call 20; refine (E3.out _ HBW6.out).mono ?_; rintro e w7 ⟨rfl, hb⟩; have HB7 := hid (below_then HB6.out hb); clear hb))
              go_ret
              exact ⟨by rw [HZ.out]; rfl, HB1.out.trans (HB7.out.mono HB1.out.size)⟩
            · have HZ := hid (HS.out (by rw [HIS.out]; rfl))
              go_wp2_with (first
                | (go_at_call 43; first
                  | (with_reducible refine (E1.out _ HBW4.out).mono ?_; rintro e w5 ⟨rfl, hb⟩; have HB5 := hid (below_then HB4.out hb); have HBW5 := hid (below_then HB1.out HB5.out); have HU5 := hid (HU4.out.keep hb); have k8 := HU5.out.cell (i := 8) rfl; have k9 := HU5.out.cell (i := 9) rfl; have k10 := HU5.out.cell (i := 10) rfl; have k11 := HU5.out.cell (i := 11) rfl; clear hb)
                  | (with_reducible refine (E2.out _ HBW5.out).mono ?_; rintro e w6 ⟨rfl, hb⟩; have HB6 := hid (below_then HB5.out hb); have HBW6 := hid (below_then HB1.out HB6.out); have HU6 := hid (HU5.out.keep hb); have k4 := HU6.out.cell (i := 4) rfl; have k5 := HU6.out.cell (i := 5) rfl; have k6 := HU6.out.cell (i := 6) rfl; have k7 := HU6.out.cell (i := 7) rfl; clear hb))
                | (go_at_call 20; refine (E3.out _ HBW6.out).mono ?_; rintro e w7 ⟨rfl, hb⟩; have HB7 := hid (below_then HB6.out hb); clear hb))
              go_roundg (np - (i + 1))
              case measure => omega
              case rel => exact ⟨i + 1, by go_num, by omega, by omega, HB7.out, HZ.out⟩
      · obtain rfl : i = np := by omega
        have hltz : ¬ (i : Int) < (i : Int) := by omega
        have HALL2 := hid (show ps.all (Pa.is I) = true by
          have := HALL.out
          rw [List.take_of_length_le (by rw [← HNP.out]; exact Nat.le_refl _)] at this
          exact this)
        have HBW := hid (below_then HB1.out HB.out)
        have HXr := hid (HX1.out.keep HB.out)
        clear q2
        have c0 := HXr.out.cell (i := 0) rfl
        have c1 := HXr.out.cell (i := 1) rfl
        have c2 := HXr.out.cell (i := 2) rfl
        have c3 := HXr.out.cell (i := 3) rfl
        have c4 := HXr.out.cell (i := 4) rfl
        have c5 := HXr.out.cell (i := 5) rfl
        have VV := hid (fun W (h : Below w.heap.size w W) (aa : Bool) (nn : Nat) => rvars_any ps W _ aa va fa nn vc nf fc lim off (HPA.out.keep h) (by have := HNP.out; omega))
        rw [← HNP.out] at VV
        obtain ⟨L, hL⟩ : ∃ L, L = varsOf ps := ⟨_, rfl⟩
        rw [← hL] at VV
        have hL8 : L.length ≤ 8 := by
          have h1 := addsV_len [] (names ps)
          rw [names_len, ← HNP.out] at h1
          rw [hL]; unfold varsOf
          simp at h1; omega
        obtain ⟨n, hn⟩ : ∃ n, n = L.length := ⟨_, rfl⟩
        have HRES := hid (show R = (decide (n ≤ 6) && fisOk L F && askd L V _) from by rw [HHD.out, HALL2.out, ← hL, ← hn, Bool.true_and])
        rw [← hn] at hL8
        have HNL := hid hn
        clear hL hn HALL2 HI HROW HPT HOK HHD HR1
        go_upto_region 10 with (go_at_call 25; refine (VV.out _ HBW.out _ _).mono ?_; rintro e w5 ⟨v5, rfl, ht, hb⟩; have HT5 := hid ht; have HB5 := hid hb; clear hb; obtain ⟨a5, q5, rfl, _⟩ := ht.open; clear ht)
        rw [← HNL.out] at HT5 ⊢
        have HBW5 := hid (below_then HBW.out HB5.out)
        have HX5 := hid (HXr.out.keep HB5.out)
        clear c0 c1 c2 c3 c4 c5 VV
        have c1 := HX5.out.cell (i := 1) rfl
        have c3 := HX5.out.cell (i := 3) rfl
        go_upto_region 11 with fail
        go_loopg [6] nf (fun gk s6 wq => ∃ k : Nat, s6 = .int .i64 k ∧ k ≤ nf ∧ nf - k ≤ gk ∧ wq = w5 ∧ Hid ((F.take k).all (fun f => decide (f.v ∈ L) && isOp f.op) = true))
        case atStart => exact ⟨0, rfl, Nat.zero_le _, Nat.le_refl _, rfl, rfl⟩
        case round =>
          obtain ⟨k, rfl, hkn, hgk, hww, HFALL⟩ := hrel
          subst hww
          by_cases hlt2 : k < nf
          · have hkz : (k : Int) < (nf : Int) := by omega
            have hkF : k < F.length := by rw [← HNF.out]; exact hlt2
            have ha2 := HF4.out (by omega)
            subst ha2
            obtain ⟨d0, d1, d2⟩ := HF5.out k hkF
            have d0 := below_keep HBW5.out d0
            have d1 := below_keep HBW5.out d1
            clear d2
            have HS := hid (fun hf => gall_step (f := fun f : Fi => decide (f.v ∈ L) && isOp f.op) HFALL.out (List.getElem?_eq_getElem hkF) hf)
            have HX := hid (fun hf => gall_stop (f := fun f : Fi => decide (f.v ∈ L) && isOp f.op) (List.getElem?_eq_getElem hkF) hf)
            generalize F[k] = x at d0 d1 HS HX
            obtain ⟨fv, fop, nn⟩ := x
            simp only at d0 d1 HS HX
            have PL := hid (place_any _ L fv wr HT5.out (by have := HNL.out; omega))
            have hpz := placeZ_nonneg L fv
            obtain ⟨pz, hp⟩ : ∃ p, p = placeZ L fv := ⟨_, rfl⟩
            rw [← hp] at hpz PL
            clear hp
            have OP1 := hid (fun W => rop_any fop W)
            obtain ⟨b2, hb2⟩ : ∃ b2, b2 = isOp fop := ⟨_, rfl⟩
            rw [← hb2] at OP1 HS HX
            clear hb2
            by_cases hmem : fv ∈ L
            · have hneg : ¬ pz < 0 := by have := hpz.2 hmem; omega
              have HDE := hid (show decide (fv ∈ L) = true from decide_eq_true hmem)
              rw [HDE.out] at HS HX
              clear hpz hmem
              cases b2
              · have HZ := hid (HX.out rfl)
                have HZR := hid (show R = false by rw [HRES.out, show fisOk L F = false from HZ.out]; simp)
                go_wp2_with (first
                  | (go_at_call 28; refine PL.out.mono ?_; rintro e wr ⟨rfl, hw⟩; subst hw)
                  | (go_at_call 44; refine (OP1.out _).mono ?_; rintro e wr ⟨rfl, hw⟩; subst hw))
                go_ret
                exact ⟨by rw [HZR.out]; rfl, HBW5.out⟩
              · have HZ := hid (HS.out rfl)
                go_wp2_with (first
                  | (go_at_call 28; refine PL.out.mono ?_; rintro e wr ⟨rfl, hw⟩; subst hw)
                  | (go_at_call 44; refine (OP1.out _).mono ?_; rintro e wr ⟨rfl, hw⟩; subst hw))
                go_roundg (nf - (k + 1))
                case measure => omega
                case rel => exact ⟨k + 1, by go_num, by omega, by omega, rfl, HZ.out⟩
            · have hneg : pz < 0 := by have h9 : ¬ 0 ≤ pz := fun h => hmem (hpz.1 h); omega
              have HZ := hid (HX.out (by rw [decide_eq_false hmem]; rfl))
              have HZR := hid (show R = false by rw [HRES.out, show fisOk L F = false from HZ.out]; simp)
              clear hpz hmem
              go_wp2_with (go_at_call 28; refine PL.out.mono ?_; rintro e wr ⟨rfl, hw⟩; subst hw)
              go_ret
              exact ⟨by rw [HZR.out]; rfl, HBW5.out⟩
          · obtain rfl : k = nf := by omega
            have hkz : ¬ (k : Int) < (k : Int) := by omega
            have HFI := hid (show fisOk L F = true by
              have := HFALL.out
              rw [List.take_of_length_le (by rw [← HNF.out]; exact Nat.le_refl _)] at this
              exact this)
            have HX6 := hid HX5.out
            have HT6 := hid HT5.out
            have HBW6 := hid HBW5.out
            go_upto_region 16 with fail
            obtain ⟨w6, hw6⟩ : ∃ w6, w6 = wr := ⟨_, rfl⟩
            rw [← hw6] at HX6 HT6 HBW6
            rw [← hw6]
            clear hw6 c1 c3 HX5 HT5 HBW5 HF4 HF5 HF6
            go_loopg [7] V.length (fun gk s7 wq => ∃ k : Nat, s7 = .int .i64 k ∧ k ≤ V.length ∧ V.length - k ≤ gk ∧ Hid (Below w6.heap.size w6 wq) ∧ Hid (askd L V k = true))
            case atStart => exact ⟨0, rfl, Nat.zero_le _, Nat.le_refl _, Below.refl _ _, rfl⟩
            case round =>
              obtain ⟨k, rfl, hkv, hgk2, HBq, HAS⟩ := hrel
              have HBWq := hid (below_then HBW6.out HBq.out)
              have c1 := (HX6.out.keep HBq.out).cell (i := 1) rfl
              by_cases hlt3 : k < V.length
              · have hkz3 : (k : Int) < (nv : Int) := by have := HNV.out; omega
                have hkv1 : k ≤ vc := by have := HNV.out; omega
                have HTV := hid (HVA.out.keep HBWq.out)
                have HT7 := hid (HT6.out.keep HBq.out)
                have HRV := hid (show RowAt wr va V.length fun i => str (V.getD i []) by
                  obtain ⟨a', c', e, _, _, _, hr⟩ := HTV.out.open
                  simp only [Value.slice.injEq] at e
                  obtain ⟨rfl, _, rfl⟩ := e
                  exact hr)
                obtain ⟨b1, o1, rfl, hc1⟩ := HRV.out.get hlt3
                have d1 := hc1 k hlt3
                have HTK := hid (HTV.out.front k (by omega))
                obtain ⟨x, hx⟩ : ∃ x, x = V.getD k [] := ⟨_, rfl⟩
                rw [← hx] at d1
                have HAN := hid (show askd L V (k + 1) = (decide (x ∈ L) && !decide (x ∈ V.take k)) by
                  show (askd L V k && (decide (V.getD k [] ∈ L) && !decide (V.getD k [] ∈ V.take k))) = _
                  rw [HAS.out, ← hx, Bool.true_and])
                have PL1 := hid (fun p : Later wr.heap.size wr => place_any _ L x p.it (HT7.out.keep p.low) (by have := HNL.out; omega))
                have PL2 := hid (fun p : Later wr.heap.size wr => place_any _ (V.take k) x p.it (HTK.out.keep p.low) (by rw [List.length_take]; have := HNV.out; omega))
                have hp1 := placeZ_nonneg L x
                have hp2 := placeZ_nonneg (V.take k) x
                obtain ⟨z1, hz1⟩ : ∃ p, p = placeZ L x := ⟨_, rfl⟩
                obtain ⟨z2, hz2⟩ : ∃ p, p = placeZ (V.take k) x := ⟨_, rfl⟩
                rw [← hz1] at PL1 hp1
                rw [← hz2] at PL2 hp2
                have HGK2 := hid hgk2
                clear hc1 hx hz1 hz2 hgk2
                have c1q := fun p : Later wr.heap.size wr => p.keep c1
                have d1q := fun p : Later wr.heap.size wr => p.keep d1
                have hne : askd L V (k + 1) = false → R = false := fun h => by
                  rw [HRES.out, show askd L V nv = false from askd_stop h (by have := HNV.out; omega)]; simp
                have HNEX := hid hne
                clear hne
                by_cases hm1 : x ∈ L
                · have hneg : ¬ z1 < 0 := by have := hp1.2 hm1; omega
                  by_cases hm2 : x ∈ V.take k
                  · have hneg2 : 0 ≤ z2 := hp2.2 hm2
                    have HZR := hid (HNEX.out (by rw [HAN.out, decide_eq_true hm1, decide_eq_true hm2]; rfl))
                    clear hp1 hp2 hm1 hm2
                    go_upto_region 18 with fail
                    refine wp_region_later wr.heap.size (by kernel_rfl) (by kernel_rfl) ?_
                    repeat (go_big_quiet_step (first | (go_at_call 28; first | with_reducible exact Later.call_same (PL1.out _) | with_reducible exact Later.call_same (PL2.out _)) | fail))
                    refine wpQuiet_nil ?_
                    rintro wy ⟨p1, hwy⟩
                    have HBy := hid (below_then HBWq.out (show Below wr.heap.size wr wy by rw [hwy]; exact p1.low))
                    have HBq2 := hid (below_then HBq.out (show Below wr.heap.size wr wy by rw [hwy]; exact p1.low))
                    clear hwy p1 c1q d1q
                    go_wp2
                    go_ret
                    exact ⟨by rw [HZR.out]; rfl, HBy.out⟩
                  · have hneg2 : ¬ 0 ≤ z2 := fun h => hm2 (hp2.1 h)
                    have HZ := hid (show askd L V (k + 1) = true by rw [HAN.out, decide_eq_true hm1, decide_eq_false hm2]; rfl)
                    clear hp1 hp2 hm1 hm2
                    go_upto_region 18 with fail
                    refine wp_region_later wr.heap.size (by kernel_rfl) (by kernel_rfl) ?_
                    repeat (go_big_quiet_step (first | (go_at_call 28; first | with_reducible exact Later.call_same (PL1.out _) | with_reducible exact Later.call_same (PL2.out _)) | fail))
                    refine wpQuiet_nil ?_
                    rintro wy ⟨p1, hwy⟩
                    have HBy := hid (below_then HBWq.out (show Below wr.heap.size wr wy by rw [hwy]; exact p1.low))
                    have HBq2 := hid (below_then HBq.out (show Below wr.heap.size wr wy by rw [hwy]; exact p1.low))
                    clear hwy p1 c1q d1q
                    go_wp2
                    go_roundg (V.length - (k + 1))
                    case measure => have := HGK2.out; omega
                    case rel => exact ⟨k + 1, by go_num, by omega, by omega, HBq2.out, HZ.out⟩
                · have hneg : z1 < 0 := by have h9 : ¬ 0 ≤ z1 := fun h => hm1 (hp1.1 h); omega
                  have HZR := hid (HNEX.out (by rw [HAN.out, decide_eq_false hm1]; rfl))
                  clear hp1 hp2 hm1
                  go_upto_region 18 with fail
                  refine wp_region_later wr.heap.size (by kernel_rfl) (by kernel_rfl) ?_
                  repeat (go_big_quiet_step (first | (go_at_call 28; first | with_reducible exact Later.call_same (PL1.out _) | with_reducible exact Later.call_same (PL2.out _)) | fail))
                  refine wpQuiet_nil ?_
                  rintro wy ⟨p1, hwy⟩
                  have HBy := hid (below_then HBWq.out (show Below wr.heap.size wr wy by rw [hwy]; exact p1.low))
                  have HBq2 := hid (below_then HBq.out (show Below wr.heap.size wr wy by rw [hwy]; exact p1.low))
                  clear hwy p1 c1q d1q
                  go_wp2
                  go_ret
                  exact ⟨by rw [HZR.out]; rfl, HBy.out⟩
              · obtain rfl : k = V.length := by omega
                have hkz3 : ¬ ((V.length : Nat) : Int) < (nv : Int) := by have := HNV.out; omega
                have HLAST := hid (show R = decide (n ≤ 6) by
                  rw [HRES.out, HFI.out, show askd L V nv = true by rw [show (nv : Nat) = V.length from HNV.out]; exact HAS.out]; simp)
                by_cases h6 : n ≤ 6
                · have h6z : (n : Int) ≤ 6 := by omega
                  have HD := hid (show R = true by rw [HLAST.out]; exact decide_eq_true h6)
                  go_wp2
                  go_ret
                  exact ⟨by rw [HD.out]; rfl, HBWq.out⟩
                · have h6z : ¬ (n : Int) ≤ 6 := by omega
                  have HD := hid (show R = false by rw [HLAST.out]; exact decide_eq_false h6)
                  go_wp2
                  go_ret
                  exact ⟨by rw [HD.out]; rfl, HBWq.out⟩
  case inr =>
    have HNV0 := hid hnv0
    subst hnv0
    go_upto_region 4 with fail
    clear c0 c1 c2 c3 c4 c5 l1 l2 l3 l4
    go_loopg [3] np (fun gk s3 wr => ∃ i : Nat, s3 = .int .i64 i ∧ i ≤ np ∧ np - i ≤ gk ∧ Hid (Below w1.heap.size w1 wr) ∧ Hid ((ps.take i).all (Pa.is I) = true))
    case atStart => exact ⟨0, rfl, Nat.zero_le _, Nat.le_refl _, Below.refl _ _, rfl⟩
    case round =>
      obtain ⟨i, rfl, hin, hg, HB, HALL⟩ := hrel
      have hxr2 := hid ((HX1.out.keep HB.out).cell (i := 2) rfl)
      have q2 := hxr2.out
      by_cases hlt : i < np
      · have hltz : (i : Int) < (np : Int) := by omega
        have hiL : i < ps.length := by rw [← HNP.out]; exact hlt
        clear q2
        have HBW := hid (below_then HB1.out HB.out)
        have HR := hid ((HROW.out i hiL).keep HBW.out)
        have HS := hid (fun hf => gall_step (f := Pa.is I) HALL.out (List.getElem?_eq_getElem hiL) hf)
        have HF := hid (fun hf => gall_stop (f := Pa.is I) (List.getElem?_eq_getElem hiL) hf)
        have hPT := HPT.out i hiL
        have hok := HOK.out i hiL
        have hio := HI.out ps[i] (List.getElem_mem hiL)
        generalize ps[i] = x at HR HS HF hPT hok hio
        generalize f i = v at HR hPT
        generalize g i = u at HR hPT
        have HPX := hid hPT
        obtain ⟨_, _, hTX, _, ua, uc, _, _, _, _, rfl, _⟩ := hPT.open
        obtain ⟨va', vc', rfl, _⟩ := hTX.open
        generalize hK1 : x.p.kids.length = un at HR HPX
        generalize hK2 : x.p.texts.length = vn' at HR HPX
        obtain ⟨c0, c1, c2, c3, c4, c5, c6, c7, c8, c9, c10, c11⟩ := HR.out.open
        have E1 := hid (fun W (h : Below w.heap.size w W) => rend_any I x.s W hok.1 (hio.1.keep h))
        have E2 := hid (fun W (h : Below w.heap.size w W) => rend_any I x.o W hok.2 (hio.2.keep h))
        have E3 := hid (fun W (h : Below w.heap.size w W) => rispath_any x.p _ _ W (HPX.out.keep h) (HT.out.keep h))
        have HIS := hid (show Pa.is I x = (x.s.is I && x.o.is I && x.p.may) from rfl)
        generalize Pa.is I x = bx at HS HF HIS
        generalize x.s.is I = b1 at E1 HIS
        generalize x.o.is I = b2 at E2 HIS
        generalize x.p.may = b3 at E3 HIS
        obtain ⟨⟨sv, sk, st, sx⟩, xp, ⟨ov, ok, ot, ox⟩⟩ := x
        unfold enV at E1 E2
        unfold pv at E3
        simp only at c0 c1 c2 c3 c4 c5 c6 c7 c8 c9 c10 c11 E1 E2 E3
        clear hok hio HR hPT hTX hK1 hK2
        generalize xp.kind = xk at c4 E3
        generalize xp.text = xt at c5 E3
        clear HPX
        have HB4 := hid (show Below w1.heap.size w1 (wr.alloc (.cells #[str sv, .int .i64 sk, str st, str sx, .int .i64 xk, str xt, .slice va' vn' vc', .slice ua un uc, str ov, .int .i64 ok, str ot, str ox] 53)) from HB.out.alloc HB.out.size _)
        have HU4 := hid (show Blk (wr.alloc (.cells #[str sv, .int .i64 sk, str st, str sx, .int .i64 xk, str xt, .slice va' vn' vc', .slice ua un uc, str ov, .int .i64 ok, str ot, str ox] 53)) wr.heap.size [str sv, .int .i64 sk, str st, str sx, .int .i64 xk, str xt, .slice va' vn' vc', .slice ua un uc, str ov, .int .i64 ok, str ot, str ox] 53 from Blk.new' rfl rfl)
        obtain ⟨w4, hw4⟩ : ∃ w4, w4 = wr.alloc (.cells #[str sv, .int .i64 sk, str st, str sx, .int .i64 xk, str xt, .slice va' vn' vc', .slice ua un uc, str ov, .int .i64 ok, str ot, str ox] 53) := ⟨_, rfl⟩
        rw [← hw4] at HB4 HU4
        have qp := hxr2.out
        go_upto_region 7 with fail
        rw [← hw4]
        clear hw4 qp c0 c1 c2 c3 c4 c5 c6 c7 c8 c9 c10 c11
        generalize wr.heap.size = wb at HU4 ⊢
        have HBW4 := hid (below_then HB1.out HB4.out)
        have k0 := HU4.out.cell (i := 0) rfl
        have k1 := HU4.out.cell (i := 1) rfl
        have k2' := HU4.out.cell (i := 2) rfl
        have k3' := HU4.out.cell (i := 3) rfl
        have HFA2 := hid (fun (h : bx = false) => HR1.out (HF.out h))
        cases b1
        · have HZ := hid (HFA2.out (by rw [HIS.out]; rfl))
          go_wp2_with (go_at_call 43; (with_reducible refine (E1.out _ HBW4.out).mono ?_; rintro e w5 ⟨rfl, hb⟩; have HB5 := hid (below_then HB4.out hb); have HBW5 := hid (below_then HB1.out HB5.out); have HU5 := hid (HU4.out.keep hb); have k8 := HU5.out.cell (i := 8) rfl; have k9 := HU5.out.cell (i := 9) rfl; have k10 := HU5.out.cell (i := 10) rfl; have k11 := HU5.out.cell (i := 11) rfl; clear hb))
          go_ret
          exact ⟨by rw [HZ.out]; rfl, HB1.out.trans (HB5.out.mono HB1.out.size)⟩
        · cases b2
          · have HZ := hid (HFA2.out (by rw [HIS.out]; rfl))
            go_wp2_with (go_at_call 43; first
              | (with_reducible refine (E1.out _ HBW4.out).mono ?_; rintro e w5 ⟨rfl, hb⟩; have HB5 := hid (below_then HB4.out hb); have HBW5 := hid (below_then HB1.out HB5.out); have HU5 := hid (HU4.out.keep hb); have k8 := HU5.out.cell (i := 8) rfl; have k9 := HU5.out.cell (i := 9) rfl; have k10 := HU5.out.cell (i := 10) rfl; have k11 := HU5.out.cell (i := 11) rfl; clear hb)
              | (with_reducible refine (E2.out _ HBW5.out).mono ?_; rintro e w6 ⟨rfl, hb⟩; have HB6 := hid (below_then HB5.out hb); have HBW6 := hid (below_then HB1.out HB6.out); have HU6 := hid (HU5.out.keep hb); have k4 := HU6.out.cell (i := 4) rfl; have k5 := HU6.out.cell (i := 5) rfl; have k6 := HU6.out.cell (i := 6) rfl; have k7 := HU6.out.cell (i := 7) rfl; clear hb))
            go_ret
            exact ⟨by rw [HZ.out]; rfl, HB1.out.trans (HB6.out.mono HB1.out.size)⟩
          · cases b3
            · have HZ := hid (HFA2.out (by rw [HIS.out]; rfl))
              go_wp2_with (first
                | (go_at_call 43; first
                  | (with_reducible refine (E1.out _ HBW4.out).mono ?_; rintro e w5 ⟨rfl, hb⟩; have HB5 := hid (below_then HB4.out hb); have HBW5 := hid (below_then HB1.out HB5.out); have HU5 := hid (HU4.out.keep hb); have k8 := HU5.out.cell (i := 8) rfl; have k9 := HU5.out.cell (i := 9) rfl; have k10 := HU5.out.cell (i := 10) rfl; have k11 := HU5.out.cell (i := 11) rfl; clear hb)
                  | (with_reducible refine (E2.out _ HBW5.out).mono ?_; rintro e w6 ⟨rfl, hb⟩; have HB6 := hid (below_then HB5.out hb); have HBW6 := hid (below_then HB1.out HB6.out); have HU6 := hid (HU5.out.keep hb); have k4 := HU6.out.cell (i := 4) rfl; have k5 := HU6.out.cell (i := 5) rfl; have k6 := HU6.out.cell (i := 6) rfl; have k7 := HU6.out.cell (i := 7) rfl; clear hb))
                | (go_at_call 20; refine (E3.out _ HBW6.out).mono ?_; rintro e w7 ⟨rfl, hb⟩; have HB7 := hid (below_then HB6.out hb); clear hb))
              go_ret
              exact ⟨by rw [HZ.out]; rfl, HB1.out.trans (HB7.out.mono HB1.out.size)⟩
            · have HZ := hid (HS.out (by rw [HIS.out]; rfl))
              go_wp2_with (first
                | (go_at_call 43; first
                  | (with_reducible refine (E1.out _ HBW4.out).mono ?_; rintro e w5 ⟨rfl, hb⟩; have HB5 := hid (below_then HB4.out hb); have HBW5 := hid (below_then HB1.out HB5.out); have HU5 := hid (HU4.out.keep hb); have k8 := HU5.out.cell (i := 8) rfl; have k9 := HU5.out.cell (i := 9) rfl; have k10 := HU5.out.cell (i := 10) rfl; have k11 := HU5.out.cell (i := 11) rfl; clear hb)
                  | (with_reducible refine (E2.out _ HBW5.out).mono ?_; rintro e w6 ⟨rfl, hb⟩; have HB6 := hid (below_then HB5.out hb); have HBW6 := hid (below_then HB1.out HB6.out); have HU6 := hid (HU5.out.keep hb); have k4 := HU6.out.cell (i := 4) rfl; have k5 := HU6.out.cell (i := 5) rfl; have k6 := HU6.out.cell (i := 6) rfl; have k7 := HU6.out.cell (i := 7) rfl; clear hb))
                | (go_at_call 20; refine (E3.out _ HBW6.out).mono ?_; rintro e w7 ⟨rfl, hb⟩; have HB7 := hid (below_then HB6.out hb); clear hb))
              go_roundg (np - (i + 1))
              case measure => omega
              case rel => exact ⟨i + 1, by go_num, by omega, by omega, HB7.out, HZ.out⟩
      · obtain rfl : i = np := by omega
        have hltz : ¬ (i : Int) < (i : Int) := by omega
        have HALL2 := hid (show ps.all (Pa.is I) = true by
          have := HALL.out
          rw [List.take_of_length_le (by rw [← HNP.out]; exact Nat.le_refl _)] at this
          exact this)
        have HBW := hid (below_then HB1.out HB.out)
        have HXr := hid (HX1.out.keep HB.out)
        clear q2
        have c0 := HXr.out.cell (i := 0) rfl
        have c1 := HXr.out.cell (i := 1) rfl
        have c2 := HXr.out.cell (i := 2) rfl
        have c3 := HXr.out.cell (i := 3) rfl
        have c4 := HXr.out.cell (i := 4) rfl
        have c5 := HXr.out.cell (i := 5) rfl
        have VV := hid (fun W (h : Below w.heap.size w W) (aa : Bool) (nn : Nat) => rvars_any ps W _ aa va fa nn vc nf fc lim off (HPA.out.keep h) (by have := HNP.out; omega))
        rw [← HNP.out] at VV
        obtain ⟨L, hL⟩ : ∃ L, L = varsOf ps := ⟨_, rfl⟩
        rw [← hL] at VV
        have hL8 : L.length ≤ 8 := by
          have h1 := addsV_len [] (names ps)
          rw [names_len, ← HNP.out] at h1
          rw [hL]; unfold varsOf
          simp at h1; omega
        obtain ⟨n, hn⟩ : ∃ n, n = L.length := ⟨_, rfl⟩
        have HRES := hid (show R = (decide (n ≤ 6) && fisOk L F && askd L V _) from by rw [HHD.out, HALL2.out, ← hL, ← hn, Bool.true_and])
        rw [← hn] at hL8
        have HNL := hid hn
        clear hL hn HALL2 HI HROW HPT HOK HHD HR1
        go_upto_region 10 with (go_at_call 25; refine (VV.out _ HBW.out _ _).mono ?_; rintro e w5 ⟨v5, rfl, ht, hb⟩; have HT5 := hid ht; have HB5 := hid hb; clear hb; obtain ⟨a5, q5, rfl, _⟩ := ht.open; clear ht)
        rw [← HNL.out] at HT5 ⊢
        have HBW5 := hid (below_then HBW.out HB5.out)
        have HX5 := hid (HXr.out.keep HB5.out)
        clear c0 c1 c2 c3 c4 c5 VV
        have c1 := HX5.out.cell (i := 1) rfl
        have c3 := HX5.out.cell (i := 3) rfl
        go_upto_region 11 with fail
        go_loopg [6] nf (fun gk s6 wq => ∃ k : Nat, s6 = .int .i64 k ∧ k ≤ nf ∧ nf - k ≤ gk ∧ wq = w5 ∧ Hid ((F.take k).all (fun f => decide (f.v ∈ L) && isOp f.op) = true))
        case atStart => exact ⟨0, rfl, Nat.zero_le _, Nat.le_refl _, rfl, rfl⟩
        case round =>
          obtain ⟨k, rfl, hkn, hgk, hww, HFALL⟩ := hrel
          subst hww
          by_cases hlt2 : k < nf
          · have hkz : (k : Int) < (nf : Int) := by omega
            have hkF : k < F.length := by rw [← HNF.out]; exact hlt2
            have ha2 := HF4.out (by omega)
            subst ha2
            obtain ⟨d0, d1, d2⟩ := HF5.out k hkF
            have d0 := below_keep HBW5.out d0
            have d1 := below_keep HBW5.out d1
            clear d2
            have HS := hid (fun hf => gall_step (f := fun f : Fi => decide (f.v ∈ L) && isOp f.op) HFALL.out (List.getElem?_eq_getElem hkF) hf)
            have HX := hid (fun hf => gall_stop (f := fun f : Fi => decide (f.v ∈ L) && isOp f.op) (List.getElem?_eq_getElem hkF) hf)
            generalize F[k] = x at d0 d1 HS HX
            obtain ⟨fv, fop, nn⟩ := x
            simp only at d0 d1 HS HX
            have PL := hid (place_any _ L fv wr HT5.out (by have := HNL.out; omega))
            have hpz := placeZ_nonneg L fv
            obtain ⟨pz, hp⟩ : ∃ p, p = placeZ L fv := ⟨_, rfl⟩
            rw [← hp] at hpz PL
            clear hp
            have OP1 := hid (fun W => rop_any fop W)
            obtain ⟨b2, hb2⟩ : ∃ b2, b2 = isOp fop := ⟨_, rfl⟩
            rw [← hb2] at OP1 HS HX
            clear hb2
            by_cases hmem : fv ∈ L
            · have hneg : ¬ pz < 0 := by have := hpz.2 hmem; omega
              have HDE := hid (show decide (fv ∈ L) = true from decide_eq_true hmem)
              rw [HDE.out] at HS HX
              clear hpz hmem
              cases b2
              · have HZ := hid (HX.out rfl)
                have HZR := hid (show R = false by rw [HRES.out, show fisOk L F = false from HZ.out]; simp)
                go_wp2_with (first
                  | (go_at_call 28; refine PL.out.mono ?_; rintro e wr ⟨rfl, hw⟩; subst hw)
                  | (go_at_call 44; refine (OP1.out _).mono ?_; rintro e wr ⟨rfl, hw⟩; subst hw))
                go_ret
                exact ⟨by rw [HZR.out]; rfl, HBW5.out⟩
              · have HZ := hid (HS.out rfl)
                go_wp2_with (first
                  | (go_at_call 28; refine PL.out.mono ?_; rintro e wr ⟨rfl, hw⟩; subst hw)
                  | (go_at_call 44; refine (OP1.out _).mono ?_; rintro e wr ⟨rfl, hw⟩; subst hw))
                go_roundg (nf - (k + 1))
                case measure => omega
                case rel => exact ⟨k + 1, by go_num, by omega, by omega, rfl, HZ.out⟩
            · have hneg : pz < 0 := by have h9 : ¬ 0 ≤ pz := fun h => hmem (hpz.1 h); omega
              have HZ := hid (HX.out (by rw [decide_eq_false hmem]; rfl))
              have HZR := hid (show R = false by rw [HRES.out, show fisOk L F = false from HZ.out]; simp)
              clear hpz hmem
              go_wp2_with (go_at_call 28; refine PL.out.mono ?_; rintro e wr ⟨rfl, hw⟩; subst hw)
              go_ret
              exact ⟨by rw [HZR.out]; rfl, HBW5.out⟩
          · obtain rfl : k = nf := by omega
            have hkz : ¬ (k : Int) < (k : Int) := by omega
            have HFI := hid (show fisOk L F = true by
              have := HFALL.out
              rw [List.take_of_length_le (by rw [← HNF.out]; exact Nat.le_refl _)] at this
              exact this)
            have HX6 := hid HX5.out
            have HT6 := hid HT5.out
            have HBW6 := hid HBW5.out
            go_upto_region 16 with fail
            obtain ⟨w6, hw6⟩ : ∃ w6, w6 = wr := ⟨_, rfl⟩
            rw [← hw6] at HX6 HT6 HBW6
            rw [← hw6]
            clear hw6 c1 c3 HX5 HT5 HBW5 HF4 HF5 HF6
            go_loopg [7] V.length (fun gk s7 wq => ∃ k : Nat, s7 = .int .i64 k ∧ k ≤ V.length ∧ V.length - k ≤ gk ∧ Hid (Below w6.heap.size w6 wq) ∧ Hid (askd L V k = true))
            case atStart => exact ⟨0, rfl, Nat.zero_le _, Nat.le_refl _, Below.refl _ _, rfl⟩
            case round =>
              obtain ⟨k, rfl, hkv, hgk2, HBq, HAS⟩ := hrel
              have HBWq := hid (below_then HBW6.out HBq.out)
              have c1 := (HX6.out.keep HBq.out).cell (i := 1) rfl
              by_cases hlt3 : k < V.length
              · exfalso
                have := HNV.out
                omega
              · obtain rfl : k = V.length := by omega
                have hkz3 : ¬ ((V.length : Nat) : Int) < (0 : Int) := by have := HNV.out; omega
                have HLAST := hid (show R = decide (n ≤ 6) by
                  rw [HRES.out, HFI.out, show askd L V 0 = true by rw [show (0 : Nat) = V.length from HNV.out]; exact HAS.out]; simp)
                by_cases h6 : n ≤ 6
                · have h6z : (n : Int) ≤ 6 := by omega
                  have HD := hid (show R = true by rw [HLAST.out]; exact decide_eq_true h6)
                  go_wp2
                  go_ret
                  exact ⟨by rw [HD.out]; rfl, HBWq.out⟩
                · have h6z : ¬ (n : Int) ≤ 6 := by omega
                  have HD := hid (show R = false by rw [HLAST.out]; exact decide_eq_false h6)
                  go_wp2
                  go_ret
                  exact ⟨by rw [HD.out]; rfl, HBWq.out⟩
end Go.Proofs.YtagmgkplfhlifaaDoor
