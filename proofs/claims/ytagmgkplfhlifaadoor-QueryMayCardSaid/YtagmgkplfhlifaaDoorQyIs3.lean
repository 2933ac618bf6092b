/- query.Is, whole. -/
import Derived.Test.YtagmgkplfhlifaaDoorQyIs2
namespace Go.Proofs.YtagmgkplfhlifaaDoor
set_option linter.unusedVariables false
set_option linter.unusedSimpArgs false
set_option maxRecDepth 100000
open Go.ChangeShapes Go.WideShapes Go.ChangeAt Go.RowKit
open Au
set_option maxHeartbeats 1000000 in
theorem qavars_any (L vs : List T) (u : Value) (ask : Bool) (va sa fa : Option Addr) (vc sn sc fn fc : Nat) (lim off : Int) (w : World) (hL : TextsAt w u L) (hV : TextsAt w (.slice va vs.length vc) vs) (hn : vs.length ≤ 140737488351232) (hm : L.length ≤ 140737488351232) :
    Calls Tryd.prog 41 #[.agg #[.bool ask, .slice va vs.length vc, .slice sa sn sc, .slice fa fn fc, .int .i64 lim, .int .i64 off], u] w fun o w' => o = .returned (.bool (!(ask && decide (0 < vs.length)) && askd L vs vs.length)) ∧ Below w.heap.size w w' := by
  obtain ⟨w1, hw1⟩ : ∃ w1, w1 = w.alloc (.cells #[.bool ask, .slice va vs.length vc, .slice sa sn sc, .slice fa fn fc, .int .i64 lim, .int .i64 off] 40) := ⟨_, rfl⟩
  have HB := hid (show Below w.heap.size w w1 by rw [hw1]; exact (Below.refl _ _).alloc (Nat.le_refl _) _)
  have HX := hid (show Blk w1 w.heap.size [.bool ask, .slice va vs.length vc, .slice sa sn sc, .slice fa fn fc, .int .i64 lim, .int .i64 off] 40 by rw [hw1]; exact Blk.new' rfl rfl)
  have HL1 := hid (hL.keep HB.out)
  have HV1 := hid (hV.keep HB.out)
  have SC := hid (fun (s : T) => scont_any u L s w1 HL1.out hm)
  have SD := hid (fun (s : T) (i : Nat) (hi : i ≤ vs.length) => scont_any (.slice va i vc) (vs.take i) s w1 (HV1.out.front i hi) (by rw [List.length_take]; omega))
  have HROW := hid (show RowAt w1 va vs.length fun i => str (vs.getD i []) by
    obtain ⟨a', cap', e, _, _, _, hr⟩ := HV1.out.open
    simp only [Value.slice.injEq] at e
    obtain ⟨rfl, _, rfl⟩ := e
    exact hr)
  have hvc : vs.length ≤ vc := by
    obtain ⟨a', cap', e, h1, _, _, hr⟩ := HV1.out.open
    simp only [Value.slice.injEq] at e
    obtain ⟨rfl, _, rfl⟩ := e
    exact h1
  have HVC := hid (show vc ≤ maxLen by
    obtain ⟨a', cap', e, _, h1, _, hr⟩ := HV1.out.open
    simp only [Value.slice.injEq] at e
    obtain ⟨rfl, _, rfl⟩ := e
    exact h1)
  obtain ⟨ua, uc, rfl, _⟩ := hL.open
  obtain ⟨n, hN⟩ : ∃ n, n = vs.length := ⟨_, rfl⟩
  have HN := hid hN
  rw [← hN] at hw1 HX HROW hn hvc SD ⊢
  generalize hL0 : L.length = un at *
  have HSTOP := hid (fun (i : Nat) (h : askd L vs i = false) (hi : i ≤ n) => askd_stop h hi)
  clear hN hL hV HL1 HV1
  by_cases hak : ask = true ∧ 0 < n
  · obtain ⟨rfl, h0⟩ := hak
    have HR := hid (show (!(true && decide (0 < n)) && askd L vs n) = false by simp [h0])
    rw [HR.out]
    go_enter Tryd.func41, Tryd.ntmps41
    go_upto_region 1 with fail
    rw [← hw1]
    clear hw1
    have c0 := HX.out.cell (i := 0) rfl
    have c1 := HX.out.cell (i := 1) rfl
    go_wp2
    go_ret
    exact ⟨rfl, HB.out⟩
  have HR := hid (show (!(ask && decide (0 < n)) && askd L vs n) = askd L vs n by
    cases ask
    · simp
    · have : ¬ 0 < n := fun h => hak ⟨rfl, h⟩
      simp [this])
  rw [HR.out]
  have hak' : ask = false ∨ ask = true ∧ n = 0 := by
    cases ask
    · exact .inl rfl
    · exact .inr ⟨rfl, by have : ¬ 0 < n := fun h => hak ⟨rfl, h⟩; omega⟩
  clear hak HR
  go_enter Tryd.func41, Tryd.ntmps41
  go_upto_region 1 with fail
  rw [← hw1]
  clear hw1
  have c0 := HX.out.cell (i := 0) rfl
  have c1 := HX.out.cell (i := 1) rfl
  rcases hak' with rfl | ⟨rfl, rfl⟩
  · go_upto_region 4 with fail
    go_loopg [18] n (fun gk s18 wr => ∃ i : Nat, s18 = .int .i64 i ∧ i ≤ n ∧ n - i ≤ gk ∧ wr = w1 ∧ Hid (askd L vs i = true))
    case atStart => exact ⟨0, rfl, Nat.zero_le _, Nat.le_refl _, rfl, rfl⟩
    case round =>
      obtain ⟨i, rfl, hin, hg, hww, HALL⟩ := hrel
      subst hww
      by_cases hlt : i < n
      · have hltz : (i : Int) < (n : Int) := by omega
        obtain ⟨bb, oo, rfl, hc⟩ := HROW.out.get hlt
        have d0 := hc i hlt
        obtain ⟨x, hx⟩ : ∃ x, x = vs.getD i [] := ⟨_, rfl⟩
        rw [← hx] at d0
        have SC1 := hid (SC.out x)
        have SD1 := hid (SD.out x i hin)
        obtain ⟨b1, hb1⟩ : ∃ b1, b1 = decide (x ∈ L) := ⟨_, rfl⟩
        obtain ⟨b2, hb2⟩ : ∃ b2, b2 = decide (x ∈ vs.take i) := ⟨_, rfl⟩
        have HS := hid (show askd L vs (i + 1) = (b1 && !b2) by
          show (askd L vs i && (decide (vs.getD i [] ∈ L) && !decide (vs.getD i [] ∈ vs.take i))) = _
          rw [HALL.out, ← hx, ← hb1, ← hb2, Bool.true_and])
        rw [← hb1] at SC1
        rw [← hb2] at SD1
        clear hb1 hb2 hx hc
        have hi1 : i ≤ vc := by omega
        cases b1
        · have HF := hid (HSTOP.out (i + 1) HS.out (by omega))
          go_wp2_with (go_at_call 58; refine SC1.out.mono ?_; rintro e w' ⟨rfl, hw⟩; subst hw)
          go_ret
          exact ⟨by rw [HF.out]; rfl, HB.out⟩
        · cases b2
          · go_wp2_with (go_at_call 58; first
              | (with_reducible refine SC1.out.mono ?_; rintro e w' ⟨rfl, hw⟩; subst hw)
              | (with_reducible refine SD1.out.mono ?_; rintro e w' ⟨rfl, hw⟩; subst hw))
            go_roundg (n - (i + 1))
            case measure => omega
            case rel => exact ⟨i + 1, by go_num, by omega, by omega, rfl, HS.out⟩
          · have HF := hid (HSTOP.out (i + 1) HS.out (by omega))
            go_wp2_with (go_at_call 58; first
              | (with_reducible refine SC1.out.mono ?_; rintro e w' ⟨rfl, hw⟩; subst hw)
              | (with_reducible refine SD1.out.mono ?_; rintro e w' ⟨rfl, hw⟩; subst hw))
            go_ret
            exact ⟨by rw [HF.out]; rfl, HB.out⟩
      · obtain rfl : i = n := by omega
        have hltz : ¬ (i : Int) < (i : Int) := by omega
        go_wp2
        go_ret
        exact ⟨by rw [HALL.out]; rfl, HB.out⟩
  · have HF := hid (show askd L vs 0 = true from rfl)
    go_upto_region 4 with fail
    go_loopg [18] 0 (fun gk s18 wr => s18 = .int .i64 0 ∧ wr = w1)
    case atStart => exact ⟨rfl, rfl⟩
    case round =>
      obtain ⟨rfl, hww⟩ := hrel
      subst hww
      go_wp2
      go_ret
      exact ⟨by rw [HF.out]; rfl, HB.out⟩
set_option maxHeartbeats 4000000 in
theorem qis_any (I : Int → T → T → Bool) (q : Qy) (vs sl fs : Value) (w : World) (hQ : QyAt w vs sl fs q) (hT : T8 w) (hI : ∀ p ∈ q.ps, IOk I w p.s ∧ IOk I w p.o) (hv : q.vars.length ≤ 140737488351232) :
    Calls Tryd.prog 26 #[qyV q vs sl fs] w fun o w' => o = .returned (.bool (q.is I)) ∧ Below w.heap.size w w' := by
  obtain ⟨ask, V, ps, F, lim, off⟩ := q
  obtain ⟨hV, hP, hF, hl, ho⟩ := hQ
  simp only at hV hP hF hl ho hI hv
  have HVA := hid hV
  have HPA := hid hP
  have HFA := hid hF
  have HI := hid hI
  have HT := hid hT
  obtain ⟨va, vc, rfl, _⟩ := hV.open
  obtain ⟨pa, pc, b, off0, f, g, rfl, h1, h2, h3, h4, h5, h6, h7⟩ := hP
  obtain ⟨fa, fc, _, _, rfl, hf1, hf2, _⟩ := hF
  have HROW := hid h5
  have HPT := hid h6
  have HOK := hid h7
  have HA := hid h4
  unfold qyV Qy.is
  simp only
  obtain ⟨np, hnp⟩ : ∃ n, n = ps.length := ⟨_, rfl⟩
  obtain ⟨nf, hnf⟩ : ∃ n, n = F.length := ⟨_, rfl⟩
  obtain ⟨nv, hnv⟩ : ∃ n, n = V.length := ⟨_, rfl⟩
  have HNP := hid hnp
  have HNF := hid hnf
  have HNV := hid hnv
  rw [← hnp] at h1
  rw [← hnf] at hf1
  rw [← hnv] at hv
  rw [← hnp, ← hnf, ← hnv]
  clear hnp hnf hnv
  obtain ⟨w1, hw1⟩ : ∃ w1, w1 = w.alloc (.cells #[.bool ask, .slice va nv vc, .slice pa np pc, .slice fa nf fc, .int .i64 lim, .int .i64 off] 40) := ⟨_, rfl⟩
  have HB1 := hid (show Below w.heap.size w w1 by rw [hw1]; exact (Below.refl _ _).alloc (Nat.le_refl _) _)
  have HX1 := hid (show Blk w1 w.heap.size [.bool ask, .slice va nv vc, .slice pa np pc, .slice fa nf fc, .int .i64 lim, .int .i64 off] 40 by rw [hw1]; exact Blk.new' rfl rfl)
  have HBOOL := hid (show ∀ a b c : Bool, a = false → (a && b && c) = false from by intro a b c h; rw [h]; rfl)
  by_cases hc : ¬ (1 ≤ np ∧ np ≤ 4 ∧ nf ≤ 3)
  · have HF := hid (show (decide (1 ≤ np) && decide (np ≤ 4) && decide (nf ≤ 3)) = false by
      rw [Bool.eq_false_iff]; intro h; apply hc; simpa [and_assoc] using h)
    rw [HF.out, Bool.false_and, Bool.false_and]
    have hc' : np < 1 ∨ (1 ≤ np ∧ 4 < np) ∨ (1 ≤ np ∧ np ≤ 4 ∧ 3 < nf) := by omega
    clear hc h4 h5 h6 h7 hV hI hT
    rcases hc' with k | ⟨k, k2⟩ | ⟨k, k2, k3⟩
    all_goals
      go_enter Tryd.func26, Tryd.ntmps26
      go_upto_region 1 with fail
      rw [← hw1]
      clear hw1
      have c2 := HX1.out.cell (i := 2) rfl
      have c3 := HX1.out.cell (i := 3) rfl
      go_wp2
      go_ret
      exact ⟨rfl, HB1.out⟩
  obtain ⟨k1, k2, k3⟩ := Classical.not_not.1 hc
  clear hc
  have HT0 := hid (show (decide (1 ≤ np) && decide (np ≤ 4) && decide (nf ≤ 3)) = true by simp [k1, k2, k3])
  rw [HT0.out, Bool.true_and]
  have ha := HA.out (by have := HNP.out; omega)
  subst ha
  clear h4 h5 h6 h7 hV HT0 hI hT
  go_enter Tryd.func26, Tryd.ntmps26
  go_upto_region 1 with fail
  rw [← hw1]
  clear hw1
  have c2 := HX1.out.cell (i := 2) rfl
  have c3 := HX1.out.cell (i := 3) rfl
  go_upto_region 4 with fail
  clear c2 c3
  go_loopg [25] np (fun gk s25 wr => ∃ i : Nat, s25 = .int .i64 i ∧ i ≤ np ∧ np - i ≤ gk ∧ Hid (Below w1.heap.size w1 wr) ∧ Hid ((ps.take i).all (Pa.is I) = true))
  case atStart => exact ⟨0, rfl, Nat.zero_le _, Nat.le_refl _, Below.refl _ _, rfl⟩
  case round =>
    obtain ⟨i, rfl, hin, hg, HB, HALL⟩ := hrel
    by_cases hlt : i < np
    · have hltz : (i : Int) < (np : Int) := by omega
      have hiL : i < ps.length := by rw [← HNP.out]; exact hlt
      have HBW := hid (below_then HB1.out HB.out)
      have HR := hid ((HROW.out i hiL).keep HBW.out)
      have HS := hid (fun hf => gall_step (f := Pa.is I) HALL.out (List.getElem?_eq_getElem hiL) hf)
      have HF := hid (fun hf => gall_stop (f := Pa.is I) (List.getElem?_eq_getElem hiL) hf)
      have hPT := HPT.out i hiL
      have hok := HOK.out i hiL
      have hio := HI.out ps[i] (List.getElem_mem hiL)
      generalize ps[i] = x at HR HS HF hPT hok hio
      generalize f i = v at HR hPT
      generalize g i = u at HR hPT
      have HPX := hid hPT
      obtain ⟨_, _, hTX, _, ua, uc, _, _, _, _, rfl, _⟩ := hPT.open
      obtain ⟨va', vc', rfl, _⟩ := hTX.open
      generalize hK1 : x.p.kids.length = un at HR HPX
      generalize hK2 : x.p.texts.length = vn' at HR HPX
      obtain ⟨c0, c1, c2, c3, c4, c5, c6, c7, c8, c9, c10, c11⟩ := HR.out.open
      have E1 := hid (fun W (h : Below w.heap.size w W) => qisend_any I x.s W hok.1 (hio.1.keep h))
      have E2 := hid (fun W (h : Below w.heap.size w W) => qisend_any I x.o W hok.2 (hio.2.keep h))
      have E3 := hid (fun W (h : Below w.heap.size w W) => ispath_any x.p _ _ W (HPX.out.keep h) (HT.out.keep h))
      have HIS := hid (show Pa.is I x = (x.s.is I && x.o.is I && x.p.may) from rfl)
      generalize Pa.is I x = bx at HS HF HIS
      generalize x.s.is I = b1 at E1 HIS
      generalize x.o.is I = b2 at E2 HIS
      generalize x.p.may = b3 at E3 HIS
      obtain ⟨⟨sv, sk, st, sx⟩, xp, ⟨ov, ok, ot, ox⟩⟩ := x
      unfold enV at E1 E2
      unfold pv at E3
      simp only at c0 c1 c2 c3 c4 c5 c6 c7 c8 c9 c10 c11 E1 E2 E3
      clear hok hio HR hPT hTX hK1 hK2
      generalize xp.kind = xk at c4 E3
      generalize xp.text = xt at c5 E3
      clear HPX
      have HB4 := hid (show Below w1.heap.size w1 (wr.alloc (.cells #[str sv, .int .i64 sk, str st, str sx, .int .i64 xk, str xt, .slice va' vn' vc', .slice ua un uc, str ov, .int .i64 ok, str ot, str ox] 53)) from HB.out.alloc HB.out.size _)
      have HU4 := hid (show Blk (wr.alloc (.cells #[str sv, .int .i64 sk, str st, str sx, .int .i64 xk, str xt, .slice va' vn' vc', .slice ua un uc, str ov, .int .i64 ok, str ot, str ox] 53)) wr.heap.size [str sv, .int .i64 sk, str st, str sx, .int .i64 xk, str xt, .slice va' vn' vc', .slice ua un uc, str ov, .int .i64 ok, str ot, str ox] 53 from Blk.new' rfl rfl)
      obtain ⟨w4, hw4⟩ : ∃ w4, w4 = wr.alloc (.cells #[str sv, .int .i64 sk, str st, str sx, .int .i64 xk, str xt, .slice va' vn' vc', .slice ua un uc, str ov, .int .i64 ok, str ot, str ox] 53) := ⟨_, rfl⟩
      rw [← hw4] at HB4 HU4
      go_upto_region 6 with fail
      rw [← hw4]
      clear hw4 c0 c1 c2 c3 c4 c5 c6 c7 c8 c9 c10 c11
      generalize wr.heap.size = wb at HU4 ⊢
      have HBW4 := hid (below_then HB1.out HB4.out)
      have k0 := HU4.out.cell (i := 0) rfl
      have k1 := HU4.out.cell (i := 1) rfl
      have k2' := HU4.out.cell (i := 2) rfl
      have k3' := HU4.out.cell (i := 3) rfl
      have HFA2 := hid (fun (h : bx = false) => show (ps.all (Pa.is I) && (decide ((varsOf ps).length ≤ 6) && fisOk (varsOf ps) F && (!(ask && decide (0 < nv)) && askd (varsOf ps) V nv) && limOk lim off)) = false by rw [HF.out h]; rfl)
      cases b1
      · have HZ := hid (HFA2.out (by rw [HIS.out]; rfl))
        go_wp2_with (go_at_call 39; (with_reducible refine (E1.out _ HBW4.out).mono ?_; rintro e w5 ⟨rfl, hb⟩; have HB5 := hid (below_then HB4.out hb); have HBW5 := hid (below_then HB1.out HB5.out); have HU5 := hid (HU4.out.keep hb); have k8 := HU5.out.cell (i := 8) rfl; have k9 := HU5.out.cell (i := 9) rfl; have k10 := HU5.out.cell (i := 10) rfl; have k11 := HU5.out.cell (i := 11) rfl; clear hb))
        go_ret
        exact ⟨by rw [HZ.out]; rfl, HB1.out.trans (HB5.out.mono HB1.out.size)⟩
      · cases b2
        · have HZ := hid (HFA2.out (by rw [HIS.out]; rfl))
          go_wp2_with (go_at_call 39; first
            | (with_reducible refine (E1.out _ HBW4.out).mono ?_; rintro e w5 ⟨rfl, hb⟩; have HB5 := hid (below_then HB4.out hb); have HBW5 := hid (below_then HB1.out HB5.out); have HU5 := hid (HU4.out.keep hb); have k8 := HU5.out.cell (i := 8) rfl; have k9 := HU5.out.cell (i := 9) rfl; have k10 := HU5.out.cell (i := 10) rfl; have k11 := HU5.out.cell (i := 11) rfl; clear hb)
            | (with_reducible refine (E2.out _ HBW5.out).mono ?_; rintro e w6 ⟨rfl, hb⟩; have HB6 := hid (below_then HB5.out hb); have HBW6 := hid (below_then HB1.out HB6.out); have HU6 := hid (HU5.out.keep hb); have k4 := HU6.out.cell (i := 4) rfl; have k5 := HU6.out.cell (i := 5) rfl; have k6 := HU6.out.cell (i := 6) rfl; have k7 := HU6.out.cell (i := 7) rfl; clear hb))
          go_ret
          exact ⟨by rw [HZ.out]; rfl, HB1.out.trans (HB6.out.mono HB1.out.size)⟩
        · cases b3
          · have HZ := hid (HFA2.out (by rw [HIS.out]; rfl))
            go_wp2_with (first
              | (go_at_call 39; first
                | (with_reducible refine (E1.out _ HBW4.out).mono ?_; rintro e w5 ⟨rfl, hb⟩; have HB5 := hid (below_then HB4.out hb); have HBW5 := hid (below_then HB1.out HB5.out); have HU5 := hid (HU4.out.keep hb); have k8 := HU5.out.cell (i := 8) rfl; have k9 := HU5.out.cell (i := 9) rfl; have k10 := HU5.out.cell (i := 10) rfl; have k11 := HU5.out.cell (i := 11) rfl; clear hb)
                | (with_reducible refine (E2.out _ HBW5.out).mono ?_; rintro e w6 ⟨rfl, hb⟩; have HB6 := hid (below_then HB5.out hb); have HBW6 := hid (below_then HB1.out HB6.out); have HU6 := hid (HU5.out.keep hb); have k4 := HU6.out.cell (i := 4) rfl; have k5 := HU6.out.cell (i := 5) rfl; have k6 := HU6.out.cell (i := 6) rfl; have k7 := HU6.out.cell (i := 7) rfl; clear hb))
              | (go_at_call 19; refine (E3.out _ HBW6.out).mono ?_; rintro e w7 ⟨rfl, hb⟩; have HB7 := hid (below_then HB6.out hb); clear hb))
            go_ret
            exact ⟨by rw [HZ.out]; rfl, HB1.out.trans (HB7.out.mono HB1.out.size)⟩
          · have HZ := hid (HS.out (by rw [HIS.out]; rfl))
            go_wp2_with (first
              | (go_at_call 39; first
                | (with_reducible refine (E1.out _ HBW4.out).mono ?_; rintro e w5 ⟨rfl, hb⟩; have HB5 := hid (below_then HB4.out hb); have HBW5 := hid (below_then HB1.out HB5.out); have HU5 := hid (HU4.out.keep hb); have k8 := HU5.out.cell (i := 8) rfl; have k9 := HU5.out.cell (i := 9) rfl; have k10 := HU5.out.cell (i := 10) rfl; have k11 := HU5.out.cell (i := 11) rfl; clear hb)
                | (with_reducible refine (E2.out _ HBW5.out).mono ?_; rintro e w6 ⟨rfl, hb⟩; have HB6 := hid (below_then HB5.out hb); have HBW6 := hid (below_then HB1.out HB6.out); have HU6 := hid (HU5.out.keep hb); have k4 := HU6.out.cell (i := 4) rfl; have k5 := HU6.out.cell (i := 5) rfl; have k6 := HU6.out.cell (i := 6) rfl; have k7 := HU6.out.cell (i := 7) rfl; clear hb))
              | (go_at_call 19; refine (E3.out _ HBW6.out).mono ?_; rintro e w7 ⟨rfl, hb⟩; have HB7 := hid (below_then HB6.out hb); clear hb))
            go_roundg (np - (i + 1))
            case measure => omega
            case rel => exact ⟨i + 1, by go_num, by omega, by omega, HB7.out, HZ.out⟩
    · obtain rfl : i = np := by omega
      have hltz : ¬ (i : Int) < (i : Int) := by omega
      have HALL2 := hid (show ps.all (Pa.is I) = true by
        have := HALL.out
        rw [List.take_of_length_le (by rw [← HNP.out]; exact Nat.le_refl _)] at this
        exact this)
      have HBW := hid (below_then HB1.out HB.out)
      have HXr := hid (HX1.out.keep HB.out)
      have c0 := HXr.out.cell (i := 0) rfl
      have c1 := HXr.out.cell (i := 1) rfl
      have c2 := HXr.out.cell (i := 2) rfl
      have c3 := HXr.out.cell (i := 3) rfl
      have c4 := HXr.out.cell (i := 4) rfl
      have c5 := HXr.out.cell (i := 5) rfl
      have VV := hid (fun W (h : Below w.heap.size w W) => qvars_any ps W _ ask va fa nv vc nf fc lim off (HPA.out.keep h) (by have := HNP.out; omega))
      rw [← HNP.out] at VV
      obtain ⟨L, hL⟩ : ∃ L, L = varsOf ps := ⟨_, rfl⟩
      rw [← hL] at VV
      have HLE := hid hL
      have hL8 : L.length ≤ 8 := by
        have h1 := addsV_len [] (names ps)
        rw [names_len, ← HNP.out] at h1
        rw [hL]; unfold varsOf
        simp at h1; omega
      clear hL
      obtain ⟨n, hn⟩ : ∃ n, n = L.length := ⟨_, rfl⟩
      have FF := hid (fun (u : Value) W (h : Below w.heap.size w W) (hu : TextsAt W u L) => qfils_any L F u _ W hu (HFA.out.keep h) (by have := HNF.out; omega) (by omega))
      have AA := hid (fun (u : Value) W (h : Below w.heap.size w W) (hu : TextsAt W u L) => qavars_any L V u ask va (some ⟨b, off0, none⟩) fa vc i pc nf fc lim off W hu (HVA.out.keep h) (by have := HNV.out; omega) (by omega))
      have LL := hid (fun W => qlims_any ask va (some ⟨b, off0, none⟩) fa nv vc i pc nf fc lim off W hl ho)
      rw [← HNF.out] at FF
      rw [← HNV.out] at AA
      obtain ⟨d2, hd2⟩ : ∃ d, d = fisOk L F := ⟨_, rfl⟩
      obtain ⟨d3, hd3⟩ : ∃ d, d = (!(ask && decide (0 < nv)) && askd L V nv) := ⟨_, rfl⟩
      obtain ⟨d4, hd4⟩ : ∃ d, d = limOk lim off := ⟨_, rfl⟩
      rw [← hd2] at FF
      rw [← hd3] at AA
      rw [← hd4] at LL
      have HRES := hid (show (ps.all (Pa.is I) && (decide ((varsOf ps).length ≤ 6) && fisOk (varsOf ps) F && (!(ask && decide (0 < nv)) && askd (varsOf ps) V nv) && limOk lim off)) = (decide (n ≤ 6) && d2 && d3 && d4) by
        rw [HALL2.out, ← HLE.out, ← hd2, ← hd3, ← hd4, ← hn, Bool.true_and])
      have HRES2 := hid (show (ps.all (Pa.is I) && (decide ((varsOf ps).length ≤ 6) && fisOk (varsOf ps) F && ((!ask || !decide (0 < nv)) && askd (varsOf ps) V nv) && limOk lim off)) = (decide (n ≤ 6) && d2 && d3 && d4) by
        rw [← HRES.out, Bool.not_and])
      rw [← hn] at hL8
      have HNL := hid hn
      clear hd2 hd3 hd4 hn HALL2 HI HROW HPT HOK
      go_upto_region 10 with (go_at_call 24; refine (VV.out _ HBW.out).mono ?_; rintro e w5 ⟨v5, rfl, ht, hb⟩; have HT5 := hid ht; have HB5 := hid hb; clear hb; obtain ⟨a5, q5, rfl, _⟩ := ht.open; clear ht)
      rw [← HNL.out] at HT5 ⊢
      have HBW5 := hid (below_then HBW.out HB5.out)
      have HX5 := hid (HXr.out.keep HB5.out)
      clear c0 c1 c2 c3 c4 c5
      have c0 := HX5.out.cell (i := 0) rfl
      have c1 := HX5.out.cell (i := 1) rfl
      have c2 := HX5.out.cell (i := 2) rfl
      have c3 := HX5.out.cell (i := 3) rfl
      have c4 := HX5.out.cell (i := 4) rfl
      have c5 := HX5.out.cell (i := 5) rfl
      have F5 := hid (FF.out _ w5 HBW5.out HT5.out)
      by_cases h6 : n ≤ 6
      · have h6z : (n : Int) ≤ 6 := by omega
        have HD := hid (show decide (n ≤ 6) = true from decide_eq_true h6)
        cases d2
        · go_wp2_with (go_at_call 40; refine F5.out.mono ?_; rintro e w6 ⟨rfl, hb⟩; have HBW6 := hid (below_then HBW5.out hb); have HX6 := hid (HX5.out.keep hb); have A6 := hid (AA.out _ w6 HBW6.out (HT5.out.keep hb)); clear hb; have e0 := HX6.out.cell (i := 0) rfl; have e1 := HX6.out.cell (i := 1) rfl; have e2 := HX6.out.cell (i := 2) rfl; have e3 := HX6.out.cell (i := 3) rfl; have e4 := HX6.out.cell (i := 4) rfl; have e5 := HX6.out.cell (i := 5) rfl)
          go_ret
          exact ⟨by first | (rw [HRES.out, HD.out]; rfl) | (rw [HRES2.out, HD.out]; rfl), HBW6.out⟩
        · cases d3
          · go_wp2_with (first
              | (go_at_call 40; refine F5.out.mono ?_; rintro e w6 ⟨rfl, hb⟩; have HBW6 := hid (below_then HBW5.out hb); have HX6 := hid (HX5.out.keep hb); have A6 := hid (AA.out _ w6 HBW6.out (HT5.out.keep hb)); clear hb; have e0 := HX6.out.cell (i := 0) rfl; have e1 := HX6.out.cell (i := 1) rfl; have e2 := HX6.out.cell (i := 2) rfl; have e3 := HX6.out.cell (i := 3) rfl; have e4 := HX6.out.cell (i := 4) rfl; have e5 := HX6.out.cell (i := 5) rfl)
              | (go_at_call 41; refine A6.out.mono ?_; rintro e w7 ⟨rfl, hb⟩; have HBW7 := hid (below_then HBW6.out hb); have HX7 := hid (HX6.out.keep hb); clear hb; have f0 := HX7.out.cell (i := 0) rfl; have f1 := HX7.out.cell (i := 1) rfl; have f2 := HX7.out.cell (i := 2) rfl; have f3 := HX7.out.cell (i := 3) rfl; have f4 := HX7.out.cell (i := 4) rfl; have f5 := HX7.out.cell (i := 5) rfl))
            go_ret
            exact ⟨by first | (rw [HRES.out, HD.out]; rfl) | (rw [HRES2.out, HD.out]; rfl), HBW7.out⟩
          · go_wp2_with (first
              | (go_at_call 40; refine F5.out.mono ?_; rintro e w6 ⟨rfl, hb⟩; have HBW6 := hid (below_then HBW5.out hb); have HX6 := hid (HX5.out.keep hb); have A6 := hid (AA.out _ w6 HBW6.out (HT5.out.keep hb)); clear hb; have e0 := HX6.out.cell (i := 0) rfl; have e1 := HX6.out.cell (i := 1) rfl; have e2 := HX6.out.cell (i := 2) rfl; have e3 := HX6.out.cell (i := 3) rfl; have e4 := HX6.out.cell (i := 4) rfl; have e5 := HX6.out.cell (i := 5) rfl)
              | (go_at_call 41; refine A6.out.mono ?_; rintro e w7 ⟨rfl, hb⟩; have HBW7 := hid (below_then HBW6.out hb); have HX7 := hid (HX6.out.keep hb); clear hb; have f0 := HX7.out.cell (i := 0) rfl; have f1 := HX7.out.cell (i := 1) rfl; have f2 := HX7.out.cell (i := 2) rfl; have f3 := HX7.out.cell (i := 3) rfl; have f4 := HX7.out.cell (i := 4) rfl; have f5 := HX7.out.cell (i := 5) rfl)
              | (go_at_call 42; refine (LL.out _).mono ?_; rintro e w8 ⟨rfl, hb⟩; have HBW8 := hid (below_then HBW7.out hb); clear hb))
            go_ret
            exact ⟨by first | (rw [HRES.out, HD.out]; rfl) | (rw [HRES2.out, HD.out]; rfl), HBW8.out⟩
      · have h6z : ¬ (n : Int) ≤ 6 := by omega
        have HD := hid (show decide (n ≤ 6) = false from decide_eq_false h6)
        go_wp2
        go_ret
        exact ⟨by first | (rw [HRES.out, HD.out]; rfl) | (rw [HRES2.out, HD.out]; rfl), HBW5.out⟩
end Go.Proofs.YtagmgkplfhlifaaDoor
