/- AutoSteps: the steps of every path rise, begin and end at places, and go along what the place they end at is; each place but the first is one that a step ends at. -/
import Derived.Test.YtobcbaeoedpefaaDoorAuLaid
import Derived.Test.YtobcbaeoedpefaaDoorRfNew
import Derived.Test.YtobcbaeoedpefaaDoorAuFacts
import Derived.Deep.DeepCutAuto
namespace Go.Proofs.YtobcbaeoedpefaaDoor
set_option linter.unusedVariables false
set_option linter.unusedSimpArgs false
set_option maxRecDepth 100000
open Go.ChangeShapes Go.WideShapes Go.ChangeAt Go.RowKit
open Au
open Go.Maps Go.WalkArith
theorem zeroInt (w : World) : (zeroValue 3).run Tryd.prog w = .ok (.int .i64 0) w := by kernel_rfl
theorem st_one {w : World} {g : Nat} {s : Stp} {a : Option Addr} {n c : Nat} (h : Blk w g [.int .i64 s.from_, .int .i64 s.to, .bool s.back, .bool s.not, .slice a n c] 48) (hT : TextsAt w (.slice a n c) s.texts) : StepsAt w (.slice (some ⟨g, 0, none⟩) 1 1) [s] := by
  refine ⟨_, 1, g, 0, fun _ => .slice a n c, rfl, Nat.le_refl _, by unfold maxLen; omega, (fun h => by cases h), fun _ => rfl, fun i hi => ?_, fun i hi => ?_⟩
  · obtain rfl : i = 0 := by simp at hi; omega
    exact ⟨h.cell rfl, h.cell rfl, h.cell rfl, h.cell rfl, h.cell rfl⟩
  · obtain rfl : i = 0 := by simp at hi; omega
    exact hT
theorem nameO {P : Program} {md : Region.Mode} {ops : Array Oper} {Q : Exit → Act → World → Prop} {S : World → Prop} {fuel : Nat} {l : Array Bool} {a : Act} {w : World} (h : ∀ O T d Q' S', O = ops → T = a.tmps → d = a.defers → Q' = Q → S' = S → wpAnyH P md O Q' S' fuel l ⟨T, d⟩ w) : wpAnyH P md ops Q S fuel l a w := h ops a.tmps a.defers Q S rfl rfl rfl rfl rfl
set_option maxHeartbeats 16000000 in
theorem autoSteps_any (x : Pt) (v u : Value) (w : World) (hP : PtAt w v u x) (hT : T8 w) :
    Calls Tryd.prog 11 #[pv x v u] w fun e w' => e = .returned (.bool true) ∧ Below w.heap.size w w' := by
  obtain ⟨a0, n0, c0, a1, n1, c1, rfl, rfl⟩ := pv_open hP
  obtain ⟨w1, hw1⟩ : ∃ w1, w1 = w.alloc (.cells #[.int .i64 x.kind, str x.text, .slice a0 n0 c0, .slice a1 n1 c1] 25) := ⟨_, rfl⟩
  have hb1 : Below w.heap.size w w1 := by rw [hw1]; exact (Below.refl _ _).alloc (Nat.le_refl _) _
  have hX : Blk w1 w.heap.size [.int .i64 x.kind, str x.text, .slice a0 n0 c0, .slice a1 n1 c1] 25 := by rw [hw1]; exact Blk.new w _ _
  have BG := big_any _ w1 _ _ 0 (hP.keep hb1) (by omega)
  have NA := hid fun W (hb : Below w1.heap.size w1 W) => new_any _ _ _ W ((hP.keep hb1).keep hb) ((hT.keep hb1).keep hb)
  have RN := hid fun W (hb : Below w1.heap.size w1 W) => rnew_any _ _ _ W ((hP.keep hb1).keep hb) ((hT.keep hb1).keep hb)
  have RI := hid fun W (hb : Below w1.heap.size w1 W) => rispath_any _ _ _ W ((hP.keep hb1).keep hb) ((hT.keep hb1).keep hb)
  have KN := hid fun W (hb : Below w1.heap.size w1 W) => known_any W ((hT.keep hb1).keep hb)
  unfold pv at BG NA RN RI ⊢
  obtain ⟨bg, hbg⟩ : ∃ z, z = bigP 0 x := ⟨_, rfl⟩
  rw [← hbg] at BG
  have BG := hid BG
  have HB1 := hid hb1
  obtain ⟨x0, x1, x2, x3⟩ := blk4 hX
  clear hb1 hX hP hT hbg
  have hmm := @run_makeMap Tryd.prog
  have early : Hid (∀ e w2, e = Ending.returned (.bool true) → Below w1.heap.size w1 w2 → e = .returned (.bool true) ∧ Below w.heap.size w w2) := fun e w2 h hb => ⟨h, below_then HB1.out hb⟩
  cases bg
  case true =>
    go_enter Tryd.func11, Tryd.ntmps11
    go_upto_region 1 with fail
    rw [← hw1]
    clear hw1
    go_wp2_with (go_at_call 13; refine BG.out.mono ?_; rintro e w2 ⟨rfl, hb2⟩)
    go_ret
    exact early.out _ _ rfl hb2
  go_enter Tryd.func11, Tryd.ntmps11
  go_upto_region 1 with fail
  rw [← hw1]
  clear hw1
  go_wp2_with (go_at_call 13; refine BG.out.mono ?_; rintro e w2 ⟨rfl, hb2⟩; have x0 := below_keep hb2 x0; have x1 := below_keep hb2 x1; have x2 := below_keep hb2 x2; have x3 := below_keep hb2 x3; have HB2 := hid hb2; clear hb2)
  refine (RN.out _ HB2.out).mono ?_
  rintro e w3 ⟨hb3, hR⟩
  have x0 := below_keep hb3 x0
  have x1 := below_keep hb3 x1
  have x2 := below_keep hb3 x2
  have x3 := below_keep hb3 x3
  have HB3 := hid (below_then HB2.out hb3)
  clear hb3
  rcases hR with ⟨_, rfl⟩ | ⟨_, _, rfl⟩ | ⟨hm, hc, q, rfl, _⟩
  · go_wp2
    go_ret
    exact early.out _ _ rfl HB3.out
  · go_wp2
    go_ret
    exact early.out _ _ rfl HB3.out
  have HM := hid hm
  have HC := hid hc
  clear hm hc
  go_wp2_with fail
  refine (NA.out _ HB3.out).mono ?_
  rintro e w4 ⟨hb4, hA⟩
  have x0 := below_keep hb4 x0
  have x1 := below_keep hb4 x1
  have x2 := below_keep hb4 x2
  have x3 := below_keep hb4 x3
  have HB4 := hid (below_then HB3.out hb4)
  clear hb4
  rcases hA with ⟨hm', _⟩ | ⟨_, hc', _⟩ | ⟨_, _, p, rfl, hI⟩
  · have := HM.out; rw [hm'] at this; cases this
  · have := HC.out; omega
  have hn30 : (x.rx false).n ≤ 30 := by
    have h1 := (Pt.rx_n x false).2
    have h2 := HM.out
    unfold Pt.may at h2
    rw [Bool.and_eq_true, decide_eq_true_eq] at h2
    omega
  have hlo := labs_ok x false ⟨0, may_wf HM.out⟩
  have HI4 := hid hI
  obtain ⟨r, hr⟩ : ∃ r, r = x.rx false := ⟨_, rfl⟩
  rw [← hr] at HI4 hn30 hlo
  have RI5 := RI.out
  rw [HM.out] at RI5
  have RI := hid RI5
  clear hI hr NA RN RI5
  go_wp2_with fail
  refine (steps_au HI4.out).mono ?_
  rintro e w5 ⟨⟨v5, rfl, hS5⟩, hb5⟩
  have HI5 := hid (HI4.out.keep hb5)
  have HB5 := hid (below_then HB4.out hb5)
  have x0 := below_keep hb5 x0
  have x1 := below_keep hb5 x1
  have x2 := below_keep hb5 x2
  have x3 := below_keep hb5 x3
  clear hb5
  -- plain facts of the steps
  obtain ⟨L, hL⟩ : ∃ L, L = stepsOf r := ⟨_, rfl⟩
  rw [← hL] at hS5
  have HFIN := hid (show ∀ D, MapI L L.length D → size D = r.n by subst hL; exact fun D h => h.fin)
  have HORD := hid (show ∀ i (h0 : 0 < i) (hi : i < L.length), stLt L[i - 1] L[i] by subst hL; exact fun i h0 hi => List.pairwise_iff_getElem.1 (steps_sorted r) (i - 1) i (by omega) hi (by omega))
  have HMEM := hid (show ∀ i (hi : i < L.length), ∃ (j : Nat) (f : Int), L[i].to = (j : Nat) ∧ L[i].from_ = f ∧ 0 ≤ f ∧ f < ((1 + r.n : Nat) : Int) ∧ 1 ≤ j ∧ j < 1 + r.n ∧ L[i].back = (labOf r j).back ∧ L[i].not = (labOf r j).not ∧ L[i].texts = (labOf r j).texts ∧ (labOf r j).texts.length ≠ 0 ∧ ((labOf r j).not = false → (labOf r j).texts.length = 1) from by
    subst hL
    intro i hi
    obtain ⟨a, j, e, ha, h1, h2, _⟩ := steps_mem (List.getElem_mem hi)
    have hl : labOf r j ∈ r.labs := by
      unfold labOf
      obtain ⟨k, rfl⟩ : ∃ k, j = k + 1 := ⟨j - 1, by omega⟩
      rw [List.getD_cons_succ]
      have hk : k < r.labs.length := by show k < r.n; omega
      rw [show r.labs.getD k default = r.labs[k] by simp [List.getD, hk]]
      exact List.getElem_mem _
    have ho := hlo _ hl
    exact ⟨j, (a : Nat), by rw [e]; rfl, by rw [e]; rfl, by omega, by omega, h1, h2, by rw [e]; rfl, by rw [e]; rfl, by rw [e]; rfl, ho.1, ho.2⟩)
  have hLn : L.length ≤ 1000 := by
    have h := stepsTo_len r (1 + r.n)
    have : (1 + r.n) * (1 + r.n) ≤ 31 * 31 := Nat.mul_le_mul (by omega) (by omega)
    rw [hL]
    unfold stepsOf
    omega
  have PLr := hid fun W (hb : Below w5.heap.size w5 W) => isauto_places (HI5.out.keep hb)
  obtain ⟨nz, hnz⟩ : ∃ z : Int, z = ((1 + r.n : Nat) : Int) := ⟨_, rfl⟩
  have HNZ := hid hnz
  rw [← hnz] at PLr
  have HMEM := hid fun i (hi : i < L.length) => (show ∃ (j : Nat) (f : Int), L[i].to = (j : Nat) ∧ L[i].from_ = f ∧ 0 ≤ f ∧ f < nz ∧ 1 ≤ j ∧ (j : Int) < nz ∧ L[i].back = (labOf r j).back ∧ L[i].not = (labOf r j).not ∧ L[i].texts = (labOf r j).texts ∧ (labOf r j).texts.length ≠ 0 ∧ ((labOf r j).not = false → (labOf r j).texts.length = 1) from by
    obtain ⟨j, f, e1, e2, e3, e4, e5, e6, e7⟩ := HMEM.out i hi
    exact ⟨j, f, e1, e2, e3, by rw [HNZ.out]; exact e4, e5, by rw [HNZ.out]; omega, e7⟩)
  have hnz2 : 2 ≤ nz + 1 := by omega
  have hnz3 : nz ≤ 31 := by omega
  obtain ⟨sa, sc, sb, so, sf, rfl, s1, s2, s3, s4, hrow, htx⟩ := hS5
  obtain ⟨m, hm⟩ : ∃ m, m = L.length := ⟨_, rfl⟩
  have HML := hid hm
  rw [← hm] at s1 s4 hLn ⊢
  have HROW := hid hrow
  have HTX := hid htx
  clear hrow htx hm hL hnz hlo hn30 HI4 HI5
  have law : Keyed Tryd.prog 3 := int_keyed Tryd.underlying3
  obtain ⟨w6, hw6⟩ : ∃ w6, w6 = w5.alloc (.map #[] 0) := ⟨_, rfl⟩
  have hb6 : Below w5.heap.size w5 w6 := by rw [hw6]; exact (Below.refl _ _).alloc (Nat.le_refl _) _
  have HO6 := hid (show w6.ownsMap Tryd.prog 3 (plainElem (H := Unit) Tryd.prog 3) w5.heap.size 0 (.map []) by rw [hw6]; exact World.ownsMap_made _ _ _ _)
  obtain ⟨mb, hmb⟩ : ∃ b, b = w5.heap.size := ⟨_, rfl⟩
  have hmb5 : w5.heap.size ≤ mb := by omega
  have HB6 := hid hb6
  rw [← hmb] at HO6
  go_upto_region 11 with fail
  rw [← hw6, ← hmb]
  clear hw6 hb6 hmb
  go_wp2
  go_loopw [9] (fun s9 wr => ∃ (i : Nat) (D : DataW Unit), i ≤ m ∧ s9 = .int .i64 i ∧ Hid (Below w5.heap.size w5 wr) ∧ Hid (wr.ownsMap Tryd.prog 3 (plainElem (H := Unit) Tryd.prog 3) mb i D) ∧ Hid (MapI L i D)) (fun s9 _ => m - (intOf s9).toNat)
  case atStart => exact ⟨0, _, by omega, rfl, HB6.out, HO6.out, MapI.zero L⟩
  case round =>
    clear HO6 HB6
    obtain ⟨i, D, hi, rfl, HBr, HO, HD⟩ := hrel
    by_cases hlt : i < m
    case pos =>
      have hiL : i < L.length := by rw [← HML.out]; exact hlt
      obtain rfl := s4 (by omega)
      obtain ⟨j, f, e1, e2, f0, f1, j1, j2, e3, e4, e5, t1, t2⟩ := HMEM.out i hiL
      have hr5 := (HROW.out i hiL).keep HBr.out
      have htt := (HTX.out i hiL).keep HBr.out
      have HGD := hid (show (L.getD i default).to = ((j : Nat) : Int) by rw [show L.getD i default = L[i] by simp [List.getD, hiL], e1])
      obtain ⟨d0, d1, d2, d3, d4⟩ := hr5
      rw [e2] at d0
      rw [e1] at d1
      rw [e3] at d2
      rw [e4] at d3
      rw [e5] at htt
      have HE2 := hid e2
      have HE1 := hid e1
      obtain ⟨l, hl⟩ : ∃ l, l = labOf r j := ⟨_, rfl⟩
      have HLB := hid hl
      rw [← hl] at d2 d3 htt t1 t2
      obtain ⟨ta, tc, htf, w9a, w9b, w9c, htr⟩ := htt.open
      rw [htf] at d4 htt
      obtain ⟨lb, ln, lt⟩ := l
      simp only at d2 d3 d4 htt t1 t2 w9a
      obtain ⟨tn, htn⟩ : ∃ n, n = lt.length := ⟨_, rfl⟩
      rw [← htn] at d4 htt t1 t2 w9a
      obtain ⟨tz, htz⟩ : ∃ z : Int, z = ((j : Nat) : Int) := ⟨_, rfl⟩
      rw [← htz] at d1 j2 HGD
      have HTZ := hid htz
      have HTN := hid htn
      have tz1 : 1 ≤ tz := by omega
      obtain ⟨wk, hwk⟩ : ∃ wk, wk = wr.alloc (.cells #[.int .i64 f, .int .i64 tz, .bool lb, .bool ln, .slice ta tn tc] 48) := ⟨_, rfl⟩
      have hbk : Below wr.heap.size wr wk := by rw [hwk]; exact (Below.refl _ _).alloc (Nat.le_refl _) _
      have hXk : Blk wk wr.heap.size [.int .i64 f, .int .i64 tz, .bool lb, .bool ln, .slice ta tn tc] 48 := by rw [hwk]; exact Blk.new wr _ _
      obtain ⟨xb, hxb⟩ : ∃ b, b = wr.heap.size := ⟨_, rfl⟩
      rw [← hxb] at hXk
      have HBk := hid (below_then HBr.out hbk)
      have HOk := hid (World.ownsMap_below HO.out hbk)
      have HTT := hid (htt.keep hbk)
      have HXK := hid hXk
      have m0 := hXk.cell (i := 0) rfl
      have m1 := hXk.cell (i := 1) rfl
      have m2 := hXk.cell (i := 2) rfl
      have m3 := hXk.cell (i := 3) rfl
      have m4 := hXk.cell (i := 4) rfl
      clear hbk hXk HO htt htf htr htz htn hl e1 e2 e3 e4 e5 w9a w9c
      go_upto_region 15 with fail
      rw [← hwk, ← hxb]
      clear hwk hxb d0 d1 d2 d3 d4 w9b
      have g1 : decide (f < 0) = false := decide_eq_false (by omega)
      have g2 : decide (nz ≤ f) = false := decide_eq_false (by omega)
      have g3 : decide (tz < 1) = false := decide_eq_false (by omega)
      have g4 : decide (nz ≤ tz) = false := decide_eq_false (by omega)
      have g5 : (((tn : Nat) : Int) == 0) = false := beq_eq_false_iff_ne.2 (by omega)
      have g6 : ln = false → (((tn : Nat) : Int) != 1) = false := fun h => by rw [t2 h]; rfl
      have m0q := fun p : Later wk.heap.size wk => p.keep m0
      have m1q := fun p : Later wk.heap.size wk => p.keep m1
      have m3q := fun p : Later wk.heap.size wk => p.keep m3
      have m4q := fun p : Later wk.heap.size wk => p.keep m4
      have PLk := hid fun p : Later wk.heap.size wk => PLr.out p.it (below_then HBk.out p.low)
      have HTU := hid (show tz ≤ 31 by omega)
      have HG6 := hid g6
      clear g6 t1 t2 f0 f1 j2
      go_cut [84] (fun s84 wx => s84 = .bool false ∧ Hid (Below wk.heap.size wk wx))
      case first =>
        cases ln
        case false =>
          have g6 := HG6.out rfl
          refine wp_region_later wk.heap.size (by kernel_rfl) (by kernel_rfl) ?_
          repeat (go_big_quiet_step (first | (go_at_call 17; with_reducible exact Later.call_same (PLk.out _)) | fail))
          refine wpQuiet_nil ?_
          rintro wz ⟨p1, hwz⟩
          have HBz := hid (show Below wk.heap.size wk wz by rw [hwz]; exact p1.low)
          clear hwz p1
          go_wp2_with fail
          go_meet
          exact ⟨rfl, HBz⟩
        case true =>
          refine wp_region_later wk.heap.size (by kernel_rfl) (by kernel_rfl) ?_
          repeat (go_big_quiet_step (first | (go_at_call 17; with_reducible exact Later.call_same (PLk.out _)) | fail))
          refine wpQuiet_nil ?_
          rintro wz ⟨p1, hwz⟩
          have HBz := hid (show Below wk.heap.size wk wz by rw [hwz]; exact p1.low)
          clear hwz p1
          go_wp2_with fail
          go_meet
          exact ⟨rfl, HBz⟩
      case rest =>
      obtain ⟨rfl, HBc⟩ := hcut
      obtain ⟨wz, rfl⟩ : ∃ wz : World, wz = wc := ⟨_, rfl⟩
      have HBz := hid (below_then HBk.out HBc.out)
      have HOz := hid (World.ownsMap_below HOk.out HBc.out)
      have HTz := hid (HTT.out.keep HBc.out)
      have HXz := hid (HXK.out.keep HBc.out)
      clear m0q m1q m3q m4q m0 m1 m2 m3 m4 HBc g1 g2 g3 g4 g5
      have m0 := HXz.out.cell (i := 0) rfl
      have m1 := HXz.out.cell (i := 1) rfl
      have m0q := fun p : Later wz.heap.size wz => p.keep m0
      have m1q := fun p : Later wz.heap.size wz => p.keep m1
      go_upto_region 17 with fail
      go_cut [119] (fun s119 wx => s119 = .bool false ∧ Hid (Below wz.heap.size wz wx))
      case first =>
        by_cases hi0 : i = 0
        · have hi0' : decide (0 < i) = false := decide_eq_false (by omega)
          have HI0 := hid hi0
          clear hi0
          refine wp_region_later wz.heap.size (by kernel_rfl) (by kernel_rfl) ?_
          repeat (go_big_quiet_step (fail))
          refine wpQuiet_nil ?_
          rintro wy ⟨p1, hwy⟩
          have HBy := hid (show Below wz.heap.size wz wy by rw [hwy]; exact p1.low)
          clear hwy p1
          go_wp2_with fail
          go_meet
          exact ⟨rfl, HBy⟩
        have hi0' : decide (0 < i) = true := decide_eq_true (by omega)
        have hiL2 : i < L.length := by rw [← HML.out]; exact hlt
        have hrp := (HROW.out (i - 1) (by omega)).keep HBz.out
        have hord := HORD.out i (by omega) hiL2
        obtain ⟨P, hPd⟩ : ∃ P, P = L[i - 1] := ⟨_, rfl⟩
        rw [← hPd] at hrp hord
        obtain ⟨Cc, hCd⟩ : ∃ C, C = L[i] := ⟨_, rfl⟩
        rw [← hCd] at hord
        have hcf : Cc.from_ = f := by rw [hCd]; exact HE2.out
        have hct : Cc.to = tz := by rw [hCd, HTZ.out]; exact HE1.out
        obtain ⟨ii, hii⟩ : ∃ ii, ii = i - 1 := ⟨_, rfl⟩
        rw [← hii] at hrp
        obtain ⟨p0, p1, _⟩ := hrp
        obtain ⟨pf, hpf⟩ : ∃ z, z = P.from_ := ⟨_, rfl⟩
        obtain ⟨pt, hpt⟩ : ∃ z, z = P.to := ⟨_, rfl⟩
        rw [← hpf] at p0
        rw [← hpt] at p1
        have hcase : pf < f ∨ (pf = f ∧ pt < tz) := by unfold stLt at hord; rw [hcf, hct, ← hpf, ← hpt] at hord; exact hord
        have hiz : (i : Int) - 1 = (ii : Nat) := by omega
        have hiim : ii < m := by omega
        have p0q := fun p : Later wz.heap.size wz => p.keep p0
        have p1q := fun p : Later wz.heap.size wz => p.keep p1
        have HCA := hid hcase
        clear hord hPd hCd hcf hct hpf hpt hcase hii p0 p1
        rcases HCA.out with hl1 | ⟨hl1, hl2⟩
        · have o1 : decide (f < pf) = false := decide_eq_false (by omega)
          have o2 : (pf == f) = false := beq_eq_false_iff_ne.2 (by omega)
          clear hl1
          refine wp_region_later wz.heap.size (by kernel_rfl) (by kernel_rfl) ?_
          repeat (go_big_quiet_step (fail))
          refine wpQuiet_nil ?_
          rintro wy ⟨p1, hwy⟩
          have HBy := hid (show Below wz.heap.size wz wy by rw [hwy]; exact p1.low)
          clear hwy p1
          go_wp2_with fail
          go_meet
          exact ⟨rfl, HBy⟩
        · subst hl1
          have o1 : decide (tz ≤ pt) = false := decide_eq_false (by omega)
          clear hl2
          refine wp_region_later wz.heap.size (by kernel_rfl) (by kernel_rfl) ?_
          repeat (go_big_quiet_step (fail))
          refine wpQuiet_nil ?_
          rintro wy ⟨p1, hwy⟩
          have HBy := hid (show Below wz.heap.size wz wy by rw [hwy]; exact p1.low)
          clear hwy p1
          go_wp2_with fail
          go_meet
          exact ⟨rfl, HBy⟩
      case rest =>
      obtain ⟨rfl, HBc⟩ := hcut
      obtain ⟨wy, rfl⟩ : ∃ wy : World, wy = wc := ⟨_, rfl⟩
      have HBy := hid (below_then HBz.out HBc.out)
      have HOy := hid (World.ownsMap_below HOz.out HBc.out)
      have HTy := hid (HTz.out.keep HBc.out)
      have HXy := hid (HXz.out.keep HBc.out)
      clear m0q m1q m0 m1 HBc
      have m1 := HXy.out.cell (i := 1) rfl
      have m2 := HXy.out.cell (i := 2) rfl
      have m3 := HXy.out.cell (i := 3) rfl
      have m4 := HXy.out.cell (i := 4) rfl
      have hown := HOy.out
      have hkey : keyOf Tryd.prog 3 (.int .i64 tz) = some (.int .i64 tz) := keyOf_int_mk Tryd.underlying3 (WalkArith.wf_i64 (by have := HTU.out; omega))
      cases hh : has D (.int .i64 tz)
      case false =>
        go_wp2_with (first
          | (at_lookup; refine wpList_lookup_own_ok_int _ rfl _ _ 54 rfl 3 3 .i64 law Tryd.underlying54 Tryd.underlying3 (zeroInt _) mb i D rfl hown _ _ rfl hkey ?_; intro c hat hwc; rw [hh])
          | go_in)
        refine wp_region_later wy.heap.size (by kernel_rfl) (by kernel_rfl) ?_
        repeat (go_big_quiet_step (fail))
        refine wpQuiet_nil ?_
        rintro wx ⟨p2, hwx⟩
        have hbx : Below wy.heap.size wy wx := by rw [hwx]; exact p2.low
        clear hwx p2
        have HOW := hid (World.ownsMap_below HOy.out hbx)
        have HBx := hid (below_then HBy.out hbx)
        have HXx := hid (HXy.out.keep hbx)
        clear hbx hown m1 m2 m3 m4
        have m1 := HXx.out.cell (i := 1) rfl
        have hown := HOW.out
        have him : i < maxLen := by unfold maxLen; omega
        have hival : plainElem (H := Unit) Tryd.prog 3 (.int .i64 (i : Nat)) = some (.lit (.int .i64 (i : Nat)), []) := plainElem_int Tryd.underlying3 (WalkArith.wf_i64 (by omega))
        go_wp2_with (first
          | (at_mapUpdate; refine wpList_mapUpdate_own _ rfl _ _ _ 54 rfl 3 3 law Tryd.underlying54 (plainElem (H := Unit) Tryd.prog 3) mb i _ rfl hown him _ _ _ rfl rfl hkey _ [] hival ?_; intro w8 hown1 hgrow1)
          | go_in)
        go_roundw
        case rel => exact ⟨i + 1, _, by omega, by go_num, HBx.out.grown hgrow1 HBx.out.size (fun q hq => by cases hq; exact hmb5), hown1, HD.out.succ HGD.out.symm⟩
        case measure => simp [intOf]; omega
      case true =>
        obtain ⟨k, hki, hkt, hka⟩ := HD.out.hit tz hh
        have HKC := hid (show ∀ c : Int, D.atKey (.int .i64 tz) (.lit (.int .i64 0)) = .lit (.int .i64 c) → c = ((k : Nat) : Int) from fun c hc => by rw [hka] at hc; injection hc with e; injection e with _ e; exact e.symm)
        have hkL : k < L.length := by omega
        obtain ⟨jk, fk, q1, _, _, _, _, _, q3, q4, q5, _⟩ := HMEM.out k hkL
        rw [show L.getD k default = L[k] by simp [List.getD, hkL], q1] at hkt
        obtain rfl : jk = j := by have := HTZ.out; omega
        rw [← HLB.out] at q3 q4 q5
        simp only at q3 q4 q5
        have hbw5 := HBy.out
        obtain ⟨_, _, k2, k3, k4⟩ := (HROW.out k hkL).keep hbw5
        have hkx := (HTX.out k hkL).keep hbw5
        rw [q3] at k2
        rw [q4] at k3
        rw [q5] at hkx
        obtain ⟨va, vc, hvf, v1, v2, v3, hvr⟩ := hkx.open
        rw [hvf] at k4 hkx
        rw [← HTN.out] at k4 hkx
        have HKX := hid hkx
        have hkm : k < m := by omega
        clear hka hkt q1 q3 q4 q5 hkx hvf hvr v1 v2 v3
        go_wp2_with (first
          | (at_lookup; refine wpList_lookup_own_ok_int _ rfl _ _ 54 rfl 3 3 .i64 law Tryd.underlying54 Tryd.underlying3 (zeroInt _) mb i D rfl hown _ _ rfl hkey ?_; intro c hat hwc; obtain rfl := HKC.out c hat; rw [hh])
          | go_in)
        have LS := hid fun W v v' (h : StepsAt W v [⟨0, 0, lb, ln, lt⟩]) (h' : StepsAt W v' [⟨0, 0, lb, ln, lt⟩]) => lsteps_any v v' _ _ W h h'
        rw [sameSs_refl] at LS
        refine wp_region_held_drew (S := fun w' => w'.cell? ⟨sb, so + k * 5 + 2, none⟩ = some (.bool lb) ∧ w'.cell? ⟨sb, so + k * 5 + 3, none⟩ = some (.bool ln) ∧ w'.cell? ⟨sb, so + k * 5 + 4, none⟩ = some (.slice va tn vc) ∧ w'.cell? ⟨xb, 2, none⟩ = some (.bool lb) ∧ w'.cell? ⟨xb, 3, none⟩ = some (.bool ln) ∧ w'.cell? ⟨xb, 4, none⟩ = some (.slice ta tn tc)) (by kernel_rfl) (⟨below_keep (below_drawn (Below.refl _ _) 1) k2, below_keep (below_drawn (Below.refl _ _) 1) k3, below_keep (below_drawn (Below.refl _ _) 1) k4, below_keep (below_drawn (Below.refl _ _) 1) m2, below_keep (below_drawn (Below.refl _ _) 1) m3, below_keep (below_drawn (Below.refl _ _) 1) m4⟩) (fun hHeld => ?_)
        refine wpAnyH_take (i := 0) (oi := ({ dst := some 127, op := Op.move (Operand.tmp 12), type := 4, pos := "more.go:63", after := #[], guard := none } : Oper)) (v := ?_) rfl (by kernel_rfl) (by kernel_rfl) (by kernel_rfl) (fun _ _ _ h => h) (Or.inl ⟨by rfl, ?_⟩) hHeld ?_
        rotate_left 1
        · intro w9 hw9; (try (obtain ⟨g2, g3, g4, h2, h3, h4⟩ := hw9)); go_simp; try with_reducible rfl
        simp only [Act.put, List.setIfInBounds_toArray, List.set_cons_zero, List.set_cons_succ]
        refine wpAnyH_take (i := 1) (oi := ({ dst := some 128, op := Op.move (Operand.tmp 127), type := 4, pos := "more.go:63", after := #[{ on := 0, ground := Ground.data }], guard := none } : Oper)) (v := ?_) rfl (by kernel_rfl) (by kernel_rfl) (by kernel_rfl) (fun _ _ _ h => h) (Or.inl ⟨by rfl, ?_⟩) hHeld ?_
        rotate_left 1
        · intro w9 hw9; (try (obtain ⟨g2, g3, g4, h2, h3, h4⟩ := hw9)); go_simp; try with_reducible rfl
        simp only [Act.put, List.setIfInBounds_toArray, List.set_cons_zero, List.set_cons_succ]
        refine wpAnyH_take (i := 2) (oi := ({ dst := some 129, op := Op.move (Operand.tmp 7), type := 36, pos := "more.go:63", after := #[{ on := 1, ground := Ground.guard }], guard := some (1, true) } : Oper)) (v := ?_) rfl (by kernel_rfl) (by kernel_rfl) (by kernel_rfl) (fun _ _ _ h => h) (Or.inl ⟨by rfl, ?_⟩) hHeld ?_
        rotate_left 1
        · intro w9 hw9; (try (obtain ⟨g2, g3, g4, h2, h3, h4⟩ := hw9)); go_simp; try with_reducible rfl
        simp only [Act.put, List.setIfInBounds_toArray, List.set_cons_zero, List.set_cons_succ]
        refine wpAnyH_take (i := 3) (oi := ({ dst := some 130, op := Op.move (Operand.tmp 11), type := 3, pos := "more.go:63", after := #[{ on := 1, ground := Ground.guard }], guard := some (1, true) } : Oper)) (v := ?_) rfl (by kernel_rfl) (by kernel_rfl) (by kernel_rfl) (fun _ _ _ h => h) (Or.inl ⟨by rfl, ?_⟩) hHeld ?_
        rotate_left 1
        · intro w9 hw9; (try (obtain ⟨g2, g3, g4, h2, h3, h4⟩ := hw9)); go_simp; try with_reducible rfl
        simp only [Act.put, List.setIfInBounds_toArray, List.set_cons_zero, List.set_cons_succ]
        refine wpAnyH_take (i := 4) (oi := ({ dst := some 131, op := Op.indexAddr 36 (Operand.tmp 129) (Operand.tmp 130), type := 0, pos := "more.go:63", after := #[{ on := 2, ground := Ground.data }, { on := 3, ground := Ground.data }, { on := 1, ground := Ground.guard }], guard := some (1, true) } : Oper)) (v := ?_) rfl (by kernel_rfl) (by kernel_rfl) (by kernel_rfl) (fun _ _ _ h => h) (Or.inl ⟨by rfl, ?_⟩) hHeld ?_
        rotate_left 1
        · intro w9 hw9; (try (obtain ⟨g2, g3, g4, h2, h3, h4⟩ := hw9)); go_simp; try with_reducible rfl
        simp only [Act.put, List.setIfInBounds_toArray, List.set_cons_zero, List.set_cons_succ]
        refine wpAnyH_take (i := 5) (oi := ({ dst := some 132, op := Op.fieldAddr 48 (Operand.tmp 131) 2, type := 0, pos := "more.go:63", after := #[{ on := 4, ground := Ground.data }, { on := 1, ground := Ground.guard }], guard := some (1, true) } : Oper)) (v := ?_) rfl (by kernel_rfl) (by kernel_rfl) (by kernel_rfl) (fun _ _ _ h => h) (Or.inl ⟨by rfl, ?_⟩) hHeld ?_
        rotate_left 1
        · intro w9 hw9; (try (obtain ⟨g2, g3, g4, h2, h3, h4⟩ := hw9)); go_simp; try with_reducible rfl
        simp only [Act.put, List.setIfInBounds_toArray, List.set_cons_zero, List.set_cons_succ]
        refine wpAnyH_take (i := 6) (oi := ({ dst := some 133, op := Op.load 4 (Operand.tmp 132), type := 4, pos := "more.go:63", after := #[{ on := 5, ground := Ground.data }, { on := 1, ground := Ground.guard }], guard := some (1, true) } : Oper)) (v := ?_) rfl (by kernel_rfl) (by kernel_rfl) (by kernel_rfl) (fun _ _ _ h => h) (Or.inl ⟨by rfl, ?_⟩) hHeld ?_
        rotate_left 1
        · intro w9 hw9; (try (obtain ⟨g2, g3, g4, h2, h3, h4⟩ := hw9)); go_simp; try with_reducible rfl
        simp only [Act.put, List.setIfInBounds_toArray, List.set_cons_zero, List.set_cons_succ]
        refine wpAnyH_take (i := 7) (oi := ({ dst := some 134, op := Op.move (Operand.tmp 7), type := 36, pos := "more.go:63", after := #[{ on := 1, ground := Ground.guard }], guard := some (1, true) } : Oper)) (v := ?_) rfl (by kernel_rfl) (by kernel_rfl) (by kernel_rfl) (fun _ _ _ h => h) (Or.inl ⟨by rfl, ?_⟩) hHeld ?_
        rotate_left 1
        · intro w9 hw9; (try (obtain ⟨g2, g3, g4, h2, h3, h4⟩ := hw9)); go_simp; try with_reducible rfl
        simp only [Act.put, List.setIfInBounds_toArray, List.set_cons_zero, List.set_cons_succ]
        refine wpAnyH_take (i := 8) (oi := ({ dst := some 135, op := Op.move (Operand.tmp 11), type := 3, pos := "more.go:63", after := #[{ on := 1, ground := Ground.guard }], guard := some (1, true) } : Oper)) (v := ?_) rfl (by kernel_rfl) (by kernel_rfl) (by kernel_rfl) (fun _ _ _ h => h) (Or.inl ⟨by rfl, ?_⟩) hHeld ?_
        rotate_left 1
        · intro w9 hw9; (try (obtain ⟨g2, g3, g4, h2, h3, h4⟩ := hw9)); go_simp; try with_reducible rfl
        simp only [Act.put, List.setIfInBounds_toArray, List.set_cons_zero, List.set_cons_succ]
        refine wpAnyH_take (i := 9) (oi := ({ dst := some 136, op := Op.indexAddr 36 (Operand.tmp 134) (Operand.tmp 135), type := 0, pos := "more.go:63", after := #[{ on := 7, ground := Ground.data }, { on := 8, ground := Ground.data }, { on := 1, ground := Ground.guard }], guard := some (1, true) } : Oper)) (v := ?_) rfl (by kernel_rfl) (by kernel_rfl) (by kernel_rfl) (fun _ _ _ h => h) (Or.inl ⟨by rfl, ?_⟩) hHeld ?_
        rotate_left 1
        · intro w9 hw9; (try (obtain ⟨g2, g3, g4, h2, h3, h4⟩ := hw9)); go_simp; try with_reducible rfl
        simp only [Act.put, List.setIfInBounds_toArray, List.set_cons_zero, List.set_cons_succ]
        refine wpAnyH_take (i := 10) (oi := ({ dst := some 137, op := Op.fieldAddr 48 (Operand.tmp 136) 3, type := 0, pos := "more.go:63", after := #[{ on := 9, ground := Ground.data }, { on := 1, ground := Ground.guard }], guard := some (1, true) } : Oper)) (v := ?_) rfl (by kernel_rfl) (by kernel_rfl) (by kernel_rfl) (fun _ _ _ h => h) (Or.inl ⟨by rfl, ?_⟩) hHeld ?_
        rotate_left 1
        · intro w9 hw9; (try (obtain ⟨g2, g3, g4, h2, h3, h4⟩ := hw9)); go_simp; try with_reducible rfl
        simp only [Act.put, List.setIfInBounds_toArray, List.set_cons_zero, List.set_cons_succ]
        refine wpAnyH_take (i := 11) (oi := ({ dst := some 138, op := Op.load 4 (Operand.tmp 137), type := 4, pos := "more.go:63", after := #[{ on := 10, ground := Ground.data }, { on := 1, ground := Ground.guard }], guard := some (1, true) } : Oper)) (v := ?_) rfl (by kernel_rfl) (by kernel_rfl) (by kernel_rfl) (fun _ _ _ h => h) (Or.inl ⟨by rfl, ?_⟩) hHeld ?_
        rotate_left 1
        · intro w9 hw9; (try (obtain ⟨g2, g3, g4, h2, h3, h4⟩ := hw9)); go_simp; try with_reducible rfl
        simp only [Act.put, List.setIfInBounds_toArray, List.set_cons_zero, List.set_cons_succ]
        refine wpAnyH_take (i := 12) (oi := ({ dst := some 139, op := Op.move (Operand.tmp 7), type := 36, pos := "more.go:63", after := #[{ on := 1, ground := Ground.guard }], guard := some (1, true) } : Oper)) (v := ?_) rfl (by kernel_rfl) (by kernel_rfl) (by kernel_rfl) (fun _ _ _ h => h) (Or.inl ⟨by rfl, ?_⟩) hHeld ?_
        rotate_left 1
        · intro w9 hw9; (try (obtain ⟨g2, g3, g4, h2, h3, h4⟩ := hw9)); go_simp; try with_reducible rfl
        simp only [Act.put, List.setIfInBounds_toArray, List.set_cons_zero, List.set_cons_succ]
        refine wpAnyH_take (i := 13) (oi := ({ dst := some 140, op := Op.move (Operand.tmp 11), type := 3, pos := "more.go:63", after := #[{ on := 1, ground := Ground.guard }], guard := some (1, true) } : Oper)) (v := ?_) rfl (by kernel_rfl) (by kernel_rfl) (by kernel_rfl) (fun _ _ _ h => h) (Or.inl ⟨by rfl, ?_⟩) hHeld ?_
        rotate_left 1
        · intro w9 hw9; (try (obtain ⟨g2, g3, g4, h2, h3, h4⟩ := hw9)); go_simp; try with_reducible rfl
        simp only [Act.put, List.setIfInBounds_toArray, List.set_cons_zero, List.set_cons_succ]
        refine wpAnyH_take (i := 14) (oi := ({ dst := some 141, op := Op.indexAddr 36 (Operand.tmp 139) (Operand.tmp 140), type := 0, pos := "more.go:63", after := #[{ on := 12, ground := Ground.data }, { on := 13, ground := Ground.data }, { on := 1, ground := Ground.guard }], guard := some (1, true) } : Oper)) (v := ?_) rfl (by kernel_rfl) (by kernel_rfl) (by kernel_rfl) (fun _ _ _ h => h) (Or.inl ⟨by rfl, ?_⟩) hHeld ?_
        rotate_left 1
        · intro w9 hw9; (try (obtain ⟨g2, g3, g4, h2, h3, h4⟩ := hw9)); go_simp; try with_reducible rfl
        simp only [Act.put, List.setIfInBounds_toArray, List.set_cons_zero, List.set_cons_succ]
        refine wpAnyH_take (i := 15) (oi := ({ dst := some 142, op := Op.fieldAddr 48 (Operand.tmp 141) 4, type := 0, pos := "more.go:63", after := #[{ on := 14, ground := Ground.data }, { on := 1, ground := Ground.guard }], guard := some (1, true) } : Oper)) (v := ?_) rfl (by kernel_rfl) (by kernel_rfl) (by kernel_rfl) (fun _ _ _ h => h) (Or.inl ⟨by rfl, ?_⟩) hHeld ?_
        rotate_left 1
        · intro w9 hw9; (try (obtain ⟨g2, g3, g4, h2, h3, h4⟩ := hw9)); go_simp; try with_reducible rfl
        simp only [Act.put, List.setIfInBounds_toArray, List.set_cons_zero, List.set_cons_succ]
        refine wpAnyH_take (i := 16) (oi := ({ dst := some 143, op := Op.load 22 (Operand.tmp 142), type := 22, pos := "more.go:63", after := #[{ on := 15, ground := Ground.data }, { on := 1, ground := Ground.guard }], guard := some (1, true) } : Oper)) (v := ?_) rfl (by kernel_rfl) (by kernel_rfl) (by kernel_rfl) (fun _ _ _ h => h) (Or.inl ⟨by rfl, ?_⟩) hHeld ?_
        rotate_left 1
        · intro w9 hw9; (try (obtain ⟨g2, g3, g4, h2, h3, h4⟩ := hw9)); go_simp; try with_reducible rfl
        simp only [Act.put, List.setIfInBounds_toArray, List.set_cons_zero, List.set_cons_succ]
        refine wpAnyH_take (i := 17) (oi := ({ dst := some 144, op := Op.build 48 #[(0, Operand.const (Value.int IntKind.i64 0)), (1, Operand.const (Value.int IntKind.i64 0)), (2, Operand.tmp 133), (3, Operand.tmp 138), (4, Operand.tmp 143)], type := 48, pos := "more.go:63", after := #[{ on := 6, ground := Ground.data }, { on := 11, ground := Ground.data }, { on := 16, ground := Ground.data }, { on := 1, ground := Ground.guard }], guard := some (1, true) } : Oper)) (v := ?_) rfl (by kernel_rfl) (by kernel_rfl) (by kernel_rfl) (fun _ _ _ h => h) (Or.inl ⟨by rfl, ?_⟩) hHeld ?_
        rotate_left 1
        · intro w9 hw9; (try (obtain ⟨g2, g3, g4, h2, h3, h4⟩ := hw9)); go_simp; try with_reducible rfl
        simp only [Act.put, List.setIfInBounds_toArray, List.set_cons_zero, List.set_cons_succ]
        refine wpAnyH_take (i := 19) (oi := ({ dst := some 146, op := Op.fieldAddr 48 (Operand.tmp 10) 2, type := 0, pos := "more.go:63", after := #[{ on := 1, ground := Ground.guard }], guard := some (1, true) } : Oper)) (v := ?_) rfl (by kernel_rfl) (by kernel_rfl) (by kernel_rfl) (fun _ _ _ h => h) (Or.inl ⟨by rfl, ?_⟩) hHeld ?_
        rotate_left 1
        · intro w9 hw9; (try (obtain ⟨g2, g3, g4, h2, h3, h4⟩ := hw9)); go_simp; try with_reducible rfl
        simp only [Act.put, List.setIfInBounds_toArray, List.set_cons_zero, List.set_cons_succ]
        refine wpAnyH_take (i := 20) (oi := ({ dst := some 147, op := Op.load 4 (Operand.tmp 146), type := 4, pos := "more.go:63", after := #[{ on := 19, ground := Ground.data }, { on := 1, ground := Ground.guard }], guard := some (1, true) } : Oper)) (v := ?_) rfl (by kernel_rfl) (by kernel_rfl) (by kernel_rfl) (fun _ _ _ h => h) (Or.inl ⟨by rfl, ?_⟩) hHeld ?_
        rotate_left 1
        · intro w9 hw9; (try (obtain ⟨g2, g3, g4, h2, h3, h4⟩ := hw9)); go_simp; try with_reducible rfl
        simp only [Act.put, List.setIfInBounds_toArray, List.set_cons_zero, List.set_cons_succ]
        refine wpAnyH_take (i := 21) (oi := ({ dst := some 148, op := Op.fieldAddr 48 (Operand.tmp 10) 3, type := 0, pos := "more.go:63", after := #[{ on := 1, ground := Ground.guard }], guard := some (1, true) } : Oper)) (v := ?_) rfl (by kernel_rfl) (by kernel_rfl) (by kernel_rfl) (fun _ _ _ h => h) (Or.inl ⟨by rfl, ?_⟩) hHeld ?_
        rotate_left 1
        · intro w9 hw9; (try (obtain ⟨g2, g3, g4, h2, h3, h4⟩ := hw9)); go_simp; try with_reducible rfl
        simp only [Act.put, List.setIfInBounds_toArray, List.set_cons_zero, List.set_cons_succ]
        refine wpAnyH_take (i := 22) (oi := ({ dst := some 149, op := Op.load 4 (Operand.tmp 148), type := 4, pos := "more.go:63", after := #[{ on := 21, ground := Ground.data }, { on := 1, ground := Ground.guard }], guard := some (1, true) } : Oper)) (v := ?_) rfl (by kernel_rfl) (by kernel_rfl) (by kernel_rfl) (fun _ _ _ h => h) (Or.inl ⟨by rfl, ?_⟩) hHeld ?_
        rotate_left 1
        · intro w9 hw9; (try (obtain ⟨g2, g3, g4, h2, h3, h4⟩ := hw9)); go_simp; try with_reducible rfl
        simp only [Act.put, List.setIfInBounds_toArray, List.set_cons_zero, List.set_cons_succ]
        refine wpAnyH_take (i := 23) (oi := ({ dst := some 150, op := Op.fieldAddr 48 (Operand.tmp 10) 4, type := 0, pos := "more.go:63", after := #[{ on := 1, ground := Ground.guard }], guard := some (1, true) } : Oper)) (v := ?_) rfl (by kernel_rfl) (by kernel_rfl) (by kernel_rfl) (fun _ _ _ h => h) (Or.inl ⟨by rfl, ?_⟩) hHeld ?_
        rotate_left 1
        · intro w9 hw9; (try (obtain ⟨g2, g3, g4, h2, h3, h4⟩ := hw9)); go_simp; try with_reducible rfl
        simp only [Act.put, List.setIfInBounds_toArray, List.set_cons_zero, List.set_cons_succ]
        refine wpAnyH_take (i := 24) (oi := ({ dst := some 151, op := Op.load 22 (Operand.tmp 150), type := 22, pos := "more.go:63", after := #[{ on := 23, ground := Ground.data }, { on := 1, ground := Ground.guard }], guard := some (1, true) } : Oper)) (v := ?_) rfl (by kernel_rfl) (by kernel_rfl) (by kernel_rfl) (fun _ _ _ h => h) (Or.inl ⟨by rfl, ?_⟩) hHeld ?_
        rotate_left 1
        · intro w9 hw9; (try (obtain ⟨g2, g3, g4, h2, h3, h4⟩ := hw9)); go_simp; try with_reducible rfl
        simp only [Act.put, List.setIfInBounds_toArray, List.set_cons_zero, List.set_cons_succ]
        refine wpAnyH_take (i := 25) (oi := ({ dst := some 152, op := Op.build 48 #[(2, Operand.tmp 147), (3, Operand.tmp 149), (4, Operand.tmp 151)], type := 48, pos := "more.go:63", after := #[{ on := 20, ground := Ground.data }, { on := 22, ground := Ground.data }, { on := 24, ground := Ground.data }, { on := 1, ground := Ground.guard }], guard := some (1, true) } : Oper)) (v := ?_) rfl (by kernel_rfl) (by kernel_rfl) (by kernel_rfl) (fun _ _ _ h => h) (Or.inl ⟨by rfl, ?_⟩) hHeld ?_
        rotate_left 1
        · intro w9 hw9; (try (obtain ⟨g2, g3, g4, h2, h3, h4⟩ := hw9)); go_simp; try with_reducible rfl
        simp only [Act.put, List.setIfInBounds_toArray, List.set_cons_zero, List.set_cons_succ]
        refine nameO ?_
        intro O T DD QQ SS hO hT hDD hQQ hSS
        dsimp only at hT hDD
        subst hDD
        have HPAN := hid (show ∀ e (a : Act) (d : Option Nat) v w, QQ (.panic e) (a.put d v) w → QQ (.panic e) a w from by rw [hQQ]; intro e a d v w h; first | exact h | (unfold Act.put at h; split at h <;> exact h))
        have HS9 := hid (show ∀ W, Below wy.heap.size wy W → SS W from by rw [hSS]; exact fun W hb => ⟨below_keep hb k2, below_keep hb k3, below_keep hb k4, below_keep hb m2, below_keep hb m3, below_keep hb m4⟩)
        clear hSS hHeld
        have g11 : ∀ (W : World) (q18 : Nat) (q26 : Nat), Below wy.heap.size wy W → (Blk W q18 [.int .i64 0, .int .i64 0, .bool lb, .bool ln, .slice va tn vc] 48 ∧ wy.heap.size ≤ q18) → (Blk W q26 [.int .i64 0, .int .i64 0, .bool lb, .bool ln, .slice ta tn tc] 48 ∧ wy.heap.size ≤ q26) → q18 ≠ q26 → wpAnyH Tryd.prog .any O QQ SS 3 #[true, true, true, true, true, true, true, true, true, true, true, true, true, true, true, true, true, true, true, true, true, true, true, true, true, true, true, false, false, false] ⟨((T.setIfInBounds 145 (.slice (some ⟨q18, 0, none⟩) 1 1)).setIfInBounds 153 (.slice (some ⟨q26, 0, none⟩) 1 1)), []⟩ W := by
          intro W q18 q26 hB h_q18 h_q26 n_q18_q26
          subst hO
          subst hT
          (try simp only [List.setIfInBounds_toArray, List.set_cons_zero, List.set_cons_succ])
          have hHeld := HS9.out W hB
          refine wpAnyH_ready (rs := [27]) (by kernel_rfl) (by simp) ?_
          refine AllReadyH.cons (o := ({ dst := some 154, op := Op.call { callee := Callee.value (Operand.func 18), args := #[Operand.tmp 145, Operand.tmp 153], argTypes := #[36, 36] }, type := 4, pos := "more.go:63", after := #[{ on := 18, ground := Ground.data }, { on := 26, ground := Ground.data }, { on := 1, ground := Ground.chain }, { on := 1, ground := Ground.guard }], guard := some (1, true) } : Oper)) rfl (fun K hK => ?_) AllReadyH.nil
          go_simp
          go_at_call 18
          refine (LS.out _ _ _ (st_one (s := ⟨0, 0, lb, ln, lt⟩) h_q18.1 (HKX.out.keep hB)) (st_one (s := ⟨0, 0, lb, ln, lt⟩) h_q26.1 (HTy.out.keep hB))).mono ?_
          rintro e w9 ⟨rfl, hb⟩
          have hb9 := below_then hB hb
          refine hK.out _ _ (HS9.out _ hb9) (fun hHeld => ?_)
          clear hK K hb
          (try simp only [Act.put, List.setIfInBounds_toArray, List.set_cons_zero, List.set_cons_succ])
          refine wpAnyH_take (i := 28) (oi := ({ dst := some 155, op := Op.unOp UnOp.not 4 (Operand.tmp 154), type := 4, pos := "more.go:63", after := #[{ on := 27, ground := Ground.data }, { on := 1, ground := Ground.guard }], guard := some (1, true) } : Oper)) (v := ?_) rfl (by kernel_rfl) (by kernel_rfl) (by kernel_rfl) (fun e a w h => HPAN.out e _ _ _ w h) (Or.inl ⟨by rfl, ?_⟩) hHeld ?_
          rotate_left 1
          · intro w9 hw9; skip; go_simp; try with_reducible rfl
          simp only [Act.put, List.setIfInBounds_toArray, List.set_cons_zero, List.set_cons_succ]
          refine wpAnyH_take (i := 29) (oi := ({ dst := some 156, op := Op.pick (Operand.tmp 128) (Operand.tmp 155) (Operand.const (Value.bool false)), type := 4, pos := "more.go:63", after := #[{ on := 1, ground := Ground.data }, { on := 28, ground := Ground.data }], guard := none } : Oper)) (v := ?_) rfl (by kernel_rfl) (by kernel_rfl) (by kernel_rfl) (fun e a w h => HPAN.out e _ _ _ w h) (Or.inl ⟨by rfl, ?_⟩) hHeld ?_
          rotate_left 1
          · intro w9 hw9; skip; go_simp; try with_reducible rfl
          simp only [Act.put, List.setIfInBounds_toArray, List.set_cons_zero, List.set_cons_succ]
          refine wpAnyH_done (by kernel_rfl) ?_ _
          rw [hQQ]
          clear hQQ
          (try simp only [List.setIfInBounds_toArray, List.set_cons_zero, List.set_cons_succ])
          have hbx := hb9
          clear hb9 hB h_q18 h_q26 n_q18_q26 hHeld
          have HOW := hid (World.ownsMap_below HOy.out hbx)
          have HBx := hid (below_then HBy.out hbx)
          have HXx := hid (HXy.out.keep hbx)
          clear hbx hown m1 m2 m3 m4
          have m1 := HXx.out.cell (i := 1) rfl
          have hown := HOW.out
          have him : i < maxLen := by unfold maxLen; omega
          have hival : plainElem (H := Unit) Tryd.prog 3 (.int .i64 (i : Nat)) = some (.lit (.int .i64 (i : Nat)), []) := plainElem_int Tryd.underlying3 (WalkArith.wf_i64 (by omega))
          go_wp2_with (first
            | (at_mapUpdate; refine wpList_mapUpdate_own _ rfl _ _ _ 54 rfl 3 3 law Tryd.underlying54 (plainElem (H := Unit) Tryd.prog 3) mb i _ rfl hown him _ _ _ rfl rfl hkey _ [] hival ?_; intro w8 hown1 hgrow1)
            | go_in)
          go_roundw
          case rel => exact ⟨i + 1, _, by omega, by go_num, HBx.out.grown hgrow1 HBx.out.size (fun q hq => by cases hq; exact hmb5), hown1, HD.out.succ HGD.out.symm⟩
          case measure => simp [intOf]; omega
        have g10 : ∀ (W : World) (q18 : Nat), Below wy.heap.size wy W → (Blk W q18 [.int .i64 0, .int .i64 0, .bool lb, .bool ln, .slice va tn vc] 48 ∧ wy.heap.size ≤ q18) → wpAnyH Tryd.prog .any O QQ SS 4 #[true, true, true, true, true, true, true, true, true, true, true, true, true, true, true, true, true, true, true, true, true, true, true, true, true, true, false, false, false, false] ⟨(T.setIfInBounds 145 (.slice (some ⟨q18, 0, none⟩) 1 1)), []⟩ W := by
          intro W q18 hB h_q18
          subst hO
          subst hT
          have G11 := hid g11
          clear g11 hQQ
          have H_q18 := hid h_q18
          have HB := hid hB
          have hHeld := HS9.out W hB
          clear hB h_q18
          (try simp only [List.setIfInBounds_toArray, List.set_cons_zero, List.set_cons_succ])
          refine wpAnyH_ready (rs := [26]) (by kernel_rfl) (by simp) ?_
          refine AllReadyH.cons (o := ({ dst := some 153, op := Op.buildSlice 36 1 #[(0, Operand.tmp 152)], type := 36, pos := "more.go:63", after := #[{ on := 25, ground := Ground.data }, { on := 1, ground := Ground.guard }], guard := some (1, true) } : Oper)) rfl (fun K hK => ?_) ?_
          · go_simp
            refine hK.out _ _ (HS9.out _ (HB.out.alloc HB.out.size _)) (fun hHeld => ?_)
            clear hK K
            (try simp only [Act.put, List.setIfInBounds_toArray, List.set_cons_zero, List.set_cons_succ])
            have G := G11.out _ q18 W.heap.size (HB.out.alloc HB.out.size _) ⟨H_q18.out.1.alloc _, H_q18.out.2⟩ ⟨Blk.new' rfl rfl, HB.out.size⟩ (Nat.ne_of_lt H_q18.out.1.lt)
            (try simp only [List.setIfInBounds_toArray, List.set_cons_zero, List.set_cons_succ] at G)
            exact G
          exact AllReadyH.nil
        have g01 : ∀ (W : World) (q26 : Nat), Below wy.heap.size wy W → (Blk W q26 [.int .i64 0, .int .i64 0, .bool lb, .bool ln, .slice ta tn tc] 48 ∧ wy.heap.size ≤ q26) → wpAnyH Tryd.prog .any O QQ SS 4 #[true, true, true, true, true, true, true, true, true, true, true, true, true, true, true, true, true, true, false, true, true, true, true, true, true, true, true, false, false, false] ⟨(T.setIfInBounds 153 (.slice (some ⟨q26, 0, none⟩) 1 1)), []⟩ W := by
          intro W q26 hB h_q26
          clear g10
          subst hO
          subst hT
          have G11 := hid g11
          clear g11 hQQ
          have H_q26 := hid h_q26
          have HB := hid hB
          have hHeld := HS9.out W hB
          clear hB h_q26
          (try simp only [List.setIfInBounds_toArray, List.set_cons_zero, List.set_cons_succ])
          refine wpAnyH_ready (rs := [18]) (by kernel_rfl) (by simp) ?_
          refine AllReadyH.cons (o := ({ dst := some 145, op := Op.buildSlice 36 1 #[(0, Operand.tmp 144)], type := 36, pos := "more.go:63", after := #[{ on := 17, ground := Ground.data }, { on := 1, ground := Ground.guard }], guard := some (1, true) } : Oper)) rfl (fun K hK => ?_) ?_
          · go_simp
            refine hK.out _ _ (HS9.out _ (HB.out.alloc HB.out.size _)) (fun hHeld => ?_)
            clear hK K
            (try simp only [Act.put, List.setIfInBounds_toArray, List.set_cons_zero, List.set_cons_succ])
            have G := G11.out _ W.heap.size q26 (HB.out.alloc HB.out.size _) ⟨Blk.new' rfl rfl, HB.out.size⟩ ⟨H_q26.out.1.alloc _, H_q26.out.2⟩ (Nat.ne_of_gt H_q26.out.1.lt)
            (try simp only [List.setIfInBounds_toArray, List.set_cons_zero, List.set_cons_succ] at G)
            exact G
          exact AllReadyH.nil
        have g00 : ∀ (W : World), Below wy.heap.size wy W → wpAnyH Tryd.prog .any O QQ SS 5 #[true, true, true, true, true, true, true, true, true, true, true, true, true, true, true, true, true, true, false, true, true, true, true, true, true, true, false, false, false, false] ⟨T, []⟩ W := by
          intro W hB
          clear g11
          subst hO
          subst hT
          have G10 := hid g10
          have G01 := hid g01
          clear g10 g01 hQQ
          have HB := hid hB
          have hHeld := HS9.out W hB
          clear hB 
          (try simp only [List.setIfInBounds_toArray, List.set_cons_zero, List.set_cons_succ])
          refine wpAnyH_ready (rs := [18, 26]) (by kernel_rfl) (by simp) ?_
          refine AllReadyH.cons (o := ({ dst := some 145, op := Op.buildSlice 36 1 #[(0, Operand.tmp 144)], type := 36, pos := "more.go:63", after := #[{ on := 17, ground := Ground.data }, { on := 1, ground := Ground.guard }], guard := some (1, true) } : Oper)) rfl (fun K hK => ?_) ?_
          · go_simp
            refine hK.out _ _ (HS9.out _ (HB.out.alloc HB.out.size _)) (fun hHeld => ?_)
            clear hK K
            (try simp only [Act.put, List.setIfInBounds_toArray, List.set_cons_zero, List.set_cons_succ])
            have G := G10.out _ W.heap.size (HB.out.alloc HB.out.size _) ⟨Blk.new' rfl rfl, HB.out.size⟩
            (try simp only [List.setIfInBounds_toArray, List.set_cons_zero, List.set_cons_succ] at G)
            exact G
          refine AllReadyH.cons (o := ({ dst := some 153, op := Op.buildSlice 36 1 #[(0, Operand.tmp 152)], type := 36, pos := "more.go:63", after := #[{ on := 25, ground := Ground.data }, { on := 1, ground := Ground.guard }], guard := some (1, true) } : Oper)) rfl (fun K hK => ?_) ?_
          · go_simp
            refine hK.out _ _ (HS9.out _ (HB.out.alloc HB.out.size _)) (fun hHeld => ?_)
            clear hK K
            (try simp only [Act.put, List.setIfInBounds_toArray, List.set_cons_zero, List.set_cons_succ])
            have G := G01.out _ W.heap.size (HB.out.alloc HB.out.size _) ⟨Blk.new' rfl rfl, HB.out.size⟩
            (try simp only [List.setIfInBounds_toArray, List.set_cons_zero, List.set_cons_succ] at G)
            exact G
          exact AllReadyH.nil
        exact g00 _ (below_drawn (Below.refl _ _) 1)
    obtain rfl : i = m := by omega
    have hsz := HFIN.out D (by rw [← HML.out]; exact HD.out)
    have hq : (((Go.Maps.size D : Nat) : Int) == nz - 1) = true := by rw [hsz, HNZ.out]; simp; omega
    have hq2 : Go.Maps.size D ≤ 31 := by have := HNZ.out; omega
    obtain ⟨sz, hszd⟩ : ∃ z, z = Go.Maps.size D := ⟨_, rfl⟩
    rw [← hszd] at hq hq2
    have HSZ := hid hszd
    have hown := HO.out
    have x0 := below_keep HBr.out x0
    have x1 := below_keep HBr.out x1
    have x2 := below_keep HBr.out x2
    have x3 := below_keep HBr.out x3
    have HB9 := hid (below_then HB5.out HBr.out)
    clear hsz hszd
    go_wp2_with (first
      | (at_len; refine wpList_len_own _ rfl _ 54 rfl 3 3 Tryd.underlying54 _ mb i _ rfl hown ?_; rw [← HSZ.out])
      | (go_at_call 17; refine (PLr.out _ HBr.out).mono ?_; rintro e wq ⟨rfl, hw⟩; rw [hw]; clear hw wq)
      | (go_at_call 26; refine (RI.out _ HB9.out).mono ?_; rintro e w8 ⟨rfl, hb8⟩; have HB10 := hid (below_then HB9.out hb8); clear hb8)
      | (go_at_call 16; refine (KN.out _ HB10.out).mono ?_; rintro e w9 ⟨rfl, hb9⟩)
      | go_in)
    go_ret
    exact early.out _ _ rfl (below_then HB10.out hb9)

theorem autoSteps_walk (H : Type) (enc : TypeId × Value → H) (W : World) (base : Nat) (args : Array Value) (ds gs : List (DataW H)) (before : List MemPlace)
    (hval : ∀ (j : Nat) t v, Tryd.f11.params[j]? = some t → args[j]? = some v → Value.okWide Tryd.prog W .any base t v)
    (hW : DataW.Whole enc Tryd.prog Tryd.f11.params.toList Rows.autoStepsSpec.vars false W args.toList ds gs before)
    (hz : (DataW.weightsEach Tryd.prog (Tryd.f11.params.toList ++ Rows.autoStepsSpec.plain.varTypes Tryd.prog) (ds ++ gs)).all (· ≤ reachBytes) = true)
    (hL : laidMetH Tryd.prog Rows.autoStepsRow.laid W) (hsh : W.ShapedOpen Tryd.prog) :
    Calls Tryd.prog 11 args W fun e W' => e = .returned (.bool true) ∧ Below W.heap.size W W' := by
  obtain ⟨p, q, hA, _, _, _, _⟩ := hW
  rw [Tryd.params11] at hA hval
  rw [Tryd.params11] at hz
  obtain ⟨v0, vs0, d0, ds0, p0, q0, hargs, rfl, rfl, h0, r0⟩ := trodAll_cons hA
  obtain ⟨rfl, rfl, rfl⟩ := trodAll_nil r0
  obtain rfl : args = #[v0] := by cases args; simp_all
  obtain ⟨y0, a0, b0, rfl, P0⟩ := arg_pt (hval 0 25 v0 rfl rfl) h0 (sized_arg hz (j := 0) (t := 25) (d := d0) rfl rfl)
  exact autoSteps_any y0 a0 b0 W P0 (t8_of hL hsh)

theorem autoSteps_lifted (os : Os) (started : os.Started) (H : Type) (enc : TypeId × Value → H) (F : Stop.Interp) :
    ReturnsInHanded {} Tryd.checked os 11 .any ((OpenSpec.ofChange Rows.autoStepsSpec).preRow enc Tryd.prog Tryd.f11 Rows.autoStepsRow.domain false Rows.autoStepsRow.laid) (((OpenSpec.ofChange Rows.autoStepsSpec).at F).post enc Tryd.prog Tryd.f11 false true false false) := by
  obtain ⟨places, hx⟩ : ∃ places, DataW.whole enc Tryd.prog ((laidWorld os).forCall (fun _ _ => 0) ⟨#[], #[.agg #[.int .i64 0, .string ByteArray.empty, .slice none 0 0, .slice none 0 0]], []⟩).memory Tryd.f11.params.toList Rows.autoStepsSpec.vars false (#[.agg #[.int .i64 0, .string ByteArray.empty, .slice none 0 0, .slice none 0 0]] : Array Value).toList 8 = some ([.agg [.lit (.int .i64 0), .lit (.string []), .nil, .nil]], [], places) := ⟨[], by kernel_rfl⟩
  refine returnsInHanded_of_row (C := Tryd.checked) (s := OpenSpec.ofChange Rows.autoStepsSpec) own started (by kernel_rfl) Tryd.func11
    (witness_row_at (enc := enc) (C := Tryd.checked) false (laidWorld os) #[.agg #[.int .i64 0, .string ByteArray.empty, .slice none 0 0, .slice none 0 0]] rfl (by kernel_rfl) (by kernel_rfl) (by kernel_rfl)
      (OpenSpec.preRow_of_cond 8 hx (by kernel_rfl) (fun k hk => by cases hk) (by kernel_rfl) (laidMet_of_run' 8 (by kernel_rfl) (by kernel_rfl)))) ?_
  intro W base args ds gs before hval hW _ _ hz hL hsh _
  refine (autoSteps_walk H enc W base args ds gs before hval hW hz hL hsh).mono fun e W' ⟨he, hb⟩ => ⟨_, he, ?_⟩
  exact law_post (fn := Tryd.f11) (s := Rows.autoStepsSpec) (tb := 4) rfl (fun ds hd => by match ds, hd with | [d0], _ => rfl) rfl Tryd.underlying4 (by kernel_rfl) hW hb

theorem autoSteps_said : Rows.AutoStepsSaid :=
  OpenClaim.holds_of_cond 11 Tryd.f11 rfl rfl rfl rfl rfl rfl rfl ⟨rfl, rfl, rfl, rfl, rfl⟩ rfl rfl rfl rfl rfl (by kernel_rfl) Tryd.func11 (by kernel_rfl)
    (of_decide_eq_true (by kernel_rfl)) (by unfold Func.isWrapper; first | (rw [if_pos (by decide +kernel)]; kernel_rfl) | (rw [if_neg (by decide +kernel)]; exact ⟨rfl, rfl⟩))
    (fun os started H enc _ F => by rw [OpenClaim.pre_eq_preRow]; exact autoSteps_lifted os started H enc F)

theorem autoSteps_plain (f : FuncId) (fn : Func) (hf : Tryd.pinned.checked.prog.funcNamed Rows.autoStepsRow.func = some f) (hfn : Tryd.pinned.checked.prog.funcs[f]? = some fn) :
    false = Tryd.pinned.checked.prog.looks [] ∧ ∀ (j : Nat) t, fn.params[j]? = some t → Tryd.pinned.checked.prog.wantsStandIn t = false := by
  obtain rfl : f = 11 := Option.some.inj ((show Tryd.prog.funcNamed Rows.autoStepsRow.func = some 11 by kernel_rfl).symm.trans hf) |>.symm
  obtain rfl : fn = Tryd.f11 := (Option.some.inj (Tryd.func11.symm.trans hfn)).symm
  refine ⟨by kernel_rfl, fun j t ht => ?_⟩
  have h := Array.mem_of_getElem? ht
  have hall : Tryd.f11.params.all (fun t => !Tryd.prog.wantsStandIn t) = true := by kernel_rfl
  have := Array.all_eq_true_iff_forall_mem.1 hall t h
  show Tryd.prog.wantsStandIn t = false
  simpa using this

/-- THE STATEMENT. -/
theorem autoSteps_card : Rows.AutoStepsCardSaid :=
  Claim7.holds_tied_plain_at .later [] _ _ _ _ autoSteps_said (fun _ h => by cases h) (by kernel_rfl) (fun _ h => by cases h) autoSteps_row_tie rfl ⟨rfl, rfl⟩ (by kernel_rfl) rfl autoSteps_plain (by kernel_rfl)
end Go.Proofs.YtobcbaeoedpefaaDoor
