/- query's reader of paths: a step. -/
import Derived.Test.YtagmgkplfhlifaaDoorQpNot
import Derived.WalkMore
namespace Go.Proofs.YtagmgkplfhlifaaDoor
set_option linter.unusedVariables false
set_option linter.unusedSimpArgs false
set_option maxRecDepth 100000
open Go.ChangeShapes Go.WideShapes Go.ChangeAt Go.RowKit
open Au
set_option maxHeartbeats 8000000 in
theorem qstep_any (W0 : World) (q : Nat) (l : T) (d : Int) (bk : T → Res) (hl : l.length ≤ 100000000) (hq : W0.heap.size ≤ q) (HK : Hid (Reads W0 q l 89 #[.pointer (some ⟨q, 0, none⟩), .int .i64 d] bk)) :
    Reads W0 q l 78 #[.pointer (some ⟨q, 0, none⟩), .int .i64 d] (Qp.step bk) := by
  intro i w hr hi hB
  have hq1 := hr.lt
  obtain ⟨w1, hw1⟩ : ∃ w1, w1 = w.alloc (.cells #[.int .i64 0, .string ⟨#[]⟩, .slice none 0 0, .slice none 0 0] 25) := ⟨_, rfl⟩
  have hb1 : Below w.heap.size w w1 := by rw [hw1]; exact (Below.refl _ _).alloc (Nat.le_refl _) _
  have HRB := hid (show Blk w1 w.heap.size [.int .i64 0, .string ⟨#[]⟩, .slice none 0 0, .slice none 0 0] 25 by rw [hw1]; exact Blk.new w _ _)
  have HB1 := hid hb1
  have hsz1 : w1.heap.size = w.heap.size + 1 := by rw [hw1]; simp
  have BK := HK.out i w1 (hr.keep hb1) hi (hB.trans (hb1.mono hB.size))
  have HB := hid hB
  unfold RdPost at BK
  have BK := hid BK
  obtain ⟨rb, hrb⟩ : ∃ b, b = w.heap.size := ⟨_, rfl⟩
  go_enter Tryd.func78, Tryd.ntmps78
  go_upto_region 1 with fail
  rw [← hw1, ← hrb]
  rw [← hrb] at HRB
  have hrw1 : rb < w1.heap.size := by omega
  have hqw1 : q < w1.heap.size := by omega
  have hrb2 : rb ≠ q := by omega
  have HRBE := hid hrb
  have HSZ1 := hid hsz1
  clear hw1 hb1 hr hB HK hrb hsz1
  go_step3
  go_wp2_with fail
  refine BK.out.mono ?_
  rintro e w2 ⟨x, a, a', n, c, n', c', no, j, rfl, hij, hj, hR2, hF2, hP2, hres⟩
  have HF2 := hid hF2
  have HRB2 := hid (HRB.out.frm hF2 (fun e => hrb2 e))
  obtain ⟨w3, hw3⟩ : ∃ w3, w3 = w2.alloc (.cells #[.int .i64 x.kind, .string ⟨x.text.toArray⟩, .slice a n c, .slice a' n' c'] 25) := ⟨_, rfl⟩
  have hb3 : Below w2.heap.size w2 w3 := by rw [hw3]; exact (Below.refl _ _).alloc (Nat.le_refl _) _
  obtain ⟨pb, hpb⟩ : ∃ b, b = w2.heap.size := ⟨_, rfl⟩
  have HPB := hid (show Blk w3 pb [.int .i64 x.kind, str x.text, .slice a n c, .slice a' n' c'] 25 by rw [hw3, hpb]; exact Blk.new w2 _ _)
  have HRB3 := hid (HRB2.out.keep hb3)
  have HR3 := hid (hR2.keep hb3)
  have hs2 := hF2.size
  have hpr : pb ≠ rb := by omega
  have hpq : pb ≠ q := by omega
  have hpw : w1.heap.size ≤ pb := by omega
  have HF3 := hid ((hF2.trans (Frm.of_below (X := isQ q) hb3) (fun _ _ e => e)))
  have HP3 := hid (hP2.frm (Y := fun _ => False) (Z := fun k => k < w1.heap.size ∨ k = pb) (Frm.of_below hb3) (fun _ _ e => e.elim) (fun k hk e => e.elim id (fun e => by omega)))
  have HRES := hid hres
  clear hR2 hF2 hP2 hb3 hres HF2 HRB2 HRB BK
  go_wp2
  go_step3
  rw [← hw3, ← hpb]
  clear hw3 hpb hs2
  by_cases hno : no = 0
  case neg =>
    have b1 : (no == 0) = false := beq_eq_false_iff_ne.2 hno
    have HE := hid (show Qp.step bk (l.drop i) = .err no (l.drop j) by
      rcases HRES.out with ⟨h, _⟩ | ⟨_, h⟩
      · exact absurd h hno
      · unfold Qp.step; rw [h])
    have HNO := hid hno
    clear hno
    go_wp2
    go_loopg [] 1 (fun gk wr => wr = w3)
    case atStart => rfl
    case round =>
      subst hrel
      obtain ⟨p0, p1, p2, p3⟩ := blk4 HPB.out
      obtain ⟨r0, r1, r2, r3⟩ := blk4 HRB3.out
      have f0 := HRB3.out.free 0
      have f1 := HRB3.out.free 1
      have f2 := HRB3.out.free 2
      have f3 := HRB3.out.free 3
      unfold str at p1
      have HZ := hid (put4_blk HRB3.out (.int .i64 x.kind) (.string ⟨x.text.toArray⟩) (.slice a n c) (.slice a' n' c'))
      have HQ := hid (show Qr (put4 wr rb (.int .i64 x.kind) (.string ⟨x.text.toArray⟩) (.slice a n c) (.slice a' n' c')) q l j from put4_other HR3.out (Ne.symm hrb2) _ _ _ _)
      have HFZ := hid (put4_frm (Y := isQ q) (w := w) (b := rb) (X := wr) ((Frm.of_below (X := isQ q) HB1.out).trans HF3.out (fun _ _ e => e)) (Or.inr (by have := HRBE.out; omega)) (.int .i64 x.kind) (.string ⟨x.text.toArray⟩) (.slice a n c) (.slice a' n' c'))
      have HPZ := hid (HP3.out.frm (Y := fun k => k = rb) (Z := fun k => k < w.heap.size) (put4_frm (Y := fun k => k = rb) (Frm.refl _ wr) (Or.inl rfl) (.int .i64 x.kind) (.string ⟨x.text.toArray⟩) (.slice a n c) (.slice a' n' c')) (fun k _ e => Or.inl (by have e : k = rb := e; omega)) (fun k _ e => Or.inl (by have := HRBE.out; have e : k < w.heap.size := e; omega)))
      go_wp2
      rw [Exit.noGoto_ret]
      refine bodyPost_ret (v := .tuple #[.agg #[.int .i64 x.kind, .string ⟨x.text.toArray⟩, .slice a n c, .slice a' n' c'], .int .i64 no]) (path_ret2 (s := 4) (t := 5) rfl rfl HZ.out Tryd.results78) rfl ?_
      exact ⟨x, a, a', n, c, n', c', no, j, rfl, hij, hj, HQ.out, HFZ.out, HPZ.out, Or.inr ⟨HNO.out, HE.out⟩⟩
  subst hno
  obtain ⟨ANS, hANS⟩ : ∃ z, z = Qp.step bk (l.drop i) := ⟨_, rfl⟩
  have HM0 := hid (show ∃ m, (l.drop j).length < m ∧ Qp.stepGo m x (l.drop j) = ANS by
    rcases HRES.out with ⟨_, h⟩ | ⟨h, _⟩
    · refine ⟨(l.drop j).length + 1, by omega, ?_⟩
      rw [hANS]; unfold Qp.step; rw [h]
    · exact absurd rfl h)
  have HAN := hid hANS
  clear hANS HRES
  go_wp2
  go_loopg [] (l.length + 1) (fun gk wr => ∃ (x : Pt) (a a' : Option Addr) (n c n' c' : Nat) (j : Nat), i ≤ j ∧ j ≤ l.length ∧ l.length - j + 1 ≤ gk ∧ Hid (Qr wr q l j) ∧ Hid (Frm (isQ q) w1 wr) ∧ Hid (Blk wr pb [.int .i64 x.kind, str x.text, .slice a n c, .slice a' n' c'] 25) ∧ Hid (Blk wr rb [.int .i64 0, .string ⟨#[]⟩, .slice none 0 0, .slice none 0 0] 25) ∧ Hid (Asd (fun k => k < w1.heap.size ∨ k = pb) wr (fun W => PtB W (.slice a n c) (.slice a' n' c') x)) ∧ Hid (∃ m, (l.drop j).length < m ∧ Qp.stepGo m x (l.drop j) = ANS))
  case atStart => exact ⟨x, a, a', n, c, n', c', j, hij, hj, by omega, HR3.out, HF3.out, HPB.out, HRB3.out, HP3.out, HM0.out⟩
  case round =>
    clear HR3 HF3 HPB HRB3 HP3 HM0 hij hj
    obtain ⟨x, a, a', n, c, n', c', j, hij, hj, hgk, HR, HF, HPB, HRB, HP, HM⟩ := hrel
    have PK := qpeek_any q l j wr HR.out hl hj
    unfold PeekPost at PK
    have PK := hid PK
    go_wp2_with fail
    refine PK.out.mono ?_
    rintro e w4 ⟨j2, rfl, hjj, hj2, hd, hR4, hF4⟩
    have HD2 := hid hd
    have HR4 := hid hR4
    have HF4 := hid (HF.out.trans hF4 (fun _ _ e => e))
    have HPB4 := hid (HPB.out.frm hF4 (fun e => hpq e))
    have HRB4 := hid (HRB.out.frm hF4 (fun e => hrb2 e))
    have HP4 := hid (HP.out.frm (Z := fun k => k < w1.heap.size ∨ k = pb) hF4 (fun k _ e => Or.inl (by have e : k = q := e; omega)) (fun _ _ e => e))
    obtain ⟨n9, hn9⟩ : ∃ n, n = Qp.hd (l.drop j2) := ⟨_, rfl⟩
    rw [← hn9]
    have HN9 := hid hn9
    obtain ⟨c0, c1, f0, f1⟩ := HR4.out.cells
    obtain ⟨p0, p1, p2, p3⟩ := blk4 HPB4.out
    unfold str at p1
    clear hd hR4 hF4 hn9 PK HR HF HPB HRB HP
    by_cases h9 : n9 = 42
    · have g42 : ((n9 : Int) == 42) = true := beq_iff_eq.2 (by omega)
      have g43 : ((n9 : Int) == 43) = false := beq_eq_false_iff_ne.2 (by omega)
      have g63 : ((n9 : Int) == 63) = false := beq_eq_false_iff_ne.2 (by omega)
      have HG := hid (show ∃ m, (l.drop (j2 + 1)).length < m ∧ Qp.stepGo m (.mk 5 [] [] [x]) (l.drop (j2 + 1)) = ANS by
        obtain ⟨m, hm1, hm2⟩ := HM.out
        obtain ⟨c9, r9, hc9, hcn⟩ := Qp.hd_cons (HN9.out.symm.trans h9) (by decide)
        have hc : c9 = 42 := UInt8.toNat_inj.1 hcn
        subst hc
        obtain ⟨hjl2, _, hdu⟩ := qdrop_get l j2 _ r9 hc9
        cases m with
        | zero => omega
        | succ m =>
          unfold Qp.stepGo at hm2
          rw [← HD2.out, hc9] at hm2
          refine ⟨m, ?_, ?_⟩
          · have e1 := Qp.skip_len (l.drop j)
            rw [← HD2.out, hc9] at e1
            rw [hdu]
            simp only [List.length_cons] at e1
            omega
          · rw [hdu]; exact hm2)
      have hj3 : j2 + 1 ≤ l.length := by
        obtain ⟨c9, r9, hc9, _⟩ := Qp.hd_cons (HN9.out.symm.trans h9) (by decide)
        have := (qdrop_get l j2 _ r9 hc9).1
        omega
      have RA := hid fun W => qaround_any 5 x a a' n c n' c' W
      clear h9
      go_wp2_with fail
      refine (RA.out _).mono ?_
      rintro e w6 ⟨b, rfl, hb6, hk6, hbl6⟩
      have HK6 := hid hk6
      have HR6 := hid ((HR4.out.to (j2 + 1)).keep hbl6)
      have hs4 : (w4.setCell ⟨q, 1, none⟩ (.int .i64 ((j2 : Int) + 1))).heap.size = w4.heap.size := by simp
      rw [hs4] at hb6
      have HF46 := hid (Frm.trans (X := isQ q) (Y := isQ q) (Frm.set (X := isQ q) (Frm.refl _ w4) (Or.inl rfl) 1 (.int .i64 ((j2 : Int) + 1))) (Frm.of_below (X := isQ q) hbl6) (fun _ _ e => e))
      have HPB6 := hid (HPB4.out.frm HF46.out (fun e => hpq e))
      have HRB6 := hid (HRB4.out.frm HF46.out (fun e => hrb2 e))
      have HP6 := hid (HP4.out.frm (Z := fun k => k < w1.heap.size ∨ k = pb) HF46.out (fun k _ e => Or.inl (by have e : k = q := e; omega)) (fun _ _ e => e))
      have hbp : ¬ (b < w1.heap.size ∨ b = pb) := by have := HPB4.out.lt; have := HF4.out.size; omega
      have HPN := hid (Asd.and (Asd.blk HK6.out hbp) HP6.out (R := fun W => PtB W (.slice none 0 0) (.slice (some ⟨b, 0, none⟩) 1 1) (.mk 5 [] [] [x])) (fun W h1 h2 => qptb_one 5 (by decide) h1 h2))
      have hs6 := HF46.out.size
      obtain ⟨y0, y1, y2, y3⟩ := blk4 HPB6.out
      have z0 := HPB6.out.free 0
      have z1 := HPB6.out.free 1
      have z2 := HPB6.out.free 2
      have z3 := HPB6.out.free 3
      have HZ := hid (put4_blk HPB6.out (.int .i64 5) (.string ⟨#[]⟩) (.slice none 0 0) (.slice (some ⟨b, 0, none⟩) 1 1))
      have HRZ := hid (put4_other HRB6.out (Ne.symm hpr) (.int .i64 5) (.string ⟨#[]⟩) (.slice none 0 0) (.slice (some ⟨b, 0, none⟩) 1 1))
      have HQZ := hid (show Qr (put4 w6 pb (.int .i64 5) (.string ⟨#[]⟩) (.slice none 0 0) (.slice (some ⟨b, 0, none⟩) 1 1)) q l (j2 + 1) from put4_other HR6.out (Ne.symm hpq) _ _ _ _)
      have HFZ := hid (put4_frm (Y := isQ q) (w := w1) (b := pb) (X := w6) (HF4.out.trans HF46.out (fun _ _ e => e)) (Or.inr hpw) (.int .i64 5) (.string ⟨#[]⟩) (.slice none 0 0) (.slice (some ⟨b, 0, none⟩) 1 1))
      have HPZ := hid (HPN.out.frm (Y := fun k => k = pb) (Z := fun k => k < w1.heap.size ∨ k = pb) (put4_frm (Y := fun k => k = pb) (Frm.refl _ w6) (Or.inl rfl) (.int .i64 5) (.string ⟨#[]⟩) (.slice none 0 0) (.slice (some ⟨b, 0, none⟩) 1 1)) (fun k _ e => Or.inr e) (fun _ _ e => e))
      clear hk6 hbl6 hs4
      go_wp2
      go_roundg (l.length - (j2 + 1) + 1)
      case measure => omega
      case rel => exact ⟨.mk 5 [] [] [x], none, some ⟨b, 0, none⟩, 0, 0, 1, 1, j2 + 1, by omega, by omega, Nat.le_refl _, HQZ.out, HFZ.out, HZ.out, HRZ.out, HPZ.out, HG.out⟩
    by_cases h9b : n9 = 43
    · have g42 : ((n9 : Int) == 42) = false := beq_eq_false_iff_ne.2 (by omega)
      have g43 : ((n9 : Int) == 43) = true := beq_iff_eq.2 (by omega)
      have g63 : ((n9 : Int) == 63) = false := beq_eq_false_iff_ne.2 (by omega)
      have HG := hid (show ∃ m, (l.drop (j2 + 1)).length < m ∧ Qp.stepGo m (.mk 6 [] [] [x]) (l.drop (j2 + 1)) = ANS by
        obtain ⟨m, hm1, hm2⟩ := HM.out
        obtain ⟨c9, r9, hc9, hcn⟩ := Qp.hd_cons (HN9.out.symm.trans h9b) (by decide)
        have hc : c9 = 43 := UInt8.toNat_inj.1 hcn
        subst hc
        obtain ⟨hjl2, _, hdu⟩ := qdrop_get l j2 _ r9 hc9
        cases m with
        | zero => omega
        | succ m =>
          unfold Qp.stepGo at hm2
          rw [← HD2.out, hc9] at hm2
          refine ⟨m, ?_, ?_⟩
          · have e1 := Qp.skip_len (l.drop j)
            rw [← HD2.out, hc9] at e1
            rw [hdu]
            simp only [List.length_cons] at e1
            omega
          · rw [hdu]; exact hm2)
      have hj3 : j2 + 1 ≤ l.length := by
        obtain ⟨c9, r9, hc9, _⟩ := Qp.hd_cons (HN9.out.symm.trans h9b) (by decide)
        have := (qdrop_get l j2 _ r9 hc9).1
        omega
      have RA := hid fun W => qaround_any 6 x a a' n c n' c' W
      clear h9b
      go_wp2_with fail
      refine (RA.out _).mono ?_
      rintro e w6 ⟨b, rfl, hb6, hk6, hbl6⟩
      have HK6 := hid hk6
      have HR6 := hid ((HR4.out.to (j2 + 1)).keep hbl6)
      have hs4 : (w4.setCell ⟨q, 1, none⟩ (.int .i64 ((j2 : Int) + 1))).heap.size = w4.heap.size := by simp
      rw [hs4] at hb6
      have HF46 := hid (Frm.trans (X := isQ q) (Y := isQ q) (Frm.set (X := isQ q) (Frm.refl _ w4) (Or.inl rfl) 1 (.int .i64 ((j2 : Int) + 1))) (Frm.of_below (X := isQ q) hbl6) (fun _ _ e => e))
      have HPB6 := hid (HPB4.out.frm HF46.out (fun e => hpq e))
      have HRB6 := hid (HRB4.out.frm HF46.out (fun e => hrb2 e))
      have HP6 := hid (HP4.out.frm (Z := fun k => k < w1.heap.size ∨ k = pb) HF46.out (fun k _ e => Or.inl (by have e : k = q := e; omega)) (fun _ _ e => e))
      have hbp : ¬ (b < w1.heap.size ∨ b = pb) := by have := HPB4.out.lt; have := HF4.out.size; omega
      have HPN := hid (Asd.and (Asd.blk HK6.out hbp) HP6.out (R := fun W => PtB W (.slice none 0 0) (.slice (some ⟨b, 0, none⟩) 1 1) (.mk 6 [] [] [x])) (fun W h1 h2 => qptb_one 6 (by decide) h1 h2))
      have hs6 := HF46.out.size
      obtain ⟨y0, y1, y2, y3⟩ := blk4 HPB6.out
      have z0 := HPB6.out.free 0
      have z1 := HPB6.out.free 1
      have z2 := HPB6.out.free 2
      have z3 := HPB6.out.free 3
      have HZ := hid (put4_blk HPB6.out (.int .i64 6) (.string ⟨#[]⟩) (.slice none 0 0) (.slice (some ⟨b, 0, none⟩) 1 1))
      have HRZ := hid (put4_other HRB6.out (Ne.symm hpr) (.int .i64 6) (.string ⟨#[]⟩) (.slice none 0 0) (.slice (some ⟨b, 0, none⟩) 1 1))
      have HQZ := hid (show Qr (put4 w6 pb (.int .i64 6) (.string ⟨#[]⟩) (.slice none 0 0) (.slice (some ⟨b, 0, none⟩) 1 1)) q l (j2 + 1) from put4_other HR6.out (Ne.symm hpq) _ _ _ _)
      have HFZ := hid (put4_frm (Y := isQ q) (w := w1) (b := pb) (X := w6) (HF4.out.trans HF46.out (fun _ _ e => e)) (Or.inr hpw) (.int .i64 6) (.string ⟨#[]⟩) (.slice none 0 0) (.slice (some ⟨b, 0, none⟩) 1 1))
      have HPZ := hid (HPN.out.frm (Y := fun k => k = pb) (Z := fun k => k < w1.heap.size ∨ k = pb) (put4_frm (Y := fun k => k = pb) (Frm.refl _ w6) (Or.inl rfl) (.int .i64 6) (.string ⟨#[]⟩) (.slice none 0 0) (.slice (some ⟨b, 0, none⟩) 1 1)) (fun k _ e => Or.inr e) (fun _ _ e => e))
      clear hk6 hbl6 hs4
      go_wp2
      go_roundg (l.length - (j2 + 1) + 1)
      case measure => omega
      case rel => exact ⟨.mk 6 [] [] [x], none, some ⟨b, 0, none⟩, 0, 0, 1, 1, j2 + 1, by omega, by omega, Nat.le_refl _, HQZ.out, HFZ.out, HZ.out, HRZ.out, HPZ.out, HG.out⟩
    by_cases h9c : n9 = 63
    · have g42 : ((n9 : Int) == 42) = false := beq_eq_false_iff_ne.2 (by omega)
      have g43 : ((n9 : Int) == 43) = false := beq_eq_false_iff_ne.2 (by omega)
      have g63 : ((n9 : Int) == 63) = true := beq_iff_eq.2 (by omega)
      have HG := hid (show ∃ m, (l.drop (j2 + 1)).length < m ∧ Qp.stepGo m (.mk 7 [] [] [x]) (l.drop (j2 + 1)) = ANS by
        obtain ⟨m, hm1, hm2⟩ := HM.out
        obtain ⟨c9, r9, hc9, hcn⟩ := Qp.hd_cons (HN9.out.symm.trans h9c) (by decide)
        have hc : c9 = 63 := UInt8.toNat_inj.1 hcn
        subst hc
        obtain ⟨hjl2, _, hdu⟩ := qdrop_get l j2 _ r9 hc9
        cases m with
        | zero => omega
        | succ m =>
          unfold Qp.stepGo at hm2
          rw [← HD2.out, hc9] at hm2
          refine ⟨m, ?_, ?_⟩
          · have e1 := Qp.skip_len (l.drop j)
            rw [← HD2.out, hc9] at e1
            rw [hdu]
            simp only [List.length_cons] at e1
            omega
          · rw [hdu]; exact hm2)
      have hj3 : j2 + 1 ≤ l.length := by
        obtain ⟨c9, r9, hc9, _⟩ := Qp.hd_cons (HN9.out.symm.trans h9c) (by decide)
        have := (qdrop_get l j2 _ r9 hc9).1
        omega
      have RA := hid fun W => qaround_any 7 x a a' n c n' c' W
      clear h9c
      go_wp2_with fail
      refine (RA.out _).mono ?_
      rintro e w6 ⟨b, rfl, hb6, hk6, hbl6⟩
      have HK6 := hid hk6
      have HR6 := hid ((HR4.out.to (j2 + 1)).keep hbl6)
      have hs4 : (w4.setCell ⟨q, 1, none⟩ (.int .i64 ((j2 : Int) + 1))).heap.size = w4.heap.size := by simp
      rw [hs4] at hb6
      have HF46 := hid (Frm.trans (X := isQ q) (Y := isQ q) (Frm.set (X := isQ q) (Frm.refl _ w4) (Or.inl rfl) 1 (.int .i64 ((j2 : Int) + 1))) (Frm.of_below (X := isQ q) hbl6) (fun _ _ e => e))
      have HPB6 := hid (HPB4.out.frm HF46.out (fun e => hpq e))
      have HRB6 := hid (HRB4.out.frm HF46.out (fun e => hrb2 e))
      have HP6 := hid (HP4.out.frm (Z := fun k => k < w1.heap.size ∨ k = pb) HF46.out (fun k _ e => Or.inl (by have e : k = q := e; omega)) (fun _ _ e => e))
      have hbp : ¬ (b < w1.heap.size ∨ b = pb) := by have := HPB4.out.lt; have := HF4.out.size; omega
      have HPN := hid (Asd.and (Asd.blk HK6.out hbp) HP6.out (R := fun W => PtB W (.slice none 0 0) (.slice (some ⟨b, 0, none⟩) 1 1) (.mk 7 [] [] [x])) (fun W h1 h2 => qptb_one 7 (by decide) h1 h2))
      have hs6 := HF46.out.size
      obtain ⟨y0, y1, y2, y3⟩ := blk4 HPB6.out
      have z0 := HPB6.out.free 0
      have z1 := HPB6.out.free 1
      have z2 := HPB6.out.free 2
      have z3 := HPB6.out.free 3
      have HZ := hid (put4_blk HPB6.out (.int .i64 7) (.string ⟨#[]⟩) (.slice none 0 0) (.slice (some ⟨b, 0, none⟩) 1 1))
      have HRZ := hid (put4_other HRB6.out (Ne.symm hpr) (.int .i64 7) (.string ⟨#[]⟩) (.slice none 0 0) (.slice (some ⟨b, 0, none⟩) 1 1))
      have HQZ := hid (show Qr (put4 w6 pb (.int .i64 7) (.string ⟨#[]⟩) (.slice none 0 0) (.slice (some ⟨b, 0, none⟩) 1 1)) q l (j2 + 1) from put4_other HR6.out (Ne.symm hpq) _ _ _ _)
      have HFZ := hid (put4_frm (Y := isQ q) (w := w1) (b := pb) (X := w6) (HF4.out.trans HF46.out (fun _ _ e => e)) (Or.inr hpw) (.int .i64 7) (.string ⟨#[]⟩) (.slice none 0 0) (.slice (some ⟨b, 0, none⟩) 1 1))
      have HPZ := hid (HPN.out.frm (Y := fun k => k = pb) (Z := fun k => k < w1.heap.size ∨ k = pb) (put4_frm (Y := fun k => k = pb) (Frm.refl _ w6) (Or.inl rfl) (.int .i64 7) (.string ⟨#[]⟩) (.slice none 0 0) (.slice (some ⟨b, 0, none⟩) 1 1)) (fun k _ e => Or.inr e) (fun _ _ e => e))
      clear hk6 hbl6 hs4
      go_wp2
      go_roundg (l.length - (j2 + 1) + 1)
      case measure => omega
      case rel => exact ⟨.mk 7 [] [] [x], none, some ⟨b, 0, none⟩, 0, 0, 1, 1, j2 + 1, by omega, by omega, Nat.le_refl _, HQZ.out, HFZ.out, HZ.out, HRZ.out, HPZ.out, HG.out⟩
    have g42 : ((n9 : Int) == 42) = false := beq_eq_false_iff_ne.2 (by omega)
    have g43 : ((n9 : Int) == 43) = false := beq_eq_false_iff_ne.2 (by omega)
    have g63 : ((n9 : Int) == 63) = false := beq_eq_false_iff_ne.2 (by omega)
    have HE := hid (show ANS = .ok x (l.drop j2) by
      obtain ⟨m, hm1, hm2⟩ := HM.out
      cases m with
      | zero => omega
      | succ m =>
        rw [← hm2]
        unfold Qp.stepGo
        rw [← HD2.out]
        have hne := HN9.out
        cases hc : l.drop j2 with
        | nil => rfl
        | cons c9 r9 =>
          rw [hc] at hne
          have hne : n9 = c9.toNat := hne
          have hs0 : Qp.sg c9 = 0 := by
            unfold Qp.sg
            rw [if_neg (fun e => by subst e; exact h9 hne), if_neg (fun e => by subst e; exact h9b hne), if_neg (fun e => by subst e; exact h9c hne)]
          simp only
          rw [if_pos hs0])
    have HXB := hid HPB4.out
    obtain ⟨r0, r1, r2, r3⟩ := blk4 HRB4.out
    have k0 := HRB4.out.free 0
    have k1 := HRB4.out.free 1
    have k2 := HRB4.out.free 2
    have k3 := HRB4.out.free 3
    have HZ := hid (put4_blk HRB4.out (.int .i64 x.kind) (.string ⟨x.text.toArray⟩) (.slice a n c) (.slice a' n' c'))
    have HQ := hid (show Qr (put4 w4 rb (.int .i64 x.kind) (.string ⟨x.text.toArray⟩) (.slice a n c) (.slice a' n' c')) q l j2 from put4_other HR4.out (Ne.symm hrb2) _ _ _ _)
    have HFZ := hid (put4_frm (Y := isQ q) (w := w) (b := rb) (X := w4) ((Frm.of_below (X := isQ q) HB1.out).trans HF4.out (fun _ _ e => e)) (Or.inr (by have := HRBE.out; omega)) (.int .i64 x.kind) (.string ⟨x.text.toArray⟩) (.slice a n c) (.slice a' n' c'))
    have HPZ := hid (HP4.out.frm (Y := fun k => k = rb) (Z := fun k => k < w.heap.size) (put4_frm (Y := fun k => k = rb) (Frm.refl _ w4) (Or.inl rfl) (.int .i64 x.kind) (.string ⟨x.text.toArray⟩) (.slice a n c) (.slice a' n' c')) (fun k _ e => Or.inl (by have e : k = rb := e; omega)) (fun k _ e => Or.inl (by have := HRBE.out; have e : k < w.heap.size := e; omega)))
    clear h9 h9b h9c
    go_wp2
    try rw [Exit.noGoto_ret]
    refine bodyPost_ret (v := .tuple #[.agg #[.int .i64 x.kind, .string ⟨x.text.toArray⟩, .slice a n c, .slice a' n' c'], .int .i64 0]) (path_ret2 (s := 4) (t := 5) rfl rfl HZ.out Tryd.results78) rfl ?_
    exact ⟨x, a, a', n, c, n', c', 0, j2, rfl, by omega, hj2, HQ.out, HFZ.out, HPZ.out, Or.inl ⟨rfl, by rw [← HAN.out]; exact HE.out⟩⟩
end Go.Proofs.YtagmgkplfhlifaaDoor
