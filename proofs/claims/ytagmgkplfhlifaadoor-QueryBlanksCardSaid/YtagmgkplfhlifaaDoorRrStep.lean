/- The document's reader of paths: a step. -/
import Derived.Test.YtagmgkplfhlifaaDoorRrBack
namespace Go.Proofs.YtagmgkplfhlifaaDoor
set_option linter.unusedVariables false
set_option linter.unusedSimpArgs false
set_option maxRecDepth 100000
open Go.ChangeShapes Go.WideShapes Go.ChangeAt Go.RowKit
open Au
/-- One sign of those behind a step. -/
theorem stepGo_sg {m : Nat} {x : Pt} {r r1 : T} {c : UInt8} {k : Int} (h : Qp.skip r = c :: r1) (hk : Qp.sg c = k) (h0 : k ≠ 0) : Qp.stepGo (m + 1) x r = Qp.stepGo m (.mk k [] [] [x]) r1 := by
  unfold Qp.stepGo
  rw [h]
  simp only
  rw [hk, if_neg h0]
  cases m <;> rfl
theorem stepGo_end {m : Nat} {x : Pt} {r : T} (h1 : ∀ u, Qp.skip r ≠ 42 :: u) (h2 : ∀ u, Qp.skip r ≠ 43 :: u) (h3 : ∀ u, Qp.skip r ≠ 63 :: u) : Qp.stepGo (m + 1) x r = .ok x (Qp.skip r) := by
  unfold Qp.stepGo
  cases hs : Qp.skip r with
  | nil => rfl
  | cons c u =>
    simp only
    have h0 : Qp.sg c = 0 := by
      unfold Qp.sg
      rw [if_neg (fun e => h1 u (by rw [hs, e])), if_neg (fun e => h2 u (by rw [hs, e])), if_neg (fun e => h3 u (by rw [hs, e]))]
    rw [if_pos h0]
set_option maxHeartbeats 8000000 in
theorem rstep_any (W0 : World) (q : Nat) (l : T) (d : Int) (bk : T → Res) (hl : l.length ≤ 100000000) (hq : W0.heap.size ≤ q)
    (HK : Hid (RReads W0 q l 79 #[.pointer (some ⟨q, 0, none⟩), .int .i64 d] bk)) :
    RReads W0 q l 64 #[.pointer (some ⟨q, 0, none⟩), .int .i64 d] (Qp.step bk) := by
  intro i P0 w hr hi hB
  obtain ⟨w1, hw1⟩ : ∃ w1, w1 = w.alloc (.cells #[.int .i64 0, .string ⟨#[]⟩, .slice none 0 0, .slice none 0 0] 25) := ⟨_, rfl⟩
  have hb1 : Below w.heap.size w w1 := by rw [hw1]; exact (Below.refl _ _).alloc (Nat.le_refl _) _
  have HRB := hid (show Blk w1 w.heap.size [.int .i64 0, .string ⟨#[]⟩, .slice none 0 0, .slice none 0 0] 25 by rw [hw1]; exact Blk.new w _ _)
  have HB1 := hid hb1
  have hsz1 : w1.heap.size = w.heap.size + 1 := by rw [hw1]; simp
  have HBW1 := hid (hB.trans (hb1.mono hB.size))
  have HR1 := hid (hr.keep hb1)
  have hqw := hr.lt
  obtain ⟨rb, hrb⟩ : ∃ b, b = w.heap.size := ⟨_, rfl⟩
  rw [← hrb] at HRB
  have hrw1 : rb < w1.heap.size := by omega
  have hqw1 : q < w1.heap.size := by omega
  have hrb2 : rb ≠ q := by omega
  have HRBE := hid hrb
  have HSZ1 := hid hsz1
  have HW01 := hB.size
  have BK := HK.out i P0 w1 HR1.out hi HBW1.out
  unfold RRd at BK
  have BK := hid BK
  go_enter Tryd.func64, Tryd.ntmps64
  go_upto_region 1 with fail
  rw [← hw1, ← hrb]
  clear hw1 hrb hsz1 hr hB hb1
  go_wp2_with fail
  refine BK.out.mono ?_
  rintro e w2 ⟨x, a, a', n, c, n', c', E, P, j, rfl, hij, hj, hR2, hF2, hres⟩
  obtain ⟨w3, hw3⟩ : ∃ w3, w3 = w2.alloc (.cells #[.int .i64 x.kind, .string ⟨x.text.toArray⟩, .slice a n c, .slice a' n' c'] 25) := ⟨_, rfl⟩
  have hb3 : Below w2.heap.size w2 w3 := by rw [hw3]; exact (Below.refl _ _).alloc (Nat.le_refl _) _
  obtain ⟨pb, hpb⟩ : ∃ b, b = w2.heap.size := ⟨_, rfl⟩
  have HPB := hid (show Blk w3 pb [.int .i64 x.kind, str x.text, .slice a n c, .slice a' n' c'] 25 by rw [hw3, hpb]; exact Blk.new w2 _ _)
  have HR3 := hid (hR2.keep hb3)
  have hs2 := hF2.size
  have hpr : pb ≠ rb := by omega
  have hpq : pb ≠ q := by omega
  have hpw : w1.heap.size ≤ pb := by omega
  have HF3 := hid ((hF2.trans (Frm.of_below (X := isQ q) hb3) (fun _ _ e => e)))
  obtain ⟨ANS, hANS⟩ : ∃ z, z = Qp.step bk (l.drop i) := ⟨_, rfl⟩
  have HAN := hid hANS
  have HM0 := hid (show (E = 0 ∧ Asd (fun k => k < w1.heap.size ∨ k = pb) w3 (fun W => PtB W (.slice a n c) (.slice a' n' c') x) ∧ ∃ m, (l.drop j).length < m ∧ Qp.stepGo m x (l.drop j) = ANS) ∨ (E ≠ 0 ∧ ∃ m : Nat, m ≤ l.length ∧ P = m ∧ ANS = .err E (l.drop m)) by
    rcases hres with ⟨h1, h2, h3⟩ | ⟨h1, m, h2, h3, h4⟩
    · refine Or.inl ⟨h1, h3.out.frm (Y := fun _ => False) (Z := fun k => k < w1.heap.size ∨ k = pb) (Frm.of_below hb3) (fun _ _ e => e.elim) (fun k hk e => e.elim id (fun e => by omega)), (l.drop j).length + 1, by omega, ?_⟩
      rw [hANS]; unfold Qp.step; rw [h2]
    · refine Or.inr ⟨h1, m, h2, h3, ?_⟩
      rw [hANS]; unfold Qp.step; rw [h4])
  clear hR2 hF2 hres BK hANS
  go_upto_region 3 with fail
  rw [← hw3, ← hpb]
  clear hw3 hpb hs2 hb3
  go_loopg [] (l.length + 1) (fun gk wr => ∃ (x : Pt) (a a' : Option Addr) (n c n' c' : Nat) (E P : Int) (j : Nat), i ≤ j ∧ j ≤ l.length ∧ l.length - j + 1 ≤ gk ∧ Hid (Rr wr q l j E P) ∧ Hid (Frm (isQ q) w1 wr) ∧ Hid (Blk wr pb [.int .i64 x.kind, str x.text, .slice a n c, .slice a' n' c'] 25) ∧ Hid ((E = 0 ∧ Asd (fun k => k < w1.heap.size ∨ k = pb) wr (fun W => PtB W (.slice a n c) (.slice a' n' c') x) ∧ ∃ m, (l.drop j).length < m ∧ Qp.stepGo m x (l.drop j) = ANS) ∨ (E ≠ 0 ∧ ∃ m : Nat, m ≤ l.length ∧ P = m ∧ ANS = .err E (l.drop m))))
  case atStart => exact ⟨x, a, a', n, c, n', c', E, P, j, hij, hj, by omega, HR3.out, HF3.out, HPB.out, HM0.out⟩
  case round =>
    clear HR3 HF3 HPB HM0 hij hj
    obtain ⟨x, a, a', n, c, n', c', E, P, j, hij, hj, hgk, HR, HF, HPB, HM⟩ := hrel
    have SG := rsgn_any q l j E P 42 (by decide) wr HR.out hl (by omega)
    unfold SgnPost at SG
    have SG := hid (show Calls Tryd.prog 48 #[.pointer (some ⟨q, 0, none⟩), .int .u8 42] wr _ from SG)
    go_wp2_with fail
    refine SG.out.mono ?_
    rintro e w4 ⟨j4, rfl, hjj4, hj4, hd, hF, hres⟩
    have HD4 := hid hd
    have HFN4 := hid hF
    have HF4 := hid (HF.out.trans hF (fun _ _ e => e))
    have HPB4 := hid (HPB.out.frm hF (fun e => hpq e))
    obtain ⟨B, hBB⟩ : ∃ z, z = isSg E (l.drop j4) 42 := ⟨_, rfl⟩
    rw [← hBB] at hres ⊢
    have HB4 := hid hBB
    have HS4 := hid (show l.drop j4 = Qp.skip (l.drop j) by rw [hd])
    have HRES := hid hres
    clear hd hF hres SG hBB
    cases B
    case true =>
      obtain ⟨hE, hjp, ⟨r9, hc9⟩, hRn⟩ := HRES.out.elim (fun h => by have := h.1; cases this) (fun h => h.2)
      have HRn := hid hRn
      have HFrom := hid (show Frm (isQ q) wr w4 from HFN4.out)
      have HG := hid (show Asd (fun k => k < w1.heap.size ∨ k = pb) w4 (fun W => PtB W (.slice a n c) (.slice a' n' c') x) ∧ ∃ m, (l.drop (j4 + 1)).length < m ∧ Qp.stepGo m (.mk 5 [] [] [x]) (l.drop (j4 + 1)) = ANS by
        rcases HM.out with ⟨_, h2, m, h3, h4⟩ | ⟨h, _⟩
        · refine ⟨h2.frm (Z := fun k => k < w1.heap.size ∨ k = pb) HFrom.out (fun k _ e => Or.inl (by have e : k = q := e; omega)) (fun _ _ e => e), ?_⟩
          have hsk := HS4.out
          rw [hc9] at hsk
          have hln := Qp.skip_len (l.drop j)
          rw [← hsk] at hln
          simp only [List.length_cons] at hln
          cases m with
          | zero => omega
          | succ m =>
            rw [stepGo_sg (k := 5) hsk.symm (by decide) (by decide)] at h4
            rw [(qdrop_get l j4 _ r9 hc9).2.2]
            exact ⟨m, by omega, h4⟩
        · exact absurd hE h)
      have HE0 := hid hE
      obtain ⟨p0, p1, p2, p3⟩ := blk4 HPB4.out
      have z0 := HPB4.out.free 0
      have z1 := HPB4.out.free 1
      have z2 := HPB4.out.free 2
      have z3 := HPB4.out.free 3
      unfold str at p1
      have hplt := HPB4.out.lt
      obtain ⟨Z, hZ⟩ : ∃ Z, Z = (put4 w4 pb (.int .i64 5) (.string ⟨#[]⟩) (.slice none 0 0) (.slice (some ⟨w4.heap.size, 0, none⟩) 1 1)).alloc (.cells #[.int .i64 x.kind, .string ⟨x.text.toArray⟩, .slice a n c, .slice a' n' c'] 25) := ⟨_, rfl⟩
      have HZ := hid (show Blk Z pb [.int .i64 5, .string ⟨#[]⟩, .slice none 0 0, .slice (some ⟨w4.heap.size, 0, none⟩) 1 1] 25 by rw [hZ]; exact (put4_blk HPB4.out _ _ _ _).alloc _)
      have HTB := hid (show Blk Z w4.heap.size [.int .i64 x.kind, str x.text, .slice a n c, .slice a' n' c'] 25 by rw [hZ]; exact Blk.new' (by simp) rfl)
      have HQ := hid (show Rr Z q l (j4 + 1) E P by rw [hZ]; exact (put4_other HRn.out (Ne.symm hpq) _ _ _ _).alloc _)
      have HFX := hid (show Frm (fun k => k = pb) w4 Z by rw [hZ]; exact (put4_frm (Y := fun k => k = pb) (Frm.refl _ w4) (Or.inl rfl) _ _ _ _).alloc _)
      have HFZ := hid (show Frm (isQ q) w1 Z by rw [hZ]; exact (put4_frm (Y := isQ q) (w := w1) (b := pb) (X := w4) HF4.out (Or.inr hpw) _ _ _ _).alloc _)
      obtain ⟨tb, htb⟩ : ∃ b, b = w4.heap.size := ⟨_, rfl⟩
      rw [← htb] at HZ HTB
      have HMZ := hid (show Asd (fun k => k < w1.heap.size ∨ k = pb) Z (fun W => PtB W (.slice none 0 0) (.slice (some ⟨tb, 0, none⟩) 1 1) (.mk 5 [] [] [x])) from by
        have hz := Asd.frm (Z := fun k => k < w1.heap.size ∨ k = pb) HG.out.1 HFX.out (fun k _ e => Or.inr e) (fun _ _ e => e)
        have hs9 := HF4.out.size
        exact Asd.and (Asd.blk HTB.out (by omega)) hz (fun W h5 h6 => qptb_one 5 (by decide) h5 h6))
      have HMM := hid HG.out.2
      clear hc9 hRn hE HRES HG
      go_wp2
      rw [← hZ, ← htb]
      clear hZ htb hplt p0 p1 p2 p3 z0 z1 z2 z3
      go_roundg (l.length - (j4 + 1) + 1)
      case measure => omega
      case rel => exact ⟨.mk 5 [] [] [x], none, some ⟨tb, 0, none⟩, 0, 0, 1, 1, E, P, j4 + 1, by omega, by omega, Nat.le_refl _, HQ.out, HFZ.out, HZ.out, Or.inl ⟨HE0.out, HMZ.out, HMM.out⟩⟩
    case false =>
      have HR4 := hid (show Rr w4 q l j4 E P from HRES.out.elim (fun h => h.2) (fun h => by have := h.1; cases this))
      clear HRES
      have SG := rsgn_any q l j4 E P 43 (by decide) w4 HR4.out hl (by omega)
      unfold SgnPost at SG
      have SG := hid (show Calls Tryd.prog 48 #[.pointer (some ⟨q, 0, none⟩), .int .u8 43] w4 _ from SG)
      go_wp2_with fail
      refine SG.out.mono ?_
      rintro e w5 ⟨j5, rfl, hjj5, hj5, hd, hF, hres⟩
      have HD5 := hid hd
      have HFN5 := hid hF
      have HF5 := hid (HF4.out.trans hF (fun _ _ e => e))
      have HPB5 := hid (HPB4.out.frm hF (fun e => hpq e))
      obtain ⟨B, hBB⟩ : ∃ z, z = isSg E (l.drop j5) 43 := ⟨_, rfl⟩
      rw [← hBB] at hres ⊢
      have HB5 := hid hBB
      have HS5 := hid (show l.drop j5 = Qp.skip (l.drop j) by rw [hd, HS4.out, skip_skip])
      have HRES := hid hres
      clear hd hF hres SG hBB
      cases B
      case true =>
        obtain ⟨hE, hjp, ⟨r9, hc9⟩, hRn⟩ := HRES.out.elim (fun h => by have := h.1; cases this) (fun h => h.2)
        have HRn := hid hRn
        have HFrom := hid (show Frm (isQ q) wr w5 from (HFN4.out).trans HFN5.out (fun _ _ e => e))
        have HG := hid (show Asd (fun k => k < w1.heap.size ∨ k = pb) w5 (fun W => PtB W (.slice a n c) (.slice a' n' c') x) ∧ ∃ m, (l.drop (j5 + 1)).length < m ∧ Qp.stepGo m (.mk 6 [] [] [x]) (l.drop (j5 + 1)) = ANS by
          rcases HM.out with ⟨_, h2, m, h3, h4⟩ | ⟨h, _⟩
          · refine ⟨h2.frm (Z := fun k => k < w1.heap.size ∨ k = pb) HFrom.out (fun k _ e => Or.inl (by have e : k = q := e; omega)) (fun _ _ e => e), ?_⟩
            have hsk := HS5.out
            rw [hc9] at hsk
            have hln := Qp.skip_len (l.drop j)
            rw [← hsk] at hln
            simp only [List.length_cons] at hln
            cases m with
            | zero => omega
            | succ m =>
              rw [stepGo_sg (k := 6) hsk.symm (by decide) (by decide)] at h4
              rw [(qdrop_get l j5 _ r9 hc9).2.2]
              exact ⟨m, by omega, h4⟩
          · exact absurd hE h)
        have HE0 := hid hE
        obtain ⟨p0, p1, p2, p3⟩ := blk4 HPB5.out
        have z0 := HPB5.out.free 0
        have z1 := HPB5.out.free 1
        have z2 := HPB5.out.free 2
        have z3 := HPB5.out.free 3
        unfold str at p1
        have hplt := HPB5.out.lt
        obtain ⟨Z, hZ⟩ : ∃ Z, Z = (put4 w5 pb (.int .i64 6) (.string ⟨#[]⟩) (.slice none 0 0) (.slice (some ⟨w5.heap.size, 0, none⟩) 1 1)).alloc (.cells #[.int .i64 x.kind, .string ⟨x.text.toArray⟩, .slice a n c, .slice a' n' c'] 25) := ⟨_, rfl⟩
        have HZ := hid (show Blk Z pb [.int .i64 6, .string ⟨#[]⟩, .slice none 0 0, .slice (some ⟨w5.heap.size, 0, none⟩) 1 1] 25 by rw [hZ]; exact (put4_blk HPB5.out _ _ _ _).alloc _)
        have HTB := hid (show Blk Z w5.heap.size [.int .i64 x.kind, str x.text, .slice a n c, .slice a' n' c'] 25 by rw [hZ]; exact Blk.new' (by simp) rfl)
        have HQ := hid (show Rr Z q l (j5 + 1) E P by rw [hZ]; exact (put4_other HRn.out (Ne.symm hpq) _ _ _ _).alloc _)
        have HFX := hid (show Frm (fun k => k = pb) w5 Z by rw [hZ]; exact (put4_frm (Y := fun k => k = pb) (Frm.refl _ w5) (Or.inl rfl) _ _ _ _).alloc _)
        have HFZ := hid (show Frm (isQ q) w1 Z by rw [hZ]; exact (put4_frm (Y := isQ q) (w := w1) (b := pb) (X := w5) HF5.out (Or.inr hpw) _ _ _ _).alloc _)
        obtain ⟨tb, htb⟩ : ∃ b, b = w5.heap.size := ⟨_, rfl⟩
        rw [← htb] at HZ HTB
        have HMZ := hid (show Asd (fun k => k < w1.heap.size ∨ k = pb) Z (fun W => PtB W (.slice none 0 0) (.slice (some ⟨tb, 0, none⟩) 1 1) (.mk 6 [] [] [x])) from by
          have hz := Asd.frm (Z := fun k => k < w1.heap.size ∨ k = pb) HG.out.1 HFX.out (fun k _ e => Or.inr e) (fun _ _ e => e)
          have hs9 := HF5.out.size
          exact Asd.and (Asd.blk HTB.out (by omega)) hz (fun W h5 h6 => qptb_one 6 (by decide) h5 h6))
        have HMM := hid HG.out.2
        clear hc9 hRn hE HRES HG
        go_wp2
        rw [← hZ, ← htb]
        clear hZ htb hplt p0 p1 p2 p3 z0 z1 z2 z3
        go_roundg (l.length - (j5 + 1) + 1)
        case measure => omega
        case rel => exact ⟨.mk 6 [] [] [x], none, some ⟨tb, 0, none⟩, 0, 0, 1, 1, E, P, j5 + 1, by omega, by omega, Nat.le_refl _, HQ.out, HFZ.out, HZ.out, Or.inl ⟨HE0.out, HMZ.out, HMM.out⟩⟩
      case false =>
        have HR5 := hid (show Rr w5 q l j5 E P from HRES.out.elim (fun h => h.2) (fun h => by have := h.1; cases this))
        clear HRES
        have SG := rsgn_any q l j5 E P 63 (by decide) w5 HR5.out hl (by omega)
        unfold SgnPost at SG
        have SG := hid (show Calls Tryd.prog 48 #[.pointer (some ⟨q, 0, none⟩), .int .u8 63] w5 _ from SG)
        go_wp2_with fail
        refine SG.out.mono ?_
        rintro e w6 ⟨j6, rfl, hjj6, hj6, hd, hF, hres⟩
        have HD6 := hid hd
        have HFN6 := hid hF
        have HF6 := hid (HF5.out.trans hF (fun _ _ e => e))
        have HPB6 := hid (HPB5.out.frm hF (fun e => hpq e))
        obtain ⟨B, hBB⟩ : ∃ z, z = isSg E (l.drop j6) 63 := ⟨_, rfl⟩
        rw [← hBB] at hres ⊢
        have HB6 := hid hBB
        have HS6 := hid (show l.drop j6 = Qp.skip (l.drop j) by rw [hd, HS5.out, skip_skip])
        have HRES := hid hres
        clear hd hF hres SG hBB
        cases B
        case true =>
          obtain ⟨hE, hjp, ⟨r9, hc9⟩, hRn⟩ := HRES.out.elim (fun h => by have := h.1; cases this) (fun h => h.2)
          have HRn := hid hRn
          have HFrom := hid (show Frm (isQ q) wr w6 from ((HFN4.out).trans HFN5.out (fun _ _ e => e)).trans HFN6.out (fun _ _ e => e))
          have HG := hid (show Asd (fun k => k < w1.heap.size ∨ k = pb) w6 (fun W => PtB W (.slice a n c) (.slice a' n' c') x) ∧ ∃ m, (l.drop (j6 + 1)).length < m ∧ Qp.stepGo m (.mk 7 [] [] [x]) (l.drop (j6 + 1)) = ANS by
            rcases HM.out with ⟨_, h2, m, h3, h4⟩ | ⟨h, _⟩
            · refine ⟨h2.frm (Z := fun k => k < w1.heap.size ∨ k = pb) HFrom.out (fun k _ e => Or.inl (by have e : k = q := e; omega)) (fun _ _ e => e), ?_⟩
              have hsk := HS6.out
              rw [hc9] at hsk
              have hln := Qp.skip_len (l.drop j)
              rw [← hsk] at hln
              simp only [List.length_cons] at hln
              cases m with
              | zero => omega
              | succ m =>
                rw [stepGo_sg (k := 7) hsk.symm (by decide) (by decide)] at h4
                rw [(qdrop_get l j6 _ r9 hc9).2.2]
                exact ⟨m, by omega, h4⟩
            · exact absurd hE h)
          have HE0 := hid hE
          obtain ⟨p0, p1, p2, p3⟩ := blk4 HPB6.out
          have z0 := HPB6.out.free 0
          have z1 := HPB6.out.free 1
          have z2 := HPB6.out.free 2
          have z3 := HPB6.out.free 3
          unfold str at p1
          have hplt := HPB6.out.lt
          obtain ⟨Z, hZ⟩ : ∃ Z, Z = (put4 w6 pb (.int .i64 7) (.string ⟨#[]⟩) (.slice none 0 0) (.slice (some ⟨w6.heap.size, 0, none⟩) 1 1)).alloc (.cells #[.int .i64 x.kind, .string ⟨x.text.toArray⟩, .slice a n c, .slice a' n' c'] 25) := ⟨_, rfl⟩
          have HZ := hid (show Blk Z pb [.int .i64 7, .string ⟨#[]⟩, .slice none 0 0, .slice (some ⟨w6.heap.size, 0, none⟩) 1 1] 25 by rw [hZ]; exact (put4_blk HPB6.out _ _ _ _).alloc _)
          have HTB := hid (show Blk Z w6.heap.size [.int .i64 x.kind, str x.text, .slice a n c, .slice a' n' c'] 25 by rw [hZ]; exact Blk.new' (by simp) rfl)
          have HQ := hid (show Rr Z q l (j6 + 1) E P by rw [hZ]; exact (put4_other HRn.out (Ne.symm hpq) _ _ _ _).alloc _)
          have HFX := hid (show Frm (fun k => k = pb) w6 Z by rw [hZ]; exact (put4_frm (Y := fun k => k = pb) (Frm.refl _ w6) (Or.inl rfl) _ _ _ _).alloc _)
          have HFZ := hid (show Frm (isQ q) w1 Z by rw [hZ]; exact (put4_frm (Y := isQ q) (w := w1) (b := pb) (X := w6) HF6.out (Or.inr hpw) _ _ _ _).alloc _)
          obtain ⟨tb, htb⟩ : ∃ b, b = w6.heap.size := ⟨_, rfl⟩
          rw [← htb] at HZ HTB
          have HMZ := hid (show Asd (fun k => k < w1.heap.size ∨ k = pb) Z (fun W => PtB W (.slice none 0 0) (.slice (some ⟨tb, 0, none⟩) 1 1) (.mk 7 [] [] [x])) from by
            have hz := Asd.frm (Z := fun k => k < w1.heap.size ∨ k = pb) HG.out.1 HFX.out (fun k _ e => Or.inr e) (fun _ _ e => e)
            have hs9 := HF6.out.size
            exact Asd.and (Asd.blk HTB.out (by omega)) hz (fun W h5 h6 => qptb_one 7 (by decide) h5 h6))
          have HMM := hid HG.out.2
          clear hc9 hRn hE HRES HG
          go_wp2
          rw [← hZ, ← htb]
          clear hZ htb hplt p0 p1 p2 p3 z0 z1 z2 z3
          go_roundg (l.length - (j6 + 1) + 1)
          case measure => omega
          case rel => exact ⟨.mk 7 [] [] [x], none, some ⟨tb, 0, none⟩, 0, 0, 1, 1, E, P, j6 + 1, by omega, by omega, Nat.le_refl _, HQ.out, HFZ.out, HZ.out, Or.inl ⟨HE0.out, HMZ.out, HMM.out⟩⟩
        case false =>
          have HR6 := hid (show Rr w6 q l j6 E P from HRES.out.elim (fun h => h.2) (fun h => by have := h.1; cases this))
          clear HRES
          have HFrom := hid (show Frm (isQ q) wr w6 from (HFN4.out.trans HFN5.out (fun _ _ e => e)).trans HFN6.out (fun _ _ e => e))
          have HRB6 := hid (HRB.out.frm HF6.out (fun e => hrb2 e))
          obtain ⟨p0, p1, p2, p3⟩ := blk4 HPB6.out
          unfold str at p1
          obtain ⟨r0, r1, r2, r3⟩ := blk4 HRB6.out
          have k0 := HRB6.out.free 0
          have k1 := HRB6.out.free 1
          have k2 := HRB6.out.free 2
          have k3 := HRB6.out.free 3
          have HZ := hid (put4_blk HRB6.out (.int .i64 x.kind) (.string ⟨x.text.toArray⟩) (.slice a n c) (.slice a' n' c'))
          have HQ := hid (show Rr (put4 w6 rb (.int .i64 x.kind) (.string ⟨x.text.toArray⟩) (.slice a n c) (.slice a' n' c')) q l (j6) (E) (P) from put4_other HR6.out (Ne.symm hrb2) _ _ _ _)
          have HFZ := hid (put4_frm (Y := isQ q) (w := w) (b := rb) (X := w6) ((Frm.of_below (X := isQ q) HB1.out).trans HF6.out (fun _ _ e => e)) (Or.inr (by have := HRBE.out; omega)) (.int .i64 x.kind) (.string ⟨x.text.toArray⟩) (.slice a n c) (.slice a' n' c'))
          go_wp2
          try rw [Exit.noGoto_ret]
          refine bodyPost_ret (v := .agg #[.int .i64 x.kind, .string ⟨x.text.toArray⟩, .slice a n c, .slice a' n' c']) (fail_ret (s := 4) rfl HZ.out Tryd.results64) rfl ?_
          refine ⟨x, a, a', n, c, n', c', E, P, j6, rfl, by omega, by omega, HQ.out, HFZ.out, ?_⟩
          rw [← HAN.out]
          rcases HM.out with ⟨hE, h2, m, h3, h4⟩ | ⟨h1, m, h2, h3, h4⟩
          · subst hE
            refine Or.inl ⟨rfl, ?_, ?_⟩
            · rw [HS6.out]
              have n1 := isSg_no HB4.out.symm
              have n2 := isSg_no HB5.out.symm
              have n3 := isSg_no HB6.out.symm
              rw [HS4.out] at n1
              rw [HS5.out] at n2
              rw [HS6.out] at n3
              cases m with
              | zero => omega
              | succ m => rw [← h4, stepGo_end n1 n2 n3]
            · have hz := h2.frm (Z := fun k => k < w1.heap.size ∨ k = pb) HFrom.out (fun k _ e => Or.inl (by have e : k = q := e; omega)) (fun _ _ e => e)
              exact hz.frm (Y := fun k => k = rb) (Z := fun k => k < w.heap.size) (put4_frm (Y := fun k => k = rb) (Frm.refl _ w6) (Or.inl rfl) _ _ _ _) (fun k _ e => Or.inl (by have e : k = rb := e; omega)) (fun k _ e => Or.inl (by have := HRBE.out; have e : k < w.heap.size := e; omega))
          · exact Or.inr ⟨h1, m, h2, h3, h4⟩
end Go.Proofs.YtagmgkplfhlifaaDoor
