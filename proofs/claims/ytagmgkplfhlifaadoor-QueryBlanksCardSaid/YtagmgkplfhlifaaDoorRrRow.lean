/- The document's reader of paths: parts with a sign between. -/
import Derived.Test.YtagmgkplfhlifaaDoorRrStep
namespace Go.Proofs.YtagmgkplfhlifaaDoor
set_option linter.unusedVariables false
set_option linter.unusedSimpArgs false
set_option maxRecDepth 100000
open Go.ChangeShapes Go.WideShapes Go.ChangeAt Go.RowKit
open Au
theorem rowGo_one {part : T → Res} {sign : UInt8} {kind : Int} {m : Nat} {x : Pt} {r r1 : T} (h : Qp.skip r = sign :: r1) : Qp.rowGo part sign kind (m + 1) x r = (match part r1 with | .ok y r2 => Qp.rowGo part sign kind m (.mk kind [] [] [x, y]) r2 | .err e r2 => .err e r2) := by
  rw [Qp.rowGo, h]
  simp only [if_true]
  cases part r1 <;> rfl
theorem rowGo_end {part : T → Res} {sign : UInt8} {kind : Int} {m : Nat} {x : Pt} {r : T} (h : ∀ u, Qp.skip r ≠ sign :: u) : Qp.rowGo part sign kind (m + 1) x r = .ok x (Qp.skip r) := by
  rw [Qp.rowGo]
  cases hs : Qp.skip r with
  | nil => rfl
  | cons c u =>
    simp only
    rw [if_neg (fun e => h u (by rw [hs, e]))]
set_option maxHeartbeats 8000000 in
theorem rseq_any (W0 : World) (q : Nat) (l : T) (d : Int) (bk : T → Res) (hsh : Qp.Short bk) (hl : l.length ≤ 100000000) (hq : W0.heap.size ≤ q)
    (HK : Hid (RReads W0 q l 64 #[.pointer (some ⟨q, 0, none⟩), .int .i64 d] bk)) :
    RReads W0 q l 47 #[.pointer (some ⟨q, 0, none⟩), .int .i64 d] (Qp.row bk 47 3) := by
  intro i P0 w hr hi hB
  obtain ⟨w1, hw1⟩ : ∃ w1, w1 = w.alloc (.cells #[.int .i64 0, .string ⟨#[]⟩, .slice none 0 0, .slice none 0 0] 25) := ⟨_, rfl⟩
  have hb1 : Below w.heap.size w w1 := by rw [hw1]; exact (Below.refl _ _).alloc (Nat.le_refl _) _
  have HRB := hid (show Blk w1 w.heap.size [.int .i64 0, .string ⟨#[]⟩, .slice none 0 0, .slice none 0 0] 25 by rw [hw1]; exact Blk.new w _ _)
  have HB1 := hid hb1
  have hsz1 : w1.heap.size = w.heap.size + 1 := by rw [hw1]; simp
  have HBW1 := hid (hB.trans (hb1.mono hB.size))
  have HR1 := hid (hr.keep hb1)
  have hqw := hr.lt
  obtain ⟨rb, hrb⟩ : ∃ b, b = w.heap.size := ⟨_, rfl⟩
  rw [← hrb] at HRB
  have hrw1 : rb < w1.heap.size := by omega
  have hqw1 : q < w1.heap.size := by omega
  have hrb2 : rb ≠ q := by omega
  have HRBE := hid hrb
  have HSZ1 := hid hsz1
  have HW01 := hB.size
  have HSH := hid hsh
  have BK := HK.out i P0 w1 HR1.out hi HBW1.out
  unfold RRd at BK
  have BK := hid BK
  go_enter Tryd.func47, Tryd.ntmps47
  go_upto_region 1 with fail
  rw [← hw1, ← hrb]
  clear hw1 hrb hsz1 hr hB hb1 hsh
  go_wp2_with fail
  refine BK.out.mono ?_
  rintro e w2 ⟨x, a, a', n, c, n', c', E, P, j, rfl, hij, hj, hR2, hF2, hres⟩
  obtain ⟨w3, hw3⟩ : ∃ w3, w3 = w2.alloc (.cells #[.int .i64 x.kind, .string ⟨x.text.toArray⟩, .slice a n c, .slice a' n' c'] 25) := ⟨_, rfl⟩
  have hb3 : Below w2.heap.size w2 w3 := by rw [hw3]; exact (Below.refl _ _).alloc (Nat.le_refl _) _
  obtain ⟨pb, hpb⟩ : ∃ b, b = w2.heap.size := ⟨_, rfl⟩
  have HPB := hid (show Blk w3 pb [.int .i64 x.kind, str x.text, .slice a n c, .slice a' n' c'] 25 by rw [hw3, hpb]; exact Blk.new w2 _ _)
  have HR3 := hid (hR2.keep hb3)
  have hs2 := hF2.size
  have hpr : pb ≠ rb := by omega
  have hpq : pb ≠ q := by omega
  have hpw : w1.heap.size ≤ pb := by omega
  have HF3 := hid ((hF2.trans (Frm.of_below (X := isQ q) hb3) (fun _ _ e => e)))
  obtain ⟨ANS, hANS⟩ : ∃ z, z = Qp.row bk 47 3 (l.drop i) := ⟨_, rfl⟩
  have HAN := hid hANS
  have HM0 := hid (show (E = 0 ∧ Asd (fun k => k < w1.heap.size ∨ k = pb) w3 (fun W => PtB W (.slice a n c) (.slice a' n' c') x) ∧ ∃ m, (l.drop j).length < m ∧ Qp.rowGo bk 47 3 m x (l.drop j) = ANS) ∨ (E ≠ 0 ∧ ∃ m : Nat, m ≤ l.length ∧ P = m ∧ ANS = .err E (l.drop m)) by
    rcases hres with ⟨h1, h2, h3⟩ | ⟨h1, m, h2, h3, h4⟩
    · refine Or.inl ⟨h1, h3.out.frm (Y := fun _ => False) (Z := fun k => k < w1.heap.size ∨ k = pb) (Frm.of_below hb3) (fun _ _ e => e.elim) (fun k hk e => e.elim id (fun e => by omega)), (l.drop j).length + 1, by omega, ?_⟩
      rw [hANS]; unfold Qp.row; rw [h2]
    · refine Or.inr ⟨h1, m, h2, h3, ?_⟩
      rw [hANS]; unfold Qp.row; rw [h4])
  clear hR2 hF2 hres BK hANS
  go_upto_region 2 with fail
  rw [← hw3, ← hpb]
  clear hw3 hpb hs2 hb3
  go_loopg [] (l.length + 1) (fun gk wr => ∃ (x : Pt) (a a' : Option Addr) (n c n' c' : Nat) (E P : Int) (j : Nat), i ≤ j ∧ j ≤ l.length ∧ l.length - j + 1 ≤ gk ∧ Hid (Rr wr q l j E P) ∧ Hid (Frm (isQ q) w1 wr) ∧ Hid (Blk wr pb [.int .i64 x.kind, str x.text, .slice a n c, .slice a' n' c'] 25) ∧ Hid ((E = 0 ∧ Asd (fun k => k < w1.heap.size ∨ k = pb) wr (fun W => PtB W (.slice a n c) (.slice a' n' c') x) ∧ ∃ m, (l.drop j).length < m ∧ Qp.rowGo bk 47 3 m x (l.drop j) = ANS) ∨ (E ≠ 0 ∧ ∃ m : Nat, m ≤ l.length ∧ P = m ∧ ANS = .err E (l.drop m))))
  case atStart => exact ⟨x, a, a', n, c, n', c', E, P, j, hij, hj, by omega, HR3.out, HF3.out, HPB.out, HM0.out⟩
  case round =>
    clear HR3 HF3 HPB HM0 hij hj
    obtain ⟨x, a, a', n, c, n', c', E, P, j, hij, hj, hgk, HR, HF, HPB, HM⟩ := hrel
    have SG := rsgn_any q l j E P 47 (by decide) wr HR.out hl (by omega)
    unfold SgnPost at SG
    have SG := hid (show Calls Tryd.prog 48 #[.pointer (some ⟨q, 0, none⟩), .int .u8 47] wr _ from SG)
    go_wp2_with fail
    refine SG.out.mono ?_
    rintro e w4 ⟨j4, rfl, hjj4, hj4, hd, hF, hres⟩
    have HFN4 := hid hF
    have HF4 := hid (HF.out.trans hF (fun _ _ e => e))
    have HPB4 := hid (HPB.out.frm hF (fun e => hpq e))
    obtain ⟨B, hBB⟩ : ∃ z, z = isSg E (l.drop j4) 47 := ⟨_, rfl⟩
    rw [← hBB] at hres ⊢
    have HB4 := hid hBB
    have HS4 := hid (show l.drop j4 = Qp.skip (l.drop j) by rw [hd])
    have HRES := hid hres
    clear hd hF hres SG hBB
    cases B
    case false =>
      have HR4 := hid (show Rr w4 q l j4 E P from HRES.out.elim (fun h => h.2) (fun h => by have := h.1; cases this))
      clear HRES
      have HRB4 := hid (HRB.out.frm HF4.out (fun e => hrb2 e))
      obtain ⟨p0, p1, p2, p3⟩ := blk4 HPB4.out
      unfold str at p1
      obtain ⟨r0, r1, r2, r3⟩ := blk4 HRB4.out
      have k0 := HRB4.out.free 0
      have k1 := HRB4.out.free 1
      have k2 := HRB4.out.free 2
      have k3 := HRB4.out.free 3
      have HZ := hid (put4_blk HRB4.out (.int .i64 x.kind) (.string ⟨x.text.toArray⟩) (.slice a n c) (.slice a' n' c'))
      have HQ := hid (show Rr (put4 w4 rb (.int .i64 x.kind) (.string ⟨x.text.toArray⟩) (.slice a n c) (.slice a' n' c')) q l (j4) (E) (P) from put4_other HR4.out (Ne.symm hrb2) _ _ _ _)
      have HFZ := hid (put4_frm (Y := isQ q) (w := w) (b := rb) (X := w4) ((Frm.of_below (X := isQ q) HB1.out).trans HF4.out (fun _ _ e => e)) (Or.inr (by have := HRBE.out; omega)) (.int .i64 x.kind) (.string ⟨x.text.toArray⟩) (.slice a n c) (.slice a' n' c'))
      go_wp2
      try rw [Exit.noGoto_ret]
      refine bodyPost_ret (v := .agg #[.int .i64 x.kind, .string ⟨x.text.toArray⟩, .slice a n c, .slice a' n' c']) (fail_ret (s := 4) rfl HZ.out Tryd.results47) rfl ?_
      refine ⟨x, a, a', n, c, n', c', E, P, j4, rfl, by omega, by omega, HQ.out, HFZ.out, ?_⟩
      rw [← HAN.out]
      rcases HM.out with ⟨hE, h2, m, h3, h4⟩ | ⟨h1, m, h2, h3, h4⟩
      · subst hE
        refine Or.inl ⟨rfl, ?_, ?_⟩
        · rw [HS4.out]
          have n1 := isSg_no HB4.out.symm
          rw [HS4.out] at n1
          cases m with
          | zero => omega
          | succ m => rw [← h4, rowGo_end n1]
        · have hz := h2.frm (Z := fun k => k < w1.heap.size ∨ k = pb) HFN4.out (fun k _ e => Or.inl (by have e : k = q := e; omega)) (fun _ _ e => e)
          exact hz.frm (Y := fun k => k = rb) (Z := fun k => k < w.heap.size) (put4_frm (Y := fun k => k = rb) (Frm.refl _ w4) (Or.inl rfl) _ _ _ _) (fun k _ e => Or.inl (by have e : k = rb := e; omega)) (fun k _ e => Or.inl (by have := HRBE.out; have e : k < w.heap.size := e; omega))
      · exact Or.inr ⟨h1, m, h2, h3, h4⟩
    case true =>
      obtain ⟨hE, hjp, ⟨r9, hc9⟩, hR4⟩ := HRES.out.elim (fun h => by have := h.1; cases this) (fun h => h.2)
      subst hE
      have HR4 := hid hR4
      have HM2 := hid (show Asd (fun k => k < w1.heap.size ∨ k = pb) w4 (fun W => PtB W (.slice a n c) (.slice a' n' c') x) ∧ ∃ m, r9.length < m ∧ (match bk r9 with | .ok y r2 => Qp.rowGo bk 47 3 m (.mk 3 [] [] [x, y]) r2 | .err e r2 => .err e r2) = ANS by
        rcases HM.out with ⟨_, h2, m, h3, h4⟩ | ⟨h, _⟩
        · refine ⟨h2.frm (Z := fun k => k < w1.heap.size ∨ k = pb) HFN4.out (fun k _ e => Or.inl (by have e : k = q := e; omega)) (fun _ _ e => e), ?_⟩
          have hsk := HS4.out
          rw [hc9] at hsk
          have hln := Qp.skip_len (l.drop j)
          rw [← hsk] at hln
          simp only [List.length_cons] at hln
          cases m with
          | zero => omega
          | succ m =>
            rw [rowGo_one hsk.symm] at h4
            exact ⟨m, by omega, h4⟩
        · exact absurd rfl h)
      have HDR := hid (qdrop_get l j4 _ r9 hc9).2.2
      have HBW4 := hid (HBW1.out.trans (HF4.out.below HBW1.out.size (fun k hk e => by have e : k = q := e; omega)))
      have FD4 := hid (show Frm (isQ q) w4 w4.drew from (Frm.refl (isQ q) w4).drewN 1)
      have BK := HK.out (j4 + 1) P w4.drew HR4.out hjp (below_drawn HBW4.out 1)
      unfold RRd at BK
      have BK := hid BK
      obtain ⟨p0, p1, p2, p3⟩ := blk4 HPB4.out
      unfold str at p1
      have hplt4 := HPB4.out.lt
      clear hc9 hR4 HRES HM
      go_upto_region 3 with fail
      go_region_law
        (first
          | (go_simp; go_at_call 64; refine BK.out.mono ?_; rintro e w9 ⟨y, b, b', m, d9, m', d', E9, P9, j9, rfl, hij9, hj9, hR9, hF9, hres9⟩; have hFW := FD4.out.trans hF9 (fun _ _ e => e); have HPB9 := hid (HPB4.out.frm hFW (fun e => hpq e)); have HR9 := hid hR9; have HFD9 := hid hF9; have HFW9 := hid hFW; have HRES9 := hid hres9; have x0 := HPB9.out.cell (i := 0) rfl; have x1 := HPB9.out.cell (i := 1) rfl; have x2 := HPB9.out.cell (i := 2) rfl; have x3 := HPB9.out.cell (i := 3) rfl; unfold str at x1; have z0 := HPB9.out.free 0; have z1 := HPB9.out.free 1; have z2 := HPB9.out.free 2; have z3 := HPB9.out.free 3; have hplt9 := HPB9.out.lt; clear hR9 hF9 hFW hres9)
          | fail)
      all_goals
        have HF9 := hid (HF4.out.trans HFW9.out (fun _ _ e => e))
        have hs49 := HFD9.out.size
        have hs9 := HF9.out.size
        obtain ⟨Z, hZ⟩ : ∃ Z, Z = (put4 w9 pb (.int .i64 3) (.string ⟨#[]⟩) (.slice none 0 0) (.slice (some ⟨w9.heap.size, 0, none⟩) 2 2)).alloc (.cells #[.int .i64 x.kind, .string ⟨x.text.toArray⟩, .slice a n c, .slice a' n' c', .int .i64 y.kind, .string ⟨y.text.toArray⟩, .slice b m d9, .slice b' m' d'] 25) := ⟨_, rfl⟩
        have HZ := hid (show Blk Z pb [.int .i64 3, .string ⟨#[]⟩, .slice none 0 0, .slice (some ⟨w9.heap.size, 0, none⟩) 2 2] 25 by rw [hZ]; exact (put4_blk HPB9.out _ _ _ _).alloc _)
        have HTB := hid (show Blk Z w9.heap.size [.int .i64 x.kind, str x.text, .slice a n c, .slice a' n' c', .int .i64 y.kind, str y.text, .slice b m d9, .slice b' m' d'] 25 by rw [hZ]; exact Blk.new' (by simp) rfl)
        have HQ := hid (show Rr Z q l j9 E9 P9 by rw [hZ]; exact (put4_other HR9.out (Ne.symm hpq) _ _ _ _).alloc _)
        have HFX := hid (show Frm (fun k => k = pb) w9 Z by rw [hZ]; exact (put4_frm (Y := fun k => k = pb) (Frm.refl _ w9) (Or.inl rfl) _ _ _ _).alloc _)
        have HFZ := hid (show Frm (isQ q) w1 Z by rw [hZ]; exact (put4_frm (Y := isQ q) (w := w1) (b := pb) (X := w9) HF9.out (Or.inr hpw) _ _ _ _).alloc _)
        obtain ⟨tb, htb⟩ : ∃ b, b = w9.heap.size := ⟨_, rfl⟩
        rw [← htb] at HZ HTB
        have HTBE := hid htb
        have HMZ := hid (show (E9 = 0 ∧ Asd (fun k => k < w1.heap.size ∨ k = pb) Z (fun W => PtB W (.slice none 0 0) (.slice (some ⟨tb, 0, none⟩) 2 2) (.mk 3 [] [] [x, y])) ∧ ∃ m, (l.drop j9).length < m ∧ Qp.rowGo bk 47 3 m (.mk 3 [] [] [x, y]) (l.drop j9) = ANS) ∨ (E9 ≠ 0 ∧ ∃ m : Nat, m ≤ l.length ∧ P9 = m ∧ ANS = .err E9 (l.drop m)) by
          obtain ⟨hx, m0, hm1, hm2⟩ := HM2.out
          rcases HRES9.out with ⟨h1, h2, h3⟩ | ⟨h1, m1, h2, h3, h4⟩
          · rw [HDR.out] at h2
            rw [h2] at hm2
            refine Or.inl ⟨h1, ?_, m0, ?_, hm2⟩
            · have hz1 := (hx.frm (Z := fun k => k < w1.heap.size ∨ k = pb) HFW9.out (fun k _ e => Or.inl (by have e : k = q := e; omega)) (fun _ _ e => e)).frm (Z := fun k => k < w1.heap.size ∨ k = pb) HFX.out (fun k _ e => Or.inr e) (fun _ _ e => e)
              have hz2 := Asd.frm (Z := fun k => k < w1.heap.size ∨ k = pb) h3.out HFX.out (fun k _ e => by have e : k = pb := e; show k < w4.drew.heap.size; rw [e]; exact hplt4) (fun k _ e => by
                show k < w4.heap.size
                rcases e with e | e
                · have := HF4.out.size; omega
                · omega)
              exact Asd.and (Asd.blk HTB.out (by have := HTBE.out; have := HF9.out.size; omega)) (Asd.and hz1 hz2 (R := fun W => PtB W (.slice a n c) (.slice a' n' c') x ∧ PtB W (.slice b m d9) (.slice b' m' d') y) (fun W h5 h6 => ⟨h5, h6⟩)) (fun W h5 h6 => qptb_two 3 (by decide) h5 h6.1 h6.2)
            · have := HSH.out _ _ _ h2; omega
          · rw [HDR.out] at h4
            rw [h4] at hm2
            exact Or.inr ⟨h1, m1, h2, h3, hm2.symm⟩)
        go_wp2
        rw [← hZ, ← htb]
        clear hZ htb hplt4 hplt9 p0 p1 p2 p3 x0 x1 x2 x3 z0 z1 z2 z3
        go_roundg (l.length - j9 + 1)
        case measure => omega
        case rel => exact ⟨.mk 3 [] [] [x, y], none, some ⟨tb, 0, none⟩, 0, 0, 2, 2, E9, P9, j9, by omega, hj9, Nat.le_refl _, HQ.out, HFZ.out, HZ.out, HMZ.out⟩
set_option maxHeartbeats 8000000 in
theorem rpath_any (W0 : World) (q : Nat) (l : T) (d : Int) (bk : T → Res) (hsh : Qp.Short bk) (hl : l.length ≤ 100000000) (hq : W0.heap.size ≤ q)
    (HK : Hid (RReads W0 q l 47 #[.pointer (some ⟨q, 0, none⟩), .int .i64 d] bk)) :
    RReads W0 q l 30 #[.pointer (some ⟨q, 0, none⟩), .int .i64 d] (Qp.row bk 124 4) := by
  intro i P0 w hr hi hB
  obtain ⟨w1, hw1⟩ : ∃ w1, w1 = w.alloc (.cells #[.int .i64 0, .string ⟨#[]⟩, .slice none 0 0, .slice none 0 0] 25) := ⟨_, rfl⟩
  have hb1 : Below w.heap.size w w1 := by rw [hw1]; exact (Below.refl _ _).alloc (Nat.le_refl _) _
  have HRB := hid (show Blk w1 w.heap.size [.int .i64 0, .string ⟨#[]⟩, .slice none 0 0, .slice none 0 0] 25 by rw [hw1]; exact Blk.new w _ _)
  have HB1 := hid hb1
  have hsz1 : w1.heap.size = w.heap.size + 1 := by rw [hw1]; simp
  have HBW1 := hid (hB.trans (hb1.mono hB.size))
  have HR1 := hid (hr.keep hb1)
  have hqw := hr.lt
  obtain ⟨rb, hrb⟩ : ∃ b, b = w.heap.size := ⟨_, rfl⟩
  rw [← hrb] at HRB
  have hrw1 : rb < w1.heap.size := by omega
  have hqw1 : q < w1.heap.size := by omega
  have hrb2 : rb ≠ q := by omega
  have HRBE := hid hrb
  have HSZ1 := hid hsz1
  have HW01 := hB.size
  have HSH := hid hsh
  have BK := HK.out i P0 w1 HR1.out hi HBW1.out
  unfold RRd at BK
  have BK := hid BK
  go_enter Tryd.func30, Tryd.ntmps30
  go_upto_region 1 with fail
  rw [← hw1, ← hrb]
  clear hw1 hrb hsz1 hr hB hb1 hsh
  go_wp2_with fail
  refine BK.out.mono ?_
  rintro e w2 ⟨x, a, a', n, c, n', c', E, P, j, rfl, hij, hj, hR2, hF2, hres⟩
  obtain ⟨w3, hw3⟩ : ∃ w3, w3 = w2.alloc (.cells #[.int .i64 x.kind, .string ⟨x.text.toArray⟩, .slice a n c, .slice a' n' c'] 25) := ⟨_, rfl⟩
  have hb3 : Below w2.heap.size w2 w3 := by rw [hw3]; exact (Below.refl _ _).alloc (Nat.le_refl _) _
  obtain ⟨pb, hpb⟩ : ∃ b, b = w2.heap.size := ⟨_, rfl⟩
  have HPB := hid (show Blk w3 pb [.int .i64 x.kind, str x.text, .slice a n c, .slice a' n' c'] 25 by rw [hw3, hpb]; exact Blk.new w2 _ _)
  have HR3 := hid (hR2.keep hb3)
  have hs2 := hF2.size
  have hpr : pb ≠ rb := by omega
  have hpq : pb ≠ q := by omega
  have hpw : w1.heap.size ≤ pb := by omega
  have HF3 := hid ((hF2.trans (Frm.of_below (X := isQ q) hb3) (fun _ _ e => e)))
  obtain ⟨ANS, hANS⟩ : ∃ z, z = Qp.row bk 124 4 (l.drop i) := ⟨_, rfl⟩
  have HAN := hid hANS
  have HM0 := hid (show (E = 0 ∧ Asd (fun k => k < w1.heap.size ∨ k = pb) w3 (fun W => PtB W (.slice a n c) (.slice a' n' c') x) ∧ ∃ m, (l.drop j).length < m ∧ Qp.rowGo bk 124 4 m x (l.drop j) = ANS) ∨ (E ≠ 0 ∧ ∃ m : Nat, m ≤ l.length ∧ P = m ∧ ANS = .err E (l.drop m)) by
    rcases hres with ⟨h1, h2, h3⟩ | ⟨h1, m, h2, h3, h4⟩
    · refine Or.inl ⟨h1, h3.out.frm (Y := fun _ => False) (Z := fun k => k < w1.heap.size ∨ k = pb) (Frm.of_below hb3) (fun _ _ e => e.elim) (fun k hk e => e.elim id (fun e => by omega)), (l.drop j).length + 1, by omega, ?_⟩
      rw [hANS]; unfold Qp.row; rw [h2]
    · refine Or.inr ⟨h1, m, h2, h3, ?_⟩
      rw [hANS]; unfold Qp.row; rw [h4])
  clear hR2 hF2 hres BK hANS
  go_upto_region 2 with fail
  rw [← hw3, ← hpb]
  clear hw3 hpb hs2 hb3
  go_loopg [] (l.length + 1) (fun gk wr => ∃ (x : Pt) (a a' : Option Addr) (n c n' c' : Nat) (E P : Int) (j : Nat), i ≤ j ∧ j ≤ l.length ∧ l.length - j + 1 ≤ gk ∧ Hid (Rr wr q l j E P) ∧ Hid (Frm (isQ q) w1 wr) ∧ Hid (Blk wr pb [.int .i64 x.kind, str x.text, .slice a n c, .slice a' n' c'] 25) ∧ Hid ((E = 0 ∧ Asd (fun k => k < w1.heap.size ∨ k = pb) wr (fun W => PtB W (.slice a n c) (.slice a' n' c') x) ∧ ∃ m, (l.drop j).length < m ∧ Qp.rowGo bk 124 4 m x (l.drop j) = ANS) ∨ (E ≠ 0 ∧ ∃ m : Nat, m ≤ l.length ∧ P = m ∧ ANS = .err E (l.drop m))))
  case atStart => exact ⟨x, a, a', n, c, n', c', E, P, j, hij, hj, by omega, HR3.out, HF3.out, HPB.out, HM0.out⟩
  case round =>
    clear HR3 HF3 HPB HM0 hij hj
    obtain ⟨x, a, a', n, c, n', c', E, P, j, hij, hj, hgk, HR, HF, HPB, HM⟩ := hrel
    have SG := rsgn_any q l j E P 124 (by decide) wr HR.out hl (by omega)
    unfold SgnPost at SG
    have SG := hid (show Calls Tryd.prog 48 #[.pointer (some ⟨q, 0, none⟩), .int .u8 124] wr _ from SG)
    go_wp2_with fail
    refine SG.out.mono ?_
    rintro e w4 ⟨j4, rfl, hjj4, hj4, hd, hF, hres⟩
    have HFN4 := hid hF
    have HF4 := hid (HF.out.trans hF (fun _ _ e => e))
    have HPB4 := hid (HPB.out.frm hF (fun e => hpq e))
    obtain ⟨B, hBB⟩ : ∃ z, z = isSg E (l.drop j4) 124 := ⟨_, rfl⟩
    rw [← hBB] at hres ⊢
    have HB4 := hid hBB
    have HS4 := hid (show l.drop j4 = Qp.skip (l.drop j) by rw [hd])
    have HRES := hid hres
    clear hd hF hres SG hBB
    cases B
    case false =>
      have HR4 := hid (show Rr w4 q l j4 E P from HRES.out.elim (fun h => h.2) (fun h => by have := h.1; cases this))
      clear HRES
      have HRB4 := hid (HRB.out.frm HF4.out (fun e => hrb2 e))
      obtain ⟨p0, p1, p2, p3⟩ := blk4 HPB4.out
      unfold str at p1
      obtain ⟨r0, r1, r2, r3⟩ := blk4 HRB4.out
      have k0 := HRB4.out.free 0
      have k1 := HRB4.out.free 1
      have k2 := HRB4.out.free 2
      have k3 := HRB4.out.free 3
      have HZ := hid (put4_blk HRB4.out (.int .i64 x.kind) (.string ⟨x.text.toArray⟩) (.slice a n c) (.slice a' n' c'))
      have HQ := hid (show Rr (put4 w4 rb (.int .i64 x.kind) (.string ⟨x.text.toArray⟩) (.slice a n c) (.slice a' n' c')) q l (j4) (E) (P) from put4_other HR4.out (Ne.symm hrb2) _ _ _ _)
      have HFZ := hid (put4_frm (Y := isQ q) (w := w) (b := rb) (X := w4) ((Frm.of_below (X := isQ q) HB1.out).trans HF4.out (fun _ _ e => e)) (Or.inr (by have := HRBE.out; omega)) (.int .i64 x.kind) (.string ⟨x.text.toArray⟩) (.slice a n c) (.slice a' n' c'))
      go_wp2
      try rw [Exit.noGoto_ret]
      refine bodyPost_ret (v := .agg #[.int .i64 x.kind, .string ⟨x.text.toArray⟩, .slice a n c, .slice a' n' c']) (fail_ret (s := 4) rfl HZ.out Tryd.results30) rfl ?_
      refine ⟨x, a, a', n, c, n', c', E, P, j4, rfl, by omega, by omega, HQ.out, HFZ.out, ?_⟩
      rw [← HAN.out]
      rcases HM.out with ⟨hE, h2, m, h3, h4⟩ | ⟨h1, m, h2, h3, h4⟩
      · subst hE
        refine Or.inl ⟨rfl, ?_, ?_⟩
        · rw [HS4.out]
          have n1 := isSg_no HB4.out.symm
          rw [HS4.out] at n1
          cases m with
          | zero => omega
          | succ m => rw [← h4, rowGo_end n1]
        · have hz := h2.frm (Z := fun k => k < w1.heap.size ∨ k = pb) HFN4.out (fun k _ e => Or.inl (by have e : k = q := e; omega)) (fun _ _ e => e)
          exact hz.frm (Y := fun k => k = rb) (Z := fun k => k < w.heap.size) (put4_frm (Y := fun k => k = rb) (Frm.refl _ w4) (Or.inl rfl) _ _ _ _) (fun k _ e => Or.inl (by have e : k = rb := e; omega)) (fun k _ e => Or.inl (by have := HRBE.out; have e : k < w.heap.size := e; omega))
      · exact Or.inr ⟨h1, m, h2, h3, h4⟩
    case true =>
      obtain ⟨hE, hjp, ⟨r9, hc9⟩, hR4⟩ := HRES.out.elim (fun h => by have := h.1; cases this) (fun h => h.2)
      subst hE
      have HR4 := hid hR4
      have HM2 := hid (show Asd (fun k => k < w1.heap.size ∨ k = pb) w4 (fun W => PtB W (.slice a n c) (.slice a' n' c') x) ∧ ∃ m, r9.length < m ∧ (match bk r9 with | .ok y r2 => Qp.rowGo bk 124 4 m (.mk 4 [] [] [x, y]) r2 | .err e r2 => .err e r2) = ANS by
        rcases HM.out with ⟨_, h2, m, h3, h4⟩ | ⟨h, _⟩
        · refine ⟨h2.frm (Z := fun k => k < w1.heap.size ∨ k = pb) HFN4.out (fun k _ e => Or.inl (by have e : k = q := e; omega)) (fun _ _ e => e), ?_⟩
          have hsk := HS4.out
          rw [hc9] at hsk
          have hln := Qp.skip_len (l.drop j)
          rw [← hsk] at hln
          simp only [List.length_cons] at hln
          cases m with
          | zero => omega
          | succ m =>
            rw [rowGo_one hsk.symm] at h4
            exact ⟨m, by omega, h4⟩
        · exact absurd rfl h)
      have HDR := hid (qdrop_get l j4 _ r9 hc9).2.2
      have HBW4 := hid (HBW1.out.trans (HF4.out.below HBW1.out.size (fun k hk e => by have e : k = q := e; omega)))
      have FD4 := hid (show Frm (isQ q) w4 w4.drew from (Frm.refl (isQ q) w4).drewN 1)
      have BK := HK.out (j4 + 1) P w4.drew HR4.out hjp (below_drawn HBW4.out 1)
      unfold RRd at BK
      have BK := hid BK
      obtain ⟨p0, p1, p2, p3⟩ := blk4 HPB4.out
      unfold str at p1
      have hplt4 := HPB4.out.lt
      clear hc9 hR4 HRES HM
      go_upto_region 3 with fail
      go_region_law
        (first
          | (go_simp; go_at_call 47; refine BK.out.mono ?_; rintro e w9 ⟨y, b, b', m, d9, m', d', E9, P9, j9, rfl, hij9, hj9, hR9, hF9, hres9⟩; have hFW := FD4.out.trans hF9 (fun _ _ e => e); have HPB9 := hid (HPB4.out.frm hFW (fun e => hpq e)); have HR9 := hid hR9; have HFD9 := hid hF9; have HFW9 := hid hFW; have HRES9 := hid hres9; have x0 := HPB9.out.cell (i := 0) rfl; have x1 := HPB9.out.cell (i := 1) rfl; have x2 := HPB9.out.cell (i := 2) rfl; have x3 := HPB9.out.cell (i := 3) rfl; unfold str at x1; have z0 := HPB9.out.free 0; have z1 := HPB9.out.free 1; have z2 := HPB9.out.free 2; have z3 := HPB9.out.free 3; have hplt9 := HPB9.out.lt; clear hR9 hF9 hFW hres9)
          | fail)
      all_goals
        have HF9 := hid (HF4.out.trans HFW9.out (fun _ _ e => e))
        have hs49 := HFD9.out.size
        have hs9 := HF9.out.size
        obtain ⟨Z, hZ⟩ : ∃ Z, Z = (put4 w9 pb (.int .i64 4) (.string ⟨#[]⟩) (.slice none 0 0) (.slice (some ⟨w9.heap.size, 0, none⟩) 2 2)).alloc (.cells #[.int .i64 x.kind, .string ⟨x.text.toArray⟩, .slice a n c, .slice a' n' c', .int .i64 y.kind, .string ⟨y.text.toArray⟩, .slice b m d9, .slice b' m' d'] 25) := ⟨_, rfl⟩
        have HZ := hid (show Blk Z pb [.int .i64 4, .string ⟨#[]⟩, .slice none 0 0, .slice (some ⟨w9.heap.size, 0, none⟩) 2 2] 25 by rw [hZ]; exact (put4_blk HPB9.out _ _ _ _).alloc _)
        have HTB := hid (show Blk Z w9.heap.size [.int .i64 x.kind, str x.text, .slice a n c, .slice a' n' c', .int .i64 y.kind, str y.text, .slice b m d9, .slice b' m' d'] 25 by rw [hZ]; exact Blk.new' (by simp) rfl)
        have HQ := hid (show Rr Z q l j9 E9 P9 by rw [hZ]; exact (put4_other HR9.out (Ne.symm hpq) _ _ _ _).alloc _)
        have HFX := hid (show Frm (fun k => k = pb) w9 Z by rw [hZ]; exact (put4_frm (Y := fun k => k = pb) (Frm.refl _ w9) (Or.inl rfl) _ _ _ _).alloc _)
        have HFZ := hid (show Frm (isQ q) w1 Z by rw [hZ]; exact (put4_frm (Y := isQ q) (w := w1) (b := pb) (X := w9) HF9.out (Or.inr hpw) _ _ _ _).alloc _)
        obtain ⟨tb, htb⟩ : ∃ b, b = w9.heap.size := ⟨_, rfl⟩
        rw [← htb] at HZ HTB
        have HTBE := hid htb
        have HMZ := hid (show (E9 = 0 ∧ Asd (fun k => k < w1.heap.size ∨ k = pb) Z (fun W => PtB W (.slice none 0 0) (.slice (some ⟨tb, 0, none⟩) 2 2) (.mk 4 [] [] [x, y])) ∧ ∃ m, (l.drop j9).length < m ∧ Qp.rowGo bk 124 4 m (.mk 4 [] [] [x, y]) (l.drop j9) = ANS) ∨ (E9 ≠ 0 ∧ ∃ m : Nat, m ≤ l.length ∧ P9 = m ∧ ANS = .err E9 (l.drop m)) by
          obtain ⟨hx, m0, hm1, hm2⟩ := HM2.out
          rcases HRES9.out with ⟨h1, h2, h3⟩ | ⟨h1, m1, h2, h3, h4⟩
          · rw [HDR.out] at h2
            rw [h2] at hm2
            refine Or.inl ⟨h1, ?_, m0, ?_, hm2⟩
            · have hz1 := (hx.frm (Z := fun k => k < w1.heap.size ∨ k = pb) HFW9.out (fun k _ e => Or.inl (by have e : k = q := e; omega)) (fun _ _ e => e)).frm (Z := fun k => k < w1.heap.size ∨ k = pb) HFX.out (fun k _ e => Or.inr e) (fun _ _ e => e)
              have hz2 := Asd.frm (Z := fun k => k < w1.heap.size ∨ k = pb) h3.out HFX.out (fun k _ e => by have e : k = pb := e; show k < w4.drew.heap.size; rw [e]; exact hplt4) (fun k _ e => by
                show k < w4.heap.size
                rcases e with e | e
                · have := HF4.out.size; omega
                · omega)
              exact Asd.and (Asd.blk HTB.out (by have := HTBE.out; have := HF9.out.size; omega)) (Asd.and hz1 hz2 (R := fun W => PtB W (.slice a n c) (.slice a' n' c') x ∧ PtB W (.slice b m d9) (.slice b' m' d') y) (fun W h5 h6 => ⟨h5, h6⟩)) (fun W h5 h6 => qptb_two 4 (by decide) h5 h6.1 h6.2)
            · have := HSH.out _ _ _ h2; omega
          · rw [HDR.out] at h4
            rw [h4] at hm2
            exact Or.inr ⟨h1, m1, h2, h3, hm2.symm⟩)
        go_wp2
        rw [← hZ, ← htb]
        clear hZ htb hplt4 hplt9 p0 p1 p2 p3 x0 x1 x2 x3 z0 z1 z2 z3
        go_roundg (l.length - j9 + 1)
        case measure => omega
        case rel => exact ⟨.mk 4 [] [] [x, y], none, some ⟨tb, 0, none⟩, 0, 0, 2, 2, E9, P9, j9, by omega, hj9, Nat.le_refl _, HQ.out, HFZ.out, HZ.out, HMZ.out⟩
end Go.Proofs.YtagmgkplfhlifaaDoor
