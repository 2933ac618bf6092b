/- query's reader of paths: parts in a row; a sequence; a path. -/
import Derived.Test.YtagmgkplfhlifaaDoorQpNot
import Derived.WalkMore
namespace Go.Proofs.YtagmgkplfhlifaaDoor
set_option linter.unusedVariables false
set_option linter.unusedSimpArgs false
set_option maxRecDepth 100000
open Go.ChangeShapes Go.WideShapes Go.ChangeAt Go.RowKit
open Au
set_option maxHeartbeats 8000000 in
theorem qrow_step (W0 : World) (q : Nat) (l : T) (d : Int) (sign : UInt8) (kind : Int) (hk : -9223372036854775808 ≤ kind ∧ kind ≤ 9223372036854775807) (hs0 : sign.toNat ≠ 0) (pt : T → Res) (hl : l.length ≤ 100000000) (hq : W0.heap.size ≤ q) (HK : Hid (Reads W0 q l 78 #[.pointer (some ⟨q, 0, none⟩), .int .i64 d] pt)) :
    Reads W0 q l 62 #[.pointer (some ⟨q, 0, none⟩), .int .u8 (sign.toNat : Nat), .int .i64 kind, .int .i64 d, .func (Fn.func 78) #[.pointer (some ⟨q, 0, none⟩)] #[]] (Qp.row pt sign kind) := by
  intro i w hr hi hB
  have hq1 := hr.lt
  obtain ⟨w1, hw1⟩ : ∃ w1, w1 = w.alloc (.cells #[.int .i64 0, .string ⟨#[]⟩, .slice none 0 0, .slice none 0 0] 25) := ⟨_, rfl⟩
  have hb1 : Below w.heap.size w w1 := by rw [hw1]; exact (Below.refl _ _).alloc (Nat.le_refl _) _
  have HRB := hid (show Blk w1 w.heap.size [.int .i64 0, .string ⟨#[]⟩, .slice none 0 0, .slice none 0 0] 25 by rw [hw1]; exact Blk.new w _ _)
  have HB1 := hid hb1
  have hsz1 : w1.heap.size = w.heap.size + 1 := by rw [hw1]; simp
  have HBW1 := hid (hB.trans (hb1.mono hB.size))
  have BK := HK.out i w1 (hr.keep hb1) hi HBW1.out
  have HB := hid hB
  unfold RdPost at BK
  have BK := hid BK
  obtain ⟨rb, hrb⟩ : ∃ b, b = w.heap.size := ⟨_, rfl⟩
  obtain ⟨sg, hsg⟩ : ∃ z, z = sign.toNat := ⟨_, rfl⟩
  have HSG := hid hsg
  rw [← hsg]
  clear hsg
  go_enter Tryd.func62, Tryd.ntmps62
  go_upto_region 1 with fail
  rw [← hw1, ← hrb]
  rw [← hrb] at HRB
  have hrw1 : rb < w1.heap.size := by omega
  have hqw1 : q < w1.heap.size := by omega
  have hrb2 : rb ≠ q := by omega
  have HRBE := hid hrb
  have HW01 := HBW1.out.size
  clear hw1 hb1 hr hB hrb hsz1
  go_step3
  go_wp2_with fail
  refine BK.out.mono ?_
  rintro e w2 ⟨x, a, a', n, c, n', c', no, j, rfl, hij, hj, hR2, hF2, hP2, hres⟩
  have HRB2 := hid (HRB.out.frm hF2 (fun e => hrb2 e))
  obtain ⟨w3, hw3⟩ : ∃ w3, w3 = w2.alloc (.cells #[.int .i64 x.kind, .string ⟨x.text.toArray⟩, .slice a n c, .slice a' n' c'] 25) := ⟨_, rfl⟩
  have hb3 : Below w2.heap.size w2 w3 := by rw [hw3]; exact (Below.refl _ _).alloc (Nat.le_refl _) _
  obtain ⟨pb, hpb⟩ : ∃ b, b = w2.heap.size := ⟨_, rfl⟩
  have HPB := hid (show Blk w3 pb [.int .i64 x.kind, str x.text, .slice a n c, .slice a' n' c'] 25 by rw [hw3, hpb]; exact Blk.new w2 _ _)
  have HRB3 := hid (HRB2.out.keep hb3)
  have HR3 := hid (hR2.keep hb3)
  have hs2 := hF2.size
  have hpr : pb ≠ rb := by omega
  have hpq : pb ≠ q := by omega
  have hpw : w1.heap.size ≤ pb := by omega
  have HF3 := hid ((hF2.trans (Frm.of_below (X := isQ q) hb3) (fun _ _ e => e)))
  have HP3 := hid (hP2.frm (Y := fun _ => False) (Z := fun k => k < w1.heap.size ∨ k = pb) (Frm.of_below hb3) (fun _ _ e => e.elim) (fun k hk e => e.elim id (fun e => by omega)))
  obtain ⟨ANS, hANS⟩ : ∃ z, z = Qp.row pt sign kind (l.drop i) := ⟨_, rfl⟩
  have HAN := hid hANS
  have HM0 := hid (show (no = 0 ∧ ∃ m, (l.drop j).length < m ∧ Qp.rowGo pt sign kind m x (l.drop j) = ANS) ∨ (no ≠ 0 ∧ ANS = .err no (l.drop j)) by
    rcases hres with ⟨h0, h⟩ | ⟨h0, h⟩
    · exact Or.inl ⟨h0, (l.drop j).length + 1, by omega, by rw [hANS]; unfold Qp.row; rw [h]⟩
    · exact Or.inr ⟨h0, by rw [hANS]; unfold Qp.row; rw [h]⟩)
  clear hR2 hF2 hP2 hb3 hres HRB2 HRB BK hANS
  go_wp2
  go_step3
  rw [← hw3, ← hpb]
  clear hw3 hpb hs2
  go_wp2
  go_loopg [13] (l.length + 1) (fun gk s13 wr => ∃ (x : Pt) (a a' : Option Addr) (n c n' c' : Nat) (no : Int) (j : Nat), s13 = .int .i64 no ∧ i ≤ j ∧ j ≤ l.length ∧ l.length - j + 1 ≤ gk ∧ Hid (Qr wr q l j) ∧ Hid (Frm (isQ q) w1 wr) ∧ Hid (Blk wr pb [.int .i64 x.kind, str x.text, .slice a n c, .slice a' n' c'] 25) ∧ Hid (Blk wr rb [.int .i64 0, .string ⟨#[]⟩, .slice none 0 0, .slice none 0 0] 25) ∧ Hid (Asd (fun k => k < w1.heap.size ∨ k = pb) wr (fun W => PtB W (.slice a n c) (.slice a' n' c') x)) ∧ Hid ((no = 0 ∧ ∃ m, (l.drop j).length < m ∧ Qp.rowGo pt sign kind m x (l.drop j) = ANS) ∨ (no ≠ 0 ∧ ANS = .err no (l.drop j))))
  case atStart => exact ⟨x, a, a', n, c, n', c', no, j, rfl, hij, hj, by omega, HR3.out, HF3.out, HPB.out, HRB3.out, HP3.out, HM0.out⟩
  case round =>
    clear HR3 HF3 HPB HRB3 HP3 HM0 hij hj
    obtain ⟨x, a, a', n, c, n', c', no, j, rfl, hij, hj, hgk, HR, HF, HPB, HRB, HP, HM⟩ := hrel
    by_cases hno : no = 0
    case neg =>
      have b1 : (no == 0) = false := beq_eq_false_iff_ne.2 hno
      have HE := hid (show ANS = .err no (l.drop j) by
        rcases HM.out with ⟨h, _⟩ | ⟨_, h⟩
        · exact absurd h hno
        · exact h)
      have HNO := hid hno
      clear hno
      obtain ⟨p0, p1, p2, p3⟩ := blk4 HPB.out
      unfold str at p1
      obtain ⟨r0, r1, r2, r3⟩ := blk4 HRB.out
      have k0 := HRB.out.free 0
      have k1 := HRB.out.free 1
      have k2 := HRB.out.free 2
      have k3 := HRB.out.free 3
      have HZ := hid (put4_blk HRB.out (.int .i64 x.kind) (.string ⟨x.text.toArray⟩) (.slice a n c) (.slice a' n' c'))
      have HQ := hid (show Qr (put4 wr rb (.int .i64 x.kind) (.string ⟨x.text.toArray⟩) (.slice a n c) (.slice a' n' c')) q l j from put4_other HR.out (Ne.symm hrb2) _ _ _ _)
      have HFZ := hid (put4_frm (Y := isQ q) (w := w) (b := rb) (X := wr) ((Frm.of_below (X := isQ q) HB1.out).trans HF.out (fun _ _ e => e)) (Or.inr (by have := HRBE.out; omega)) (.int .i64 x.kind) (.string ⟨x.text.toArray⟩) (.slice a n c) (.slice a' n' c'))
      have HPZ := hid (HP.out.frm (Y := fun k => k = rb) (Z := fun k => k < w.heap.size) (put4_frm (Y := fun k => k = rb) (Frm.refl _ wr) (Or.inl rfl) (.int .i64 x.kind) (.string ⟨x.text.toArray⟩) (.slice a n c) (.slice a' n' c')) (fun k _ e => Or.inl (by have e : k = rb := e; omega)) (fun k _ e => Or.inl (by have := HRBE.out; have e : k < w.heap.size := e; omega)))
      go_wp2
      try rw [Exit.noGoto_ret]
      refine bodyPost_ret (v := .tuple #[.agg #[.int .i64 x.kind, .string ⟨x.text.toArray⟩, .slice a n c, .slice a' n' c'], .int .i64 no]) (path_ret2 (s := 10) (t := 11) rfl rfl HZ.out Tryd.results62) rfl ?_
      exact ⟨x, a, a', n, c, n', c', no, j, rfl, hij, hj, HQ.out, HFZ.out, HPZ.out, Or.inr ⟨HNO.out, by rw [← HAN.out]; exact HE.out⟩⟩
    subst hno
    have PK := qpeek_any q l j wr HR.out hl hj
    unfold PeekPost at PK
    have PK := hid PK
    go_wp2_with fail
    refine PK.out.mono ?_
    rintro e w4 ⟨j2, rfl, hjj, hj2, hd, hR4, hF4⟩
    have HD2 := hid hd
    have HR4 := hid hR4
    have HF4 := hid (HF.out.trans hF4 (fun _ _ e => e))
    have HPB4 := hid (HPB.out.frm hF4 (fun e => hpq e))
    have HRB4 := hid (HRB.out.frm hF4 (fun e => hrb2 e))
    have HP4 := hid (HP.out.frm (Z := fun k => k < w1.heap.size ∨ k = pb) hF4 (fun k _ e => Or.inl (by have e : k = q := e; omega)) (fun _ _ e => e))
    obtain ⟨n9, hn9⟩ : ∃ n, n = Qp.hd (l.drop j2) := ⟨_, rfl⟩
    rw [← hn9]
    have HN9 := hid hn9
    have HM2 := hid (show ∃ m, (l.drop j).length < m ∧ Qp.rowGo pt sign kind m x (l.drop j) = ANS by
      rcases HM.out with ⟨_, h⟩ | ⟨h, _⟩
      · exact h
      · exact absurd rfl h)
    clear hd hR4 hF4 hn9 PK HR HF HPB HRB HP HM
    by_cases h9 : n9 = sg
    case neg =>
      have b1 : ((n9 : Int) == (sg : Int)) = false := beq_eq_false_iff_ne.2 (by omega)
      have b2 : ((n9 : Int) != (sg : Int)) = true := bne_iff_ne.2 (by omega)
      have HE := hid (show ANS = .ok x (l.drop j2) by
        obtain ⟨m, hm1, hm2⟩ := HM2.out
        cases m with
        | zero => omega
        | succ m =>
          rw [← hm2]
          unfold Qp.rowGo
          rw [← HD2.out]
          have hne := HN9.out
          cases hc : l.drop j2 with
          | nil => rfl
          | cons c9 r9 =>
            rw [hc] at hne
            have hne : n9 = c9.toNat := hne
            simp only
            rw [if_neg (fun e => by subst e; exact h9 (hne.trans HSG.out.symm))])
      clear h9
      obtain ⟨p0, p1, p2, p3⟩ := blk4 HPB4.out
      unfold str at p1
      obtain ⟨r0, r1, r2, r3⟩ := blk4 HRB4.out
      have k0 := HRB4.out.free 0
      have k1 := HRB4.out.free 1
      have k2 := HRB4.out.free 2
      have k3 := HRB4.out.free 3
      have HZ := hid (put4_blk HRB4.out (.int .i64 x.kind) (.string ⟨x.text.toArray⟩) (.slice a n c) (.slice a' n' c'))
      have HQ := hid (show Qr (put4 w4 rb (.int .i64 x.kind) (.string ⟨x.text.toArray⟩) (.slice a n c) (.slice a' n' c')) q l j2 from put4_other HR4.out (Ne.symm hrb2) _ _ _ _)
      have HFZ := hid (put4_frm (Y := isQ q) (w := w) (b := rb) (X := w4) ((Frm.of_below (X := isQ q) HB1.out).trans HF4.out (fun _ _ e => e)) (Or.inr (by have := HRBE.out; omega)) (.int .i64 x.kind) (.string ⟨x.text.toArray⟩) (.slice a n c) (.slice a' n' c'))
      have HPZ := hid (HP4.out.frm (Y := fun k => k = rb) (Z := fun k => k < w.heap.size) (put4_frm (Y := fun k => k = rb) (Frm.refl _ w4) (Or.inl rfl) (.int .i64 x.kind) (.string ⟨x.text.toArray⟩) (.slice a n c) (.slice a' n' c')) (fun k _ e => Or.inl (by have e : k = rb := e; omega)) (fun k _ e => Or.inl (by have := HRBE.out; have e : k < w.heap.size := e; omega)))
      go_wp2
      try rw [Exit.noGoto_ret]
      refine bodyPost_ret (v := .tuple #[.agg #[.int .i64 x.kind, .string ⟨x.text.toArray⟩, .slice a n c, .slice a' n' c'], .int .i64 0]) (path_ret2 (s := 10) (t := 11) rfl rfl HZ.out Tryd.results62) rfl ?_
      exact ⟨x, a, a', n, c, n', c', 0, j2, rfl, by omega, hj2, HQ.out, HFZ.out, HPZ.out, Or.inl ⟨rfl, by rw [← HAN.out]; exact HE.out⟩⟩
    have b1 : ((n9 : Int) == (sg : Int)) = true := beq_iff_eq.2 (by omega)
    have b2 : ((n9 : Int) != (sg : Int)) = false := by rw [h9]; simp
    have HG := hid (show ∃ (r9 : T) (m : Nat), l.drop j2 = sign :: r9 ∧ l.drop (j2 + 1) = r9 ∧ r9.length < m ∧ (match pt r9 with | .ok y r2 => Qp.rowGo pt sign kind m (.mk kind [] [] [x, y]) r2 | .err e r2 => .err e r2) = ANS by
      obtain ⟨m, hm1, hm2⟩ := HM2.out
      obtain ⟨c9, r9, hc9, hcn⟩ := Qp.hd_cons (HN9.out.symm.trans h9) (by rw [HSG.out]; exact hs0)
      have hc : c9 = sign := UInt8.toNat_inj.1 (hcn.trans HSG.out)
      subst hc
      obtain ⟨hjl2, _, hdu⟩ := qdrop_get l j2 _ r9 hc9
      have e1 := Qp.skip_len (l.drop j)
      rw [← HD2.out, hc9] at e1
      simp only [List.length_cons] at e1
      cases m with
      | zero => omega
      | succ m =>
        unfold Qp.rowGo at hm2
        rw [← HD2.out, hc9] at hm2
        simp only [if_true] at hm2
        exact ⟨r9, m, hc9, hdu, by omega, hm2⟩)
    have hj3 : j2 + 1 ≤ l.length := by
      obtain ⟨r9, _, hc9, _⟩ := HG.out
      have := (qdrop_get l j2 _ r9 hc9).1
      omega
    obtain ⟨c0, c1, f0, f1⟩ := HR4.out.cells
    clear h9 HM2
    go_upto_region 6 with fail
    obtain ⟨w5, hw5⟩ : ∃ w5, w5 = w4.setCell ⟨q, 1, none⟩ (.int .i64 ((j2 : Int) + 1)) := ⟨_, rfl⟩
    have hs5 : w5.heap.size = w4.heap.size := by rw [hw5]; simp
    have hR5 : Qr w5 q l (j2 + 1) := by rw [hw5]; exact HR4.out.to (j2 + 1)
    have hf5 : Frm (isQ q) w4 w5 := by rw [hw5]; exact Frm.set (X := isQ q) (Frm.refl _ w4) (Or.inl rfl) 1 _
    obtain ⟨w6, hw6⟩ : ∃ w6, w6 = w5.alloc (.cells #[.int .i64 0, .string ⟨#[]⟩, .slice none 0 0, .slice none 0 0] 25) := ⟨_, rfl⟩
    have hb6 : Below w5.heap.size w5 w6 := by rw [hw6]; exact (Below.refl _ _).alloc (Nat.le_refl _) _
    obtain ⟨nb, hnb⟩ : ∃ b, b = w4.heap.size := ⟨_, rfl⟩
    have HNB := hid (show Blk w6 nb [.int .i64 0, .string ⟨#[]⟩, .slice none 0 0, .slice none 0 0] 25 by rw [hw6, hnb, ← hs5]; exact Blk.new w5 _ _)
    have hlt4 := HPB4.out.lt
    have hsf4 := HF4.out.size
    have hn1 : nb ≠ pb := by omega
    have hn2 : nb ≠ rb := by omega
    have hn3 : nb ≠ q := by omega
    have hn4 : w1.heap.size ≤ nb := by omega
    have HF46 := hid (hf5.trans (Frm.of_below (X := isQ q) hb6) (fun _ _ e => e))
    have HF6 := hid (HF4.out.trans HF46.out (fun _ _ e => e))
    have HPB6 := hid (HPB4.out.frm HF46.out (fun e => hpq e))
    have HRB6 := hid (HRB4.out.frm HF46.out (fun e => hrb2 e))
    have HR6 := hid (hR5.keep hb6)
    have HP6 := hid (HP4.out.frm (Z := fun k => k < w1.heap.size ∨ k = pb ∨ k = nb) HF46.out (fun k _ e => Or.inl (by have e : k = q := e; omega)) (fun k hk e => e.elim Or.inl (fun e => e.elim Or.inr (fun e => by omega))))
    have hnb6 : nb < w6.heap.size := HNB.out.lt
    have hpb6 : pb < w6.heap.size := HPB6.out.lt
    have hw16 := HF6.out.size
    have BK := HK.out (j2 + 1) w6 HR6.out hj3 (HBW1.out.trans (HF6.out.below HW01 (fun k hk e => by have e : k = q := e; omega)))
    unfold RdPost at BK
    have BK := hid BK
    rw [← hw5, ← hw6, ← hnb]
    clear hw5 hw6 hnb hs5 hR5 hf5 hb6 HF4 HPB4 HRB4 HP4 HR4 HF46 c0 c1 f0 f1 hlt4 hsf4
    go_wp2_with fail
    refine BK.out.mono ?_
    rintro e w7 ⟨y, ya, ya', yn, yc, yn', yc', no2, j3, rfl, hjj3, hj3', hR7, hF7, hP7, hres7⟩
    have HR7 := hid hR7
    have HF7 := hid (HF6.out.trans hF7 (fun _ _ e => e))
    have HPB7 := hid (HPB6.out.frm hF7 (fun e => hpq e))
    have HRB7 := hid (HRB6.out.frm hF7 (fun e => hrb2 e))
    have HNB7 := hid (HNB.out.frm hF7 (fun e => hn3 e))
    have HX7 := hid (HP6.out.frm (Z := fun k => k < w1.heap.size ∨ k = pb ∨ k = nb) hF7 (fun k _ e => Or.inl (by have e : k = q := e; omega)) (fun _ _ e => e))
    have HY7 := hid (hP7.frm (Y := fun _ => False) (Z := fun k => k < w1.heap.size ∨ k = pb ∨ k = nb) (Frm.refl _ w7) (fun _ _ e => e.elim) (fun k _ e => by rcases e with e | e | e <;> (show k < w6.heap.size; omega)))
    have HRES := hid hres7
    clear hR7 hF7 hP7 hres7 HR6 HF6 HPB6 HRB6 HP6 HNB BK
    obtain ⟨n0, n1, n2, n3⟩ := blk4 HNB7.out
    have m0 := HNB7.out.free 0
    have m1 := HNB7.out.free 1
    have m2 := HNB7.out.free 2
    have m3 := HNB7.out.free 3
    go_upto_region 7 with fail
    obtain ⟨w8, hw8⟩ : ∃ w8, w8 = put4 w7 nb (.int .i64 y.kind) (.string ⟨y.text.toArray⟩) (.slice ya yn yc) (.slice ya' yn' yc') := ⟨_, rfl⟩
    have HNB8 := hid (show Blk w8 nb [.int .i64 y.kind, .string ⟨y.text.toArray⟩, .slice ya yn yc, .slice ya' yn' yc'] 25 by rw [hw8]; exact put4_blk HNB7.out _ _ _ _)
    have HPB8 := hid (show Blk w8 pb [.int .i64 x.kind, str x.text, .slice a n c, .slice a' n' c'] 25 by rw [hw8]; exact put4_other HPB7.out (Ne.symm hn1) _ _ _ _)
    have HRB8 := hid (show Blk w8 rb [.int .i64 0, .string ⟨#[]⟩, .slice none 0 0, .slice none 0 0] 25 by rw [hw8]; exact put4_other HRB7.out (Ne.symm hn2) _ _ _ _)
    have HR8 := hid (show Qr w8 q l j3 by rw [hw8]; exact put4_other HR7.out (Ne.symm hn3) _ _ _ _)
    have hf8 : Frm (fun k => k = nb) w7 w8 := by rw [hw8]; exact put4_frm (Y := fun k => k = nb) (Frm.refl _ w7) (Or.inl rfl) _ _ _ _
    have HF8 := hid (show Frm (isQ q) w1 w8 by rw [hw8]; exact put4_frm HF7.out (Or.inr hn4) _ _ _ _)
    have HX8 := hid (HX7.out.frm (Z := fun k => k < w1.heap.size ∨ k = pb ∨ k = nb) hf8 (fun k _ e => Or.inr (Or.inr e)) (fun _ _ e => e))
    have HY8 := hid (HY7.out.frm (Z := fun k => k < w1.heap.size ∨ k = pb ∨ k = nb) hf8 (fun k _ e => Or.inr (Or.inr e)) (fun _ _ e => e))
    have hnb8 := HNB8.out.lt
    have hpb8 := HPB8.out.lt
    have hw18 := HF8.out.size
    rw [show (((w7.setCell ⟨nb, 0, none⟩ (.int .i64 y.kind)).setCell ⟨nb, 1, none⟩ (.string ⟨y.text.toArray⟩)).setCell ⟨nb, 2, none⟩ (.slice ya yn yc)).setCell ⟨nb, 3, none⟩ (.slice ya' yn' yc') = w8 from hw8.symm]
    clear hw8 hf8 n0 n1 n2 n3 m0 m1 m2 m3 HNB7 HPB7 HRB7 HR7 HF7 HX7 HY7
    obtain ⟨y0, y1, y2, y3⟩ := blk4 HNB8.out
    obtain ⟨p0, p1, p2, p3⟩ := blk4 HPB8.out
    unfold str at p1
    have f0 := HPB8.out.free 0
    have f1 := HPB8.out.free 1
    have f2 := HPB8.out.free 2
    have f3 := HPB8.out.free 3
    obtain ⟨b, hb⟩ : ∃ b, b = w8.heap.size := ⟨_, rfl⟩
    obtain ⟨w9, hw9⟩ : ∃ w9, w9 = (put4 w8 pb (.int .i64 kind) (.string ⟨#[]⟩) (.slice none 0 0) (.slice (some ⟨w8.heap.size, 0, none⟩) 2 2)).alloc (.cells #[.int .i64 x.kind, .string ⟨x.text.toArray⟩, .slice a n c, .slice a' n' c', .int .i64 y.kind, .string ⟨y.text.toArray⟩, .slice ya yn yc, .slice ya' yn' yc'] 25) := ⟨_, rfl⟩
    have HBK := hid (show Blk w9 b [.int .i64 x.kind, str x.text, .slice a n c, .slice a' n' c', .int .i64 y.kind, str y.text, .slice ya yn yc, .slice ya' yn' yc'] 25 by rw [hw9, hb]; exact Blk.new' (by simp) rfl)
    have HPB9 := hid (show Blk w9 pb [.int .i64 kind, str [], .slice none 0 0, .slice (some ⟨w8.heap.size, 0, none⟩) 2 2] 25 by rw [hw9]; exact (put4_blk HPB8.out _ _ _ _).alloc _)
    have HRB9 := hid (show Blk w9 rb [.int .i64 0, .string ⟨#[]⟩, .slice none 0 0, .slice none 0 0] 25 by rw [hw9]; exact (put4_other HRB8.out (Ne.symm hpr) _ _ _ _).alloc _)
    have HR9 := hid (show Qr w9 q l j3 by rw [hw9]; exact (put4_other HR8.out (Ne.symm hpq) _ _ _ _).alloc _)
    have hf9 : Frm (fun k => k = pb) w8 w9 := by rw [hw9]; exact (put4_frm (Y := fun k => k = pb) (Frm.refl _ w8) (Or.inl rfl) _ _ _ _).alloc _
    have HF9 := hid (show Frm (isQ q) w1 w9 by rw [hw9]; exact (put4_frm HF8.out (Or.inr hpw) _ _ _ _).alloc _)
    have HX9 := hid (HX8.out.frm (Z := fun k => k < w1.heap.size ∨ k = pb) hf9 (fun k _ e => Or.inr (Or.inl e)) (fun k _ e => e.elim Or.inl (fun e => Or.inr (Or.inl e))))
    have HY9 := hid (HY8.out.frm (Z := fun k => k < w1.heap.size ∨ k = pb) hf9 (fun k _ e => Or.inr (Or.inl e)) (fun k _ e => e.elim Or.inl (fun e => Or.inr (Or.inl e))))
    have hbp : ¬ (b < w1.heap.size ∨ b = pb) := by omega
    have HPN := hid (Asd.and (Asd.blk HBK.out hbp) (Asd.and HX9.out HY9.out (R := fun W => PtB W (.slice a n c) (.slice a' n' c') x ∧ PtB W (.slice ya yn yc) (.slice ya' yn' yc') y) (fun W h1 h2 => ⟨h1, h2⟩)) (R := fun W => PtB W (.slice none 0 0) (.slice (some ⟨b, 0, none⟩) 2 2) (.mk kind [] [] [x, y])) (fun W h1 h2 => qptb_two kind hk h1 h2.1 h2.2))
    have HMN := hid (show (no2 = 0 ∧ ∃ m, (l.drop j3).length < m ∧ Qp.rowGo pt sign kind m (.mk kind [] [] [x, y]) (l.drop j3) = ANS) ∨ (no2 ≠ 0 ∧ ANS = .err no2 (l.drop j3)) by
      obtain ⟨r9, m, h1, h2, h3, h4⟩ := HG.out
      have hlen : (l.drop j3).length ≤ r9.length := by rw [← h2, List.length_drop, List.length_drop]; omega
      rcases HRES.out with ⟨h0, hr⟩ | ⟨h0, hr⟩
      · rw [h2] at hr
        rw [hr] at h4
        exact Or.inl ⟨h0, m, by omega, h4⟩
      · rw [h2] at hr
        rw [hr] at h4
        exact Or.inr ⟨h0, h4.symm⟩)
    rw [hb] at HPN
    clear hbp hb hf9 HX9 HY9 HBK
    subst hw9
    go_wp2
    go_roundg (l.length - j3 + 1)
    case measure => omega
    case rel => exact ⟨.mk kind [] [] [x, y], none, some ⟨w8.heap.size, 0, none⟩, 0, 0, 2, 2, no2, j3, rfl, by omega, hj3', Nat.le_refl _, HR9.out, HF9.out, HPB9.out, HRB9.out, HPN.out, HMN.out⟩
set_option maxHeartbeats 8000000 in
theorem qrow_seq (W0 : World) (q : Nat) (l : T) (d : Int) (sign : UInt8) (kind : Int) (hk : -9223372036854775808 ≤ kind ∧ kind ≤ 9223372036854775807) (hs0 : sign.toNat ≠ 0) (pt : T → Res) (hl : l.length ≤ 100000000) (hq : W0.heap.size ≤ q) (HK : Hid (Reads W0 q l 63 #[.pointer (some ⟨q, 0, none⟩), .int .i64 d] pt)) :
    Reads W0 q l 62 #[.pointer (some ⟨q, 0, none⟩), .int .u8 (sign.toNat : Nat), .int .i64 kind, .int .i64 d, .func (Fn.func 63) #[.pointer (some ⟨q, 0, none⟩)] #[]] (Qp.row pt sign kind) := by
  intro i w hr hi hB
  have hq1 := hr.lt
  obtain ⟨w1, hw1⟩ : ∃ w1, w1 = w.alloc (.cells #[.int .i64 0, .string ⟨#[]⟩, .slice none 0 0, .slice none 0 0] 25) := ⟨_, rfl⟩
  have hb1 : Below w.heap.size w w1 := by rw [hw1]; exact (Below.refl _ _).alloc (Nat.le_refl _) _
  have HRB := hid (show Blk w1 w.heap.size [.int .i64 0, .string ⟨#[]⟩, .slice none 0 0, .slice none 0 0] 25 by rw [hw1]; exact Blk.new w _ _)
  have HB1 := hid hb1
  have hsz1 : w1.heap.size = w.heap.size + 1 := by rw [hw1]; simp
  have HBW1 := hid (hB.trans (hb1.mono hB.size))
  have BK := HK.out i w1 (hr.keep hb1) hi HBW1.out
  have HB := hid hB
  unfold RdPost at BK
  have BK := hid BK
  obtain ⟨rb, hrb⟩ : ∃ b, b = w.heap.size := ⟨_, rfl⟩
  obtain ⟨sg, hsg⟩ : ∃ z, z = sign.toNat := ⟨_, rfl⟩
  have HSG := hid hsg
  rw [← hsg]
  clear hsg
  go_enter Tryd.func62, Tryd.ntmps62
  go_upto_region 1 with fail
  rw [← hw1, ← hrb]
  rw [← hrb] at HRB
  have hrw1 : rb < w1.heap.size := by omega
  have hqw1 : q < w1.heap.size := by omega
  have hrb2 : rb ≠ q := by omega
  have HRBE := hid hrb
  have HW01 := HBW1.out.size
  clear hw1 hb1 hr hB hrb hsz1
  go_step3
  go_wp2_with fail
  refine BK.out.mono ?_
  rintro e w2 ⟨x, a, a', n, c, n', c', no, j, rfl, hij, hj, hR2, hF2, hP2, hres⟩
  have HRB2 := hid (HRB.out.frm hF2 (fun e => hrb2 e))
  obtain ⟨w3, hw3⟩ : ∃ w3, w3 = w2.alloc (.cells #[.int .i64 x.kind, .string ⟨x.text.toArray⟩, .slice a n c, .slice a' n' c'] 25) := ⟨_, rfl⟩
  have hb3 : Below w2.heap.size w2 w3 := by rw [hw3]; exact (Below.refl _ _).alloc (Nat.le_refl _) _
  obtain ⟨pb, hpb⟩ : ∃ b, b = w2.heap.size := ⟨_, rfl⟩
  have HPB := hid (show Blk w3 pb [.int .i64 x.kind, str x.text, .slice a n c, .slice a' n' c'] 25 by rw [hw3, hpb]; exact Blk.new w2 _ _)
  have HRB3 := hid (HRB2.out.keep hb3)
  have HR3 := hid (hR2.keep hb3)
  have hs2 := hF2.size
  have hpr : pb ≠ rb := by omega
  have hpq : pb ≠ q := by omega
  have hpw : w1.heap.size ≤ pb := by omega
  have HF3 := hid ((hF2.trans (Frm.of_below (X := isQ q) hb3) (fun _ _ e => e)))
  have HP3 := hid (hP2.frm (Y := fun _ => False) (Z := fun k => k < w1.heap.size ∨ k = pb) (Frm.of_below hb3) (fun _ _ e => e.elim) (fun k hk e => e.elim id (fun e => by omega)))
  obtain ⟨ANS, hANS⟩ : ∃ z, z = Qp.row pt sign kind (l.drop i) := ⟨_, rfl⟩
  have HAN := hid hANS
  have HM0 := hid (show (no = 0 ∧ ∃ m, (l.drop j).length < m ∧ Qp.rowGo pt sign kind m x (l.drop j) = ANS) ∨ (no ≠ 0 ∧ ANS = .err no (l.drop j)) by
    rcases hres with ⟨h0, h⟩ | ⟨h0, h⟩
    · exact Or.inl ⟨h0, (l.drop j).length + 1, by omega, by rw [hANS]; unfold Qp.row; rw [h]⟩
    · exact Or.inr ⟨h0, by rw [hANS]; unfold Qp.row; rw [h]⟩)
  clear hR2 hF2 hP2 hb3 hres HRB2 HRB BK hANS
  go_wp2
  go_step3
  rw [← hw3, ← hpb]
  clear hw3 hpb hs2
  go_wp2
  go_loopg [13] (l.length + 1) (fun gk s13 wr => ∃ (x : Pt) (a a' : Option Addr) (n c n' c' : Nat) (no : Int) (j : Nat), s13 = .int .i64 no ∧ i ≤ j ∧ j ≤ l.length ∧ l.length - j + 1 ≤ gk ∧ Hid (Qr wr q l j) ∧ Hid (Frm (isQ q) w1 wr) ∧ Hid (Blk wr pb [.int .i64 x.kind, str x.text, .slice a n c, .slice a' n' c'] 25) ∧ Hid (Blk wr rb [.int .i64 0, .string ⟨#[]⟩, .slice none 0 0, .slice none 0 0] 25) ∧ Hid (Asd (fun k => k < w1.heap.size ∨ k = pb) wr (fun W => PtB W (.slice a n c) (.slice a' n' c') x)) ∧ Hid ((no = 0 ∧ ∃ m, (l.drop j).length < m ∧ Qp.rowGo pt sign kind m x (l.drop j) = ANS) ∨ (no ≠ 0 ∧ ANS = .err no (l.drop j))))
  case atStart => exact ⟨x, a, a', n, c, n', c', no, j, rfl, hij, hj, by omega, HR3.out, HF3.out, HPB.out, HRB3.out, HP3.out, HM0.out⟩
  case round =>
    clear HR3 HF3 HPB HRB3 HP3 HM0 hij hj
    obtain ⟨x, a, a', n, c, n', c', no, j, rfl, hij, hj, hgk, HR, HF, HPB, HRB, HP, HM⟩ := hrel
    by_cases hno : no = 0
    case neg =>
      have b1 : (no == 0) = false := beq_eq_false_iff_ne.2 hno
      have HE := hid (show ANS = .err no (l.drop j) by
        rcases HM.out with ⟨h, _⟩ | ⟨_, h⟩
        · exact absurd h hno
        · exact h)
      have HNO := hid hno
      clear hno
      obtain ⟨p0, p1, p2, p3⟩ := blk4 HPB.out
      unfold str at p1
      obtain ⟨r0, r1, r2, r3⟩ := blk4 HRB.out
      have k0 := HRB.out.free 0
      have k1 := HRB.out.free 1
      have k2 := HRB.out.free 2
      have k3 := HRB.out.free 3
      have HZ := hid (put4_blk HRB.out (.int .i64 x.kind) (.string ⟨x.text.toArray⟩) (.slice a n c) (.slice a' n' c'))
      have HQ := hid (show Qr (put4 wr rb (.int .i64 x.kind) (.string ⟨x.text.toArray⟩) (.slice a n c) (.slice a' n' c')) q l j from put4_other HR.out (Ne.symm hrb2) _ _ _ _)
      have HFZ := hid (put4_frm (Y := isQ q) (w := w) (b := rb) (X := wr) ((Frm.of_below (X := isQ q) HB1.out).trans HF.out (fun _ _ e => e)) (Or.inr (by have := HRBE.out; omega)) (.int .i64 x.kind) (.string ⟨x.text.toArray⟩) (.slice a n c) (.slice a' n' c'))
      have HPZ := hid (HP.out.frm (Y := fun k => k = rb) (Z := fun k => k < w.heap.size) (put4_frm (Y := fun k => k = rb) (Frm.refl _ wr) (Or.inl rfl) (.int .i64 x.kind) (.string ⟨x.text.toArray⟩) (.slice a n c) (.slice a' n' c')) (fun k _ e => Or.inl (by have e : k = rb := e; omega)) (fun k _ e => Or.inl (by have := HRBE.out; have e : k < w.heap.size := e; omega)))
      go_wp2
      try rw [Exit.noGoto_ret]
      refine bodyPost_ret (v := .tuple #[.agg #[.int .i64 x.kind, .string ⟨x.text.toArray⟩, .slice a n c, .slice a' n' c'], .int .i64 no]) (path_ret2 (s := 10) (t := 11) rfl rfl HZ.out Tryd.results62) rfl ?_
      exact ⟨x, a, a', n, c, n', c', no, j, rfl, hij, hj, HQ.out, HFZ.out, HPZ.out, Or.inr ⟨HNO.out, by rw [← HAN.out]; exact HE.out⟩⟩
    subst hno
    have PK := qpeek_any q l j wr HR.out hl hj
    unfold PeekPost at PK
    have PK := hid PK
    go_wp2_with fail
    refine PK.out.mono ?_
    rintro e w4 ⟨j2, rfl, hjj, hj2, hd, hR4, hF4⟩
    have HD2 := hid hd
    have HR4 := hid hR4
    have HF4 := hid (HF.out.trans hF4 (fun _ _ e => e))
    have HPB4 := hid (HPB.out.frm hF4 (fun e => hpq e))
    have HRB4 := hid (HRB.out.frm hF4 (fun e => hrb2 e))
    have HP4 := hid (HP.out.frm (Z := fun k => k < w1.heap.size ∨ k = pb) hF4 (fun k _ e => Or.inl (by have e : k = q := e; omega)) (fun _ _ e => e))
    obtain ⟨n9, hn9⟩ : ∃ n, n = Qp.hd (l.drop j2) := ⟨_, rfl⟩
    rw [← hn9]
    have HN9 := hid hn9
    have HM2 := hid (show ∃ m, (l.drop j).length < m ∧ Qp.rowGo pt sign kind m x (l.drop j) = ANS by
      rcases HM.out with ⟨_, h⟩ | ⟨h, _⟩
      · exact h
      · exact absurd rfl h)
    clear hd hR4 hF4 hn9 PK HR HF HPB HRB HP HM
    by_cases h9 : n9 = sg
    case neg =>
      have b1 : ((n9 : Int) == (sg : Int)) = false := beq_eq_false_iff_ne.2 (by omega)
      have b2 : ((n9 : Int) != (sg : Int)) = true := bne_iff_ne.2 (by omega)
      have HE := hid (show ANS = .ok x (l.drop j2) by
        obtain ⟨m, hm1, hm2⟩ := HM2.out
        cases m with
        | zero => omega
        | succ m =>
          rw [← hm2]
          unfold Qp.rowGo
          rw [← HD2.out]
          have hne := HN9.out
          cases hc : l.drop j2 with
          | nil => rfl
          | cons c9 r9 =>
            rw [hc] at hne
            have hne : n9 = c9.toNat := hne
            simp only
            rw [if_neg (fun e => by subst e; exact h9 (hne.trans HSG.out.symm))])
      clear h9
      obtain ⟨p0, p1, p2, p3⟩ := blk4 HPB4.out
      unfold str at p1
      obtain ⟨r0, r1, r2, r3⟩ := blk4 HRB4.out
      have k0 := HRB4.out.free 0
      have k1 := HRB4.out.free 1
      have k2 := HRB4.out.free 2
      have k3 := HRB4.out.free 3
      have HZ := hid (put4_blk HRB4.out (.int .i64 x.kind) (.string ⟨x.text.toArray⟩) (.slice a n c) (.slice a' n' c'))
      have HQ := hid (show Qr (put4 w4 rb (.int .i64 x.kind) (.string ⟨x.text.toArray⟩) (.slice a n c) (.slice a' n' c')) q l j2 from put4_other HR4.out (Ne.symm hrb2) _ _ _ _)
      have HFZ := hid (put4_frm (Y := isQ q) (w := w) (b := rb) (X := w4) ((Frm.of_below (X := isQ q) HB1.out).trans HF4.out (fun _ _ e => e)) (Or.inr (by have := HRBE.out; omega)) (.int .i64 x.kind) (.string ⟨x.text.toArray⟩) (.slice a n c) (.slice a' n' c'))
      have HPZ := hid (HP4.out.frm (Y := fun k => k = rb) (Z := fun k => k < w.heap.size) (put4_frm (Y := fun k => k = rb) (Frm.refl _ w4) (Or.inl rfl) (.int .i64 x.kind) (.string ⟨x.text.toArray⟩) (.slice a n c) (.slice a' n' c')) (fun k _ e => Or.inl (by have e : k = rb := e; omega)) (fun k _ e => Or.inl (by have := HRBE.out; have e : k < w.heap.size := e; omega)))
      go_wp2
      try rw [Exit.noGoto_ret]
      refine bodyPost_ret (v := .tuple #[.agg #[.int .i64 x.kind, .string ⟨x.text.toArray⟩, .slice a n c, .slice a' n' c'], .int .i64 0]) (path_ret2 (s := 10) (t := 11) rfl rfl HZ.out Tryd.results62) rfl ?_
      exact ⟨x, a, a', n, c, n', c', 0, j2, rfl, by omega, hj2, HQ.out, HFZ.out, HPZ.out, Or.inl ⟨rfl, by rw [← HAN.out]; exact HE.out⟩⟩
    have b1 : ((n9 : Int) == (sg : Int)) = true := beq_iff_eq.2 (by omega)
    have b2 : ((n9 : Int) != (sg : Int)) = false := by rw [h9]; simp
    have HG := hid (show ∃ (r9 : T) (m : Nat), l.drop j2 = sign :: r9 ∧ l.drop (j2 + 1) = r9 ∧ r9.length < m ∧ (match pt r9 with | .ok y r2 => Qp.rowGo pt sign kind m (.mk kind [] [] [x, y]) r2 | .err e r2 => .err e r2) = ANS by
      obtain ⟨m, hm1, hm2⟩ := HM2.out
      obtain ⟨c9, r9, hc9, hcn⟩ := Qp.hd_cons (HN9.out.symm.trans h9) (by rw [HSG.out]; exact hs0)
      have hc : c9 = sign := UInt8.toNat_inj.1 (hcn.trans HSG.out)
      subst hc
      obtain ⟨hjl2, _, hdu⟩ := qdrop_get l j2 _ r9 hc9
      have e1 := Qp.skip_len (l.drop j)
      rw [← HD2.out, hc9] at e1
      simp only [List.length_cons] at e1
      cases m with
      | zero => omega
      | succ m =>
        unfold Qp.rowGo at hm2
        rw [← HD2.out, hc9] at hm2
        simp only [if_true] at hm2
        exact ⟨r9, m, hc9, hdu, by omega, hm2⟩)
    have hj3 : j2 + 1 ≤ l.length := by
      obtain ⟨r9, _, hc9, _⟩ := HG.out
      have := (qdrop_get l j2 _ r9 hc9).1
      omega
    obtain ⟨c0, c1, f0, f1⟩ := HR4.out.cells
    clear h9 HM2
    go_upto_region 6 with fail
    obtain ⟨w5, hw5⟩ : ∃ w5, w5 = w4.setCell ⟨q, 1, none⟩ (.int .i64 ((j2 : Int) + 1)) := ⟨_, rfl⟩
    have hs5 : w5.heap.size = w4.heap.size := by rw [hw5]; simp
    have hR5 : Qr w5 q l (j2 + 1) := by rw [hw5]; exact HR4.out.to (j2 + 1)
    have hf5 : Frm (isQ q) w4 w5 := by rw [hw5]; exact Frm.set (X := isQ q) (Frm.refl _ w4) (Or.inl rfl) 1 _
    obtain ⟨w6, hw6⟩ : ∃ w6, w6 = w5.alloc (.cells #[.int .i64 0, .string ⟨#[]⟩, .slice none 0 0, .slice none 0 0] 25) := ⟨_, rfl⟩
    have hb6 : Below w5.heap.size w5 w6 := by rw [hw6]; exact (Below.refl _ _).alloc (Nat.le_refl _) _
    obtain ⟨nb, hnb⟩ : ∃ b, b = w4.heap.size := ⟨_, rfl⟩
    have HNB := hid (show Blk w6 nb [.int .i64 0, .string ⟨#[]⟩, .slice none 0 0, .slice none 0 0] 25 by rw [hw6, hnb, ← hs5]; exact Blk.new w5 _ _)
    have hlt4 := HPB4.out.lt
    have hsf4 := HF4.out.size
    have hn1 : nb ≠ pb := by omega
    have hn2 : nb ≠ rb := by omega
    have hn3 : nb ≠ q := by omega
    have hn4 : w1.heap.size ≤ nb := by omega
    have HF46 := hid (hf5.trans (Frm.of_below (X := isQ q) hb6) (fun _ _ e => e))
    have HF6 := hid (HF4.out.trans HF46.out (fun _ _ e => e))
    have HPB6 := hid (HPB4.out.frm HF46.out (fun e => hpq e))
    have HRB6 := hid (HRB4.out.frm HF46.out (fun e => hrb2 e))
    have HR6 := hid (hR5.keep hb6)
    have HP6 := hid (HP4.out.frm (Z := fun k => k < w1.heap.size ∨ k = pb ∨ k = nb) HF46.out (fun k _ e => Or.inl (by have e : k = q := e; omega)) (fun k hk e => e.elim Or.inl (fun e => e.elim Or.inr (fun e => by omega))))
    have hnb6 : nb < w6.heap.size := HNB.out.lt
    have hpb6 : pb < w6.heap.size := HPB6.out.lt
    have hw16 := HF6.out.size
    have BK := HK.out (j2 + 1) w6 HR6.out hj3 (HBW1.out.trans (HF6.out.below HW01 (fun k hk e => by have e : k = q := e; omega)))
    unfold RdPost at BK
    have BK := hid BK
    rw [← hw5, ← hw6, ← hnb]
    clear hw5 hw6 hnb hs5 hR5 hf5 hb6 HF4 HPB4 HRB4 HP4 HR4 HF46 c0 c1 f0 f1 hlt4 hsf4
    go_wp2_with fail
    refine BK.out.mono ?_
    rintro e w7 ⟨y, ya, ya', yn, yc, yn', yc', no2, j3, rfl, hjj3, hj3', hR7, hF7, hP7, hres7⟩
    have HR7 := hid hR7
    have HF7 := hid (HF6.out.trans hF7 (fun _ _ e => e))
    have HPB7 := hid (HPB6.out.frm hF7 (fun e => hpq e))
    have HRB7 := hid (HRB6.out.frm hF7 (fun e => hrb2 e))
    have HNB7 := hid (HNB.out.frm hF7 (fun e => hn3 e))
    have HX7 := hid (HP6.out.frm (Z := fun k => k < w1.heap.size ∨ k = pb ∨ k = nb) hF7 (fun k _ e => Or.inl (by have e : k = q := e; omega)) (fun _ _ e => e))
    have HY7 := hid (hP7.frm (Y := fun _ => False) (Z := fun k => k < w1.heap.size ∨ k = pb ∨ k = nb) (Frm.refl _ w7) (fun _ _ e => e.elim) (fun k _ e => by rcases e with e | e | e <;> (show k < w6.heap.size; omega)))
    have HRES := hid hres7
    clear hR7 hF7 hP7 hres7 HR6 HF6 HPB6 HRB6 HP6 HNB BK
    obtain ⟨n0, n1, n2, n3⟩ := blk4 HNB7.out
    have m0 := HNB7.out.free 0
    have m1 := HNB7.out.free 1
    have m2 := HNB7.out.free 2
    have m3 := HNB7.out.free 3
    go_upto_region 7 with fail
    obtain ⟨w8, hw8⟩ : ∃ w8, w8 = put4 w7 nb (.int .i64 y.kind) (.string ⟨y.text.toArray⟩) (.slice ya yn yc) (.slice ya' yn' yc') := ⟨_, rfl⟩
    have HNB8 := hid (show Blk w8 nb [.int .i64 y.kind, .string ⟨y.text.toArray⟩, .slice ya yn yc, .slice ya' yn' yc'] 25 by rw [hw8]; exact put4_blk HNB7.out _ _ _ _)
    have HPB8 := hid (show Blk w8 pb [.int .i64 x.kind, str x.text, .slice a n c, .slice a' n' c'] 25 by rw [hw8]; exact put4_other HPB7.out (Ne.symm hn1) _ _ _ _)
    have HRB8 := hid (show Blk w8 rb [.int .i64 0, .string ⟨#[]⟩, .slice none 0 0, .slice none 0 0] 25 by rw [hw8]; exact put4_other HRB7.out (Ne.symm hn2) _ _ _ _)
    have HR8 := hid (show Qr w8 q l j3 by rw [hw8]; exact put4_other HR7.out (Ne.symm hn3) _ _ _ _)
    have hf8 : Frm (fun k => k = nb) w7 w8 := by rw [hw8]; exact put4_frm (Y := fun k => k = nb) (Frm.refl _ w7) (Or.inl rfl) _ _ _ _
    have HF8 := hid (show Frm (isQ q) w1 w8 by rw [hw8]; exact put4_frm HF7.out (Or.inr hn4) _ _ _ _)
    have HX8 := hid (HX7.out.frm (Z := fun k => k < w1.heap.size ∨ k = pb ∨ k = nb) hf8 (fun k _ e => Or.inr (Or.inr e)) (fun _ _ e => e))
    have HY8 := hid (HY7.out.frm (Z := fun k => k < w1.heap.size ∨ k = pb ∨ k = nb) hf8 (fun k _ e => Or.inr (Or.inr e)) (fun _ _ e => e))
    have hnb8 := HNB8.out.lt
    have hpb8 := HPB8.out.lt
    have hw18 := HF8.out.size
    rw [show (((w7.setCell ⟨nb, 0, none⟩ (.int .i64 y.kind)).setCell ⟨nb, 1, none⟩ (.string ⟨y.text.toArray⟩)).setCell ⟨nb, 2, none⟩ (.slice ya yn yc)).setCell ⟨nb, 3, none⟩ (.slice ya' yn' yc') = w8 from hw8.symm]
    clear hw8 hf8 n0 n1 n2 n3 m0 m1 m2 m3 HNB7 HPB7 HRB7 HR7 HF7 HX7 HY7
    obtain ⟨y0, y1, y2, y3⟩ := blk4 HNB8.out
    obtain ⟨p0, p1, p2, p3⟩ := blk4 HPB8.out
    unfold str at p1
    have f0 := HPB8.out.free 0
    have f1 := HPB8.out.free 1
    have f2 := HPB8.out.free 2
    have f3 := HPB8.out.free 3
    obtain ⟨b, hb⟩ : ∃ b, b = w8.heap.size := ⟨_, rfl⟩
    obtain ⟨w9, hw9⟩ : ∃ w9, w9 = (put4 w8 pb (.int .i64 kind) (.string ⟨#[]⟩) (.slice none 0 0) (.slice (some ⟨w8.heap.size, 0, none⟩) 2 2)).alloc (.cells #[.int .i64 x.kind, .string ⟨x.text.toArray⟩, .slice a n c, .slice a' n' c', .int .i64 y.kind, .string ⟨y.text.toArray⟩, .slice ya yn yc, .slice ya' yn' yc'] 25) := ⟨_, rfl⟩
    have HBK := hid (show Blk w9 b [.int .i64 x.kind, str x.text, .slice a n c, .slice a' n' c', .int .i64 y.kind, str y.text, .slice ya yn yc, .slice ya' yn' yc'] 25 by rw [hw9, hb]; exact Blk.new' (by simp) rfl)
    have HPB9 := hid (show Blk w9 pb [.int .i64 kind, str [], .slice none 0 0, .slice (some ⟨w8.heap.size, 0, none⟩) 2 2] 25 by rw [hw9]; exact (put4_blk HPB8.out _ _ _ _).alloc _)
    have HRB9 := hid (show Blk w9 rb [.int .i64 0, .string ⟨#[]⟩, .slice none 0 0, .slice none 0 0] 25 by rw [hw9]; exact (put4_other HRB8.out (Ne.symm hpr) _ _ _ _).alloc _)
    have HR9 := hid (show Qr w9 q l j3 by rw [hw9]; exact (put4_other HR8.out (Ne.symm hpq) _ _ _ _).alloc _)
    have hf9 : Frm (fun k => k = pb) w8 w9 := by rw [hw9]; exact (put4_frm (Y := fun k => k = pb) (Frm.refl _ w8) (Or.inl rfl) _ _ _ _).alloc _
    have HF9 := hid (show Frm (isQ q) w1 w9 by rw [hw9]; exact (put4_frm HF8.out (Or.inr hpw) _ _ _ _).alloc _)
    have HX9 := hid (HX8.out.frm (Z := fun k => k < w1.heap.size ∨ k = pb) hf9 (fun k _ e => Or.inr (Or.inl e)) (fun k _ e => e.elim Or.inl (fun e => Or.inr (Or.inl e))))
    have HY9 := hid (HY8.out.frm (Z := fun k => k < w1.heap.size ∨ k = pb) hf9 (fun k _ e => Or.inr (Or.inl e)) (fun k _ e => e.elim Or.inl (fun e => Or.inr (Or.inl e))))
    have hbp : ¬ (b < w1.heap.size ∨ b = pb) := by omega
    have HPN := hid (Asd.and (Asd.blk HBK.out hbp) (Asd.and HX9.out HY9.out (R := fun W => PtB W (.slice a n c) (.slice a' n' c') x ∧ PtB W (.slice ya yn yc) (.slice ya' yn' yc') y) (fun W h1 h2 => ⟨h1, h2⟩)) (R := fun W => PtB W (.slice none 0 0) (.slice (some ⟨b, 0, none⟩) 2 2) (.mk kind [] [] [x, y])) (fun W h1 h2 => qptb_two kind hk h1 h2.1 h2.2))
    have HMN := hid (show (no2 = 0 ∧ ∃ m, (l.drop j3).length < m ∧ Qp.rowGo pt sign kind m (.mk kind [] [] [x, y]) (l.drop j3) = ANS) ∨ (no2 ≠ 0 ∧ ANS = .err no2 (l.drop j3)) by
      obtain ⟨r9, m, h1, h2, h3, h4⟩ := HG.out
      have hlen : (l.drop j3).length ≤ r9.length := by rw [← h2, List.length_drop, List.length_drop]; omega
      rcases HRES.out with ⟨h0, hr⟩ | ⟨h0, hr⟩
      · rw [h2] at hr
        rw [hr] at h4
        exact Or.inl ⟨h0, m, by omega, h4⟩
      · rw [h2] at hr
        rw [hr] at h4
        exact Or.inr ⟨h0, h4.symm⟩)
    rw [hb] at HPN
    clear hbp hb hf9 HX9 HY9 HBK
    subst hw9
    go_wp2
    go_roundg (l.length - j3 + 1)
    case measure => omega
    case rel => exact ⟨.mk kind [] [] [x, y], none, some ⟨w8.heap.size, 0, none⟩, 0, 0, 2, 2, no2, j3, rfl, by omega, hj3', Nat.le_refl _, HR9.out, HF9.out, HPB9.out, HRB9.out, HPN.out, HMN.out⟩
set_option maxHeartbeats 4000000 in
theorem qseq_any (W0 : World) (q : Nat) (l : T) (d : Int) (pt : T → Res) (hl : l.length ≤ 100000000) (hq : W0.heap.size ≤ q) (HK : Hid (Reads W0 q l 78 #[.pointer (some ⟨q, 0, none⟩), .int .i64 d] pt)) :
    Reads W0 q l 63 #[.pointer (some ⟨q, 0, none⟩), .int .i64 d] (Qp.row pt 47 3) := by
  intro i w hr hi hB
  have hq1 := hr.lt
  obtain ⟨w1, hw1⟩ : ∃ w1, w1 = w.alloc (.cells #[.int .i64 0, .string ⟨#[]⟩, .slice none 0 0, .slice none 0 0] 25) := ⟨_, rfl⟩
  have hb1 : Below w.heap.size w w1 := by rw [hw1]; exact (Below.refl _ _).alloc (Nat.le_refl _) _
  have HRB := hid (show Blk w1 w.heap.size [.int .i64 0, .string ⟨#[]⟩, .slice none 0 0, .slice none 0 0] 25 by rw [hw1]; exact Blk.new w _ _)
  have HB1 := hid hb1
  have hsz1 : w1.heap.size = w.heap.size + 1 := by rw [hw1]; simp
  have RW : Calls Tryd.prog 62 #[.pointer (some ⟨q, 0, none⟩), .int .u8 47, .int .i64 3, .int .i64 d, .func (Fn.func 78) #[.pointer (some ⟨q, 0, none⟩)] #[]] w1 (RdPost q l i (Qp.row pt 47 3 (l.drop i)) w1) := qrow_step W0 q l d 47 3 (by decide) (by decide) pt hl hq HK i w1 (hr.keep hb1) hi (hB.trans (hb1.mono hB.size))
  unfold RdPost at RW
  have RW := hid RW
  obtain ⟨rb, hrb⟩ : ∃ b, b = w.heap.size := ⟨_, rfl⟩
  go_enter Tryd.func63, Tryd.ntmps63
  go_upto_region 1 with fail
  rw [← hw1, ← hrb]
  rw [← hrb] at HRB
  have hrw1 : rb < w1.heap.size := by omega
  have hrb2 : rb ≠ q := by omega
  have HRBE := hid hrb
  clear hw1 hb1 hr hB HK hrb hsz1
  go_wp2_with fail
  refine RW.out.mono ?_
  rintro e w2 ⟨x, a, a', n, c, n', c', no, j, rfl, hij, hj, hR2, hF2, hP2, hres⟩
  have HR2 := hid hR2
  have HF2 := hid hF2
  have HP2 := hid hP2
  have HRES := hid hres
  have HRB2 := hid (HRB.out.frm hF2 (fun e => hrb2 e))
  clear hR2 hF2 hP2 hres RW
  obtain ⟨r0, r1, r2, r3⟩ := blk4 HRB2.out
  have k0 := HRB2.out.free 0
  have k1 := HRB2.out.free 1
  have k2 := HRB2.out.free 2
  have k3 := HRB2.out.free 3
  have HZ := hid (put4_blk HRB2.out (.int .i64 x.kind) (.string ⟨x.text.toArray⟩) (.slice a n c) (.slice a' n' c'))
  have HQ := hid (show Qr (put4 w2 rb (.int .i64 x.kind) (.string ⟨x.text.toArray⟩) (.slice a n c) (.slice a' n' c')) q l j from put4_other HR2.out (Ne.symm hrb2) _ _ _ _)
  have HFZ := hid (put4_frm (Y := isQ q) (w := w) (b := rb) (X := w2) ((Frm.of_below (X := isQ q) HB1.out).trans HF2.out (fun _ _ e => e)) (Or.inr (by have := HRBE.out; omega)) (.int .i64 x.kind) (.string ⟨x.text.toArray⟩) (.slice a n c) (.slice a' n' c'))
  have HPZ := hid (HP2.out.frm (Y := fun k => k = rb) (Z := fun k => k < w.heap.size) (put4_frm (Y := fun k => k = rb) (Frm.refl _ w2) (Or.inl rfl) (.int .i64 x.kind) (.string ⟨x.text.toArray⟩) (.slice a n c) (.slice a' n' c')) (fun k _ e => (by have e : k = rb := e; show k < w1.heap.size; omega)) (fun k _ e => (by have := HRBE.out; have e : k < w.heap.size := e; show k < w1.heap.size; omega)))
  go_wp2
  refine bodyPost_ret (v := .tuple #[.agg #[.int .i64 x.kind, .string ⟨x.text.toArray⟩, .slice a n c, .slice a' n' c'], .int .i64 no]) (path_ret2 (s := 4) (t := 5) rfl rfl HZ.out Tryd.results63) rfl ?_
  exact ⟨x, a, a', n, c, n', c', no, j, rfl, hij, hj, HQ.out, HFZ.out, HPZ.out, HRES.out⟩
set_option maxHeartbeats 4000000 in
theorem qpath_any (W0 : World) (q : Nat) (l : T) (d : Int) (pt : T → Res) (hl : l.length ≤ 100000000) (hq : W0.heap.size ≤ q) (HK : Hid (Reads W0 q l 63 #[.pointer (some ⟨q, 0, none⟩), .int .i64 d] pt)) :
    Reads W0 q l 45 #[.pointer (some ⟨q, 0, none⟩), .int .i64 d] (Qp.row pt 124 4) := by
  intro i w hr hi hB
  have hq1 := hr.lt
  obtain ⟨w1, hw1⟩ : ∃ w1, w1 = w.alloc (.cells #[.int .i64 0, .string ⟨#[]⟩, .slice none 0 0, .slice none 0 0] 25) := ⟨_, rfl⟩
  have hb1 : Below w.heap.size w w1 := by rw [hw1]; exact (Below.refl _ _).alloc (Nat.le_refl _) _
  have HRB := hid (show Blk w1 w.heap.size [.int .i64 0, .string ⟨#[]⟩, .slice none 0 0, .slice none 0 0] 25 by rw [hw1]; exact Blk.new w _ _)
  have HB1 := hid hb1
  have hsz1 : w1.heap.size = w.heap.size + 1 := by rw [hw1]; simp
  have RW : Calls Tryd.prog 62 #[.pointer (some ⟨q, 0, none⟩), .int .u8 124, .int .i64 4, .int .i64 d, .func (Fn.func 63) #[.pointer (some ⟨q, 0, none⟩)] #[]] w1 (RdPost q l i (Qp.row pt 124 4 (l.drop i)) w1) := qrow_seq W0 q l d 124 4 (by decide) (by decide) pt hl hq HK i w1 (hr.keep hb1) hi (hB.trans (hb1.mono hB.size))
  unfold RdPost at RW
  have RW := hid RW
  obtain ⟨rb, hrb⟩ : ∃ b, b = w.heap.size := ⟨_, rfl⟩
  go_enter Tryd.func45, Tryd.ntmps45
  go_upto_region 1 with fail
  rw [← hw1, ← hrb]
  rw [← hrb] at HRB
  have hrw1 : rb < w1.heap.size := by omega
  have hrb2 : rb ≠ q := by omega
  have HRBE := hid hrb
  clear hw1 hb1 hr hB HK hrb hsz1
  go_wp2_with fail
  refine RW.out.mono ?_
  rintro e w2 ⟨x, a, a', n, c, n', c', no, j, rfl, hij, hj, hR2, hF2, hP2, hres⟩
  have HR2 := hid hR2
  have HF2 := hid hF2
  have HP2 := hid hP2
  have HRES := hid hres
  have HRB2 := hid (HRB.out.frm hF2 (fun e => hrb2 e))
  clear hR2 hF2 hP2 hres RW
  obtain ⟨r0, r1, r2, r3⟩ := blk4 HRB2.out
  have k0 := HRB2.out.free 0
  have k1 := HRB2.out.free 1
  have k2 := HRB2.out.free 2
  have k3 := HRB2.out.free 3
  have HZ := hid (put4_blk HRB2.out (.int .i64 x.kind) (.string ⟨x.text.toArray⟩) (.slice a n c) (.slice a' n' c'))
  have HQ := hid (show Qr (put4 w2 rb (.int .i64 x.kind) (.string ⟨x.text.toArray⟩) (.slice a n c) (.slice a' n' c')) q l j from put4_other HR2.out (Ne.symm hrb2) _ _ _ _)
  have HFZ := hid (put4_frm (Y := isQ q) (w := w) (b := rb) (X := w2) ((Frm.of_below (X := isQ q) HB1.out).trans HF2.out (fun _ _ e => e)) (Or.inr (by have := HRBE.out; omega)) (.int .i64 x.kind) (.string ⟨x.text.toArray⟩) (.slice a n c) (.slice a' n' c'))
  have HPZ := hid (HP2.out.frm (Y := fun k => k = rb) (Z := fun k => k < w.heap.size) (put4_frm (Y := fun k => k = rb) (Frm.refl _ w2) (Or.inl rfl) (.int .i64 x.kind) (.string ⟨x.text.toArray⟩) (.slice a n c) (.slice a' n' c')) (fun k _ e => (by have e : k = rb := e; show k < w1.heap.size; omega)) (fun k _ e => (by have := HRBE.out; have e : k < w.heap.size := e; show k < w1.heap.size; omega)))
  go_wp2
  refine bodyPost_ret (v := .tuple #[.agg #[.int .i64 x.kind, .string ⟨x.text.toArray⟩, .slice a n c, .slice a' n' c'], .int .i64 no]) (path_ret2 (s := 4) (t := 5) rfl rfl HZ.out Tryd.results45) rfl ?_
  exact ⟨x, a, a', n, c, n', c', no, j, rfl, hij, hj, HQ.out, HFZ.out, HPZ.out, HRES.out⟩
end Go.Proofs.YtagmgkplfhlifaaDoor
