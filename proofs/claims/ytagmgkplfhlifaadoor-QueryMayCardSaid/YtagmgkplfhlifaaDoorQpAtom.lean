/- query's reader of paths: brackets, an atom, a step without what stands behind it. -/
import Derived.Test.YtagmgkplfhlifaaDoorQpNot
import Derived.WalkMore
namespace Go.Proofs.YtagmgkplfhlifaaDoor
set_option linter.unusedVariables false
set_option linter.unusedSimpArgs false
set_option maxRecDepth 100000
open Go.ChangeShapes Go.WideShapes Go.ChangeAt Go.RowKit
open Au
def Qp.brk (sub : Option ((T → Res) × (T → Res))) (r : T) : Res := match sub with
  | none => .err 3 r
  | some s => match s.2 (r.drop 1) with
    | .ok x r2 => (match Qp.skip r2 with
      | [] => .err 2 []
      | d :: r3 => if d = 41 then .ok x r3 else .err 2 (d :: r3))
    | .err e r2 => .err e r2
def Qp.atom (sub : Option ((T → Res) × (T → Res))) (r : T) : Res := match Qp.skip r with
  | [] => .err 2 []
  | c :: r1 => if c = 40 then Qp.brk sub (c :: r1) else if c = 33 then Qp.nots r1 else (match Qp.iri (c :: r1) with
      | .ok t r2 => .ok (.mk 1 t [] []) r2
      | .err r2 => .err 2 r2)
theorem Qp.skip_skip (r : T) : Qp.skip (Qp.skip r) = Qp.skip r := by
  unfold Qp.skip
  induction r with
  | nil => rfl
  | cons c r ih =>
    rw [List.dropWhile_cons]
    split
    · exact ih
    · rename_i h; rw [List.dropWhile_cons, if_neg h]
theorem Qp.back_atom (sub : Option ((T → Res) × (T → Res))) (r : T) (h : Qp.hd (Qp.skip r) ≠ 94) : Qp.back sub r = Qp.atom sub (Qp.skip r) := by
  unfold Qp.back Qp.atom
  rw [Qp.skip_skip]
  cases hc : Qp.skip r with
  | nil => rfl
  | cons c r1 =>
    rw [hc] at h
    simp only
    rw [if_neg (fun e => by subst e; exact h rfl)]
    by_cases h4 : c = 40
    · rw [if_pos h4, if_pos h4]
      unfold Qp.brk
      cases sub <;> rfl
    · rw [if_neg h4, if_neg h4]
      by_cases h3 : c = 33
      · rw [if_pos h3, if_pos h3]
      · rw [if_neg h3, if_neg h3]
        cases Qp.iri (c :: r1) <;> rfl
/-- A bracket is read so, where the reader stands at one. -/
def ReadsBrk (W0 : World) (q : Nat) (l : T) (d : Int) (sub : Option ((T → Res) × (T → Res))) : Prop :=
  ∀ i w, Qr w q l i → i < l.length → Below W0.heap.size W0 w → Calls Tryd.prog 102 #[.pointer (some ⟨q, 0, none⟩), .int .i64 d] w (RdPost q l i (Qp.brk sub (l.drop i)) w)
set_option maxHeartbeats 4000000 in
theorem qbrk_none (W0 : World) (q : Nat) (l : T) (hq : W0.heap.size ≤ q) : ReadsBrk W0 q l 5 none := by
  intro i w hr hi hB
  have hq1 := hr.lt
  obtain ⟨w1, hw1⟩ : ∃ w1, w1 = w.alloc (.cells #[.int .i64 0, .string ⟨#[]⟩, .slice none 0 0, .slice none 0 0] 25) := ⟨_, rfl⟩
  have hb1 : Below w.heap.size w w1 := by rw [hw1]; exact (Below.refl _ _).alloc (Nat.le_refl _) _
  have HRB := hid (show Blk w1 w.heap.size [.int .i64 0, .string ⟨#[]⟩, .slice none 0 0, .slice none 0 0] 25 by rw [hw1]; exact Blk.new w _ _)
  have HB1 := hid hb1
  have hsz1 : w1.heap.size = w.heap.size + 1 := by rw [hw1]; simp
  have HBW1 := hid (hB.trans (hb1.mono hB.size))
  have HR1 := hid (hr.keep hb1)
  have HW01 := HBW1.out.size
  obtain ⟨rb, hrb⟩ : ∃ b, b = w.heap.size := ⟨_, rfl⟩
  go_enter Tryd.func102, Tryd.ntmps102
  go_upto_region 1 with fail
  rw [← hw1, ← hrb]
  rw [← hrb] at HRB
  have hrw1 : rb < w1.heap.size := by omega
  have hqw1 : q < w1.heap.size := by omega
  have hrb2 : rb ≠ q := by omega
  have HRBE := hid hrb
  clear hw1 hb1 hr hB hrb hsz1
  have HP0 := hid (Asd.all (X := fun k => k < w1.heap.size) (w := w1) (P := fun W => PtB W (.slice none 0 0) (.slice none 0 0) (.mk 0 [] [] [])) fun W => ptb_none W 0 (by decide) [] (by simp))
  have HF1 := hid (Frm.refl (isQ q) w1)
  obtain ⟨r0, r1, r2, r3⟩ := blk4 HRB.out
  have k0 := HRB.out.free 0
  have k1 := HRB.out.free 1
  have k2 := HRB.out.free 2
  have k3 := HRB.out.free 3
  have HZ := hid (put4_blk HRB.out (.int .i64 0) (.string ⟨#[]⟩) (.slice none 0 0) (.slice none 0 0))
  have HQ := hid (show Qr (put4 w1 rb (.int .i64 0) (.string ⟨#[]⟩) (.slice none 0 0) (.slice none 0 0)) q l i from put4_other HR1.out (Ne.symm hrb2) _ _ _ _)
  have HFZ := hid (put4_frm (Y := isQ q) (w := w) (b := rb) (X := w1) ((Frm.of_below (X := isQ q) HB1.out).trans HF1.out (fun _ _ e => e)) (Or.inr (by have := HRBE.out; omega)) (.int .i64 0) (.string ⟨#[]⟩) (.slice none 0 0) (.slice none 0 0))
  have HPZ := hid (HP0.out.frm (Y := fun k => k = rb) (Z := fun k => k < w.heap.size) (put4_frm (Y := fun k => k = rb) (Frm.refl _ w1) (Or.inl rfl) (.int .i64 0) (.string ⟨#[]⟩) (.slice none 0 0) (.slice none 0 0)) (fun k _ e => (by have e : k = rb := e; show k < w1.heap.size; omega)) (fun k _ e => (by have := HRBE.out; have e : k < w.heap.size := e; show k < w1.heap.size; omega)))
  go_wp2
  refine bodyPost_ret (v := .tuple #[.agg #[.int .i64 0, .string ⟨#[]⟩, .slice none 0 0, .slice none 0 0], .int .i64 3]) (path_ret2 (s := 4) (t := 5) rfl rfl HZ.out Tryd.results102) rfl ?_
  exact ⟨(.mk 0 [] [] []), none, none, 0, 0, 0, 0, 3, i, rfl, Nat.le_refl _, Nat.le_of_lt hi, HQ.out, HFZ.out, HPZ.out, Or.inr ⟨by decide, rfl⟩⟩
set_option maxHeartbeats 8000000 in
theorem qbrk_some (W0 : World) (q : Nat) (l : T) (d : Int) (hd : -100 ≤ d ∧ d < 5) (s : (T → Res) × (T → Res)) (hl : l.length ≤ 100000000) (hq : W0.heap.size ≤ q) (HK : Hid (Reads W0 q l 45 #[.pointer (some ⟨q, 0, none⟩), .int .i64 (d + 1)] s.2)) : ReadsBrk W0 q l d (some s) := by
  intro i w hr hi hB
  have hq1 := hr.lt
  obtain ⟨w1, hw1⟩ : ∃ w1, w1 = w.alloc (.cells #[.int .i64 0, .string ⟨#[]⟩, .slice none 0 0, .slice none 0 0] 25) := ⟨_, rfl⟩
  have hb1 : Below w.heap.size w w1 := by rw [hw1]; exact (Below.refl _ _).alloc (Nat.le_refl _) _
  have HRB := hid (show Blk w1 w.heap.size [.int .i64 0, .string ⟨#[]⟩, .slice none 0 0, .slice none 0 0] 25 by rw [hw1]; exact Blk.new w _ _)
  have HB1 := hid hb1
  have hsz1 : w1.heap.size = w.heap.size + 1 := by rw [hw1]; simp
  have HBW1 := hid (hB.trans (hb1.mono hB.size))
  have HR1 := hid (hr.keep hb1)
  have HW01 := HBW1.out.size
  obtain ⟨rb, hrb⟩ : ∃ b, b = w.heap.size := ⟨_, rfl⟩
  go_enter Tryd.func102, Tryd.ntmps102
  go_upto_region 1 with fail
  rw [← hw1, ← hrb]
  rw [← hrb] at HRB
  have hrw1 : rb < w1.heap.size := by omega
  have hqw1 : q < w1.heap.size := by omega
  have hrb2 : rb ≠ q := by omega
  have HRBE := hid hrb
  clear hw1 hb1 hr hB hrb hsz1
  have b5 : (d == 5) = false := beq_eq_false_iff_ne.2 (by omega)
  obtain ⟨c0, c1, f0, f1⟩ := HR1.out.cells
  go_upto_region 4 with fail
  obtain ⟨w2, hw2⟩ : ∃ w2, w2 = w1.setCell ⟨q, 1, none⟩ (.int .i64 ((i : Int) + 1)) := ⟨_, rfl⟩
  have HR2 := hid (show Qr w2 q l (i + 1) by rw [hw2]; exact HR1.out.to (i + 1))
  have hf2 : Frm (isQ q) w1 w2 := by rw [hw2]; exact Frm.set (X := isQ q) (Frm.refl _ w1) (Or.inl rfl) 1 _
  have HRB2 := hid (HRB.out.frm hf2 (fun e => hrb2 e))
  have hs2 : w2.heap.size = w1.heap.size := by rw [hw2]; simp
  have BK := HK.out (i + 1) w2 HR2.out hi (HBW1.out.trans (hf2.below HW01 (fun k hk e => by have e : k = q := e; omega)))
  unfold RdPost at BK
  have BK := hid BK
  have HF2 := hid hf2
  rw [← hw2]
  clear hw2 hf2 c0 c1 f0 f1 HK
  go_wp2_with fail
  refine BK.out.mono ?_
  rintro e w3 ⟨x, a, a', n, c, n', c', no, j, rfl, hij, hj, hR3, hF3, hP3, hres⟩
  have hs3 := hF3.size
  have HRB3 := hid (HRB2.out.frm hF3 (fun e => hrb2 e))
  obtain ⟨w4, hw4⟩ : ∃ w4, w4 = w3.alloc (.cells #[.int .i64 x.kind, .string ⟨x.text.toArray⟩, .slice a n c, .slice a' n' c'] 25) := ⟨_, rfl⟩
  have hb4 : Below w3.heap.size w3 w4 := by rw [hw4]; exact (Below.refl _ _).alloc (Nat.le_refl _) _
  obtain ⟨pb, hpb⟩ : ∃ b, b = w3.heap.size := ⟨_, rfl⟩
  have HPB := hid (show Blk w4 pb [.int .i64 x.kind, str x.text, .slice a n c, .slice a' n' c'] 25 by rw [hw4, hpb]; exact Blk.new w3 _ _)
  have HRB4 := hid (HRB3.out.keep hb4)
  have HR4 := hid (hR3.keep hb4)
  have HF4 := hid ((HF2.out.trans hF3 (fun _ _ e => e)).trans (Frm.of_below (X := isQ q) hb4) (fun _ _ e => e))
  have HP4 := hid (hP3.frm (Y := fun _ => False) (Z := fun k => k < w1.heap.size) (Frm.of_below hb4) (fun _ _ e => e.elim) (fun k hk e => by have e : k < w1.heap.size := e; show k < w2.heap.size; omega))
  have hpq : pb ≠ q := by omega
  have hpr : pb ≠ rb := by omega
  have HRES := hid hres
  go_upto_region 5 with fail
  rw [← hw4, ← hpb]
  clear hw4 hpb hb4 hR3 hF3 hP3 hres BK HRB2 HRB3
  by_cases hno : no = 0
  case neg =>
    have b1 : (no == 0) = false := beq_eq_false_iff_ne.2 hno
    have b2 : (no != 0) = true := bne_iff_ne.2 hno
    have HE := hid (show Qp.brk (some s) (l.drop i) = .err no (l.drop j) by
      rcases HRES.out with ⟨h, _⟩ | ⟨_, h⟩
      · exact absurd h hno
      · unfold Qp.brk; simp only; rw [List.drop_drop, h])
    have HNO := hid hno
    clear hno
    have HP0 := hid (Asd.all (X := fun k => k < w1.heap.size) (w := w4) (P := fun W => PtB W (.slice none 0 0) (.slice none 0 0) (.mk 0 [] [] [])) fun W => ptb_none W 0 (by decide) [] (by simp))
    obtain ⟨r0, r1, r2, r3⟩ := blk4 HRB4.out
    have k0 := HRB4.out.free 0
    have k1 := HRB4.out.free 1
    have k2 := HRB4.out.free 2
    have k3 := HRB4.out.free 3
    have HZ := hid (put4_blk HRB4.out (.int .i64 0) (.string ⟨#[]⟩) (.slice none 0 0) (.slice none 0 0))
    have HQ := hid (show Qr (put4 w4 rb (.int .i64 0) (.string ⟨#[]⟩) (.slice none 0 0) (.slice none 0 0)) q l j from put4_other HR4.out (Ne.symm hrb2) _ _ _ _)
    have HFZ := hid (put4_frm (Y := isQ q) (w := w) (b := rb) (X := w4) ((Frm.of_below (X := isQ q) HB1.out).trans HF4.out (fun _ _ e => e)) (Or.inr (by have := HRBE.out; omega)) (.int .i64 0) (.string ⟨#[]⟩) (.slice none 0 0) (.slice none 0 0))
    have HPZ := hid (HP0.out.frm (Y := fun k => k = rb) (Z := fun k => k < w.heap.size) (put4_frm (Y := fun k => k = rb) (Frm.refl _ w4) (Or.inl rfl) (.int .i64 0) (.string ⟨#[]⟩) (.slice none 0 0) (.slice none 0 0)) (fun k _ e => (by have e : k = rb := e; show k < w1.heap.size; omega)) (fun k _ e => (by have := HRBE.out; have e : k < w.heap.size := e; show k < w1.heap.size; omega)))
    go_wp2
    refine bodyPost_ret (v := .tuple #[.agg #[.int .i64 0, .string ⟨#[]⟩, .slice none 0 0, .slice none 0 0], .int .i64 no]) (path_ret2 (s := 4) (t := 5) rfl rfl HZ.out Tryd.results102) rfl ?_
    exact ⟨(.mk 0 [] [] []), none, none, 0, 0, 0, 0, no, j, rfl, by omega, hj, HQ.out, HFZ.out, HPZ.out, Or.inr ⟨HNO.out, HE.out⟩⟩
  subst hno
  have HOK := hid (show s.2 (l.drop (i + 1)) = .ok x (l.drop j) by
    rcases HRES.out with ⟨_, h⟩ | ⟨h, _⟩
    · exact h
    · exact absurd rfl h)
  have PK := qpeek_any q l j w4 HR4.out hl hj
  unfold PeekPost at PK
  have PK := hid PK
  clear HRES
  go_wp2_with fail
  refine PK.out.mono ?_
  rintro e w5 ⟨j2, rfl, hjj, hj2, hdd, hR5, hF5⟩
  have HD2 := hid hdd
  have HR5 := hid hR5
  have HF5 := hid (HF4.out.trans hF5 (fun _ _ e => e))
  have HPB5 := hid (HPB.out.frm hF5 (fun e => hpq e))
  have HRB5 := hid (HRB4.out.frm hF5 (fun e => hrb2 e))
  have HP5 := hid (HP4.out.frm (Z := fun k => k < w1.heap.size) hF5 (fun k _ e => (by have e : k = q := e; show k < w1.heap.size; omega)) (fun _ _ e => e))
  obtain ⟨n9, hn9⟩ : ∃ n, n = Qp.hd (l.drop j2) := ⟨_, rfl⟩
  rw [← hn9]
  have HN9 := hid hn9
  clear hdd hR5 hF5 hn9 PK HR4 HF4 HPB HRB4 HP4
  by_cases h9 : n9 = 41
  case neg =>
    have b1 : ((n9 : Int) == 41) = false := beq_eq_false_iff_ne.2 (by omega)
    have b2 : ((n9 : Int) != 41) = true := bne_iff_ne.2 (by omega)
    have HE := hid (show Qp.brk (some s) (l.drop i) = .err 2 (l.drop j2) by
      unfold Qp.brk
      simp only
      rw [List.drop_drop, HOK.out]
      simp only
      rw [← HD2.out]
      have hne := HN9.out
      cases hc : l.drop j2 with
      | nil => rfl
      | cons c9 r9 =>
        rw [hc] at hne
        simp only
        rw [if_neg (fun e => by subst e; exact h9 hne)])
    clear h9
    have HP0 := hid (Asd.all (X := fun k => k < w1.heap.size) (w := w5) (P := fun W => PtB W (.slice none 0 0) (.slice none 0 0) (.mk 0 [] [] [])) fun W => ptb_none W 0 (by decide) [] (by simp))
    obtain ⟨r0, r1, r2, r3⟩ := blk4 HRB5.out
    have k0 := HRB5.out.free 0
    have k1 := HRB5.out.free 1
    have k2 := HRB5.out.free 2
    have k3 := HRB5.out.free 3
    have HZ := hid (put4_blk HRB5.out (.int .i64 0) (.string ⟨#[]⟩) (.slice none 0 0) (.slice none 0 0))
    have HQ := hid (show Qr (put4 w5 rb (.int .i64 0) (.string ⟨#[]⟩) (.slice none 0 0) (.slice none 0 0)) q l j2 from put4_other HR5.out (Ne.symm hrb2) _ _ _ _)
    have HFZ := hid (put4_frm (Y := isQ q) (w := w) (b := rb) (X := w5) ((Frm.of_below (X := isQ q) HB1.out).trans HF5.out (fun _ _ e => e)) (Or.inr (by have := HRBE.out; omega)) (.int .i64 0) (.string ⟨#[]⟩) (.slice none 0 0) (.slice none 0 0))
    have HPZ := hid (HP0.out.frm (Y := fun k => k = rb) (Z := fun k => k < w.heap.size) (put4_frm (Y := fun k => k = rb) (Frm.refl _ w5) (Or.inl rfl) (.int .i64 0) (.string ⟨#[]⟩) (.slice none 0 0) (.slice none 0 0)) (fun k _ e => (by have e : k = rb := e; show k < w1.heap.size; omega)) (fun k _ e => (by have := HRBE.out; have e : k < w.heap.size := e; show k < w1.heap.size; omega)))
    go_wp2
    refine bodyPost_ret (v := .tuple #[.agg #[.int .i64 0, .string ⟨#[]⟩, .slice none 0 0, .slice none 0 0], .int .i64 2]) (path_ret2 (s := 4) (t := 5) rfl rfl HZ.out Tryd.results102) rfl ?_
    exact ⟨(.mk 0 [] [] []), none, none, 0, 0, 0, 0, 2, j2, rfl, by omega, hj2, HQ.out, HFZ.out, HPZ.out, Or.inr ⟨by decide, HE.out⟩⟩
  have b1 : ((n9 : Int) == 41) = true := beq_iff_eq.2 (by omega)
  have b2 : ((n9 : Int) != 41) = false := by rw [h9]; rfl
  have HG := hid (show j2 < l.length ∧ Qp.brk (some s) (l.drop i) = .ok x (l.drop (j2 + 1)) by
    obtain ⟨c9, r9, hc9, hcn⟩ := Qp.hd_cons (HN9.out.symm.trans h9) (by decide)
    have hc : c9 = 41 := UInt8.toNat_inj.1 hcn
    subst hc
    obtain ⟨hjl2, _, hdu⟩ := qdrop_get l j2 _ r9 hc9
    refine ⟨hjl2, ?_⟩
    unfold Qp.brk
    simp only
    rw [List.drop_drop, HOK.out]
    simp only
    rw [← HD2.out, hc9, hdu]
    rfl)
  have hj3 : j2 + 1 ≤ l.length := HG.out.1
  obtain ⟨c0, c1, f0, f1⟩ := HR5.out.cells
  obtain ⟨p0, p1, p2, p3⟩ := blk4 HPB5.out
  unfold str at p1
  clear h9
  go_upto_region 10 with fail
  obtain ⟨w6, hw6⟩ : ∃ w6, w6 = w5.setCell ⟨q, 1, none⟩ (.int .i64 ((j2 : Int) + 1)) := ⟨_, rfl⟩
  have hf6 : Frm (isQ q) w5 w6 := by rw [hw6]; exact Frm.set (X := isQ q) (Frm.refl _ w5) (Or.inl rfl) 1 _
  have HR6 := hid (show Qr w6 q l (j2 + 1) by rw [hw6]; exact HR5.out.to (j2 + 1))
  have HF6 := hid (HF5.out.trans hf6 (fun _ _ e => e))
  have HRB6 := hid (HRB5.out.frm hf6 (fun e => hrb2 e))
  have HPB6 := hid (HPB5.out.frm hf6 (fun e => hpq e))
  have HP6 := hid (HP5.out.frm (Z := fun k => k < w1.heap.size) hf6 (fun k _ e => (by have e : k = q := e; show k < w1.heap.size; omega)) (fun _ _ e => e))
  rw [← hw6]
  clear hw6 hf6 p0 p1 p2 p3 c0 c1 f0 f1
  obtain ⟨p0, p1, p2, p3⟩ := blk4 HPB6.out
  unfold str at p1
  obtain ⟨r0, r1, r2, r3⟩ := blk4 HRB6.out
  have k0 := HRB6.out.free 0
  have k1 := HRB6.out.free 1
  have k2 := HRB6.out.free 2
  have k3 := HRB6.out.free 3
  have HZ := hid (put4_blk HRB6.out (.int .i64 x.kind) (.string ⟨x.text.toArray⟩) (.slice a n c) (.slice a' n' c'))
  have HQ := hid (show Qr (put4 w6 rb (.int .i64 x.kind) (.string ⟨x.text.toArray⟩) (.slice a n c) (.slice a' n' c')) q l (j2 + 1) from put4_other HR6.out (Ne.symm hrb2) _ _ _ _)
  have HFZ := hid (put4_frm (Y := isQ q) (w := w) (b := rb) (X := w6) ((Frm.of_below (X := isQ q) HB1.out).trans HF6.out (fun _ _ e => e)) (Or.inr (by have := HRBE.out; omega)) (.int .i64 x.kind) (.string ⟨x.text.toArray⟩) (.slice a n c) (.slice a' n' c'))
  have HPZ := hid (HP6.out.frm (Y := fun k => k = rb) (Z := fun k => k < w.heap.size) (put4_frm (Y := fun k => k = rb) (Frm.refl _ w6) (Or.inl rfl) (.int .i64 x.kind) (.string ⟨x.text.toArray⟩) (.slice a n c) (.slice a' n' c')) (fun k _ e => (by have e : k = rb := e; show k < w1.heap.size; omega)) (fun k _ e => (by have := HRBE.out; have e : k < w.heap.size := e; show k < w1.heap.size; omega)))
  go_wp2
  refine bodyPost_ret (v := .tuple #[.agg #[.int .i64 x.kind, .string ⟨x.text.toArray⟩, .slice a n c, .slice a' n' c'], .int .i64 0]) (path_ret2 (s := 4) (t := 5) rfl rfl HZ.out Tryd.results102) rfl ?_
  exact ⟨x, a, a', n, c, n', c', 0, (j2 + 1), rfl, by omega, hj3, HQ.out, HFZ.out, HPZ.out, Or.inl ⟨rfl, HG.out.2⟩⟩
set_option maxHeartbeats 8000000 in
theorem qatom_any (W0 : World) (q : Nat) (l : T) (d : Int) (sub : Option ((T → Res) × (T → Res))) (hl : l.length ≤ 100000000) (hq : W0.heap.size ≤ q) (hV : QVars W0) (HBK : Hid (ReadsBrk W0 q l d sub)) (HNT : Hid (Reads W0 q l 103 #[.pointer (some ⟨q, 0, none⟩)] Qp.nots)) :
    Reads W0 q l 97 #[.pointer (some ⟨q, 0, none⟩), .int .i64 d] (Qp.atom sub) := by
  intro i w hr hi hB
  have hq1 := hr.lt
  obtain ⟨w1, hw1⟩ : ∃ w1, w1 = w.alloc (.cells #[.int .i64 0, .string ⟨#[]⟩, .slice none 0 0, .slice none 0 0] 25) := ⟨_, rfl⟩
  have hb1 : Below w.heap.size w w1 := by rw [hw1]; exact (Below.refl _ _).alloc (Nat.le_refl _) _
  have HRB := hid (show Blk w1 w.heap.size [.int .i64 0, .string ⟨#[]⟩, .slice none 0 0, .slice none 0 0] 25 by rw [hw1]; exact Blk.new w _ _)
  have HB1 := hid hb1
  have hsz1 : w1.heap.size = w.heap.size + 1 := by rw [hw1]; simp
  have HBW1 := hid (hB.trans (hb1.mono hB.size))
  have HR1 := hid (hr.keep hb1)
  have HW01 := HBW1.out.size
  obtain ⟨rb, hrb⟩ : ∃ b, b = w.heap.size := ⟨_, rfl⟩
  have HVV := hid hV
  have PK := qpeek_any q l i w1 HR1.out hl hi
  unfold PeekPost at PK
  have PK := hid PK
  clear hV
  go_enter Tryd.func97, Tryd.ntmps97
  go_upto_region 1 with fail
  rw [← hw1, ← hrb]
  rw [← hrb] at HRB
  have hrw1 : rb < w1.heap.size := by omega
  have hqw1 : q < w1.heap.size := by omega
  have hrb2 : rb ≠ q := by omega
  have HRBE := hid hrb
  clear hw1 hb1 hr hB hrb hsz1
  go_wp2_with fail
  refine PK.out.mono ?_
  rintro e w2 ⟨j, rfl, hij, hj, hdd, hR2, hF2⟩
  have HD2 := hid hdd
  have HR2 := hid hR2
  have HF2 := hid hF2
  have HRB2 := hid (HRB.out.frm hF2 (fun e => hrb2 e))
  have hs2 := hF2.size
  have HBW2 := hid (HBW1.out.trans (hF2.below HW01 (fun k hk e => by have e : k = q := e; omega)))
  obtain ⟨n9, hn9⟩ : ∃ n, n = Qp.hd (l.drop j) := ⟨_, rfl⟩
  rw [← hn9]
  have HN9 := hid hn9
  clear hdd hR2 hF2 hn9 PK HRB
  by_cases h9 : n9 = 40
  · have b1 : ((n9 : Int) == 40) = true := beq_iff_eq.2 (by omega)
    have HG := hid (show j < l.length ∧ Qp.atom sub (l.drop i) = Qp.brk sub (l.drop j) by
      obtain ⟨c9, r9, hc9, hcn⟩ := Qp.hd_cons (HN9.out.symm.trans h9) (by decide)
      have hc : c9 = 40 := UInt8.toNat_inj.1 hcn
      subst hc
      refine ⟨(qdrop_get l j _ r9 hc9).1, ?_⟩
      unfold Qp.atom
      rw [← HD2.out, hc9]
      rfl)
    have BK := HBK.out j w2 HR2.out HG.out.1 HBW2.out
    unfold RdPost at BK
    have BK := hid BK
    clear h9 HBK HNT
    go_wp2_with fail
    refine BK.out.mono ?_
    rintro e w3 ⟨x, a, a', n, c, n', c', no, j3, rfl, hij3, hj3, hR3, hF3, hP3, hres⟩
    have HR3 := hid hR3
    have HF3 := hid (HF2.out.trans hF3 (fun _ _ e => e))
    have HRB3 := hid (HRB2.out.frm hF3 (fun e => hrb2 e))
    have HP3 := hid (hP3.frm (Y := fun _ => False) (Z := fun k => k < w1.heap.size) (Frm.refl _ w3) (fun _ _ e => e.elim) (fun k hk e => by have e : k < w1.heap.size := e; show k < w2.heap.size; omega))
    have HRES := hid hres
    clear hR3 hF3 hP3 hres BK
    obtain ⟨r0, r1, r2, r3⟩ := blk4 HRB3.out
    have k0 := HRB3.out.free 0
    have k1 := HRB3.out.free 1
    have k2 := HRB3.out.free 2
    have k3 := HRB3.out.free 3
    have HZ := hid (put4_blk HRB3.out (.int .i64 x.kind) (.string ⟨x.text.toArray⟩) (.slice a n c) (.slice a' n' c'))
    have HQ := hid (show Qr (put4 w3 rb (.int .i64 x.kind) (.string ⟨x.text.toArray⟩) (.slice a n c) (.slice a' n' c')) q l j3 from put4_other HR3.out (Ne.symm hrb2) _ _ _ _)
    have HFZ := hid (put4_frm (Y := isQ q) (w := w) (b := rb) (X := w3) ((Frm.of_below (X := isQ q) HB1.out).trans HF3.out (fun _ _ e => e)) (Or.inr (by have := HRBE.out; omega)) (.int .i64 x.kind) (.string ⟨x.text.toArray⟩) (.slice a n c) (.slice a' n' c'))
    have HPZ := hid (HP3.out.frm (Y := fun k => k = rb) (Z := fun k => k < w.heap.size) (put4_frm (Y := fun k => k = rb) (Frm.refl _ w3) (Or.inl rfl) (.int .i64 x.kind) (.string ⟨x.text.toArray⟩) (.slice a n c) (.slice a' n' c')) (fun k _ e => (by have e : k = rb := e; show k < w1.heap.size; omega)) (fun k _ e => (by have := HRBE.out; have e : k < w.heap.size := e; show k < w1.heap.size; omega)))
    go_wp2
    refine bodyPost_ret (v := .tuple #[.agg #[.int .i64 x.kind, .string ⟨x.text.toArray⟩, .slice a n c, .slice a' n' c'], .int .i64 no]) (path_ret2 (s := 4) (t := 5) rfl rfl HZ.out Tryd.results97) rfl ?_
    exact ⟨x, a, a', n, c, n', c', no, j3, rfl, by omega, hj3, HQ.out, HFZ.out, HPZ.out, by rw [HG.out.2]; exact HRES.out⟩
  have b40 : ((n9 : Int) == 40) = false := beq_eq_false_iff_ne.2 (by omega)
  by_cases h9b : n9 = 33
  · have b1 : ((n9 : Int) == 33) = true := beq_iff_eq.2 (by omega)
    have HG := hid (show j + 1 ≤ l.length ∧ Qp.atom sub (l.drop i) = Qp.nots (l.drop (j + 1)) by
      obtain ⟨c9, r9, hc9, hcn⟩ := Qp.hd_cons (HN9.out.symm.trans h9b) (by decide)
      have hc : c9 = 33 := UInt8.toNat_inj.1 hcn
      subst hc
      obtain ⟨h1, _, h2⟩ := qdrop_get l j _ r9 hc9
      refine ⟨h1, ?_⟩
      unfold Qp.atom
      rw [← HD2.out, hc9, h2]
      rfl)
    obtain ⟨c0, c1, f0, f1⟩ := HR2.out.cells
    clear h9 h9b
    go_upto_region 6 with fail
    obtain ⟨w3, hw3⟩ : ∃ w3, w3 = w2.setCell ⟨q, 1, none⟩ (.int .i64 ((j : Int) + 1)) := ⟨_, rfl⟩
    have HR3 := hid (show Qr w3 q l (j + 1) by rw [hw3]; exact HR2.out.to (j + 1))
    have hf3 : Frm (isQ q) w2 w3 := by rw [hw3]; exact Frm.set (X := isQ q) (Frm.refl _ w2) (Or.inl rfl) 1 _
    have hs3 : w3.heap.size = w2.heap.size := by rw [hw3]; simp
    have HF3 := hid (HF2.out.trans hf3 (fun _ _ e => e))
    have HRB3 := hid (HRB2.out.frm hf3 (fun e => hrb2 e))
    have BK := HNT.out (j + 1) w3 HR3.out HG.out.1 (HBW1.out.trans (HF3.out.below HW01 (fun k hk e => by have e : k = q := e; omega)))
    unfold RdPost at BK
    have BK := hid BK
    rw [← hw3]
    clear hw3 hf3 c0 c1 f0 f1 HBK HNT
    go_wp2_with fail
    refine BK.out.mono ?_
    rintro e w4 ⟨x, a, a', n, c, n', c', no, j3, rfl, hij3, hj3, hR4, hF4, hP4, hres⟩
    have HR4 := hid hR4
    have HF4 := hid (HF3.out.trans hF4 (fun _ _ e => e))
    have HRB4 := hid (HRB3.out.frm hF4 (fun e => hrb2 e))
    have HP4 := hid (hP4.frm (Y := fun _ => False) (Z := fun k => k < w1.heap.size) (Frm.refl _ w4) (fun _ _ e => e.elim) (fun k hk e => by have e : k < w1.heap.size := e; show k < w3.heap.size; omega))
    have HRES := hid hres
    clear hR4 hF4 hP4 hres BK
    obtain ⟨r0, r1, r2, r3⟩ := blk4 HRB4.out
    have k0 := HRB4.out.free 0
    have k1 := HRB4.out.free 1
    have k2 := HRB4.out.free 2
    have k3 := HRB4.out.free 3
    have HZ := hid (put4_blk HRB4.out (.int .i64 x.kind) (.string ⟨x.text.toArray⟩) (.slice a n c) (.slice a' n' c'))
    have HQ := hid (show Qr (put4 w4 rb (.int .i64 x.kind) (.string ⟨x.text.toArray⟩) (.slice a n c) (.slice a' n' c')) q l j3 from put4_other HR4.out (Ne.symm hrb2) _ _ _ _)
    have HFZ := hid (put4_frm (Y := isQ q) (w := w) (b := rb) (X := w4) ((Frm.of_below (X := isQ q) HB1.out).trans HF4.out (fun _ _ e => e)) (Or.inr (by have := HRBE.out; omega)) (.int .i64 x.kind) (.string ⟨x.text.toArray⟩) (.slice a n c) (.slice a' n' c'))
    have HPZ := hid (HP4.out.frm (Y := fun k => k = rb) (Z := fun k => k < w.heap.size) (put4_frm (Y := fun k => k = rb) (Frm.refl _ w4) (Or.inl rfl) (.int .i64 x.kind) (.string ⟨x.text.toArray⟩) (.slice a n c) (.slice a' n' c')) (fun k _ e => (by have e : k = rb := e; show k < w1.heap.size; omega)) (fun k _ e => (by have := HRBE.out; have e : k < w.heap.size := e; show k < w1.heap.size; omega)))
    go_wp2
    refine bodyPost_ret (v := .tuple #[.agg #[.int .i64 x.kind, .string ⟨x.text.toArray⟩, .slice a n c, .slice a' n' c'], .int .i64 no]) (path_ret2 (s := 4) (t := 5) rfl rfl HZ.out Tryd.results97) rfl ?_
    exact ⟨x, a, a', n, c, n', c', no, j3, rfl, by omega, hj3, HQ.out, HFZ.out, HPZ.out, by rw [HG.out.2]; exact HRES.out⟩
  have b33 : ((n9 : Int) == 33) = false := beq_eq_false_iff_ne.2 (by omega)
  have HG := hid (show Qp.atom sub (l.drop i) = (match Qp.iri (l.drop j) with | .ok t r2 => .ok (.mk 1 t [] []) r2 | .err r2 => .err 2 r2) by
    unfold Qp.atom
    rw [← HD2.out]
    have hne := HN9.out
    cases hc : l.drop j with
    | nil => rfl
    | cons c9 r9 =>
      rw [hc] at hne
      simp only
      rw [if_neg (fun e => by subst e; exact h9 hne), if_neg (fun e => by subst e; exact h9b hne)]
      )
  have IR := qiri_any W0 q l j w2 HR2.out hl hj HVV.out hq HBW2.out
  unfold IriPost at IR
  have IR := hid IR
  clear h9 h9b HBK HNT
  go_wp2_with fail
  refine IR.out.mono ?_
  rintro e w3 ⟨t, no, j3, rfl, hij3, hj3, hR3, hF3, htl, hres⟩
  have HR3 := hid hR3
  have HF3 := hid (HF2.out.trans hF3 (fun _ _ e => e))
  have HRB3 := hid (HRB2.out.frm hF3 (fun e => hrb2 e))
  have HP3 := hid (Asd.all (X := fun k => k < w1.heap.size) (w := w3) (P := fun W => PtB W (.slice none 0 0) (.slice none 0 0) (.mk 1 t [] [])) fun W => ptb_none W 1 (by decide) t (by omega))
  have HRES := hid (show (no = 0 ∧ Qp.atom sub (l.drop i) = .ok (.mk 1 t [] []) (l.drop j3)) ∨ (no ≠ 0 ∧ Qp.atom sub (l.drop i) = .err no (l.drop j3)) by
    rcases hres with ⟨h0, h⟩ | ⟨h0, _, h⟩
    · exact Or.inl ⟨h0, by rw [HG.out, h]⟩
    · exact Or.inr ⟨by omega, by rw [HG.out, h, h0]⟩)
  clear hR3 hF3 hres IR
  obtain ⟨r0, r1, r2, r3⟩ := blk4 HRB3.out
  have k0 := HRB3.out.free 0
  have k1 := HRB3.out.free 1
  have k2 := HRB3.out.free 2
  have k3 := HRB3.out.free 3
  have HZ := hid (put4_blk HRB3.out (.int .i64 1) (.string ⟨t.toArray⟩) (.slice none 0 0) (.slice none 0 0))
  have HQ := hid (show Qr (put4 w3 rb (.int .i64 1) (.string ⟨t.toArray⟩) (.slice none 0 0) (.slice none 0 0)) q l j3 from put4_other HR3.out (Ne.symm hrb2) _ _ _ _)
  have HFZ := hid (put4_frm (Y := isQ q) (w := w) (b := rb) (X := w3) ((Frm.of_below (X := isQ q) HB1.out).trans HF3.out (fun _ _ e => e)) (Or.inr (by have := HRBE.out; omega)) (.int .i64 1) (.string ⟨t.toArray⟩) (.slice none 0 0) (.slice none 0 0))
  have HPZ := hid (HP3.out.frm (Y := fun k => k = rb) (Z := fun k => k < w.heap.size) (put4_frm (Y := fun k => k = rb) (Frm.refl _ w3) (Or.inl rfl) (.int .i64 1) (.string ⟨t.toArray⟩) (.slice none 0 0) (.slice none 0 0)) (fun k _ e => (by have e : k = rb := e; show k < w1.heap.size; omega)) (fun k _ e => (by have := HRBE.out; have e : k < w.heap.size := e; show k < w1.heap.size; omega)))
  go_wp2
  refine bodyPost_ret (v := .tuple #[.agg #[.int .i64 1, .string ⟨t.toArray⟩, .slice none 0 0, .slice none 0 0], .int .i64 no]) (path_ret2 (s := 4) (t := 5) rfl rfl HZ.out Tryd.results97) rfl ?_
  exact ⟨(.mk 1 t [] []), none, none, 0, 0, 0, 0, no, j3, rfl, by omega, hj3, HQ.out, HFZ.out, HPZ.out, HRES.out⟩
set_option maxHeartbeats 8000000 in
theorem qback_none (W0 : World) (q : Nat) (l : T) (hl : l.length ≤ 100000000) (hq : W0.heap.size ≤ q) (HAT : Hid (Reads W0 q l 97 #[.pointer (some ⟨q, 0, none⟩), .int .i64 5] (Qp.atom none))) :
    Reads W0 q l 89 #[.pointer (some ⟨q, 0, none⟩), .int .i64 5] (Qp.back none) := by
  intro i w hr hi hB
  have hq1 := hr.lt
  obtain ⟨w1, hw1⟩ : ∃ w1, w1 = w.alloc (.cells #[.int .i64 0, .string ⟨#[]⟩, .slice none 0 0, .slice none 0 0] 25) := ⟨_, rfl⟩
  have hb1 : Below w.heap.size w w1 := by rw [hw1]; exact (Below.refl _ _).alloc (Nat.le_refl _) _
  have HRB := hid (show Blk w1 w.heap.size [.int .i64 0, .string ⟨#[]⟩, .slice none 0 0, .slice none 0 0] 25 by rw [hw1]; exact Blk.new w _ _)
  have HB1 := hid hb1
  have hsz1 : w1.heap.size = w.heap.size + 1 := by rw [hw1]; simp
  have HBW1 := hid (hB.trans (hb1.mono hB.size))
  have HR1 := hid (hr.keep hb1)
  have HW01 := HBW1.out.size
  obtain ⟨rb, hrb⟩ : ∃ b, b = w.heap.size := ⟨_, rfl⟩
  have PK := qpeek_any q l i w1 HR1.out hl hi
  unfold PeekPost at PK
  have PK := hid PK
  go_enter Tryd.func89, Tryd.ntmps89
  go_upto_region 1 with fail
  rw [← hw1, ← hrb]
  rw [← hrb] at HRB
  have hrw1 : rb < w1.heap.size := by omega
  have hqw1 : q < w1.heap.size := by omega
  have hrb2 : rb ≠ q := by omega
  have HRBE := hid hrb
  clear hw1 hb1 hr hB hrb hsz1
  go_wp2_with fail
  refine PK.out.mono ?_
  rintro e w2 ⟨j, rfl, hij, hj, hdd, hR2, hF2⟩
  have HD2 := hid hdd
  have HR2 := hid hR2
  have HF2 := hid hF2
  have HRB2 := hid (HRB.out.frm hF2 (fun e => hrb2 e))
  have hs2 := hF2.size
  have HBW2 := hid (HBW1.out.trans (hF2.below HW01 (fun k hk e => by have e : k = q := e; omega)))
  obtain ⟨n9, hn9⟩ : ∃ n, n = Qp.hd (l.drop j) := ⟨_, rfl⟩
  rw [← hn9]
  have HN9 := hid hn9
  clear hdd hR2 hF2 hn9 PK HRB
  by_cases h9 : n9 = 94
  case neg =>
    have b1 : ((n9 : Int) == 94) = false := beq_eq_false_iff_ne.2 (by omega)
    have b2 : ((n9 : Int) != 94) = true := bne_iff_ne.2 (by omega)
    have HG := hid (show Qp.back none (l.drop i) = Qp.atom none (l.drop j) by
      rw [HD2.out]
      exact Qp.back_atom _ _ (by rw [← HD2.out, ← HN9.out]; exact h9))
    have BK := HAT.out j w2 HR2.out hj HBW2.out
    unfold RdPost at BK
    have BK := hid BK
    clear h9 HAT
    go_wp2_with fail
    refine BK.out.mono ?_
    rintro e w3 ⟨x, a, a', n, c, n', c', no, j3, rfl, hij3, hj3, hR3, hF3, hP3, hres⟩
    have HR3 := hid hR3
    have HF3 := hid (HF2.out.trans hF3 (fun _ _ e => e))
    have HRB3 := hid (HRB2.out.frm hF3 (fun e => hrb2 e))
    have HP3 := hid (hP3.frm (Y := fun _ => False) (Z := fun k => k < w1.heap.size) (Frm.refl _ w3) (fun _ _ e => e.elim) (fun k hk e => by have e : k < w1.heap.size := e; show k < w2.heap.size; omega))
    have HRES := hid hres
    clear hR3 hF3 hP3 hres BK
    obtain ⟨r0, r1, r2, r3⟩ := blk4 HRB3.out
    have k0 := HRB3.out.free 0
    have k1 := HRB3.out.free 1
    have k2 := HRB3.out.free 2
    have k3 := HRB3.out.free 3
    have HZ := hid (put4_blk HRB3.out (.int .i64 x.kind) (.string ⟨x.text.toArray⟩) (.slice a n c) (.slice a' n' c'))
    have HQ := hid (show Qr (put4 w3 rb (.int .i64 x.kind) (.string ⟨x.text.toArray⟩) (.slice a n c) (.slice a' n' c')) q l j3 from put4_other HR3.out (Ne.symm hrb2) _ _ _ _)
    have HFZ := hid (put4_frm (Y := isQ q) (w := w) (b := rb) (X := w3) ((Frm.of_below (X := isQ q) HB1.out).trans HF3.out (fun _ _ e => e)) (Or.inr (by have := HRBE.out; omega)) (.int .i64 x.kind) (.string ⟨x.text.toArray⟩) (.slice a n c) (.slice a' n' c'))
    have HPZ := hid (HP3.out.frm (Y := fun k => k = rb) (Z := fun k => k < w.heap.size) (put4_frm (Y := fun k => k = rb) (Frm.refl _ w3) (Or.inl rfl) (.int .i64 x.kind) (.string ⟨x.text.toArray⟩) (.slice a n c) (.slice a' n' c')) (fun k _ e => (by have e : k = rb := e; show k < w1.heap.size; omega)) (fun k _ e => (by have := HRBE.out; have e : k < w.heap.size := e; show k < w1.heap.size; omega)))
    go_wp2
    refine bodyPost_ret (v := .tuple #[.agg #[.int .i64 x.kind, .string ⟨x.text.toArray⟩, .slice a n c, .slice a' n' c'], .int .i64 no]) (path_ret2 (s := 4) (t := 5) rfl rfl HZ.out Tryd.results89) rfl ?_
    exact ⟨x, a, a', n, c, n', c', no, j3, rfl, by omega, hj3, HQ.out, HFZ.out, HPZ.out, by rw [HG.out]; exact HRES.out⟩
  have b1 : ((n9 : Int) == 94) = true := beq_iff_eq.2 (by omega)
  have b2 : ((n9 : Int) != 94) = false := by rw [h9]; rfl
  have HG := hid (show Qp.back none (l.drop i) = .err 3 (l.drop j) by
    obtain ⟨c9, r9, hc9, hcn⟩ := Qp.hd_cons (HN9.out.symm.trans h9) (by decide)
    have hc : c9 = 94 := UInt8.toNat_inj.1 hcn
    subst hc
    unfold Qp.back
    rw [← HD2.out, hc9]
    rfl)
  clear h9
  have HP0 := hid (Asd.all (X := fun k => k < w1.heap.size) (w := w2) (P := fun W => PtB W (.slice none 0 0) (.slice none 0 0) (.mk 0 [] [] [])) fun W => ptb_none W 0 (by decide) [] (by simp))
  obtain ⟨r0, r1, r2, r3⟩ := blk4 HRB2.out
  have k0 := HRB2.out.free 0
  have k1 := HRB2.out.free 1
  have k2 := HRB2.out.free 2
  have k3 := HRB2.out.free 3
  have HZ := hid (put4_blk HRB2.out (.int .i64 0) (.string ⟨#[]⟩) (.slice none 0 0) (.slice none 0 0))
  have HQ := hid (show Qr (put4 w2 rb (.int .i64 0) (.string ⟨#[]⟩) (.slice none 0 0) (.slice none 0 0)) q l j from put4_other HR2.out (Ne.symm hrb2) _ _ _ _)
  have HFZ := hid (put4_frm (Y := isQ q) (w := w) (b := rb) (X := w2) ((Frm.of_below (X := isQ q) HB1.out).trans HF2.out (fun _ _ e => e)) (Or.inr (by have := HRBE.out; omega)) (.int .i64 0) (.string ⟨#[]⟩) (.slice none 0 0) (.slice none 0 0))
  have HPZ := hid (HP0.out.frm (Y := fun k => k = rb) (Z := fun k => k < w.heap.size) (put4_frm (Y := fun k => k = rb) (Frm.refl _ w2) (Or.inl rfl) (.int .i64 0) (.string ⟨#[]⟩) (.slice none 0 0) (.slice none 0 0)) (fun k _ e => (by have e : k = rb := e; show k < w1.heap.size; omega)) (fun k _ e => (by have := HRBE.out; have e : k < w.heap.size := e; show k < w1.heap.size; omega)))
  go_wp2
  refine bodyPost_ret (v := .tuple #[.agg #[.int .i64 0, .string ⟨#[]⟩, .slice none 0 0, .slice none 0 0], .int .i64 3]) (path_ret2 (s := 4) (t := 5) rfl rfl HZ.out Tryd.results89) rfl ?_
  exact ⟨(.mk 0 [] [] []), none, none, 0, 0, 0, 0, 3, j, rfl, hij, hj, HQ.out, HFZ.out, HPZ.out, Or.inr ⟨by decide, HG.out⟩⟩
set_option maxHeartbeats 8000000 in
theorem qback_some (W0 : World) (q : Nat) (l : T) (d : Int) (hd : -100 ≤ d ∧ d < 5) (s : (T → Res) × (T → Res)) (hl : l.length ≤ 100000000) (hq : W0.heap.size ≤ q) (HAT : Hid (Reads W0 q l 97 #[.pointer (some ⟨q, 0, none⟩), .int .i64 d] (Qp.atom (some s)))) (HK : Hid (Reads W0 q l 89 #[.pointer (some ⟨q, 0, none⟩), .int .i64 (d + 1)] s.1)) :
    Reads W0 q l 89 #[.pointer (some ⟨q, 0, none⟩), .int .i64 d] (Qp.back (some s)) := by
  intro i w hr hi hB
  have hq1 := hr.lt
  obtain ⟨w1, hw1⟩ : ∃ w1, w1 = w.alloc (.cells #[.int .i64 0, .string ⟨#[]⟩, .slice none 0 0, .slice none 0 0] 25) := ⟨_, rfl⟩
  have hb1 : Below w.heap.size w w1 := by rw [hw1]; exact (Below.refl _ _).alloc (Nat.le_refl _) _
  have HRB := hid (show Blk w1 w.heap.size [.int .i64 0, .string ⟨#[]⟩, .slice none 0 0, .slice none 0 0] 25 by rw [hw1]; exact Blk.new w _ _)
  have HB1 := hid hb1
  have hsz1 : w1.heap.size = w.heap.size + 1 := by rw [hw1]; simp
  have HBW1 := hid (hB.trans (hb1.mono hB.size))
  have HR1 := hid (hr.keep hb1)
  have HW01 := HBW1.out.size
  obtain ⟨rb, hrb⟩ : ∃ b, b = w.heap.size := ⟨_, rfl⟩
  have PK := qpeek_any q l i w1 HR1.out hl hi
  unfold PeekPost at PK
  have PK := hid PK
  go_enter Tryd.func89, Tryd.ntmps89
  go_upto_region 1 with fail
  rw [← hw1, ← hrb]
  rw [← hrb] at HRB
  have hrw1 : rb < w1.heap.size := by omega
  have hqw1 : q < w1.heap.size := by omega
  have hrb2 : rb ≠ q := by omega
  have HRBE := hid hrb
  clear hw1 hb1 hr hB hrb hsz1
  go_wp2_with fail
  refine PK.out.mono ?_
  rintro e w2 ⟨j, rfl, hij, hj, hdd, hR2, hF2⟩
  have HD2 := hid hdd
  have HR2 := hid hR2
  have HF2 := hid hF2
  have HRB2 := hid (HRB.out.frm hF2 (fun e => hrb2 e))
  have hs2 := hF2.size
  have HBW2 := hid (HBW1.out.trans (hF2.below HW01 (fun k hk e => by have e : k = q := e; omega)))
  obtain ⟨n9, hn9⟩ : ∃ n, n = Qp.hd (l.drop j) := ⟨_, rfl⟩
  rw [← hn9]
  have HN9 := hid hn9
  clear hdd hR2 hF2 hn9 PK HRB
  by_cases h9 : n9 = 94
  case neg =>
    have b1 : ((n9 : Int) == 94) = false := beq_eq_false_iff_ne.2 (by omega)
    have b2 : ((n9 : Int) != 94) = true := bne_iff_ne.2 (by omega)
    have HG := hid (show Qp.back (some s) (l.drop i) = Qp.atom (some s) (l.drop j) by
      rw [HD2.out]
      exact Qp.back_atom _ _ (by rw [← HD2.out, ← HN9.out]; exact h9))
    have BK := HAT.out j w2 HR2.out hj HBW2.out
    unfold RdPost at BK
    have BK := hid BK
    clear h9 HAT
    go_wp2_with fail
    refine BK.out.mono ?_
    rintro e w3 ⟨x, a, a', n, c, n', c', no, j3, rfl, hij3, hj3, hR3, hF3, hP3, hres⟩
    have HR3 := hid hR3
    have HF3 := hid (HF2.out.trans hF3 (fun _ _ e => e))
    have HRB3 := hid (HRB2.out.frm hF3 (fun e => hrb2 e))
    have HP3 := hid (hP3.frm (Y := fun _ => False) (Z := fun k => k < w1.heap.size) (Frm.refl _ w3) (fun _ _ e => e.elim) (fun k hk e => by have e : k < w1.heap.size := e; show k < w2.heap.size; omega))
    have HRES := hid hres
    clear hR3 hF3 hP3 hres BK
    obtain ⟨r0, r1, r2, r3⟩ := blk4 HRB3.out
    have k0 := HRB3.out.free 0
    have k1 := HRB3.out.free 1
    have k2 := HRB3.out.free 2
    have k3 := HRB3.out.free 3
    have HZ := hid (put4_blk HRB3.out (.int .i64 x.kind) (.string ⟨x.text.toArray⟩) (.slice a n c) (.slice a' n' c'))
    have HQ := hid (show Qr (put4 w3 rb (.int .i64 x.kind) (.string ⟨x.text.toArray⟩) (.slice a n c) (.slice a' n' c')) q l j3 from put4_other HR3.out (Ne.symm hrb2) _ _ _ _)
    have HFZ := hid (put4_frm (Y := isQ q) (w := w) (b := rb) (X := w3) ((Frm.of_below (X := isQ q) HB1.out).trans HF3.out (fun _ _ e => e)) (Or.inr (by have := HRBE.out; omega)) (.int .i64 x.kind) (.string ⟨x.text.toArray⟩) (.slice a n c) (.slice a' n' c'))
    have HPZ := hid (HP3.out.frm (Y := fun k => k = rb) (Z := fun k => k < w.heap.size) (put4_frm (Y := fun k => k = rb) (Frm.refl _ w3) (Or.inl rfl) (.int .i64 x.kind) (.string ⟨x.text.toArray⟩) (.slice a n c) (.slice a' n' c')) (fun k _ e => (by have e : k = rb := e; show k < w1.heap.size; omega)) (fun k _ e => (by have := HRBE.out; have e : k < w.heap.size := e; show k < w1.heap.size; omega)))
    go_wp2
    refine bodyPost_ret (v := .tuple #[.agg #[.int .i64 x.kind, .string ⟨x.text.toArray⟩, .slice a n c, .slice a' n' c'], .int .i64 no]) (path_ret2 (s := 4) (t := 5) rfl rfl HZ.out Tryd.results89) rfl ?_
    exact ⟨x, a, a', n, c, n', c', no, j3, rfl, by omega, hj3, HQ.out, HFZ.out, HPZ.out, by rw [HG.out]; exact HRES.out⟩
  have b1 : ((n9 : Int) == 94) = true := beq_iff_eq.2 (by omega)
  have b2 : ((n9 : Int) != 94) = false := by rw [h9]; rfl
  have b5 : (d == 5) = false := beq_eq_false_iff_ne.2 (by omega)
  have HG := hid (show j + 1 ≤ l.length ∧ Qp.back (some s) (l.drop i) = (match s.1 (l.drop (j + 1)) with | .ok x r2 => .ok (.mk 2 [] [] [x]) r2 | .err e r2 => .err e r2) by
    obtain ⟨c9, r9, hc9, hcn⟩ := Qp.hd_cons (HN9.out.symm.trans h9) (by decide)
    have hc : c9 = 94 := UInt8.toNat_inj.1 hcn
    subst hc
    obtain ⟨h1, _, h2⟩ := qdrop_get l j _ r9 hc9
    refine ⟨h1, ?_⟩
    unfold Qp.back
    rw [← HD2.out, hc9, h2]
    simp only [if_true]
    cases s.1 r9 <;> rfl)
  obtain ⟨c0, c1, f0, f1⟩ := HR2.out.cells
  clear h9 HAT
  go_upto_region 6 with fail
  obtain ⟨w3, hw3⟩ : ∃ w3, w3 = w2.setCell ⟨q, 1, none⟩ (.int .i64 ((j : Int) + 1)) := ⟨_, rfl⟩
  have HR3 := hid (show Qr w3 q l (j + 1) by rw [hw3]; exact HR2.out.to (j + 1))
  have hf3 : Frm (isQ q) w2 w3 := by rw [hw3]; exact Frm.set (X := isQ q) (Frm.refl _ w2) (Or.inl rfl) 1 _
  have hs3 : w3.heap.size = w2.heap.size := by rw [hw3]; simp
  have HF3 := hid (HF2.out.trans hf3 (fun _ _ e => e))
  have HRB3 := hid (HRB2.out.frm hf3 (fun e => hrb2 e))
  have BK := HK.out (j + 1) w3 HR3.out HG.out.1 (HBW1.out.trans (HF3.out.below HW01 (fun k hk e => by have e : k = q := e; omega)))
  unfold RdPost at BK
  have BK := hid BK
  rw [← hw3]
  clear hw3 hf3 c0 c1 f0 f1 HK
  go_wp2_with fail
  refine BK.out.mono ?_
  rintro e w4 ⟨x, a, a', n, c, n', c', no, j3, rfl, hij3, hj3, hR4, hF4, hP4, hres⟩
  have hs4 := hF4.size
  obtain ⟨w5, hw5⟩ : ∃ w5, w5 = w4.alloc (.cells #[.int .i64 x.kind, .string ⟨x.text.toArray⟩, .slice a n c, .slice a' n' c'] 25) := ⟨_, rfl⟩
  have hb5 : Below w4.heap.size w4 w5 := by rw [hw5]; exact (Below.refl _ _).alloc (Nat.le_refl _) _
  obtain ⟨pb, hpb⟩ : ∃ b, b = w4.heap.size := ⟨_, rfl⟩
  have HPB := hid (show Blk w5 pb [.int .i64 x.kind, str x.text, .slice a n c, .slice a' n' c'] 25 by rw [hw5, hpb]; exact Blk.new w4 _ _)
  have HR5 := hid (hR4.keep hb5)
  have HF5 := hid ((HF3.out.trans hF4 (fun _ _ e => e)).trans (Frm.of_below (X := isQ q) hb5) (fun _ _ e => e))
  have HRB5 := hid ((HRB3.out.frm hF4 (fun e => hrb2 e)).keep hb5)
  have HP5 := hid (hP4.frm (Y := fun _ => False) (Z := fun k => k < w1.heap.size) (Frm.of_below hb5) (fun _ _ e => e.elim) (fun k hk e => by have e : k < w1.heap.size := e; show k < w3.heap.size; omega))
  have HRES := hid (show (no = 0 ∧ Qp.back (some s) (l.drop i) = .ok (.mk 2 [] [] [x]) (l.drop j3)) ∨ (no ≠ 0 ∧ Qp.back (some s) (l.drop i) = .err no (l.drop j3)) by
    rcases hres with ⟨h0, h⟩ | ⟨h0, h⟩
    · exact Or.inl ⟨h0, by rw [HG.out.2, h]⟩
    · exact Or.inr ⟨h0, by rw [HG.out.2, h]⟩)
  have RA := hid (qaround_any 2 x a a' n c n' c' w5)
  go_upto_region 7 with fail
  rw [← hw5, ← hpb]
  clear hw5 hpb hb5 hR4 hF4 hP4 hres BK HRB3 HRB2
  obtain ⟨p0, p1, p2, p3⟩ := blk4 HPB.out
  unfold str at p1
  go_wp2_with fail
  refine RA.out.mono ?_
  rintro e w6 ⟨b, rfl, hb6, hk6, hbl6⟩
  have HK6 := hid hk6
  have hs5 := HF5.out.size
  have HR6 := hid (HR5.out.keep hbl6)
  have HF6 := hid (HF5.out.trans (Frm.of_below (X := isQ q) hbl6) (fun _ _ e => e))
  have HRB6 := hid (HRB5.out.keep hbl6)
  have HX6 := hid (HP5.out.frm (Y := fun _ => False) (Z := fun k => k < w1.heap.size) (Frm.of_below hbl6) (fun _ _ e => e.elim) (fun _ _ e => e))
  have hbp : ¬ (b < w1.heap.size) := by omega
  have HP6 := hid (Asd.and (Asd.blk (X := fun k => k < w1.heap.size) HK6.out hbp) HX6.out (R := fun W => PtB W (.slice none 0 0) (.slice (some ⟨b, 0, none⟩) 1 1) (.mk 2 [] [] [x])) (fun W h1 h2 => qptb_one 2 (by decide) h1 h2))
  clear hk6 hbl6 RA
  obtain ⟨r0, r1, r2, r3⟩ := blk4 HRB6.out
  have k0 := HRB6.out.free 0
  have k1 := HRB6.out.free 1
  have k2 := HRB6.out.free 2
  have k3 := HRB6.out.free 3
  have HZ := hid (put4_blk HRB6.out (.int .i64 2) (.string ⟨#[]⟩) (.slice none 0 0) (.slice (some ⟨b, 0, none⟩) 1 1))
  have HQ := hid (show Qr (put4 w6 rb (.int .i64 2) (.string ⟨#[]⟩) (.slice none 0 0) (.slice (some ⟨b, 0, none⟩) 1 1)) q l j3 from put4_other HR6.out (Ne.symm hrb2) _ _ _ _)
  have HFZ := hid (put4_frm (Y := isQ q) (w := w) (b := rb) (X := w6) ((Frm.of_below (X := isQ q) HB1.out).trans HF6.out (fun _ _ e => e)) (Or.inr (by have := HRBE.out; omega)) (.int .i64 2) (.string ⟨#[]⟩) (.slice none 0 0) (.slice (some ⟨b, 0, none⟩) 1 1))
  have HPZ := hid (HP6.out.frm (Y := fun k => k = rb) (Z := fun k => k < w.heap.size) (put4_frm (Y := fun k => k = rb) (Frm.refl _ w6) (Or.inl rfl) (.int .i64 2) (.string ⟨#[]⟩) (.slice none 0 0) (.slice (some ⟨b, 0, none⟩) 1 1)) (fun k _ e => (by have e : k = rb := e; show k < w1.heap.size; omega)) (fun k _ e => (by have := HRBE.out; have e : k < w.heap.size := e; show k < w1.heap.size; omega)))
  go_wp2
  refine bodyPost_ret (v := .tuple #[.agg #[.int .i64 2, .string ⟨#[]⟩, .slice none 0 0, .slice (some ⟨b, 0, none⟩) 1 1], .int .i64 no]) (path_ret2 (s := 4) (t := 5) rfl rfl HZ.out Tryd.results89) rfl ?_
  exact ⟨(.mk 2 [] [] [x]), none, some ⟨b, 0, none⟩, 0, 0, 1, 1, no, j3, rfl, by omega, hj3, HQ.out, HFZ.out, HPZ.out, HRES.out⟩
end Go.Proofs.YtagmgkplfhlifaaDoor
