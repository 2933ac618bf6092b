/- The document's reader of paths: a step without what stands behind it. -/
import Derived.Test.YtagmgkplfhlifaaDoorRrNot
namespace Go.Proofs.YtagmgkplfhlifaaDoor
set_option linter.unusedVariables false
set_option linter.unusedSimpArgs false
set_option maxRecDepth 100000
open Go.ChangeShapes Go.WideShapes Go.ChangeAt Go.RowKit
open Au
theorem back_none {r r1 : T} {c : UInt8} (h : Qp.skip r = c :: r1) (hc : c = 94 ∨ c = 40) : Qp.back none r = .err 3 (c :: r1) := by
  unfold Qp.back
  rw [h]
  rcases hc with rfl | rfl <;> rfl
theorem back_hat {r r1 : T} {s : (T → Res) × (T → Res)} (h : Qp.skip r = 94 :: r1) : Qp.back (some s) r = (match s.1 r1 with | .ok x r2 => .ok (.mk 2 [] [] [x]) r2 | .err e r2 => .err e r2) := by
  unfold Qp.back
  rw [h]
  rfl
theorem back_br {r r1 : T} {s : (T → Res) × (T → Res)} (h : Qp.skip r = 40 :: r1) : Qp.back (some s) r = (match s.2 r1 with | .ok x r2 => (match Qp.skip r2 with | [] => .err 2 [] | d :: r3 => if d = 41 then .ok x r3 else .err 2 (d :: r3)) | .err e r2 => .err e r2) := by
  unfold Qp.back
  rw [h]
  rfl
theorem back_not {r r1 : T} {sub : Option ((T → Res) × (T → Res))} (h : Qp.skip r = 33 :: r1) : Qp.back sub r = Qp.nots r1 := by
  unfold Qp.back
  rw [h]
  rfl
theorem back_iri {r : T} {sub : Option ((T → Res) × (T → Res))} (h1 : Qp.hd (Qp.skip r) ≠ 94) (h2 : Qp.hd (Qp.skip r) ≠ 40) (h3 : Qp.hd (Qp.skip r) ≠ 33) : Qp.back sub r = (match Qp.iri (Qp.skip r) with | .ok t r2 => .ok (.mk 1 t [] []) r2 | .err r2 => .err 2 r2) := by
  unfold Qp.back
  cases hs : Qp.skip r with
  | nil => rfl
  | cons c r1 =>
    rw [hs] at h1 h2 h3
    simp only
    rw [if_neg (fun e => by subst e; exact h1 rfl), if_neg (fun e => by subst e; exact h2 rfl), if_neg (fun e => by subst e; exact h3 rfl)]
    rfl
set_option maxHeartbeats 8000000 in
theorem rback_none (W0 : World) (q : Nat) (l : T) (d : Int) (hd5 : 5 ≤ d ∧ d ≤ 1000) (hl : l.length ≤ 100000000) (hq : W0.heap.size ≤ q) (hV : T8 W0) :
    RReads W0 q l 79 #[.pointer (some ⟨q, 0, none⟩), .int .i64 d] (Qp.back none) := by
  intro i P0 w hr hi hB
  obtain ⟨w1, hw1⟩ : ∃ w1, w1 = w.alloc (.cells #[.int .i64 0, .string ⟨#[]⟩, .slice none 0 0, .slice none 0 0] 25) := ⟨_, rfl⟩
  have hb1 : Below w.heap.size w w1 := by rw [hw1]; exact (Below.refl _ _).alloc (Nat.le_refl _) _
  have HRB := hid (show Blk w1 w.heap.size [.int .i64 0, .string ⟨#[]⟩, .slice none 0 0, .slice none 0 0] 25 by rw [hw1]; exact Blk.new w _ _)
  have HB1 := hid hb1
  have hsz1 : w1.heap.size = w.heap.size + 1 := by rw [hw1]; simp
  have HBW1 := hid (hB.trans (hb1.mono hB.size))
  have HR1 := hid (hr.keep hb1)
  have hqw := hr.lt
  obtain ⟨rb, hrb⟩ : ∃ b, b = w.heap.size := ⟨_, rfl⟩
  rw [← hrb] at HRB
  have hrw1 : rb < w1.heap.size := by omega
  have hqw1 : q < w1.heap.size := by omega
  have hrb2 : rb ≠ q := by omega
  have HRBE := hid hrb
  have HSZ1 := hid hsz1
  have HW01 := hB.size
  have HVV := hid hV
  have NX := rnext_any q l i 0 P0 w1 HR1.out hl hi
  unfold NextPost at NX
  have NX := hid NX
  go_enter Tryd.func79, Tryd.ntmps79
  go_upto_region 1 with fail
  rw [← hw1, ← hrb]
  clear hw1 hrb hsz1 hr hB hb1
  go_wp2_with fail
  refine NX.out.mono ?_
  rintro e w2 ⟨j, rfl, hij, hj, hd, hR2, hF2⟩
  have HD := hid hd
  have HR2 := hid hR2
  have HF2 := hid hF2
  have HRB2 := hid (HRB.out.frm hF2 (fun e => hrb2 e))
  obtain ⟨n9, hn9⟩ : ∃ n, n = nxt 0 (l.drop j) := ⟨_, rfl⟩
  rw [← hn9]
  have HN := hid (show n9 = Qp.hd (l.drop j) by rw [hn9]; unfold nxt; rw [if_pos rfl])
  clear hd hR2 hF2 hn9 NX
  obtain ⟨c0, c1, c2, c3, f0, f1, f2, f3⟩ := HR2.out.cells
  by_cases h9 : n9 = 94
  case pos =>
    obtain ⟨c9, u9, hc9, hcn⟩ := Qp.hd_cons (HN.out.symm.trans h9) (by decide)
    have hcc : c9 = 94 := UInt8.toNat_inj.1 hcn
    rw [hcc] at hc9
    have HC9 := hid hc9
    obtain ⟨hjl, _, hdu⟩ := qdrop_get l j _ u9 hc9
    have HDU := hid hdu
    have HSK := hid (show Qp.skip (l.drop i) = 94 :: u9 from HD.out.symm.trans hc9)
    clear hc9 hcn hcc hdu
    have HE := hid (back_none HSK.out (Or.inl rfl))
    have FL := hid (rfail_new q l j P0 3 (j : Nat) w2 HR2.out)
    have g94 : ((n9 : Int) == 94) = true := beq_iff_eq.2 (by omega)
    have g40 : ((n9 : Int) == 40) = false := beq_eq_false_iff_ne.2 (by omega)
    have g33 : ((n9 : Int) == 33) = false := beq_eq_false_iff_ne.2 (by omega)
    have g5 : decide (5 ≤ d) = true := decide_eq_true hd5.1
    clear h9
    go_upto_region 6 with fail
    go_wp2_with fail
    refine FL.out.mono ?_
    rintro e w3 ⟨rfl, hR3, hF3⟩
    have HR3 := hid hR3
    have HF3 := hid (HF2.out.trans hF3 (fun _ _ e => e))
    have HRB3 := hid (HRB.out.frm HF3.out (fun e => hrb2 e))
    clear hR3 hF3 FL c0 c1 c2 c3 f0 f1 f2 f3
    obtain ⟨r0, r1, r2, r3⟩ := blk4 HRB3.out
    have k0 := HRB3.out.free 0
    have k1 := HRB3.out.free 1
    have k2 := HRB3.out.free 2
    have k3 := HRB3.out.free 3
    have HZ := hid (put4_blk HRB3.out (.int .i64 0) (.string ⟨#[]⟩) (.slice none 0 0) (.slice none 0 0))
    have HQ := hid (show Rr (put4 w3 rb (.int .i64 0) (.string ⟨#[]⟩) (.slice none 0 0) (.slice none 0 0)) q l (j) (3) ((j : Nat)) from put4_other HR3.out (Ne.symm hrb2) _ _ _ _)
    have HFZ := hid (put4_frm (Y := isQ q) (w := w) (b := rb) (X := w3) ((Frm.of_below (X := isQ q) HB1.out).trans HF3.out (fun _ _ e => e)) (Or.inr (by have := HRBE.out; omega)) (.int .i64 0) (.string ⟨#[]⟩) (.slice none 0 0) (.slice none 0 0))
    go_wp2
    try rw [Exit.noGoto_ret]
    refine bodyPost_ret (v := .agg #[.int .i64 0, .string ⟨#[]⟩, .slice none 0 0, .slice none 0 0]) (fail_ret (s := 4) rfl HZ.out Tryd.results79) rfl ?_
    exact ⟨.mk 0 [] [] [], none, none, 0, 0, 0, 0, 3, (j : Nat), j, rfl, hij, hj, HQ.out, HFZ.out, Or.inr ⟨by decide, j, hj, rfl, by rw [HE.out, HC9.out]⟩⟩
  case neg =>
    have h94 := h9
    clear h9
    by_cases h9 : n9 = 40
    case pos =>
      clear h94
      obtain ⟨c9, u9, hc9, hcn⟩ := Qp.hd_cons (HN.out.symm.trans h9) (by decide)
      have hcc : c9 = 40 := UInt8.toNat_inj.1 hcn
      rw [hcc] at hc9
      have HC9 := hid hc9
      obtain ⟨hjl, _, hdu⟩ := qdrop_get l j _ u9 hc9
      have HDU := hid hdu
      have HSK := hid (show Qp.skip (l.drop i) = 40 :: u9 from HD.out.symm.trans hc9)
      clear hc9 hcn hcc hdu
      have HE := hid (back_none HSK.out (Or.inr rfl))
      have FL := hid (rfail_new q l j P0 3 (j : Nat) w2 HR2.out)
      have g94 : ((n9 : Int) == 94) = false := beq_eq_false_iff_ne.2 (by omega)
      have g40 : ((n9 : Int) == 40) = true := beq_iff_eq.2 (by omega)
      have g33 : ((n9 : Int) == 33) = false := beq_eq_false_iff_ne.2 (by omega)
      have g5 : decide (5 ≤ d) = true := decide_eq_true hd5.1
      clear h9
      go_upto_region 6 with fail
      go_wp2_with fail
      refine FL.out.mono ?_
      rintro e w3 ⟨rfl, hR3, hF3⟩
      have HR3 := hid hR3
      have HF3 := hid (HF2.out.trans hF3 (fun _ _ e => e))
      have HRB3 := hid (HRB.out.frm HF3.out (fun e => hrb2 e))
      clear hR3 hF3 FL c0 c1 c2 c3 f0 f1 f2 f3
      obtain ⟨r0, r1, r2, r3⟩ := blk4 HRB3.out
      have k0 := HRB3.out.free 0
      have k1 := HRB3.out.free 1
      have k2 := HRB3.out.free 2
      have k3 := HRB3.out.free 3
      have HZ := hid (put4_blk HRB3.out (.int .i64 0) (.string ⟨#[]⟩) (.slice none 0 0) (.slice none 0 0))
      have HQ := hid (show Rr (put4 w3 rb (.int .i64 0) (.string ⟨#[]⟩) (.slice none 0 0) (.slice none 0 0)) q l (j) (3) ((j : Nat)) from put4_other HR3.out (Ne.symm hrb2) _ _ _ _)
      have HFZ := hid (put4_frm (Y := isQ q) (w := w) (b := rb) (X := w3) ((Frm.of_below (X := isQ q) HB1.out).trans HF3.out (fun _ _ e => e)) (Or.inr (by have := HRBE.out; omega)) (.int .i64 0) (.string ⟨#[]⟩) (.slice none 0 0) (.slice none 0 0))
      go_wp2
      try rw [Exit.noGoto_ret]
      refine bodyPost_ret (v := .agg #[.int .i64 0, .string ⟨#[]⟩, .slice none 0 0, .slice none 0 0]) (fail_ret (s := 4) rfl HZ.out Tryd.results79) rfl ?_
      exact ⟨.mk 0 [] [] [], none, none, 0, 0, 0, 0, 3, (j : Nat), j, rfl, hij, hj, HQ.out, HFZ.out, Or.inr ⟨by decide, j, hj, rfl, by rw [HE.out, HC9.out]⟩⟩
    case neg =>
      have h40 := h9
      clear h9
      by_cases h9 : n9 = 33
      case pos =>
        clear h94 h40
        obtain ⟨c9, u9, hc9, hcn⟩ := Qp.hd_cons (HN.out.symm.trans h9) (by decide)
        have hcc : c9 = 33 := UInt8.toNat_inj.1 hcn
        rw [hcc] at hc9
        have HC9 := hid hc9
        obtain ⟨hjl, _, hdu⟩ := qdrop_get l j _ u9 hc9
        have HDU := hid hdu
        have HSK := hid (show Qp.skip (l.drop i) = 33 :: u9 from HD.out.symm.trans hc9)
        clear hc9 hcn hcc hdu
        have g94 : ((n9 : Int) == 94) = false := beq_eq_false_iff_ne.2 (by omega)
        have g40 : ((n9 : Int) == 40) = false := beq_eq_false_iff_ne.2 (by omega)
        have g33 : ((n9 : Int) == 33) = true := beq_iff_eq.2 (by omega)
        clear h9
        have hj1 : j + 1 ≤ l.length := hjl
        obtain ⟨w3, hw3⟩ : ∃ w3, w3 = w2.setCell ⟨q, 1, none⟩ (.int .i64 ((j : Int) + 1)) := ⟨_, rfl⟩
        have hf3 : Frm (isQ q) w2 w3 := by rw [hw3]; exact Frm.set (X := isQ q) (Frm.refl _ w2) (Or.inl rfl) 1 _
        have HR3 := hid (show Rr w3 q l (j + 1) 0 P0 by rw [hw3]; exact HR2.out.to (j + 1))
        have HF3 := hid (HF2.out.trans hf3 (fun _ _ e => e))
        have HRB3 := hid (HRB.out.frm HF3.out (fun e => hrb2 e))
        have HBW3 := hid (HBW1.out.trans (HF3.out.below HBW1.out.size (fun k hk e => by have e : k = q := e; omega)))
        have S1 := rnot_any W0 q l hl hq HVV.out (j + 1) P0 w3 HR3.out hj1 HBW3.out
        rw [HDU.out] at S1
        unfold RRd at S1
        have S1 := hid S1
        go_upto_region 16 with fail
        rw [← hw3]
        clear hw3 hf3 c0 c1 c2 c3 f0 f1 f2 f3
        go_wp2_with fail
        refine S1.out.mono ?_
        rintro e w4 ⟨x, a, a', n, c, n', c', E, P, j4, rfl, hij4, hj4, hR4, hF4, hres⟩
        have HR4 := hid hR4
        have HF34 := hid hF4
        have HF4 := hid (HF3.out.trans hF4 (fun _ _ e => e))
        have HRB4 := hid (HRB.out.frm HF4.out (fun e => hrb2 e))
        have HRES := hid hres
        have hs3 := HF3.out.size
        have hs4 := HF4.out.size
        clear hR4 hF4 hres
        have HP4 := hid (show E = 0 → Asd (fun k => k < w1.heap.size) w4 (fun W => PtB W (.slice a n c) (.slice a' n' c') x) from fun hE => by
          rcases HRES.out with ⟨_, _, h3⟩ | ⟨h, _⟩
          · exact Asd.frm h3.out (Frm.refl (fun _ => False) w4) (fun _ _ e => e.elim) (fun k _ e => by have e : k < w1.heap.size := e; show k < w3.heap.size; omega)
          · exact absurd hE h)
        obtain ⟨r0, r1, r2, r3⟩ := blk4 HRB4.out
        have k0 := HRB4.out.free 0
        have k1 := HRB4.out.free 1
        have k2 := HRB4.out.free 2
        have k3 := HRB4.out.free 3
        have HZ := hid (put4_blk HRB4.out (.int .i64 x.kind) (.string ⟨x.text.toArray⟩) (.slice a n c) (.slice a' n' c'))
        have HQ := hid (show Rr (put4 w4 rb (.int .i64 x.kind) (.string ⟨x.text.toArray⟩) (.slice a n c) (.slice a' n' c')) q l (j4) (E) (P) from put4_other HR4.out (Ne.symm hrb2) _ _ _ _)
        have HFZ := hid (put4_frm (Y := isQ q) (w := w) (b := rb) (X := w4) ((Frm.of_below (X := isQ q) HB1.out).trans HF4.out (fun _ _ e => e)) (Or.inr (by have := HRBE.out; omega)) (.int .i64 x.kind) (.string ⟨x.text.toArray⟩) (.slice a n c) (.slice a' n' c'))
        go_wp2
        try rw [Exit.noGoto_ret]
        refine bodyPost_ret (v := .agg #[.int .i64 x.kind, .string ⟨x.text.toArray⟩, .slice a n c, .slice a' n' c']) (fail_ret (s := 4) rfl HZ.out Tryd.results79) rfl ?_
        refine ⟨x, a, a', n, c, n', c', E, P, j4, rfl, by omega, hj4, HQ.out, HFZ.out, ?_⟩
        rw [back_not HSK.out]
        rcases HRES.out with ⟨h1, h2, h3⟩ | h
        · refine Or.inl ⟨h1, h2, ?_⟩
          exact (HP4.out h1).frm (Y := fun k => k = rb) (Z := fun k => k < w.heap.size) (put4_frm (Y := fun k => k = rb) (Frm.refl _ w4) (Or.inl rfl) _ _ _ _) (fun k _ e => (by have e : k = rb := e; show k < w1.heap.size; omega)) (fun k _ e => (by have := HRBE.out; have e : k < w.heap.size := e; show k < w1.heap.size; omega))
        · exact Or.inr h
      case neg =>
        have h33 := h9
        clear h9
        have HE0 := hid (back_iri (sub := none) (r := l.drop i) (by rw [← HD.out, ← HN.out]; exact h94) (by rw [← HD.out, ← HN.out]; exact h40) (by rw [← HD.out, ← HN.out]; exact h33))
        have g94 : ((n9 : Int) == 94) = false := beq_eq_false_iff_ne.2 (by omega)
        have g40 : ((n9 : Int) == 40) = false := beq_eq_false_iff_ne.2 (by omega)
        have g33 : ((n9 : Int) == 33) = false := beq_eq_false_iff_ne.2 (by omega)
        have HBW2 := hid (HBW1.out.trans (HF2.out.below HBW1.out.size (fun k hk e => by have e : k = q := e; omega)))
        have IR := rrIri_any W0 q l j P0 w2 HR2.out hl hj HVV.out hq HBW2.out
        unfold RIriPost at IR
        have IR := hid IR
        clear h94 h40 h33 c0 c1 c2 c3 f0 f1 f2 f3
        go_wp2_with fail
        refine IR.out.mono ?_
        rintro e w4 ⟨t, E, P, j4, rfl, hij4, hj4, hR4, hF4, htl, hres⟩
        have HR4 := hid hR4
        have HF4 := hid (HF2.out.trans hF4 (fun _ _ e => e))
        have HRB4 := hid (HRB.out.frm HF4.out (fun e => hrb2 e))
        have HRES := hid hres
        have HTL := hid htl
        have HP4 := hid (Asd.all (X := fun k => k < w1.heap.size) (w := w4) (P := fun W => PtB W (.slice none 0 0) (.slice none 0 0) (.mk 1 t [] [])) fun W => ptb_none W 1 (by decide) t (by omega))
        clear hR4 hF4 hres htl IR
        obtain ⟨r0, r1, r2, r3⟩ := blk4 HRB4.out
        have k0 := HRB4.out.free 0
        have k1 := HRB4.out.free 1
        have k2 := HRB4.out.free 2
        have k3 := HRB4.out.free 3
        have HZ := hid (put4_blk HRB4.out (.int .i64 1) (.string ⟨t.toArray⟩) (.slice none 0 0) (.slice none 0 0))
        have HQ := hid (show Rr (put4 w4 rb (.int .i64 1) (.string ⟨t.toArray⟩) (.slice none 0 0) (.slice none 0 0)) q l (j4) (E) (P) from put4_other HR4.out (Ne.symm hrb2) _ _ _ _)
        have HFZ := hid (put4_frm (Y := isQ q) (w := w) (b := rb) (X := w4) ((Frm.of_below (X := isQ q) HB1.out).trans HF4.out (fun _ _ e => e)) (Or.inr (by have := HRBE.out; omega)) (.int .i64 1) (.string ⟨t.toArray⟩) (.slice none 0 0) (.slice none 0 0))
        have HPZ := hid (HP4.out.frm (Y := fun k => k = rb) (Z := fun k => k < w.heap.size) (put4_frm (Y := fun k => k = rb) (Frm.refl _ w4) (Or.inl rfl) (.int .i64 1) (.string ⟨t.toArray⟩) (.slice none 0 0) (.slice none 0 0)) (fun k _ e => (by have e : k = rb := e; show k < w1.heap.size; omega)) (fun k _ e => (by have := HRBE.out; have e : k < w.heap.size := e; show k < w1.heap.size; omega)))
        go_wp2
        try rw [Exit.noGoto_ret]
        refine bodyPost_ret (v := .agg #[.int .i64 1, .string ⟨t.toArray⟩, .slice none 0 0, .slice none 0 0]) (fail_ret (s := 4) rfl HZ.out Tryd.results79) rfl ?_
        refine ⟨.mk 1 t [] [], none, none, 0, 0, 0, 0, E, P, j4, rfl, by omega, hj4, HQ.out, HFZ.out, ?_⟩
        rw [HE0.out, ← HD.out]
        rcases HRES.out with ⟨h1, h2⟩ | ⟨h1, h2, h3, h4⟩
        · exact Or.inl ⟨h1, by rw [h2], HPZ.out⟩
        · exact Or.inr ⟨by rw [h1]; decide, j4, hj4, h3, by rw [h4, h1]⟩
set_option maxHeartbeats 8000000 in
theorem rback_some (W0 : World) (q : Nat) (l : T) (d : Int) (hd5 : 0 ≤ d ∧ d < 5) (s : (T → Res) × (T → Res)) (hl : l.length ≤ 100000000) (hq : W0.heap.size ≤ q) (hV : T8 W0)
    (H1 : Hid (RReads W0 q l 79 #[.pointer (some ⟨q, 0, none⟩), .int .i64 (d + 1)] s.1)) (H2 : Hid (RReads W0 q l 30 #[.pointer (some ⟨q, 0, none⟩), .int .i64 (d + 1)] s.2)) :
    RReads W0 q l 79 #[.pointer (some ⟨q, 0, none⟩), .int .i64 d] (Qp.back (some s)) := by
  intro i P0 w hr hi hB
  obtain ⟨w1, hw1⟩ : ∃ w1, w1 = w.alloc (.cells #[.int .i64 0, .string ⟨#[]⟩, .slice none 0 0, .slice none 0 0] 25) := ⟨_, rfl⟩
  have hb1 : Below w.heap.size w w1 := by rw [hw1]; exact (Below.refl _ _).alloc (Nat.le_refl _) _
  have HRB := hid (show Blk w1 w.heap.size [.int .i64 0, .string ⟨#[]⟩, .slice none 0 0, .slice none 0 0] 25 by rw [hw1]; exact Blk.new w _ _)
  have HB1 := hid hb1
  have hsz1 : w1.heap.size = w.heap.size + 1 := by rw [hw1]; simp
  have HBW1 := hid (hB.trans (hb1.mono hB.size))
  have HR1 := hid (hr.keep hb1)
  have hqw := hr.lt
  obtain ⟨rb, hrb⟩ : ∃ b, b = w.heap.size := ⟨_, rfl⟩
  rw [← hrb] at HRB
  have hrw1 : rb < w1.heap.size := by omega
  have hqw1 : q < w1.heap.size := by omega
  have hrb2 : rb ≠ q := by omega
  have HRBE := hid hrb
  have HSZ1 := hid hsz1
  have HW01 := hB.size
  have HVV := hid hV
  have NX := rnext_any q l i 0 P0 w1 HR1.out hl hi
  unfold NextPost at NX
  have NX := hid NX
  go_enter Tryd.func79, Tryd.ntmps79
  go_upto_region 1 with fail
  rw [← hw1, ← hrb]
  clear hw1 hrb hsz1 hr hB hb1
  go_wp2_with fail
  refine NX.out.mono ?_
  rintro e w2 ⟨j, rfl, hij, hj, hd, hR2, hF2⟩
  have HD := hid hd
  have HR2 := hid hR2
  have HF2 := hid hF2
  have HRB2 := hid (HRB.out.frm hF2 (fun e => hrb2 e))
  obtain ⟨n9, hn9⟩ : ∃ n, n = nxt 0 (l.drop j) := ⟨_, rfl⟩
  rw [← hn9]
  have HN := hid (show n9 = Qp.hd (l.drop j) by rw [hn9]; unfold nxt; rw [if_pos rfl])
  clear hd hR2 hF2 hn9 NX
  obtain ⟨c0, c1, c2, c3, f0, f1, f2, f3⟩ := HR2.out.cells
  by_cases h9 : n9 = 94
  case pos =>
    obtain ⟨c9, u9, hc9, hcn⟩ := Qp.hd_cons (HN.out.symm.trans h9) (by decide)
    have hcc : c9 = 94 := UInt8.toNat_inj.1 hcn
    rw [hcc] at hc9
    have HC9 := hid hc9
    obtain ⟨hjl, _, hdu⟩ := qdrop_get l j _ u9 hc9
    have HDU := hid hdu
    have HSK := hid (show Qp.skip (l.drop i) = 94 :: u9 from HD.out.symm.trans hc9)
    clear hc9 hcn hcc hdu
    have g94 : ((n9 : Int) == 94) = true := beq_iff_eq.2 (by omega)
    have g40 : ((n9 : Int) == 40) = false := beq_eq_false_iff_ne.2 (by omega)
    have g33 : ((n9 : Int) == 33) = false := beq_eq_false_iff_ne.2 (by omega)
    have g5 : decide (5 ≤ d) = false := decide_eq_false (by omega)
    clear h9
    have hj1 : j + 1 ≤ l.length := hjl
    obtain ⟨w3, hw3⟩ : ∃ w3, w3 = w2.setCell ⟨q, 1, none⟩ (.int .i64 ((j : Int) + 1)) := ⟨_, rfl⟩
    have hf3 : Frm (isQ q) w2 w3 := by rw [hw3]; exact Frm.set (X := isQ q) (Frm.refl _ w2) (Or.inl rfl) 1 _
    have HR3 := hid (show Rr w3 q l (j + 1) 0 P0 by rw [hw3]; exact HR2.out.to (j + 1))
    have HF3 := hid (HF2.out.trans hf3 (fun _ _ e => e))
    have HRB3 := hid (HRB.out.frm HF3.out (fun e => hrb2 e))
    have HBW3 := hid (HBW1.out.trans (HF3.out.below HBW1.out.size (fun k hk e => by have e : k = q := e; omega)))
    have S1 := H1.out (j + 1) P0 w3 HR3.out hj1 HBW3.out
    rw [HDU.out] at S1
    unfold RRd at S1
    have S1 := hid S1
    go_upto_region 9 with fail
    rw [← hw3]
    clear hw3 hf3 c0 c1 c2 c3 f0 f1 f2 f3
    go_wp2_with fail
    refine S1.out.mono ?_
    rintro e w4 ⟨x, a, a', n, c, n', c', E, P, j4, rfl, hij4, hj4, hR4, hF4, hres⟩
    have HR4 := hid hR4
    have HF34 := hid hF4
    have HF4 := hid (HF3.out.trans hF4 (fun _ _ e => e))
    have HRB4 := hid (HRB.out.frm HF4.out (fun e => hrb2 e))
    have HRES := hid hres
    have hs3 := HF3.out.size
    have hs4 := HF4.out.size
    clear hR4 hF4 hres
    obtain ⟨r0, r1, r2, r3⟩ := blk4 HRB4.out
    have k0 := HRB4.out.free 0
    have k1 := HRB4.out.free 1
    have k2 := HRB4.out.free 2
    have k3 := HRB4.out.free 3
    have hrlt := HRB4.out.lt
    obtain ⟨Z, hZ⟩ : ∃ Z, Z = (put4 w4 rb (.int .i64 2) (.string ⟨#[]⟩) (.slice none 0 0) (.slice (some ⟨w4.heap.size, 0, none⟩) 1 1)).alloc (.cells #[.int .i64 x.kind, .string ⟨x.text.toArray⟩, .slice a n c, .slice a' n' c'] 25) := ⟨_, rfl⟩
    have HZ := hid (show Blk Z rb [.int .i64 2, .string ⟨#[]⟩, .slice none 0 0, .slice (some ⟨w4.heap.size, 0, none⟩) 1 1] 25 by rw [hZ]; exact (put4_blk HRB4.out _ _ _ _).alloc _)
    have HTB := hid (show Blk Z w4.heap.size [.int .i64 x.kind, str x.text, .slice a n c, .slice a' n' c'] 25 by rw [hZ]; exact Blk.new' (by simp) rfl)
    have HQ := hid (show Rr Z q l j4 E P by rw [hZ]; exact (put4_other HR4.out (Ne.symm hrb2) _ _ _ _).alloc _)
    have HFX := hid (show Frm (fun k => k = rb) w4 Z by rw [hZ]; exact (put4_frm (Y := fun k => k = rb) (Frm.refl _ w4) (Or.inl rfl) _ _ _ _).alloc _)
    have HFZ := hid (show Frm (isQ q) w Z by rw [hZ]; exact (put4_frm (Y := isQ q) (w := w) (b := rb) (X := w4) ((Frm.of_below (X := isQ q) HB1.out).trans HF4.out (fun _ _ e => e)) (Or.inr (by have := HRBE.out; omega)) _ _ _ _).alloc _)
    obtain ⟨tb, htb⟩ : ∃ b, b = w4.heap.size := ⟨_, rfl⟩
    rw [← htb] at HZ HTB
    have HTBE := hid htb
    go_wp2
    try rw [Exit.noGoto_ret]
    rw [← hZ, ← htb]
    refine bodyPost_ret (v := .agg #[.int .i64 2, .string ⟨#[]⟩, .slice none 0 0, .slice (some ⟨tb, 0, none⟩) 1 1]) (fail_ret (s := 4) rfl HZ.out Tryd.results79) rfl ?_
    refine ⟨.mk 2 [] [] [x], none, some ⟨tb, 0, none⟩, 0, 0, 1, 1, E, P, j4, rfl, by omega, hj4, HQ.out, HFZ.out, ?_⟩
    rw [back_hat HSK.out]
    rcases HRES.out with ⟨h1, h2, h3⟩ | ⟨h1, m, h2, h3, h4⟩
    · refine Or.inl ⟨h1, by rw [h2], ?_⟩
      have hz := Asd.frm (Z := fun k => k < w.heap.size) h3.out HFX.out (fun k _ e => by have e : k = rb := e; show k < w3.heap.size; omega) (fun k _ e => by have e : k < w.heap.size := e; have := HRBE.out; show k < w3.heap.size; omega)
      exact Asd.and (Asd.blk HTB.out (by have := HTBE.out; have := HRBE.out; omega)) hz (fun W h5 h6 => qptb_one 2 (by decide) h5 h6)
    · exact Or.inr ⟨h1, m, h2, h3, by rw [h4]⟩
  case neg =>
    have h94 := h9
    clear h9
    by_cases h9 : n9 = 40
    case pos =>
      clear h94
      obtain ⟨c9, u9, hc9, hcn⟩ := Qp.hd_cons (HN.out.symm.trans h9) (by decide)
      have hcc : c9 = 40 := UInt8.toNat_inj.1 hcn
      rw [hcc] at hc9
      have HC9 := hid hc9
      obtain ⟨hjl, _, hdu⟩ := qdrop_get l j _ u9 hc9
      have HDU := hid hdu
      have HSK := hid (show Qp.skip (l.drop i) = 40 :: u9 from HD.out.symm.trans hc9)
      clear hc9 hcn hcc hdu
      have g94 : ((n9 : Int) == 94) = false := beq_eq_false_iff_ne.2 (by omega)
      have g40 : ((n9 : Int) == 40) = true := beq_iff_eq.2 (by omega)
      have g33 : ((n9 : Int) == 33) = false := beq_eq_false_iff_ne.2 (by omega)
      have g5 : decide (5 ≤ d) = false := decide_eq_false (by omega)
      clear h9
      have hj1 : j + 1 ≤ l.length := hjl
      obtain ⟨w3, hw3⟩ : ∃ w3, w3 = w2.setCell ⟨q, 1, none⟩ (.int .i64 ((j : Int) + 1)) := ⟨_, rfl⟩
      have hf3 : Frm (isQ q) w2 w3 := by rw [hw3]; exact Frm.set (X := isQ q) (Frm.refl _ w2) (Or.inl rfl) 1 _
      have HR3 := hid (show Rr w3 q l (j + 1) 0 P0 by rw [hw3]; exact HR2.out.to (j + 1))
      have HF3 := hid (HF2.out.trans hf3 (fun _ _ e => e))
      have HRB3 := hid (HRB.out.frm HF3.out (fun e => hrb2 e))
      have HBW3 := hid (HBW1.out.trans (HF3.out.below HBW1.out.size (fun k hk e => by have e : k = q := e; omega)))
      have S2 := H2.out (j + 1) P0 w3 HR3.out hj1 HBW3.out
      rw [HDU.out] at S2
      unfold RRd at S2
      have S2 := hid S2
      go_upto_region 10 with fail
      rw [← hw3]
      clear hw3 hf3 c0 c1 c2 c3 f0 f1 f2 f3
      go_wp2_with fail
      refine S2.out.mono ?_
      rintro e w4 ⟨x, a, a', n, c, n', c', E, P, j4, rfl, hij4, hj4, hR4, hF4, hres⟩
      have HR4 := hid hR4
      have HF34 := hid hF4
      have HF4 := hid (HF3.out.trans hF4 (fun _ _ e => e))
      have HRB4 := hid (HRB.out.frm HF4.out (fun e => hrb2 e))
      have HRES := hid hres
      have hs3 := HF3.out.size
      have hs4 := HF4.out.size
      clear hR4 hF4 hres
      obtain ⟨w5, hw5⟩ : ∃ w5, w5 = w4.alloc (.cells #[.int .i64 x.kind, .string ⟨x.text.toArray⟩, .slice a n c, .slice a' n' c'] 25) := ⟨_, rfl⟩
      have hb5 : Below w4.heap.size w4 w5 := by rw [hw5]; exact (Below.refl _ _).alloc (Nat.le_refl _) _
      obtain ⟨ab, hab⟩ : ∃ b, b = w4.heap.size := ⟨_, rfl⟩
      have HAB := hid (show Blk w5 ab [.int .i64 x.kind, str x.text, .slice a n c, .slice a' n' c'] 25 by rw [hw5, hab]; exact Blk.new w4 _ _)
      have HR5 := hid (HR4.out.keep hb5)
      have HF45 := hid (Frm.of_below (X := isQ q) hb5)
      have HF5 := hid (HF4.out.trans HF45.out (fun _ _ e => e))
      have haq : ab ≠ q := by omega
      have har : ab ≠ rb := by omega
      have HABE := hid hab
      have SG := rsgn_any q l j4 E P 41 (by decide) w5 HR5.out hl hj4
      unfold SgnPost at SG
      have SG := hid (show Calls Tryd.prog 48 #[.pointer (some ⟨q, 0, none⟩), .int .u8 41] w5 _ from SG)
      go_upto_region 11 with fail
      rw [← hw5, ← hab]
      clear hw5 hb5 hab
      go_wp2_with fail
      refine SG.out.mono ?_
      rintro e w6 ⟨j6, rfl, hjj, hj6, hd6, hF6, hres6⟩
      have HD6 := hid hd6
      have HF56 := hid hF6
      have HF6 := hid (HF5.out.trans hF6 (fun _ _ e => e))
      have HRB6 := hid (HRB.out.frm HF6.out (fun e => hrb2 e))
      have HAB6 := hid (HAB.out.frm hF6 (fun e => haq e))
      obtain ⟨B, hB6⟩ : ∃ z, z = isSg E (l.drop j6) 41 := ⟨_, rfl⟩
      rw [← hB6] at hres6 ⊢
      have HB6 := hid hB6
      have HRES6 := hid hres6
      clear hd6 hF6 hres6 SG hB6
      cases B
      case false =>
        have HR6 := hid (show Rr w6 q l j6 E P from HRES6.out.elim (fun h => h.2) (fun h => by have := h.1; cases this))
        obtain ⟨c0, c1, c2, c3, f0, f1, f2, f3⟩ := HR6.out.cells
        clear HRES6
        by_cases hE : E = 0
        case pos =>
          subst hE
          have HE := hid (show Qp.back (some s) (l.drop i) = .err 2 (l.drop j6) by
            rw [back_br HSK.out]
            rcases HRES.out with ⟨_, h2, _⟩ | ⟨h, _⟩
            · rw [h2]
              simp only
              rw [← HD6.out]
              have n2 := isSg_no HB6.out.symm
              cases hc : l.drop j6 with
              | nil => rfl
              | cons c9 r9 =>
                simp only
                rw [if_neg (fun e => n2 r9 (by rw [hc, e]))]
            · exact absurd rfl h)
          have FL := hid (rfail_new q l j6 P 2 (j6 : Nat) w6 HR6.out)
          go_wp2_with fail
          refine FL.out.mono ?_
          rintro e w7 ⟨rfl, hR7, hF7⟩
          have HR7 := hid hR7
          have HF7 := hid (HF6.out.trans hF7 (fun _ _ e => e))
          have HRB7 := hid (HRB.out.frm HF7.out (fun e => hrb2 e))
          clear hR7 hF7 FL c0 c1 c2 c3 f0 f1 f2 f3
          obtain ⟨r0, r1, r2, r3⟩ := blk4 HRB7.out
          have k0 := HRB7.out.free 0
          have k1 := HRB7.out.free 1
          have k2 := HRB7.out.free 2
          have k3 := HRB7.out.free 3
          have HZ := hid (put4_blk HRB7.out (.int .i64 0) (.string ⟨#[]⟩) (.slice none 0 0) (.slice none 0 0))
          have HQ := hid (show Rr (put4 w7 rb (.int .i64 0) (.string ⟨#[]⟩) (.slice none 0 0) (.slice none 0 0)) q l (j6) (2) ((j6 : Nat)) from put4_other HR7.out (Ne.symm hrb2) _ _ _ _)
          have HFZ := hid (put4_frm (Y := isQ q) (w := w) (b := rb) (X := w7) ((Frm.of_below (X := isQ q) HB1.out).trans HF7.out (fun _ _ e => e)) (Or.inr (by have := HRBE.out; omega)) (.int .i64 0) (.string ⟨#[]⟩) (.slice none 0 0) (.slice none 0 0))
          go_wp2
          try rw [Exit.noGoto_ret]
          refine bodyPost_ret (v := .agg #[.int .i64 0, .string ⟨#[]⟩, .slice none 0 0, .slice none 0 0]) (fail_ret (s := 4) rfl HZ.out Tryd.results79) rfl ?_
          exact ⟨.mk 0 [] [] [], none, none, 0, 0, 0, 0, 2, (j6 : Nat), j6, rfl, by omega, hj6, HQ.out, HFZ.out, Or.inr ⟨by decide, j6, hj6, rfl, HE.out⟩⟩
        case neg =>
          have HE := hid (show ∃ m : Nat, m ≤ l.length ∧ P = m ∧ Qp.back (some s) (l.drop i) = .err E (l.drop m) by
            rcases HRES.out with ⟨h, _⟩ | ⟨_, m, h2, h3, h4⟩
            · exact absurd h hE
            · exact ⟨m, h2, h3, by rw [back_br HSK.out, h4]⟩)
          have HNE := hid hE
          have FL := hid (rfail_old q l j6 E P 2 (j6 : Nat) hE w6 HR6.out)
          clear hE
          go_wp2_with fail
          refine FL.out.mono ?_
          rintro e w7 ⟨rfl, hR7, hF7⟩
          have HR7 := hid hR7
          have HF7 := hid (HF6.out.trans hF7 (fun _ _ e => e))
          have HRB7 := hid (HRB.out.frm HF7.out (fun e => hrb2 e))
          clear hR7 hF7 FL c0 c1 c2 c3 f0 f1 f2 f3
          obtain ⟨r0, r1, r2, r3⟩ := blk4 HRB7.out
          have k0 := HRB7.out.free 0
          have k1 := HRB7.out.free 1
          have k2 := HRB7.out.free 2
          have k3 := HRB7.out.free 3
          have HZ := hid (put4_blk HRB7.out (.int .i64 0) (.string ⟨#[]⟩) (.slice none 0 0) (.slice none 0 0))
          have HQ := hid (show Rr (put4 w7 rb (.int .i64 0) (.string ⟨#[]⟩) (.slice none 0 0) (.slice none 0 0)) q l (j6) (E) (P) from put4_other HR7.out (Ne.symm hrb2) _ _ _ _)
          have HFZ := hid (put4_frm (Y := isQ q) (w := w) (b := rb) (X := w7) ((Frm.of_below (X := isQ q) HB1.out).trans HF7.out (fun _ _ e => e)) (Or.inr (by have := HRBE.out; omega)) (.int .i64 0) (.string ⟨#[]⟩) (.slice none 0 0) (.slice none 0 0))
          go_wp2
          try rw [Exit.noGoto_ret]
          refine bodyPost_ret (v := .agg #[.int .i64 0, .string ⟨#[]⟩, .slice none 0 0, .slice none 0 0]) (fail_ret (s := 4) rfl HZ.out Tryd.results79) rfl ?_
          exact ⟨.mk 0 [] [] [], none, none, 0, 0, 0, 0, E, P, j6, rfl, by omega, hj6, HQ.out, HFZ.out, Or.inr ⟨HNE.out, HE.out⟩⟩
      case true =>
        obtain ⟨hE, hj7, ⟨r9, hc9⟩, hR6⟩ := HRES6.out.elim (fun h => by have := h.1; cases this) (fun h => h.2)
        have HR6 := hid hR6
        have HE := hid (show E = 0 ∧ Qp.back (some s) (l.drop i) = .ok x (l.drop (j6 + 1)) by
          refine ⟨hE, ?_⟩
          rw [back_br HSK.out]
          rcases HRES.out with ⟨_, h2, _⟩ | ⟨h, _⟩
          · rw [h2]
            simp only
            rw [← HD6.out, hc9, (qdrop_get l j6 _ r9 hc9).2.2]
            rfl
          · exact absurd hE h)
        have HP6 := hid (show Asd (fun k => k < w1.heap.size) w6 (fun W => PtB W (.slice a n c) (.slice a' n' c') x) from by
          rcases HRES.out with ⟨_, _, h3⟩ | ⟨h, _⟩
          · refine Asd.frm h3.out ((HF45.out.trans HF56.out (fun _ _ e => e))) (fun k _ e => ?_) (fun k _ e => ?_)
            · have e : k = q := e; show k < w3.heap.size; omega
            · have e : k < w1.heap.size := e; show k < w3.heap.size; omega
          · exact absurd hE h)
        obtain ⟨p0, p1, p2, p3⟩ := blk4 HAB6.out
        unfold str at p1
        clear hc9 hR6 hE HRES6
        obtain ⟨r0, r1, r2, r3⟩ := blk4 HRB6.out
        have k0 := HRB6.out.free 0
        have k1 := HRB6.out.free 1
        have k2 := HRB6.out.free 2
        have k3 := HRB6.out.free 3
        have HZ := hid (put4_blk HRB6.out (.int .i64 x.kind) (.string ⟨x.text.toArray⟩) (.slice a n c) (.slice a' n' c'))
        have HQ := hid (show Rr (put4 w6 rb (.int .i64 x.kind) (.string ⟨x.text.toArray⟩) (.slice a n c) (.slice a' n' c')) q l (j6 + 1) (E) (P) from put4_other HR6.out (Ne.symm hrb2) _ _ _ _)
        have HFZ := hid (put4_frm (Y := isQ q) (w := w) (b := rb) (X := w6) ((Frm.of_below (X := isQ q) HB1.out).trans HF6.out (fun _ _ e => e)) (Or.inr (by have := HRBE.out; omega)) (.int .i64 x.kind) (.string ⟨x.text.toArray⟩) (.slice a n c) (.slice a' n' c'))
        have HPZ := hid (HP6.out.frm (Y := fun k => k = rb) (Z := fun k => k < w.heap.size) (put4_frm (Y := fun k => k = rb) (Frm.refl _ w6) (Or.inl rfl) (.int .i64 x.kind) (.string ⟨x.text.toArray⟩) (.slice a n c) (.slice a' n' c')) (fun k _ e => (by have e : k = rb := e; show k < w1.heap.size; omega)) (fun k _ e => (by have := HRBE.out; have e : k < w.heap.size := e; show k < w1.heap.size; omega)))
        go_wp2
        try rw [Exit.noGoto_ret]
        refine bodyPost_ret (v := .agg #[.int .i64 x.kind, .string ⟨x.text.toArray⟩, .slice a n c, .slice a' n' c']) (fail_ret (s := 4) rfl HZ.out Tryd.results79) rfl ?_
        exact ⟨x, a, a', n, c, n', c', E, P, j6 + 1, rfl, by omega, hj7, HQ.out, HFZ.out, Or.inl ⟨HE.out.1, HE.out.2, HPZ.out⟩⟩
    case neg =>
      have h40 := h9
      clear h9
      by_cases h9 : n9 = 33
      case pos =>
        clear h94 h40
        obtain ⟨c9, u9, hc9, hcn⟩ := Qp.hd_cons (HN.out.symm.trans h9) (by decide)
        have hcc : c9 = 33 := UInt8.toNat_inj.1 hcn
        rw [hcc] at hc9
        have HC9 := hid hc9
        obtain ⟨hjl, _, hdu⟩ := qdrop_get l j _ u9 hc9
        have HDU := hid hdu
        have HSK := hid (show Qp.skip (l.drop i) = 33 :: u9 from HD.out.symm.trans hc9)
        clear hc9 hcn hcc hdu
        have g94 : ((n9 : Int) == 94) = false := beq_eq_false_iff_ne.2 (by omega)
        have g40 : ((n9 : Int) == 40) = false := beq_eq_false_iff_ne.2 (by omega)
        have g33 : ((n9 : Int) == 33) = true := beq_iff_eq.2 (by omega)
        clear h9
        have hj1 : j + 1 ≤ l.length := hjl
        obtain ⟨w3, hw3⟩ : ∃ w3, w3 = w2.setCell ⟨q, 1, none⟩ (.int .i64 ((j : Int) + 1)) := ⟨_, rfl⟩
        have hf3 : Frm (isQ q) w2 w3 := by rw [hw3]; exact Frm.set (X := isQ q) (Frm.refl _ w2) (Or.inl rfl) 1 _
        have HR3 := hid (show Rr w3 q l (j + 1) 0 P0 by rw [hw3]; exact HR2.out.to (j + 1))
        have HF3 := hid (HF2.out.trans hf3 (fun _ _ e => e))
        have HRB3 := hid (HRB.out.frm HF3.out (fun e => hrb2 e))
        have HBW3 := hid (HBW1.out.trans (HF3.out.below HBW1.out.size (fun k hk e => by have e : k = q := e; omega)))
        have S1 := rnot_any W0 q l hl hq HVV.out (j + 1) P0 w3 HR3.out hj1 HBW3.out
        rw [HDU.out] at S1
        unfold RRd at S1
        have S1 := hid S1
        go_upto_region 16 with fail
        rw [← hw3]
        clear hw3 hf3 c0 c1 c2 c3 f0 f1 f2 f3
        go_wp2_with fail
        refine S1.out.mono ?_
        rintro e w4 ⟨x, a, a', n, c, n', c', E, P, j4, rfl, hij4, hj4, hR4, hF4, hres⟩
        have HR4 := hid hR4
        have HF34 := hid hF4
        have HF4 := hid (HF3.out.trans hF4 (fun _ _ e => e))
        have HRB4 := hid (HRB.out.frm HF4.out (fun e => hrb2 e))
        have HRES := hid hres
        have hs3 := HF3.out.size
        have hs4 := HF4.out.size
        clear hR4 hF4 hres
        have HP4 := hid (show E = 0 → Asd (fun k => k < w1.heap.size) w4 (fun W => PtB W (.slice a n c) (.slice a' n' c') x) from fun hE => by
          rcases HRES.out with ⟨_, _, h3⟩ | ⟨h, _⟩
          · exact Asd.frm h3.out (Frm.refl (fun _ => False) w4) (fun _ _ e => e.elim) (fun k _ e => by have e : k < w1.heap.size := e; show k < w3.heap.size; omega)
          · exact absurd hE h)
        obtain ⟨r0, r1, r2, r3⟩ := blk4 HRB4.out
        have k0 := HRB4.out.free 0
        have k1 := HRB4.out.free 1
        have k2 := HRB4.out.free 2
        have k3 := HRB4.out.free 3
        have HZ := hid (put4_blk HRB4.out (.int .i64 x.kind) (.string ⟨x.text.toArray⟩) (.slice a n c) (.slice a' n' c'))
        have HQ := hid (show Rr (put4 w4 rb (.int .i64 x.kind) (.string ⟨x.text.toArray⟩) (.slice a n c) (.slice a' n' c')) q l (j4) (E) (P) from put4_other HR4.out (Ne.symm hrb2) _ _ _ _)
        have HFZ := hid (put4_frm (Y := isQ q) (w := w) (b := rb) (X := w4) ((Frm.of_below (X := isQ q) HB1.out).trans HF4.out (fun _ _ e => e)) (Or.inr (by have := HRBE.out; omega)) (.int .i64 x.kind) (.string ⟨x.text.toArray⟩) (.slice a n c) (.slice a' n' c'))
        go_wp2
        try rw [Exit.noGoto_ret]
        refine bodyPost_ret (v := .agg #[.int .i64 x.kind, .string ⟨x.text.toArray⟩, .slice a n c, .slice a' n' c']) (fail_ret (s := 4) rfl HZ.out Tryd.results79) rfl ?_
        refine ⟨x, a, a', n, c, n', c', E, P, j4, rfl, by omega, hj4, HQ.out, HFZ.out, ?_⟩
        rw [back_not HSK.out]
        rcases HRES.out with ⟨h1, h2, h3⟩ | h
        · refine Or.inl ⟨h1, h2, ?_⟩
          exact (HP4.out h1).frm (Y := fun k => k = rb) (Z := fun k => k < w.heap.size) (put4_frm (Y := fun k => k = rb) (Frm.refl _ w4) (Or.inl rfl) _ _ _ _) (fun k _ e => (by have e : k = rb := e; show k < w1.heap.size; omega)) (fun k _ e => (by have := HRBE.out; have e : k < w.heap.size := e; show k < w1.heap.size; omega))
        · exact Or.inr h
      case neg =>
        have h33 := h9
        clear h9
        have HE0 := hid (back_iri (sub := some s) (r := l.drop i) (by rw [← HD.out, ← HN.out]; exact h94) (by rw [← HD.out, ← HN.out]; exact h40) (by rw [← HD.out, ← HN.out]; exact h33))
        have g94 : ((n9 : Int) == 94) = false := beq_eq_false_iff_ne.2 (by omega)
        have g40 : ((n9 : Int) == 40) = false := beq_eq_false_iff_ne.2 (by omega)
        have g33 : ((n9 : Int) == 33) = false := beq_eq_false_iff_ne.2 (by omega)
        have HBW2 := hid (HBW1.out.trans (HF2.out.below HBW1.out.size (fun k hk e => by have e : k = q := e; omega)))
        have IR := rrIri_any W0 q l j P0 w2 HR2.out hl hj HVV.out hq HBW2.out
        unfold RIriPost at IR
        have IR := hid IR
        clear h94 h40 h33 c0 c1 c2 c3 f0 f1 f2 f3
        go_wp2_with fail
        refine IR.out.mono ?_
        rintro e w4 ⟨t, E, P, j4, rfl, hij4, hj4, hR4, hF4, htl, hres⟩
        have HR4 := hid hR4
        have HF4 := hid (HF2.out.trans hF4 (fun _ _ e => e))
        have HRB4 := hid (HRB.out.frm HF4.out (fun e => hrb2 e))
        have HRES := hid hres
        have HTL := hid htl
        have HP4 := hid (Asd.all (X := fun k => k < w1.heap.size) (w := w4) (P := fun W => PtB W (.slice none 0 0) (.slice none 0 0) (.mk 1 t [] [])) fun W => ptb_none W 1 (by decide) t (by omega))
        clear hR4 hF4 hres htl IR
        obtain ⟨r0, r1, r2, r3⟩ := blk4 HRB4.out
        have k0 := HRB4.out.free 0
        have k1 := HRB4.out.free 1
        have k2 := HRB4.out.free 2
        have k3 := HRB4.out.free 3
        have HZ := hid (put4_blk HRB4.out (.int .i64 1) (.string ⟨t.toArray⟩) (.slice none 0 0) (.slice none 0 0))
        have HQ := hid (show Rr (put4 w4 rb (.int .i64 1) (.string ⟨t.toArray⟩) (.slice none 0 0) (.slice none 0 0)) q l (j4) (E) (P) from put4_other HR4.out (Ne.symm hrb2) _ _ _ _)
        have HFZ := hid (put4_frm (Y := isQ q) (w := w) (b := rb) (X := w4) ((Frm.of_below (X := isQ q) HB1.out).trans HF4.out (fun _ _ e => e)) (Or.inr (by have := HRBE.out; omega)) (.int .i64 1) (.string ⟨t.toArray⟩) (.slice none 0 0) (.slice none 0 0))
        have HPZ := hid (HP4.out.frm (Y := fun k => k = rb) (Z := fun k => k < w.heap.size) (put4_frm (Y := fun k => k = rb) (Frm.refl _ w4) (Or.inl rfl) (.int .i64 1) (.string ⟨t.toArray⟩) (.slice none 0 0) (.slice none 0 0)) (fun k _ e => (by have e : k = rb := e; show k < w1.heap.size; omega)) (fun k _ e => (by have := HRBE.out; have e : k < w.heap.size := e; show k < w1.heap.size; omega)))
        go_wp2
        try rw [Exit.noGoto_ret]
        refine bodyPost_ret (v := .agg #[.int .i64 1, .string ⟨t.toArray⟩, .slice none 0 0, .slice none 0 0]) (fail_ret (s := 4) rfl HZ.out Tryd.results79) rfl ?_
        refine ⟨.mk 1 t [] [], none, none, 0, 0, 0, 0, E, P, j4, rfl, by omega, hj4, HQ.out, HFZ.out, ?_⟩
        rw [HE0.out, ← HD.out]
        rcases HRES.out with ⟨h1, h2⟩ | ⟨h1, h2, h3, h4⟩
        · exact Or.inl ⟨h1, by rw [h2], HPZ.out⟩
        · exact Or.inr ⟨by rw [h1]; decide, j4, hj4, h3, by rw [h4, h1]⟩
end Go.Proofs.YtagmgkplfhlifaaDoor
