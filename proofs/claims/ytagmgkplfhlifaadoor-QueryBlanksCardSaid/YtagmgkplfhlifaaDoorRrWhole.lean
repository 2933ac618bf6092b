/- The document's Path. -/
import Derived.Test.YtagmgkplfhlifaaDoorRrRow
import Derived.Test.YtagmgkplfhlifaaDoorQpWhole
namespace Go.Proofs.YtagmgkplfhlifaaDoor
set_option linter.unusedVariables false
set_option linter.unusedSimpArgs false
set_option maxRecDepth 100000
open Go.ChangeShapes Go.WideShapes Go.ChangeAt Go.RowKit
open Au
theorem rlev_any (W0 : World) (q : Nat) (l : T) (hl : l.length ≤ 100000000) (hq : W0.heap.size ≤ q) (hV : T8 W0) : ∀ (k : Nat), k ≤ 5 →
    RReads W0 q l 79 #[.pointer (some ⟨q, 0, none⟩), .int .i64 (5 - (k : Int))] (Qp.lev k).1 ∧ RReads W0 q l 30 #[.pointer (some ⟨q, 0, none⟩), .int .i64 (5 - (k : Int))] (Qp.lev k).2 := by
  have path : ∀ (d : Int) (bk : T → Res), Qp.Short bk → RReads W0 q l 79 #[.pointer (some ⟨q, 0, none⟩), .int .i64 d] bk → RReads W0 q l 30 #[.pointer (some ⟨q, 0, none⟩), .int .i64 d] (Qp.pathOf bk) := fun d bk hs h =>
    rpath_any W0 q l d _ (Qp.row_short (Qp.step_short hs) _ _) hl hq (hid (rseq_any W0 q l d _ (Qp.step_short hs) hl hq (hid (rstep_any W0 q l d bk hl hq (hid h)))))
  intro k
  induction k with
  | zero =>
    intro _
    have h := rback_none W0 q l (5 - ((0 : Nat) : Int)) (by omega) hl hq hV
    rw [Qp.lev_zero]
    exact ⟨h, path _ _ (Qp.back_short (fun s h => by cases h)) h⟩
  | succ k ih =>
    intro hk
    obtain ⟨h1, h2⟩ := ih (by omega)
    have e : (5 : Int) - ((k + 1 : Nat) : Int) + 1 = 5 - (k : Int) := by omega
    have h := rback_some W0 q l (5 - ((k + 1 : Nat) : Int)) (by omega) (Qp.lev k) hl hq hV (hid (by rw [e]; exact h1)) (hid (by rw [e]; exact h2))
    rw [Qp.lev_succ]
    exact ⟨h, path _ _ (Qp.back_short (fun s h => by cases h; exact Qp.lev_short k)) h⟩
/-- What the document's Path answers. -/
def RPathFPost (s : T) (R : Res) (w : World) (e : Ending) (w' : World) : Prop := Below w.heap.size w w' ∧
  ((600 < s.length ∧ e = .returned (.tuple #[.agg #[.int .i64 0, .string ⟨#[]⟩, .slice none 0 0, .slice none 0 0], .int .i64 0, .int .i64 4])) ∨
   (s.length ≤ 600 ∧ ∃ (x : Pt) (a a' : Option Addr) (n c n' c' : Nat), R = .ok x [] ∧ PtB w' (.slice a n c) (.slice a' n' c') x ∧ e = .returned (.tuple #[.agg #[.int .i64 x.kind, str x.text, .slice a n c, .slice a' n' c'], .int .i64 (s.length : Nat), .int .i64 0])) ∨
   (s.length ≤ 600 ∧ ∃ (no : Int) (j : Nat), no ≠ 0 ∧ j ≤ s.length ∧ R = .err no (s.drop j) ∧ e = .returned (.tuple #[.agg #[.int .i64 0, .string ⟨#[]⟩, .slice none 0 0, .slice none 0 0], .int .i64 (j : Nat), .int .i64 no])))
set_option maxHeartbeats 8000000 in
theorem rpathf_of (s : T) (p : T → Res) (w : World) (hs : s.length ≤ 100000000) (HK : Hid (∀ q, w.heap.size ≤ q → RReads w q s 30 #[.pointer (some ⟨q, 0, none⟩), .int .i64 0] p)) : Calls Tryd.prog 14 #[str s] w (RPathFPost s (Qp.wholeOf p s) w) := by
  obtain ⟨w1, hw1⟩ : ∃ w1, w1 = w.alloc (.cells #[.int .i64 0, .string ⟨#[]⟩, .slice none 0 0, .slice none 0 0] 25) := ⟨_, rfl⟩
  have hb1 : Below w.heap.size w w1 := by rw [hw1]; exact (Below.refl _ _).alloc (Nat.le_refl _) _
  have HRB := hid (show Blk w1 w.heap.size [.int .i64 0, .string ⟨#[]⟩, .slice none 0 0, .slice none 0 0] 25 by rw [hw1]; exact Blk.new w _ _)
  have HB1 := hid hb1
  have hsz1 : w1.heap.size = w.heap.size + 1 := by rw [hw1]; simp
  obtain ⟨rb, hrb⟩ : ∃ b, b = w.heap.size := ⟨_, rfl⟩
  go_enter Tryd.func14, Tryd.ntmps14
  go_upto_region 1 with fail
  rw [← hw1, ← hrb]
  rw [← hrb] at HRB
  have hrw1 : rb < w1.heap.size := by omega
  have HRBE := hid hrb
  have HSZ := hid hsz1
  clear hw1 hb1 hrb hsz1
  by_cases hl6 : 600 < s.length
  case pos =>
    have b1 : decide ((600 : Int) < (s.length : Int)) = true := decide_eq_true (by omega)
    have b2 : decide (600 < s.length) = true := decide_eq_true hl6
    have HL := hid hl6
    obtain ⟨r0, r1, r2, r3⟩ := blk4 HRB.out
    have k0 := HRB.out.free 0
    have k1 := HRB.out.free 1
    have k2 := HRB.out.free 2
    have k3 := HRB.out.free 3
    have HZ := hid (put4_blk HRB.out (.int .i64 0) (.string ⟨#[]⟩) (.slice none 0 0) (.slice none 0 0))
    have HFZ := hid (put4_frm (Y := fun _ => False) (w := w) (b := rb) (X := w1) (Frm.of_below HB1.out) (Or.inr (by have := HRBE.out; omega)) (.int .i64 0) (.string ⟨#[]⟩) (.slice none 0 0) (.slice none 0 0))
    go_wp2
    refine bodyPost_ret (v := .tuple #[.agg #[.int .i64 0, .string ⟨#[]⟩, .slice none 0 0, .slice none 0 0], .int .i64 0, .int .i64 4]) (path_ret3 (s := 2) (t := 3) (u := 4) rfl rfl rfl HZ.out Tryd.results14) rfl ?_
    exact ⟨HFZ.out.below (Nat.le_refl _) (fun _ _ e => e), Or.inl ⟨HL.out, rfl⟩⟩
  have b1 : decide ((600 : Int) < (s.length : Int)) = false := decide_eq_false (by omega)
  have b2 : decide (600 < s.length) = false := decide_eq_false hl6
  have HL := hid (show s.length ≤ 600 by omega)
  obtain ⟨w2, hw2⟩ : ∃ w2, w2 = w1.alloc (.cells #[str s, .int .i64 0, .int .i64 0, .int .i64 0] 62) := ⟨_, rfl⟩
  have hb2 : Below w1.heap.size w1 w2 := by rw [hw2]; exact (Below.refl _ _).alloc (Nat.le_refl _) _
  obtain ⟨q, hq⟩ : ∃ b, b = w1.heap.size := ⟨_, rfl⟩
  have HQ2 := hid (show Rr w2 q s 0 0 0 by rw [hw2, hq]; exact Blk.new w1 _ _)
  have HRB2 := hid (HRB.out.keep hb2)
  have HB2 := hid (HB1.out.trans (hb2.mono HB1.out.size))
  have hqr : rb ≠ q := by omega
  have hqw : w.heap.size ≤ q := by have := HSZ.out; omega
  have hs2 := hb2.size
  have RW := HK.out q hqw 0 0 w2 HQ2.out (Nat.zero_le _) HB2.out
  unfold RRd at RW
  rw [List.drop_zero] at RW
  have RW := hid RW
  go_upto_region 4 with fail
  rw [← hw2, ← hq]
  clear hw2 hb2 hq hl6 b1 b2 HRB HK
  go_wp2_with fail
  refine RW.out.mono ?_
  rintro e w3 ⟨x, a, a', n, c, n', c', E, P, j, rfl, hij, hj, hR3, hF3, hres⟩
  have hs3 := hF3.size
  have HRB3 := hid (HRB2.out.frm hF3 (fun e => hqr e))
  obtain ⟨w4, hw4⟩ : ∃ w4, w4 = w3.alloc (.cells #[.int .i64 x.kind, .string ⟨x.text.toArray⟩, .slice a n c, .slice a' n' c'] 25) := ⟨_, rfl⟩
  have hb4 : Below w3.heap.size w3 w4 := by rw [hw4]; exact (Below.refl _ _).alloc (Nat.le_refl _) _
  obtain ⟨pb, hpb⟩ : ∃ b, b = w3.heap.size := ⟨_, rfl⟩
  have HPB := hid (show Blk w4 pb [.int .i64 x.kind, str x.text, .slice a n c, .slice a' n' c'] 25 by rw [hw4, hpb]; exact Blk.new w3 _ _)
  have HRB4 := hid (HRB3.out.keep hb4)
  have HR4 := hid (hR3.keep hb4)
  have HF34 := hid (Frm.of_below (X := isQ q) hb4)
  have HF4 := hid (hF3.trans HF34.out (fun _ _ e => e))
  have HRES := hid hres
  have hpr : pb ≠ rb := by omega
  have hpq : pb ≠ q := by have := HR4.out.lt; have := hR3.lt; omega
  have hrb4 : rb < w2.heap.size := by omega
  have NX := rnext_any q s j E P w4 HR4.out hs hj
  unfold NextPost at NX
  have NX := hid NX
  go_upto_region 5 with fail
  rw [← hw4, ← hpb]
  clear hw4 hpb hb4 hR3 hF3 hres RW HRB3 HRB2
  go_wp2_with fail
  refine NX.out.mono ?_
  rintro e w5 ⟨j2, rfl, hjj, hj2, hd, hR5, hF5⟩
  have HD := hid hd
  have HR5 := hid hR5
  have HF45 := hid hF5
  have HF5 := hid (HF4.out.trans hF5 (fun _ _ e => e))
  have HRB5 := hid (HRB4.out.frm hF5 (fun e => hqr e))
  have HPB5 := hid (HPB.out.frm hF5 (fun e => hpq e))
  obtain ⟨n9, hn9⟩ : ∃ n, n = nxt E (s.drop j2) := ⟨_, rfl⟩
  rw [← hn9]
  clear hd hR5 hF5 hn9 NX
  by_cases hE : E = 0
  case neg =>
    have b1 : (E == 0) = false := beq_eq_false_iff_ne.2 hE
    have b2 : (E != 0) = true := bne_iff_ne.2 hE
    have HNE := hid hE
    have HE := hid (show ∃ m : Nat, m ≤ s.length ∧ P = m ∧ Qp.wholeOf p s = .err E (s.drop m) by
      rcases HRES.out with ⟨h, _⟩ | ⟨_, m, h1, h2, h3⟩
      · exact absurd h hE
      · refine ⟨m, h1, h2, ?_⟩
        unfold Qp.wholeOf; rw [h3])
    obtain ⟨c0, c1, c2, c3, f0, f1, f2, f3⟩ := HR5.out.cells
    clear hE
    obtain ⟨r0, r1, r2, r3⟩ := blk4 HRB5.out
    have k0 := HRB5.out.free 0
    have k1 := HRB5.out.free 1
    have k2 := HRB5.out.free 2
    have k3 := HRB5.out.free 3
    have HZ := hid (show Blk (put4 w5 rb (.int .i64 0) (.string ⟨#[]⟩) (.slice none 0 0) (.slice none 0 0)).drew rb [.int .i64 0, .string ⟨#[]⟩, .slice none 0 0, .slice none 0 0] 25 from put4_blk HRB5.out (.int .i64 0) (.string ⟨#[]⟩) (.slice none 0 0) (.slice none 0 0))
    have HFZ := hid (put4_frm (Y := fun k => k = q ∨ k = rb) (w := w2) (b := rb) (X := w5) (HF5.out.weaken (fun k _ e => Or.inl e)) (Or.inl (Or.inr rfl)) (.int .i64 0) (.string ⟨#[]⟩) (.slice none 0 0) (.slice none 0 0))
    have HBZ := hid (below_drawn (HB2.out.trans (HFZ.out.below (B := w.heap.size) (HB2.out.size) (fun k hk e => by have := HRBE.out; rcases e with e | e <;> omega))) 1)
    go_upto_region 9 with fail
    go_region
    go_wp2
    refine bodyPost_ret (v := .tuple #[.agg #[.int .i64 0, .string ⟨#[]⟩, .slice none 0 0, .slice none 0 0], .int .i64 (P), .int .i64 (E)]) (path_ret3 (s := 2) (t := 3) (u := 4) rfl rfl rfl HZ.out Tryd.results14) rfl ?_
    obtain ⟨m, hm1, hm2, hm3⟩ := HE.out
    exact ⟨HBZ.out, Or.inr (Or.inr ⟨HL.out, E, m, HNE.out, hm1, hm3, by rw [hm2]⟩)⟩
  subst hE
  have HOK := hid (show p s = .ok x (s.drop j) by
    rcases HRES.out with ⟨_, h, _⟩ | ⟨h, _⟩
    · exact h
    · exact absurd rfl h)
  by_cases hlt : j2 < s.length
  case pos =>
    have b1 : decide ((j2 : Int) < (s.length : Int)) = true := decide_eq_true (by omega)
    have b2 : decide (j2 < s.length) = true := decide_eq_true hlt
    have HE := hid (show Qp.wholeOf p s = .err 2 (s.drop j2) by
      unfold Qp.wholeOf
      rw [HOK.out]
      simp only
      rw [← HD.out]
      cases hc : s.drop j2 with
      | nil => have := qdrop_none s j2 hc; omega
      | cons c9 r9 => rfl)
    obtain ⟨c0, c1, c2, c3, f0, f1, f2, f3⟩ := HR5.out.cells
    have FL := hid (rfail_new q s j2 P 2 (j2 : Nat) w5 HR5.out)
    clear hlt
    go_wp2_with fail
    refine FL.out.mono ?_
    rintro e w6 ⟨rfl, hR6, hF6⟩
    have HR6 := hid hR6
    have HF6 := hid (HF5.out.trans hF6 (fun _ _ e => e))
    have HRB6 := hid (HRB5.out.frm hF6 (fun e => hqr e))
    clear hR6 hF6 FL c0 c1 c2 c3 f0 f1 f2 f3
    obtain ⟨r0, r1, r2, r3⟩ := blk4 HRB6.out
    have k0 := HRB6.out.free 0
    have k1 := HRB6.out.free 1
    have k2 := HRB6.out.free 2
    have k3 := HRB6.out.free 3
    have HZ := hid (show Blk (put4 w6 rb (.int .i64 0) (.string ⟨#[]⟩) (.slice none 0 0) (.slice none 0 0)).drew rb [.int .i64 0, .string ⟨#[]⟩, .slice none 0 0, .slice none 0 0] 25 from put4_blk HRB6.out (.int .i64 0) (.string ⟨#[]⟩) (.slice none 0 0) (.slice none 0 0))
    have HFZ := hid (put4_frm (Y := fun k => k = q ∨ k = rb) (w := w2) (b := rb) (X := w6) (HF6.out.weaken (fun k _ e => Or.inl e)) (Or.inl (Or.inr rfl)) (.int .i64 0) (.string ⟨#[]⟩) (.slice none 0 0) (.slice none 0 0))
    have HBZ := hid (below_drawn (HB2.out.trans (HFZ.out.below (B := w.heap.size) (HB2.out.size) (fun k hk e => by have := HRBE.out; rcases e with e | e <;> omega))) 1)
    obtain ⟨c0, c1, c2, c3, f0, f1, f2, f3⟩ := HR6.out.cells
    go_upto_region 9 with fail
    go_region
    go_wp2
    refine bodyPost_ret (v := .tuple #[.agg #[.int .i64 0, .string ⟨#[]⟩, .slice none 0 0, .slice none 0 0], .int .i64 ((j2 : Nat)), .int .i64 (2)]) (path_ret3 (s := 2) (t := 3) (u := 4) rfl rfl rfl HZ.out Tryd.results14) rfl ?_
    exact ⟨HBZ.out, Or.inr (Or.inr ⟨HL.out, 2, j2, by decide, hj2, HE.out, rfl⟩)⟩
  case neg =>
    have b1 : decide ((j2 : Int) < (s.length : Int)) = false := decide_eq_false (by omega)
    have b2 : decide (j2 < s.length) = false := decide_eq_false hlt
    have HE := hid (show Qp.wholeOf p s = .ok x [] by
      unfold Qp.wholeOf
      rw [HOK.out]
      simp only
      rw [← HD.out, List.drop_of_length_le (by omega : s.length ≤ j2)])
    have HP5 := hid (show Asd (fun k => k < w2.heap.size) w5 (fun W => PtB W (.slice a n c) (.slice a' n' c') x) from by
      rcases HRES.out with ⟨_, _, h3⟩ | ⟨h, _⟩
      · have hs24 := HF4.out.size
        exact Asd.frm h3.out (HF34.out.trans HF45.out (fun _ _ e => e)) (fun k _ e => by have e : k = q := e; have := HQ2.out.lt; show k < w2.heap.size; omega) (fun _ _ e => e)
      · exact absurd rfl h)
    obtain ⟨c0, c1, c2, c3, f0, f1, f2, f3⟩ := HR5.out.cells
    obtain ⟨p0, p1, p2, p3⟩ := blk4 HPB5.out
    unfold str at p1
    obtain ⟨r0, r1, r2, r3⟩ := blk4 HRB5.out
    have k0 := HRB5.out.free 0
    have k1 := HRB5.out.free 1
    have k2 := HRB5.out.free 2
    have k3 := HRB5.out.free 3
    have HZ := hid (put4_blk HRB5.out (.int .i64 x.kind) (.string ⟨x.text.toArray⟩) (.slice a n c) (.slice a' n' c'))
    have HFZ := hid (put4_frm (Y := fun k => k = q ∨ k = rb) (w := w2) (b := rb) (X := w5) (HF5.out.weaken (fun k _ e => Or.inl e)) (Or.inl (Or.inr rfl)) (.int .i64 x.kind) (.string ⟨x.text.toArray⟩) (.slice a n c) (.slice a' n' c'))
    have HBZ := hid (HB2.out.trans (HFZ.out.below (B := w.heap.size) (HB2.out.size) (fun k hk e => by have := HRBE.out; rcases e with e | e <;> omega)))
    have HPZ := hid (Asd.here (HP5.out.frm (Y := fun k => k = rb) (Z := fun _ => False) (put4_frm (Y := fun k => k = rb) (Frm.refl _ w5) (Or.inl rfl) (.int .i64 x.kind) (.string ⟨x.text.toArray⟩) (.slice a n c) (.slice a' n' c')) (fun k _ e => by have e : k = rb := e; show k < w2.heap.size; omega) (fun _ _ e => e.elim)))
    clear hlt
    go_wp2
    refine bodyPost_ret (v := .tuple #[.agg #[.int .i64 x.kind, .string ⟨x.text.toArray⟩, .slice a n c, .slice a' n' c'], .int .i64 (s.length : Nat), .int .i64 0]) (path_ret3 (s := 2) (t := 3) (u := 4) rfl rfl rfl HZ.out Tryd.results14) rfl ?_
    exact ⟨HBZ.out, Or.inr (Or.inl ⟨HL.out, x, a, a', n, c, n', c', HE.out, HPZ.out, rfl⟩)⟩
/-- The document's Path. -/
theorem rpathf_any (s : T) (w : World) (hs : s.length ≤ 100000000) (hV : T8 w) : Calls Tryd.prog 14 #[str s] w (RPathFPost s (Qp.whole s) w) := by
  rw [Qp.whole_of]
  obtain ⟨p, hp⟩ : ∃ p, p = (Qp.lev 5).2 := ⟨_, rfl⟩
  rw [← hp]
  refine rpathf_of s p w hs (hid fun q hq => ?_)
  have h := (rlev_any w q s hs hq hV 5 (Nat.le_refl _)).2
  rw [← hp, show (5 : Int) - ((5 : Nat) : Int) = 0 from rfl] at h
  exact h
end Go.Proofs.YtagmgkplfhlifaaDoor
