/- query.Path: a whole text as a path. -/
import Derived.Test.YtagmgkplfhlifaaDoorQpStep
import Derived.Test.YtagmgkplfhlifaaDoorQpRow
import Derived.Test.YtagmgkplfhlifaaDoorQpAtom
import Derived.Test.YtagmgkplfhlifaaDoorQpNots
namespace Go.Proofs.YtagmgkplfhlifaaDoor
set_option linter.unusedVariables false
set_option linter.unusedSimpArgs false
set_option maxRecDepth 100000
open Go.ChangeShapes Go.WideShapes Go.ChangeAt Go.RowKit
open Au
/-- A path, k levels ahead of the deepest. -/
theorem qlev_any (W0 : World) (q : Nat) (l : T) (hl : l.length ≤ 100000000) (hq : W0.heap.size ≤ q) (hV : QVars W0) : ∀ k : Nat, k ≤ 5 →
    Reads W0 q l 89 #[.pointer (some ⟨q, 0, none⟩), .int .i64 ((5 : Int) - k)] (Qp.lev k).1 ∧ Reads W0 q l 45 #[.pointer (some ⟨q, 0, none⟩), .int .i64 ((5 : Int) - k)] (Qp.lev k).2 := by
  have HN := qnot_any W0 q l hl hq hV
  have up : ∀ (d : Int) (bk : T → Res), Reads W0 q l 89 #[.pointer (some ⟨q, 0, none⟩), .int .i64 d] bk → Reads W0 q l 45 #[.pointer (some ⟨q, 0, none⟩), .int .i64 d] (Qp.pathOf bk) := fun d bk h =>
    qpath_any W0 q l d _ hl hq (qseq_any W0 q l d _ hl hq (qstep_any W0 q l d bk hl hq h))
  intro k
  induction k with
  | zero =>
    intro _
    have hb := qback_none W0 q l hl hq (qatom_any W0 q l 5 none hl hq hV (qbrk_none W0 q l hq) HN)
    rw [Qp.lev_zero]
    exact ⟨hb, up 5 _ hb⟩
  | succ k ih =>
    intro hk
    obtain ⟨i1, i2⟩ := ih (by omega)
    have e : (5 : Int) - ((k + 1 : Nat) : Int) + 1 = 5 - (k : Int) := by omega
    have hb := qback_some W0 q l ((5 : Int) - ((k + 1 : Nat) : Int)) (by omega) (Qp.lev k) hl hq (qatom_any W0 q l _ (some (Qp.lev k)) hl hq hV (qbrk_some W0 q l _ (by omega) (Qp.lev k) hl hq (by rw [e]; exact i2)) HN) (by rw [e]; exact i1)
    rw [Qp.lev_succ]
    exact ⟨hb, up _ _ hb⟩
/-- Behind a path nothing stands. -/
def Qp.wholeOf (p : T → Res) (r : T) : Res := match p r with
  | .ok x r1 => (match Qp.skip r1 with
    | [] => .ok x []
    | c :: r2 => .err 2 (c :: r2))
  | .err e r1 => .err e r1
theorem Qp.whole_of (s : T) : Qp.whole s = Qp.wholeOf (Qp.lev 5).2 s := by
  unfold Qp.whole
  obtain ⟨p, hp⟩ : ∃ p, p = (Qp.lev 5).2 := ⟨_, rfl⟩
  rw [← hp]
  clear hp
  unfold Qp.wholeOf
  cases p s <;> rfl
set_option maxHeartbeats 8000000 in
theorem qwhole_of (W0 : World) (q : Nat) (l : T) (p : T → Res) (hl : l.length ≤ 100000000) (hq : W0.heap.size ≤ q) (HK : Hid (Reads W0 q l 45 #[.pointer (some ⟨q, 0, none⟩), .int .i64 0] p)) : Reads W0 q l 29 #[.pointer (some ⟨q, 0, none⟩)] (Qp.wholeOf p) := by
  intro i w hr hi hB
  have hq1 := hr.lt
  obtain ⟨w1, hw1⟩ : ∃ w1, w1 = w.alloc (.cells #[.int .i64 0, .string ⟨#[]⟩, .slice none 0 0, .slice none 0 0] 25) := ⟨_, rfl⟩
  have hb1 : Below w.heap.size w w1 := by rw [hw1]; exact (Below.refl _ _).alloc (Nat.le_refl _) _
  have HRB := hid (show Blk w1 w.heap.size [.int .i64 0, .string ⟨#[]⟩, .slice none 0 0, .slice none 0 0] 25 by rw [hw1]; exact Blk.new w _ _)
  have HB1 := hid hb1
  have hsz1 : w1.heap.size = w.heap.size + 1 := by rw [hw1]; simp
  have HBW1 := hid (hB.trans (hb1.mono hB.size))
  have HR1 := hid (hr.keep hb1)
  have HW01 := HBW1.out.size
  obtain ⟨rb, hrb⟩ : ∃ b, b = w.heap.size := ⟨_, rfl⟩
  go_enter Tryd.func29, Tryd.ntmps29
  go_upto_region 1 with fail
  rw [← hw1, ← hrb]
  rw [← hrb] at HRB
  have hrw1 : rb < w1.heap.size := by omega
  have hqw1 : q < w1.heap.size := by omega
  have hrb2 : rb ≠ q := by omega
  have HRBE := hid hrb
  clear hw1 hb1 hr hB hrb hsz1
  have BK := HK.out i w1 HR1.out hi HBW1.out
  unfold RdPost at BK
  have BK := hid BK
  clear HK
  go_wp2_with fail
  refine BK.out.mono ?_
  rintro e w3 ⟨x, a, a', n, c, n', c', no, j, rfl, hij, hj, hR3, hF3, hP3, hres⟩
  have hs3 := hF3.size
  have HRB3 := hid (HRB.out.frm hF3 (fun e => hrb2 e))
  obtain ⟨w4, hw4⟩ : ∃ w4, w4 = w3.alloc (.cells #[.int .i64 x.kind, .string ⟨x.text.toArray⟩, .slice a n c, .slice a' n' c'] 25) := ⟨_, rfl⟩
  have hb4 : Below w3.heap.size w3 w4 := by rw [hw4]; exact (Below.refl _ _).alloc (Nat.le_refl _) _
  obtain ⟨pb, hpb⟩ : ∃ b, b = w3.heap.size := ⟨_, rfl⟩
  have HPB := hid (show Blk w4 pb [.int .i64 x.kind, str x.text, .slice a n c, .slice a' n' c'] 25 by rw [hw4, hpb]; exact Blk.new w3 _ _)
  have HRB4 := hid (HRB3.out.keep hb4)
  have HR4 := hid (hR3.keep hb4)
  have HF4 := hid (hF3.trans (Frm.of_below (X := isQ q) hb4) (fun _ _ e => e))
  have HP4 := hid (hP3.frm (Y := fun _ => False) (Z := fun k => k < w1.heap.size) (Frm.of_below hb4) (fun _ _ e => e.elim) (fun k hk e => e))
  have hpq : pb ≠ q := by omega
  have hpr : pb ≠ rb := by omega
  have HRES := hid hres
  go_upto_region 2 with fail
  rw [← hw4, ← hpb]
  clear hw4 hpb hb4 hR3 hF3 hP3 hres BK HRB3
  by_cases hno : no = 0
  case neg =>
    have b1 : (no == 0) = false := beq_eq_false_iff_ne.2 hno
    have b2 : (no != 0) = true := bne_iff_ne.2 hno
    have HE := hid (show Qp.wholeOf p (l.drop i) = .err no (l.drop j) by
      rcases HRES.out with ⟨h, _⟩ | ⟨_, h⟩
      · exact absurd h hno
      · unfold Qp.wholeOf; rw [h])
    have HNO := hid hno
    clear hno
    have HP0 := hid (Asd.all (X := fun k => k < w1.heap.size) (w := w4) (P := fun W => PtB W (.slice none 0 0) (.slice none 0 0) (.mk 0 [] [] [])) fun W => ptb_none W 0 (by decide) [] (by simp))
    obtain ⟨r0, r1, r2, r3⟩ := blk4 HRB4.out
    have k0 := HRB4.out.free 0
    have k1 := HRB4.out.free 1
    have k2 := HRB4.out.free 2
    have k3 := HRB4.out.free 3
    have HZ := hid (put4_blk HRB4.out (.int .i64 0) (.string ⟨#[]⟩) (.slice none 0 0) (.slice none 0 0))
    have HQ := hid (show Qr (put4 w4 rb (.int .i64 0) (.string ⟨#[]⟩) (.slice none 0 0) (.slice none 0 0)) q l j from put4_other HR4.out (Ne.symm hrb2) _ _ _ _)
    have HFZ := hid (put4_frm (Y := isQ q) (w := w) (b := rb) (X := w4) ((Frm.of_below (X := isQ q) HB1.out).trans HF4.out (fun _ _ e => e)) (Or.inr (by have := HRBE.out; omega)) (.int .i64 0) (.string ⟨#[]⟩) (.slice none 0 0) (.slice none 0 0))
    have HPZ := hid (HP0.out.frm (Y := fun k => k = rb) (Z := fun k => k < w.heap.size) (put4_frm (Y := fun k => k = rb) (Frm.refl _ w4) (Or.inl rfl) (.int .i64 0) (.string ⟨#[]⟩) (.slice none 0 0) (.slice none 0 0)) (fun k _ e => (by have e : k = rb := e; show k < w1.heap.size; omega)) (fun k _ e => (by have := HRBE.out; have e : k < w.heap.size := e; show k < w1.heap.size; omega)))
    go_wp2
    refine bodyPost_ret (v := .tuple #[.agg #[.int .i64 0, .string ⟨#[]⟩, .slice none 0 0, .slice none 0 0], .int .i64 no]) (path_ret2 (s := 2) (t := 3) rfl rfl HZ.out Tryd.results29) rfl ?_
    exact ⟨(.mk 0 [] [] []), none, none, 0, 0, 0, 0, no, j, rfl, by omega, hj, HQ.out, HFZ.out, HPZ.out, Or.inr ⟨HNO.out, HE.out⟩⟩
  subst hno
  have HOK := hid (show p (l.drop i) = .ok x (l.drop j) by
    rcases HRES.out with ⟨_, h⟩ | ⟨h, _⟩
    · exact h
    · exact absurd rfl h)
  have PK := qpeek_any q l j w4 HR4.out hl hj
  unfold PeekPost at PK
  have PK := hid PK
  clear HRES
  go_wp2_with fail
  refine PK.out.mono ?_
  rintro e w5 ⟨j2, rfl, hjj, hj2, hdd, hR5, hF5⟩
  obtain ⟨n9, hn9⟩ : ∃ n, n = Qp.hd (l.drop j2) := ⟨_, rfl⟩
  rw [← hn9]
  clear hn9
  have HD2 := hid hdd
  have HR5 := hid hR5
  have HF5 := hid (HF4.out.trans hF5 (fun _ _ e => e))
  have HPB5 := hid (HPB.out.frm hF5 (fun e => hpq e))
  have HRB5 := hid (HRB4.out.frm hF5 (fun e => hrb2 e))
  have HP5 := hid (HP4.out.frm (Z := fun k => k < w1.heap.size) hF5 (fun k _ e => (by have e : k = q := e; show k < w1.heap.size; omega)) (fun _ _ e => e))
  clear hdd hR5 hF5 PK HR4 HF4 HPB HRB4 HP4
  obtain ⟨c0, c1, f0, f1⟩ := HR5.out.cells
  go_upto_region 5 with fail
  by_cases h9 : j2 < l.length
  case pos =>
    have b1 : decide ((j2 : Int) < (l.length : Int)) = true := decide_eq_true (by omega)
    have b2 : decide (j2 < l.length) = true := decide_eq_true (by omega)
    have HE := hid (show Qp.wholeOf p (l.drop i) = .err 2 (l.drop j2) by
      unfold Qp.wholeOf
      rw [HOK.out]
      simp only
      rw [← HD2.out]
      cases hc : l.drop j2 with
      | nil => have := qdrop_none l j2 hc; omega
      | cons c9 r9 => rfl)
    clear h9
    go_quiet (fail)
    obtain ⟨w6, hw6⟩ : ∃ w6, w6 = w5.drewN nq := ⟨_, rfl⟩
    have hb6 : Below w5.heap.size w5 w6 := by rw [hw6]; exact below_drawn (Below.refl _ _) nq
    have HR6 := hid (HR5.out.keep hb6)
    have HF6 := hid (HF5.out.trans (Frm.of_below (X := isQ q) hb6) (fun _ _ e => e))
    have HRB6 := hid (HRB5.out.keep hb6)
    rw [← hw6]
    clear hw6 hb6 c0 c1 f0 f1
    have HP0 := hid (Asd.all (X := fun k => k < w1.heap.size) (w := w6) (P := fun W => PtB W (.slice none 0 0) (.slice none 0 0) (.mk 0 [] [] [])) fun W => ptb_none W 0 (by decide) [] (by simp))
    obtain ⟨r0, r1, r2, r3⟩ := blk4 HRB6.out
    have k0 := HRB6.out.free 0
    have k1 := HRB6.out.free 1
    have k2 := HRB6.out.free 2
    have k3 := HRB6.out.free 3
    have HZ := hid (put4_blk HRB6.out (.int .i64 0) (.string ⟨#[]⟩) (.slice none 0 0) (.slice none 0 0))
    have HQ := hid (show Qr (put4 w6 rb (.int .i64 0) (.string ⟨#[]⟩) (.slice none 0 0) (.slice none 0 0)) q l j2 from put4_other HR6.out (Ne.symm hrb2) _ _ _ _)
    have HFZ := hid (put4_frm (Y := isQ q) (w := w) (b := rb) (X := w6) ((Frm.of_below (X := isQ q) HB1.out).trans HF6.out (fun _ _ e => e)) (Or.inr (by have := HRBE.out; omega)) (.int .i64 0) (.string ⟨#[]⟩) (.slice none 0 0) (.slice none 0 0))
    have HPZ := hid (HP0.out.frm (Y := fun k => k = rb) (Z := fun k => k < w.heap.size) (put4_frm (Y := fun k => k = rb) (Frm.refl _ w6) (Or.inl rfl) (.int .i64 0) (.string ⟨#[]⟩) (.slice none 0 0) (.slice none 0 0)) (fun k _ e => (by have e : k = rb := e; show k < w1.heap.size; omega)) (fun k _ e => (by have := HRBE.out; have e : k < w.heap.size := e; show k < w1.heap.size; omega)))
    go_wp2
    refine bodyPost_ret (v := .tuple #[.agg #[.int .i64 0, .string ⟨#[]⟩, .slice none 0 0, .slice none 0 0], .int .i64 2]) (path_ret2 (s := 2) (t := 3) rfl rfl HZ.out Tryd.results29) rfl ?_
    exact ⟨(.mk 0 [] [] []), none, none, 0, 0, 0, 0, 2, j2, rfl, by omega, hj2, HQ.out, HFZ.out, HPZ.out, Or.inr ⟨by decide, HE.out⟩⟩
  have b1 : decide ((j2 : Int) < (l.length : Int)) = false := decide_eq_false (by omega)
  have b2 : decide (j2 < l.length) = false := decide_eq_false (by omega)
  have HE := hid (show Qp.wholeOf p (l.drop i) = .ok x (l.drop j2) by
    unfold Qp.wholeOf
    rw [HOK.out]
    simp only
    rw [← HD2.out]
    rw [List.drop_of_length_le (by omega : l.length ≤ j2)])
  clear h9
  go_quiet (fail)
  obtain ⟨w6, hw6⟩ : ∃ w6, w6 = w5.drewN nq := ⟨_, rfl⟩
  have hb6 : Below w5.heap.size w5 w6 := by rw [hw6]; exact below_drawn (Below.refl _ _) nq
  have HR6 := hid (HR5.out.keep hb6)
  have HF6 := hid (HF5.out.trans (Frm.of_below (X := isQ q) hb6) (fun _ _ e => e))
  have HRB6 := hid (HRB5.out.keep hb6)
  have HP6 := hid (HP5.out.frm (Y := fun _ => False) (Z := fun k => k < w1.heap.size) (Frm.of_below hb6) (fun _ _ e => e.elim) (fun _ _ e => e))
  have HPB6 := hid (HPB5.out.keep hb6)
  rw [← hw6]
  clear hw6 hb6 c0 c1 f0 f1
  obtain ⟨p0, p1, p2, p3⟩ := blk4 HPB6.out
  unfold str at p1
  obtain ⟨r0, r1, r2, r3⟩ := blk4 HRB6.out
  have k0 := HRB6.out.free 0
  have k1 := HRB6.out.free 1
  have k2 := HRB6.out.free 2
  have k3 := HRB6.out.free 3
  have HZ := hid (put4_blk HRB6.out (.int .i64 x.kind) (.string ⟨x.text.toArray⟩) (.slice a n c) (.slice a' n' c'))
  have HQ := hid (show Qr (put4 w6 rb (.int .i64 x.kind) (.string ⟨x.text.toArray⟩) (.slice a n c) (.slice a' n' c')) q l j2 from put4_other HR6.out (Ne.symm hrb2) _ _ _ _)
  have HFZ := hid (put4_frm (Y := isQ q) (w := w) (b := rb) (X := w6) ((Frm.of_below (X := isQ q) HB1.out).trans HF6.out (fun _ _ e => e)) (Or.inr (by have := HRBE.out; omega)) (.int .i64 x.kind) (.string ⟨x.text.toArray⟩) (.slice a n c) (.slice a' n' c'))
  have HPZ := hid (HP6.out.frm (Y := fun k => k = rb) (Z := fun k => k < w.heap.size) (put4_frm (Y := fun k => k = rb) (Frm.refl _ w6) (Or.inl rfl) (.int .i64 x.kind) (.string ⟨x.text.toArray⟩) (.slice a n c) (.slice a' n' c')) (fun k _ e => (by have e : k = rb := e; show k < w1.heap.size; omega)) (fun k _ e => (by have := HRBE.out; have e : k < w.heap.size := e; show k < w1.heap.size; omega)))
  go_wp2
  refine bodyPost_ret (v := .tuple #[.agg #[.int .i64 x.kind, .string ⟨x.text.toArray⟩, .slice a n c, .slice a' n' c'], .int .i64 0]) (path_ret2 (s := 2) (t := 3) rfl rfl HZ.out Tryd.results29) rfl ?_
  exact ⟨x, a, a', n, c, n', c', 0, j2, rfl, by omega, hj2, HQ.out, HFZ.out, HPZ.out, Or.inl ⟨rfl, HE.out⟩⟩
theorem path_ret3 {fn : Func} {tmps : Array Value} {Z : World} {b s t u : Nat} {v0 v1 v2 v3 v4 v5 : Value} (ht : tmps.getD s undef = .pointer (some ⟨b, 0, none⟩)) (h4 : tmps.getD t undef = v4) (h5 : tmps.getD u undef = v5) (hZ : Blk Z b [v0, v1, v2, v3] 25) (hf : fn.results = #[.cell s 25, .tmp t, .tmp u]) :
    (results fn tmps).run Tryd.prog Z = .ok (.tuple #[.agg #[v0, v1, v2, v3], v4, v5]) Z := by
  have h0 := hZ.cell (i := 0) rfl
  have h1 := hZ.cell (i := 1) rfl
  have h2 := hZ.cell (i := 2) rfl
  have h3 := hZ.cell (i := 3) rfl
  have ht' : tmps[s]?.getD undef = .pointer (some ⟨b, 0, none⟩) := by simpa using ht
  have h4' : tmps[t]?.getD undef = v4 := by simpa using h4
  have h5' : tmps[u]?.getD undef = v5 := by simpa using h5
  simp [results, hf, ht', h4', h5', go_sem, h0, h1, h2, h3]
/-- What Path answers. -/
def PathFPost (s : T) (R : Res) (w : World) (e : Ending) (w' : World) : Prop := Below w.heap.size w w' ∧
  ((600 < s.length ∧ e = .returned (.tuple #[.agg #[.int .i64 0, .string ⟨#[]⟩, .slice none 0 0, .slice none 0 0], .int .i64 0, .int .i64 4])) ∨
   (s.length ≤ 600 ∧ ∃ (x : Pt) (a a' : Option Addr) (n c n' c' : Nat) (j : Nat), R = .ok x (s.drop j) ∧ PtB w' (.slice a n c) (.slice a' n' c') x ∧ e = .returned (.tuple #[.agg #[.int .i64 x.kind, str x.text, .slice a n c, .slice a' n' c'], .int .i64 (s.length : Nat), .int .i64 0])) ∨
   (s.length ≤ 600 ∧ ∃ (no : Int) (j : Nat), no ≠ 0 ∧ j ≤ s.length ∧ R = .err no (s.drop j) ∧ e = .returned (.tuple #[.agg #[.int .i64 0, .string ⟨#[]⟩, .slice none 0 0, .slice none 0 0], .int .i64 (j : Nat), .int .i64 no])))
set_option maxHeartbeats 8000000 in
theorem qpathf_of (s : T) (p : T → Res) (w : World) (hs : s.length ≤ 100000000) (HK : Hid (∀ q, w.heap.size ≤ q → Reads w q s 45 #[.pointer (some ⟨q, 0, none⟩), .int .i64 0] p)) : Calls Tryd.prog 13 #[str s] w (PathFPost s (Qp.wholeOf p s) w) := by
  obtain ⟨w1, hw1⟩ : ∃ w1, w1 = w.alloc (.cells #[.int .i64 0, .string ⟨#[]⟩, .slice none 0 0, .slice none 0 0] 25) := ⟨_, rfl⟩
  have hb1 : Below w.heap.size w w1 := by rw [hw1]; exact (Below.refl _ _).alloc (Nat.le_refl _) _
  have HRB := hid (show Blk w1 w.heap.size [.int .i64 0, .string ⟨#[]⟩, .slice none 0 0, .slice none 0 0] 25 by rw [hw1]; exact Blk.new w _ _)
  have HB1 := hid hb1
  have hsz1 : w1.heap.size = w.heap.size + 1 := by rw [hw1]; simp
  obtain ⟨rb, hrb⟩ : ∃ b, b = w.heap.size := ⟨_, rfl⟩
  go_enter Tryd.func13, Tryd.ntmps13
  go_upto_region 1 with fail
  rw [← hw1, ← hrb]
  rw [← hrb] at HRB
  have hrw1 : rb < w1.heap.size := by omega
  have HRBE := hid hrb
  have HSZ := hid hsz1
  clear hw1 hb1 hrb hsz1
  by_cases hl6 : 600 < s.length
  case pos =>
    have b1 : decide ((600 : Int) < (s.length : Int)) = true := decide_eq_true (by omega)
    have b2 : decide (600 < s.length) = true := decide_eq_true hl6
    have HL := hid hl6
    obtain ⟨r0, r1, r2, r3⟩ := blk4 HRB.out
    have k0 := HRB.out.free 0
    have k1 := HRB.out.free 1
    have k2 := HRB.out.free 2
    have k3 := HRB.out.free 3
    have HZ := hid (put4_blk HRB.out (.int .i64 0) (.string ⟨#[]⟩) (.slice none 0 0) (.slice none 0 0))
    have HFZ := hid (put4_frm (Y := fun _ => False) (w := w) (b := rb) (X := w1) (Frm.of_below HB1.out) (Or.inr (by have := HRBE.out; omega)) (.int .i64 0) (.string ⟨#[]⟩) (.slice none 0 0) (.slice none 0 0))
    go_wp2
    refine bodyPost_ret (v := .tuple #[.agg #[.int .i64 0, .string ⟨#[]⟩, .slice none 0 0, .slice none 0 0], .int .i64 0, .int .i64 4]) (path_ret3 (s := 2) (t := 3) (u := 4) rfl rfl rfl HZ.out Tryd.results13) rfl ?_
    exact ⟨HFZ.out.below (Nat.le_refl _) (fun _ _ e => e), Or.inl ⟨HL.out, rfl⟩⟩
  have b1 : decide ((600 : Int) < (s.length : Int)) = false := decide_eq_false (by omega)
  have b2 : decide (600 < s.length) = false := decide_eq_false hl6
  have HL := hid (show s.length ≤ 600 by omega)
  obtain ⟨w2, hw2⟩ : ∃ w2, w2 = w1.alloc (.cells #[str s, .int .i64 0] 57) := ⟨_, rfl⟩
  have hb2 : Below w1.heap.size w1 w2 := by rw [hw2]; exact (Below.refl _ _).alloc (Nat.le_refl _) _
  obtain ⟨q, hq⟩ : ∃ b, b = w1.heap.size := ⟨_, rfl⟩
  have HQ2 := hid (show Qr w2 q s 0 by rw [hw2, hq]; exact Blk.new w1 _ _)
  have HRB2 := hid (HRB.out.keep hb2)
  have HB2 := hid (HB1.out.trans (hb2.mono HB1.out.size))
  have hqr : rb ≠ q := by omega
  have hqw : w.heap.size ≤ q := by have := HSZ.out; omega
  have hs2 := hb2.size
  have RW := qwhole_of w q s p hs hqw (HK.out q hqw) 0 w2 HQ2.out (Nat.zero_le _) HB2.out
  unfold RdPost at RW
  rw [List.drop_zero] at RW
  have RW := hid RW
  go_upto_region 4 with fail
  rw [← hw2, ← hq]
  clear hw2 hb2 hq hl6 b1 b2 HRB HK
  go_wp2_with fail
  refine RW.out.mono ?_
  rintro e w3 ⟨x, a, a', n, c, n', c', no, j, rfl, hij, hj, hR3, hF3, hP3, hres⟩
  have hs3 := hF3.size
  have HRB3 := hid (HRB2.out.frm hF3 (fun e => hqr e))
  obtain ⟨w4, hw4⟩ : ∃ w4, w4 = w3.alloc (.cells #[.int .i64 x.kind, .string ⟨x.text.toArray⟩, .slice a n c, .slice a' n' c'] 25) := ⟨_, rfl⟩
  have hb4 : Below w3.heap.size w3 w4 := by rw [hw4]; exact (Below.refl _ _).alloc (Nat.le_refl _) _
  obtain ⟨pb, hpb⟩ : ∃ b, b = w3.heap.size := ⟨_, rfl⟩
  have HPB := hid (show Blk w4 pb [.int .i64 x.kind, str x.text, .slice a n c, .slice a' n' c'] 25 by rw [hw4, hpb]; exact Blk.new w3 _ _)
  have HRB4 := hid (HRB3.out.keep hb4)
  have HR4 := hid (hR3.keep hb4)
  have HF4 := hid (hF3.trans (Frm.of_below (X := isQ q) hb4) (fun _ _ e => e))
  have HP4 := hid (hP3.frm (Y := fun _ => False) (Z := fun k => k < w2.heap.size) (Frm.of_below hb4) (fun _ _ e => e.elim) (fun k hk e => e))
  have HRES := hid hres
  have hpr : pb ≠ rb := by omega
  have hrb4 : rb < w2.heap.size := by omega
  go_upto_region 5 with fail
  rw [← hw4, ← hpb]
  clear hw4 hpb hb4 hR3 hF3 hP3 hres RW HRB3 HRB2
  obtain ⟨r0, r1, r2, r3⟩ := blk4 HRB4.out
  have k0 := HRB4.out.free 0
  have k1 := HRB4.out.free 1
  have k2 := HRB4.out.free 2
  have k3 := HRB4.out.free 3
  by_cases hno : no = 0
  case neg =>
    have b1 : (no == 0) = false := beq_eq_false_iff_ne.2 hno
    have b2 : (no != 0) = true := bne_iff_ne.2 hno
    have HNO := hid hno
    have HE := hid (show Qp.wholeOf p s = .err no (s.drop j) by
      rcases HRES.out with ⟨h, _⟩ | ⟨_, h⟩
      · exact absurd h hno
      · exact h)
    obtain ⟨c0, c1, f0, f1⟩ := HR4.out.cells
    clear hno
    go_upto_region 6 with fail
    have HZ := hid (show Blk (put4 w4 rb (.int .i64 0) (.string ⟨#[]⟩) (.slice none 0 0) (.slice none 0 0)).drew rb [.int .i64 0, .string ⟨#[]⟩, .slice none 0 0, .slice none 0 0] 25 from put4_blk HRB4.out (.int .i64 0) (.string ⟨#[]⟩) (.slice none 0 0) (.slice none 0 0))
    have HFZ := hid (put4_frm (Y := fun k => k = q ∨ k = rb) (w := w2) (b := rb) (X := w4) (HF4.out.weaken (fun k _ e => Or.inl e)) (Or.inl (Or.inr rfl)) (.int .i64 0) (.string ⟨#[]⟩) (.slice none 0 0) (.slice none 0 0))
    have HBZ := hid (below_drawn (HB2.out.trans (HFZ.out.below (B := w.heap.size) (HB2.out.size) (fun k hk e => by have := HRBE.out; rcases e with e | e <;> omega))) 1)
    go_region
    go_wp2
    refine bodyPost_ret (v := .tuple #[.agg #[.int .i64 0, .string ⟨#[]⟩, .slice none 0 0, .slice none 0 0], .int .i64 (j : Nat), .int .i64 no]) (path_ret3 (s := 2) (t := 3) (u := 4) rfl rfl rfl HZ.out Tryd.results13) rfl ?_
    exact ⟨HBZ.out, Or.inr (Or.inr ⟨HL.out, no, j, HNO.out, hj, HE.out, rfl⟩)⟩
  subst hno
  have HE := hid (show Qp.wholeOf p s = .ok x (s.drop j) by
    rcases HRES.out with ⟨_, h⟩ | ⟨h, _⟩
    · exact h
    · exact absurd rfl h)
  obtain ⟨p0, p1, p2, p3⟩ := blk4 HPB.out
  unfold str at p1
  have HZ := hid (put4_blk HRB4.out (.int .i64 x.kind) (.string ⟨x.text.toArray⟩) (.slice a n c) (.slice a' n' c'))
  have HFZ := hid (put4_frm (Y := fun k => k = q ∨ k = rb) (w := w2) (b := rb) (X := w4) (HF4.out.weaken (fun k _ e => Or.inl e)) (Or.inl (Or.inr rfl)) (.int .i64 x.kind) (.string ⟨x.text.toArray⟩) (.slice a n c) (.slice a' n' c'))
  have HBZ := hid (HB2.out.trans (HFZ.out.below (B := w.heap.size) (HB2.out.size) (fun k hk e => by have := HRBE.out; rcases e with e | e <;> omega)))
  have HPZ := hid (Asd.here (HP4.out.frm (Y := fun k => k = rb) (Z := fun _ => False) (put4_frm (Y := fun k => k = rb) (Frm.refl _ w4) (Or.inl rfl) (.int .i64 x.kind) (.string ⟨x.text.toArray⟩) (.slice a n c) (.slice a' n' c')) (fun k _ e => by have e : k = rb := e; show k < w2.heap.size; omega) (fun _ _ e => e.elim)))
  go_wp2
  refine bodyPost_ret (v := .tuple #[.agg #[.int .i64 x.kind, .string ⟨x.text.toArray⟩, .slice a n c, .slice a' n' c'], .int .i64 (s.length : Nat), .int .i64 0]) (path_ret3 (s := 2) (t := 3) (u := 4) rfl rfl rfl HZ.out Tryd.results13) rfl ?_
  exact ⟨HBZ.out, Or.inr (Or.inl ⟨HL.out, x, a, a', n, c, n', c', j, HE.out, HPZ.out, rfl⟩)⟩
/-- query.Path. -/
theorem qpathf_any (s : T) (w : World) (hs : s.length ≤ 100000000) (hV : QVars w) : Calls Tryd.prog 13 #[str s] w (PathFPost s (Qp.whole s) w) := by
  rw [Qp.whole_of]
  obtain ⟨p, hp⟩ : ∃ p, p = (Qp.lev 5).2 := ⟨_, rfl⟩
  rw [← hp]
  refine qpathf_of s p w hs (hid fun q hq => ?_)
  have h := (qlev_any w q s hs hq hV 5 (Nat.le_refl _)).2
  rw [← hp, show (5 : Int) - ((5 : Nat) : Int) = 0 from rfl] at h
  exact h
end Go.Proofs.YtagmgkplfhlifaaDoor
