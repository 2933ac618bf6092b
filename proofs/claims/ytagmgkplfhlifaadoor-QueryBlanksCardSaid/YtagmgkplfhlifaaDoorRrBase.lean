/- The document's reader of paths: its place, its error; next, sign, fail. -/
import Derived.Test.YtagmgkplfhlifaaDoorQpRd
import Derived.Test.YtagmgkplfhlifaaDoorQpNot
namespace Go.Proofs.YtagmgkplfhlifaaDoor
set_option linter.unusedVariables false
set_option linter.unusedSimpArgs false
set_option maxRecDepth 100000
open Go.ChangeShapes Go.WideShapes Go.ChangeAt Go.RowKit
open Au
/-- Block q holds a reader of l at place i, with error e at place p. -/
def Rr (w : World) (q : Nat) (l : T) (i : Nat) (e p : Int) : Prop := Blk w q [str l, .int .i64 i, .int .i64 e, .int .i64 p] 62
theorem Rr.cells {w : World} {q : Nat} {l : T} {i : Nat} {e p : Int} (h : Rr w q l i e p) : w.cell? ⟨q, 0, none⟩ = some (str l) ∧ w.cell? ⟨q, 1, none⟩ = some (.int .i64 i) ∧ w.cell? ⟨q, 2, none⟩ = some (.int .i64 e) ∧ w.cell? ⟨q, 3, none⟩ = some (.int .i64 p) ∧
    w.frozen? ⟨q, 0, none⟩ = false ∧ w.frozen? ⟨q, 1, none⟩ = false ∧ w.frozen? ⟨q, 2, none⟩ = false ∧ w.frozen? ⟨q, 3, none⟩ = false :=
  ⟨Blk.cell h rfl, Blk.cell h rfl, Blk.cell h rfl, Blk.cell h rfl, Blk.free h 0, Blk.free h 1, Blk.free h 2, Blk.free h 3⟩
theorem Rr.keep {w w' : World} {q : Nat} {l : T} {i : Nat} {e p : Int} (h : Rr w q l i e p) (hb : Below w.heap.size w w') : Rr w' q l i e p := Blk.keep h hb
theorem Rr.to {w : World} {q : Nat} {l : T} {i : Nat} {e p : Int} (h : Rr w q l i e p) (j : Nat) : Rr (w.setCell ⟨q, 1, none⟩ (.int .i64 j)) q l j e p := Blk.set h 1 _
theorem Rr.bad {w : World} {q : Nat} {l : T} {i : Nat} {e p : Int} (h : Rr w q l i e p) (e' p' : Int) : Rr ((w.setCell ⟨q, 2, none⟩ (.int .i64 e')).setCell ⟨q, 3, none⟩ (.int .i64 p')) q l i e' p' := Blk.set (Blk.set h 2 _) 3 _
theorem Rr.lt {w : World} {q : Nat} {l : T} {i : Nat} {e p : Int} (h : Rr w q l i e p) : q < w.heap.size := Blk.lt h
/-- What next answers: of a reader with an error 0. -/
def nxt (e : Int) (r : T) : Nat := if e = 0 then Qp.hd r else 0
/-- What next leaves. -/
def NextPost (q : Nat) (l : T) (i : Nat) (E P : Int) (w : World) (e : Ending) (w' : World) : Prop :=
  ∃ j, e = .returned (.int .u8 (nxt E (l.drop j) : Nat)) ∧ i ≤ j ∧ j ≤ l.length ∧ l.drop j = Qp.skip (l.drop i) ∧ Rr w' q l j E P ∧ Frm (isQ q) w w'
set_option maxHeartbeats 2000000 in
theorem rnext_any (q : Nat) (l : T) (i : Nat) (E P : Int) (w : World) (hr : Rr w q l i E P) (hl : l.length ≤ 100000000) (hi : i ≤ l.length) :
    Calls Tryd.prog 31 #[.pointer (some ⟨q, 0, none⟩)] w (NextPost q l i E P w) := by
  have HR := hid hr
  clear hr
  go_enter Tryd.func31, Tryd.ntmps31
  go_wp2
  go_loopg [] l.length (fun gk wr => ∃ j : Nat, i ≤ j ∧ j ≤ l.length ∧ l.length - j ≤ gk ∧ Hid (Rr wr q l j E P) ∧ Hid (Frm (isQ q) w wr) ∧ Hid (Qp.skip (l.drop j) = Qp.skip (l.drop i)))
  case atStart => exact ⟨i, Nat.le_refl _, hi, by omega, HR, Frm.refl _ _, rfl⟩
  case round =>
    obtain ⟨j, hij, hj, hg, HT, HB, HD⟩ := hrel
    obtain ⟨c0, c1, c2, c3, f0, f1, f2, f3⟩ := HT.out.cells
    match hd : l.drop j with
    | [] =>
      have hjl : j = l.length := by have := qdrop_none l j hd; omega
      have HDD := hid hd
      subst hjl
      have hjb : decide ((l.length : Int) < (l.length : Int)) = false := decide_eq_false (by omega)
      have hjc : decide ((l.length : Int) ≤ (l.length : Int)) = true := decide_eq_true (by omega)
      have HF := hid (show l.drop l.length = Qp.skip (l.drop i) by rw [← HD.out, HDD.out]; rfl)
      have HH := hid (show nxt E (l.drop l.length) = 0 by unfold nxt; rw [HDD.out]; split <;> rfl)
      clear hd
      by_cases hE : E = 0
      · have b1 : (E != 0) = false := by rw [hE]; rfl
        have b2 : (E == 0) = true := by rw [hE]; rfl
        have HE := hid hE
        clear hE
        go_wp2
        go_quiet (fail)
        go_wp2
        go_quiet (fail)
        go_wp2
        go_ret
        exact ⟨l.length, by rw [HH.out]; rfl, hij, Nat.le_refl _, HF.out, HT.out, (HB.out.drewN _).drewN _⟩
      · have b1 : (E != 0) = true := bne_iff_ne.2 hE
        have b2 : (E == 0) = false := beq_eq_false_iff_ne.2 hE
        have HE := hid hE
        clear hE
        go_wp2
        go_quiet (fail)
        go_wp2
        go_quiet (fail)
        go_wp2
        go_ret
        exact ⟨l.length, by rw [HH.out]; rfl, hij, Nat.le_refl _, HF.out, HT.out, (HB.out.drewN _).drewN _⟩
    | c :: u =>
      obtain ⟨hjl, hget, hdu⟩ := qdrop_get l j c u hd
      have hcc := fun q => ba_get l j c hget q
      have hjI : (j : Int) < (l.length : Int) := by omega
      have hjb : decide ((j : Int) < (l.length : Int)) = true := decide_eq_true hjI
      have hjc : decide ((l.length : Int) ≤ (j : Int)) = false := decide_eq_false (by omega)
      have HDD := hid hd
      have HDU := hid hdu
      clear hd hdu hget
      by_cases h : c = 32
      · have HD2 := hid (show Qp.skip (l.drop (j + 1)) = Qp.skip (l.drop i) by rw [← HD.out, HDD.out, HDU.out]; unfold Qp.skip; rw [List.dropWhile_cons, h]; rfl)
        have b1 : ((c.toNat : Int) == 32) = true := by rw [h]; rfl
        clear h
        go_wp2
        go_quiet (fail)
        go_wp2
        go_roundg (l.length - (j + 1))
        case measure => omega
        case rel => exact ⟨j + 1, by omega, by omega, Nat.le_refl _, hid (Rr.to (w := wr.drewN nq) HT.out (j + 1)), hid ((HB.out.drewN nq).set (Or.inl rfl) 1 _), HD2⟩
      · have hc32 : c.toNat ≠ 32 := fun e => h (UInt8.toNat_inj.1 e)
        have b1 : ((c.toNat : Int) == 32) = false := beq_eq_false_iff_ne.2 (by omega)
        have HF := hid (show l.drop j = Qp.skip (l.drop i) by
          rw [← HD.out, HDD.out]
          unfold Qp.skip
          rw [List.dropWhile_cons, if_neg (by simpa using h)])
        clear h
        by_cases hE : E = 0
        · have b2 : (E != 0) = false := by rw [hE]; rfl
          have b3 : (E == 0) = true := by rw [hE]; rfl
          have HH := hid (show nxt E (l.drop j) = c.toNat by unfold nxt; rw [if_pos hE, HDD.out]; rfl)
          have HE := hid hE
          clear hE
          go_wp2
          go_quiet (fail)
          go_wp2
          go_quiet (fail)
          go_wp2
          go_quiet (fail)
          go_wp2
          go_ret
          exact ⟨j, by rw [HH.out]; rfl, hij, hj, HF.out, HT.out, ((HB.out.drewN _).drewN _).drewN _⟩
        · have b2 : (E != 0) = true := bne_iff_ne.2 hE
          have b3 : (E == 0) = false := beq_eq_false_iff_ne.2 hE
          have HH := hid (show nxt E (l.drop j) = 0 by unfold nxt; rw [if_neg hE])
          have HE := hid hE
          clear hE
          go_wp2
          go_quiet (fail)
          go_wp2
          go_quiet (fail)
          go_wp2
          go_ret
          exact ⟨j, by rw [HH.out]; rfl, hij, hj, HF.out, HT.out, (HB.out.drewN _).drewN _⟩
/-- Is the next sign this one, and no error? -/
def isSg (E : Int) (r : T) (c : UInt8) : Bool := decide (nxt E r = c.toNat)
/-- What sign leaves. -/
def SgnPost (q : Nat) (l : T) (i : Nat) (E P : Int) (c : UInt8) (w : World) (e : Ending) (w' : World) : Prop :=
  ∃ j, e = .returned (.bool (isSg E (l.drop j) c)) ∧ i ≤ j ∧ j ≤ l.length ∧ l.drop j = Qp.skip (l.drop i) ∧ Frm (isQ q) w w' ∧
    ((isSg E (l.drop j) c = false ∧ Rr w' q l j E P) ∨ (isSg E (l.drop j) c = true ∧ E = 0 ∧ j + 1 ≤ l.length ∧ (∃ r, l.drop j = c :: r) ∧ Rr w' q l (j + 1) E P))
set_option maxHeartbeats 2000000 in
theorem rsgn_any (q : Nat) (l : T) (i : Nat) (E P : Int) (c : UInt8) (hc : c.toNat ≠ 0) (w : World) (hr : Rr w q l i E P) (hl : l.length ≤ 100000000) (hi : i ≤ l.length) :
    Calls Tryd.prog 48 #[.pointer (some ⟨q, 0, none⟩), .int .u8 (c.toNat : Nat)] w (SgnPost q l i E P c w) := by
  have NX := rnext_any q l i E P w hr hl hi
  unfold NextPost at NX
  have NX := hid NX
  have HC := hid hc
  obtain ⟨m, hm⟩ : ∃ m, m = c.toNat := ⟨_, rfl⟩
  have HM := hid hm
  rw [← hm]
  clear hr hc hm
  go_enter Tryd.func48, Tryd.ntmps48
  go_wp2_with fail
  refine NX.out.mono ?_
  rintro e w2 ⟨j, rfl, hij, hj, hd, hR2, hF2⟩
  have HD := hid hd
  have HR2 := hid hR2
  have HF2 := hid hF2
  obtain ⟨n, hn⟩ : ∃ n, n = nxt E (l.drop j) := ⟨_, rfl⟩
  rw [← hn]
  have HN := hid hn
  clear hd hR2 hF2 hn
  by_cases h : n = m
  case neg =>
    have b1 : ((n : Int) != (m : Int)) = true := bne_iff_ne.2 (by omega)
    have HB := hid (show isSg E (l.drop j) c = false by unfold isSg; exact decide_eq_false (by rw [← HN.out, ← HM.out]; exact h))
    clear h
    go_wp2
    go_ret
    exact ⟨j, by rw [HB.out]; rfl, hij, hj, HD.out, HF2.out, Or.inl ⟨HB.out, HR2.out⟩⟩
  case pos =>
    have b1 : ((n : Int) != (m : Int)) = false := by rw [h]; simp
    have HB := hid (show isSg E (l.drop j) c = true by unfold isSg; exact decide_eq_true (by rw [← HN.out, ← HM.out]; exact h))
    have hE : E = 0 := by
      by_cases hE : E = 0
      · exact hE
      · have := HN.out; unfold nxt at this; rw [if_neg hE] at this; have := HM.out; have := HC.out; omega
    have HE := hid hE
    obtain ⟨c9, r9, hc9, hcn⟩ := Qp.hd_cons (n := c.toNat) (r := l.drop j) (by have := HN.out; unfold nxt at this; rw [if_pos hE] at this; rw [← this, h]; exact HM.out) HC.out
    have hcc : c9 = c := UInt8.toNat_inj.1 hcn
    rw [hcc] at hc9
    have HC9 := hid hc9
    have hjl := (qdrop_get l j c r9 hc9).1
    obtain ⟨c0, c1, c2, c3, f0, f1, f2, f3⟩ := HR2.out.cells
    clear h hE hc9 hcc hcn
    go_wp2
    go_ret
    exact ⟨j, by rw [HB.out]; rfl, hij, hj, HD.out, HF2.out.set (Or.inl rfl) 1 _, Or.inr ⟨HB.out, HE.out, by omega, ⟨r9, HC9.out⟩, HR2.out.to (j + 1)⟩⟩
/-- What fail leaves: the first error. -/
def FailPost (q : Nat) (l : T) (i : Nat) (E P : Int) (no at' : Int) (w : World) (e : Ending) (w' : World) : Prop :=
  e = .returned (.agg #[.int .i64 0, .string ⟨#[]⟩, .slice none 0 0, .slice none 0 0]) ∧ Rr w' q l i (if E = 0 then no else E) (if E = 0 then at' else P) ∧ Frm (isQ q) w w'
theorem fail_ret {fn : Func} {tmps : Array Value} {Z : World} {b s : Nat} {v0 v1 v2 v3 : Value} (ht : tmps.getD s undef = .pointer (some ⟨b, 0, none⟩)) (hZ : Blk Z b [v0, v1, v2, v3] 25) (hf : fn.results = #[.cell s 25]) :
    (results fn tmps).run Tryd.prog Z = .ok (.agg #[v0, v1, v2, v3]) Z := by
  have h0 := hZ.cell (i := 0) rfl
  have h1 := hZ.cell (i := 1) rfl
  have h2 := hZ.cell (i := 2) rfl
  have h3 := hZ.cell (i := 3) rfl
  have ht' : tmps[s]?.getD undef = .pointer (some ⟨b, 0, none⟩) := by simpa using ht
  simp [results, hf, ht', go_sem, h0, h1, h2, h3]
set_option maxHeartbeats 2000000 in
theorem rfail_any (q : Nat) (l : T) (i : Nat) (E P no at' : Int) (w : World) (hr : Rr w q l i E P) :
    Calls Tryd.prog 32 #[.pointer (some ⟨q, 0, none⟩), .int .i64 at', .int .i64 no] w (FailPost q l i E P no at' w) := by
  have hqw := hr.lt
  obtain ⟨w1, hw1⟩ : ∃ w1, w1 = w.alloc (.cells #[.int .i64 0, .string ⟨#[]⟩, .slice none 0 0, .slice none 0 0] 25) := ⟨_, rfl⟩
  have hb1 : Below w.heap.size w w1 := by rw [hw1]; exact (Below.refl _ _).alloc (Nat.le_refl _) _
  have HRB := hid (show Blk w1 w.heap.size [.int .i64 0, .string ⟨#[]⟩, .slice none 0 0, .slice none 0 0] 25 by rw [hw1]; exact Blk.new w _ _)
  have HB1 := hid hb1
  have HR1 := hid (hr.keep hb1)
  obtain ⟨rb, hrb⟩ : ∃ b, b = w.heap.size := ⟨_, rfl⟩
  have hrq : rb ≠ q := by omega
  have HRBE := hid hrb
  by_cases hE : E = 0
  case pos =>
    subst hE
    have HR2 := hid (HR1.out.bad no at')
    have HRB2 := hid (show Blk ((w1.setCell ⟨q, 2, none⟩ (.int .i64 no)).setCell ⟨q, 3, none⟩ (.int .i64 at')) rb [.int .i64 0, .string ⟨#[]⟩, .slice none 0 0, .slice none 0 0] 25 by rw [hrb]; exact Blk.other (Blk.other HRB.out (by omega) 2 _) (by omega) 3 _)
    have HF2 := hid (show Frm (isQ q) w ((w1.setCell ⟨q, 2, none⟩ (.int .i64 no)).setCell ⟨q, 3, none⟩ (.int .i64 at')) from ((Frm.of_below (X := isQ q) HB1.out).set (Or.inl rfl) 2 _).set (Or.inl rfl) 3 _)
    obtain ⟨w2, hw2⟩ : ∃ w2, w2 = (w1.setCell ⟨q, 2, none⟩ (.int .i64 no)).setCell ⟨q, 3, none⟩ (.int .i64 at') := ⟨_, rfl⟩
    rw [← hw2] at HR2 HRB2 HF2
    obtain ⟨c0, c1, c2, c3, f0, f1, f2, f3⟩ := HR1.out.cells
    obtain ⟨r0, r1, r2, r3⟩ := blk4 HRB2.out
    have k0 := HRB2.out.free 0
    have k1 := HRB2.out.free 1
    have k2 := HRB2.out.free 2
    have k3 := HRB2.out.free 3
    have HZ := hid (put4_blk HRB2.out (.int .i64 0) (.string ⟨#[]⟩) (.slice none 0 0) (.slice none 0 0))
    have HQ := hid (show Rr (put4 w2 rb (.int .i64 0) (.string ⟨#[]⟩) (.slice none 0 0) (.slice none 0 0)) q l i no at' from put4_other HR2.out (Ne.symm hrq) _ _ _ _)
    have HFZ := hid (put4_frm (Y := isQ q) (w := w) (b := rb) (X := w2) HF2.out (Or.inr (by have := HRBE.out; omega)) (.int .i64 0) (.string ⟨#[]⟩) (.slice none 0 0) (.slice none 0 0))
    clear hr hb1
    go_enter Tryd.func32, Tryd.ntmps32
    go_upto_region 1 with fail
    rw [← hw1, ← hrb]
    clear hw1 hrb hqw
    go_upto_region 3 with fail
    rw [← hw2]
    clear hw2 c0 c1 c2 c3 f0 f1 f2 f3
    go_wp2
    refine bodyPost_ret (v := .agg #[.int .i64 0, .string ⟨#[]⟩, .slice none 0 0, .slice none 0 0]) (fail_ret (s := 6) rfl HZ.out Tryd.results32) rfl ?_
    exact ⟨rfl, HQ.out, HFZ.out⟩
  case neg =>
    have b1 : (E == 0) = false := beq_eq_false_iff_ne.2 hE
    have HE := hid hE
    obtain ⟨c0, c1, c2, c3, f0, f1, f2, f3⟩ := HR1.out.cells
    have HRB2 := hid (show Blk w1 rb [.int .i64 0, .string ⟨#[]⟩, .slice none 0 0, .slice none 0 0] 25 by rw [hrb]; exact HRB.out)
    obtain ⟨r0, r1, r2, r3⟩ := blk4 HRB2.out
    have k0 := HRB2.out.free 0
    have k1 := HRB2.out.free 1
    have k2 := HRB2.out.free 2
    have k3 := HRB2.out.free 3
    have HZ := hid (put4_blk HRB2.out (.int .i64 0) (.string ⟨#[]⟩) (.slice none 0 0) (.slice none 0 0))
    have HQ := hid (show Rr (put4 w1 rb (.int .i64 0) (.string ⟨#[]⟩) (.slice none 0 0) (.slice none 0 0)) q l i E P from put4_other HR1.out (Ne.symm hrq) _ _ _ _)
    have HFZ := hid (put4_frm (Y := isQ q) (w := w) (b := rb) (X := w1) (Frm.of_below HB1.out) (Or.inr (by have := HRBE.out; omega)) (.int .i64 0) (.string ⟨#[]⟩) (.slice none 0 0) (.slice none 0 0))
    clear hr hb1 hE
    go_enter Tryd.func32, Tryd.ntmps32
    go_upto_region 1 with fail
    rw [← hw1, ← hrb]
    clear hw1 hrb hqw
    go_wp2
    refine bodyPost_ret (v := .agg #[.int .i64 0, .string ⟨#[]⟩, .slice none 0 0, .slice none 0 0]) (fail_ret (s := 6) rfl HZ.out Tryd.results32) rfl ?_
    exact ⟨rfl, by rw [if_neg HE.out, if_neg HE.out]; exact HQ.out, HFZ.out⟩
/-- The first error. -/
theorem rfail_new (q : Nat) (l : T) (i : Nat) (P no at' : Int) (w : World) (hr : Rr w q l i 0 P) :
    Calls Tryd.prog 32 #[.pointer (some ⟨q, 0, none⟩), .int .i64 at', .int .i64 no] w fun e w' => e = .returned (.agg #[.int .i64 0, .string ⟨#[]⟩, .slice none 0 0, .slice none 0 0]) ∧ Rr w' q l i no at' ∧ Frm (isQ q) w w' :=
  (rfail_any q l i 0 P no at' w hr).mono fun e w' ⟨h1, h2, h3⟩ => ⟨h1, by rw [if_pos rfl, if_pos rfl] at h2; exact h2, h3⟩
/-- A further error is none. -/
theorem rfail_old (q : Nat) (l : T) (i : Nat) (E P no at' : Int) (hE : E ≠ 0) (w : World) (hr : Rr w q l i E P) :
    Calls Tryd.prog 32 #[.pointer (some ⟨q, 0, none⟩), .int .i64 at', .int .i64 no] w fun e w' => e = .returned (.agg #[.int .i64 0, .string ⟨#[]⟩, .slice none 0 0, .slice none 0 0]) ∧ Rr w' q l i E P ∧ Frm (isQ q) w w' :=
  (rfail_any q l i E P no at' w hr).mono fun e w' ⟨h1, h2, h3⟩ => ⟨h1, by rw [if_neg hE, if_neg hE] at h2; exact h2, h3⟩
end Go.Proofs.YtagmgkplfhlifaaDoor
