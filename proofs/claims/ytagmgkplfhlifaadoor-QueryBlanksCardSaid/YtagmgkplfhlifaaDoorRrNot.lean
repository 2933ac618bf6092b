/- The document's reader of paths: what stands behind '!'. -/
import Derived.Test.YtagmgkplfhlifaaDoorRrIri
import Derived.Test.YtagmgkplfhlifaaDoorQpNots
import Derived.Test.YtagmgkplfhlifaaDoorSmPath
namespace Go.Proofs.YtagmgkplfhlifaaDoor
set_option linter.unusedVariables false
set_option linter.unusedSimpArgs false
set_option maxRecDepth 100000
open Go.ChangeShapes Go.WideShapes Go.ChangeAt Go.RowKit
open Au
/-- What a reading leaves: the path is new memory. -/
def RRd (q : Nat) (l : T) (i : Nat) (R : Res) (w : World) (e : Ending) (w' : World) : Prop :=
  ∃ (x : Pt) (a a' : Option Addr) (n c n' c' : Nat) (E P : Int) (j : Nat), e = .returned (.agg #[.int .i64 x.kind, str x.text, .slice a n c, .slice a' n' c']) ∧ i ≤ j ∧ j ≤ l.length ∧ Rr w' q l j E P ∧ Frm (isQ q) w w' ∧
    ((E = 0 ∧ R = .ok x (l.drop j) ∧ Hid (Asd (fun k => k < w.heap.size) w' (fun W => PtB W (.slice a n c) (.slice a' n' c') x))) ∨ (E ≠ 0 ∧ ∃ m : Nat, m ≤ l.length ∧ P = m ∧ R = .err E (l.drop m)))
/-- A function of the document reads as P does, wherever the reader stands without an error. -/
def RReads (W0 : World) (q : Nat) (l : T) (f : FuncId) (args : Array Value) (P : T → Res) : Prop :=
  ∀ i P0 w, Rr w q l i 0 P0 → i ≤ l.length → Below W0.heap.size W0 w → Calls Tryd.prog f args w (RRd q l i (P (l.drop i)) w)
theorem skip_skip : ∀ r : T, Qp.skip (Qp.skip r) = Qp.skip r
  | [] => rfl
  | c :: r => by
    unfold Qp.skip
    rw [List.dropWhile_cons]
    split
    · exact skip_skip r
    · rename_i h; rw [List.dropWhile_cons, if_neg h]
/-- What is read behind the texts L. -/
def notRest (m : Nat) (L : List T) (r : T) : Res := match Qp.skip r with
  | [] => .err 2 []
  | c :: r2 => if c = 124 then Qp.notGo m L (c :: r2) else if c = 41 then .ok (.mk 8 [] L []) r2 else .err 2 (c :: r2)
theorem notGo_rest (m : Nat) (L : List T) (r t r1 : T) (h : Qp.iri (r.drop 1) = .ok t r1) : Qp.notGo (m + 1) L r = notRest m (L ++ [t]) r1 := by
  unfold Qp.notGo notRest
  rw [h]
  rfl
theorem notGo_err (m : Nat) (L : List T) (r r1 : T) (h : Qp.iri (r.drop 1) = .err r1) : Qp.notGo (m + 1) L r = .err 2 r1 := by
  unfold Qp.notGo
  rw [h]
theorem isSg_zero {r : T} {c : UInt8} : isSg 0 r c = decide (Qp.hd r = c.toNat) := by unfold isSg nxt; rw [if_pos rfl]
theorem isSg_err {E : Int} {r : T} {c : UInt8} (hE : E ≠ 0) (hc : c.toNat ≠ 0) : isSg E r c = false := by unfold isSg nxt; rw [if_neg hE]; exact decide_eq_false (fun h => hc h.symm)
theorem isSg_no {r : T} {c : UInt8} (h : isSg 0 r c = false) : (∀ u, r ≠ c :: u) := fun u e => by
  rw [isSg_zero, e] at h
  exact of_decide_eq_false h rfl
set_option maxHeartbeats 8000000 in
theorem rnot_any (W0 : World) (q : Nat) (l : T) (hl : l.length ≤ 100000000) (hq : W0.heap.size ≤ q) (hV : T8 W0) :
    RReads W0 q l 91 #[.pointer (some ⟨q, 0, none⟩)] Qp.nots := by
  intro i P0 w hr hi hB
  obtain ⟨w1, hw1⟩ : ∃ w1, w1 = w.alloc (.cells #[.int .i64 0, .string ⟨#[]⟩, .slice none 0 0, .slice none 0 0] 25) := ⟨_, rfl⟩
  have hb1 : Below w.heap.size w w1 := by rw [hw1]; exact (Below.refl _ _).alloc (Nat.le_refl _) _
  have HRB := hid (show Blk w1 w.heap.size [.int .i64 0, .string ⟨#[]⟩, .slice none 0 0, .slice none 0 0] 25 by rw [hw1]; exact Blk.new w _ _)
  have HB1 := hid hb1
  have hsz1 : w1.heap.size = w.heap.size + 1 := by rw [hw1]; simp
  have HBW1 := hid (hB.trans (hb1.mono hB.size))
  have HR1 := hid (hr.keep hb1)
  have hqw := hr.lt
  obtain ⟨rb, hrb⟩ : ∃ b, b = w.heap.size := ⟨_, rfl⟩
  rw [← hrb] at HRB
  have hrw1 : rb < w1.heap.size := by omega
  have hqw1 : q < w1.heap.size := by omega
  have hrb2 : rb ≠ q := by omega
  have HRBE := hid hrb
  have HSZ1 := hid hsz1
  have HW01 := hB.size
  obtain ⟨w2, hw2⟩ : ∃ w2, w2 = w1.alloc (.cells #[.int .i64 8, .string ⟨#[]⟩, .slice none 0 0, .slice none 0 0] 25) := ⟨_, rfl⟩
  have hb2 : Below w1.heap.size w1 w2 := by rw [hw2]; exact (Below.refl _ _).alloc (Nat.le_refl _) _
  obtain ⟨pb, hpb⟩ : ∃ b, b = w1.heap.size := ⟨_, rfl⟩
  have HPB := hid (show Blk w2 pb [.int .i64 8, .string ⟨#[]⟩, .slice none 0 0, .slice none 0 0] 25 by rw [hw2, hpb]; exact Blk.new w1 _ _)
  have hsz2 : w2.heap.size = w1.heap.size + 1 := by rw [hw2]; simp
  have HPBE := hid hpb
  have HSZ2 := hid hsz2
  have hpr : pb ≠ rb := by omega
  have hpq : pb ≠ q := by omega
  have HR2 := hid (HR1.out.keep hb2)
  have HF2 := hid (Frm.of_below (X := isQ q) hb2)
  have HVV := hid hV
  obtain ⟨iS, hiS, hzS, hsS, hbS⟩ := info_parts Tryd.infoStr1
  obtain ⟨c0, c1, c2, c3, f0, f1, f2, f3⟩ := HR2.out.cells
  go_enter Tryd.func91, Tryd.ntmps91
  go_upto_region 1 with fail
  rw [← hw1, ← hrb]
  clear hw1 hrb hsz1 hr hB hb1
  go_upto_region 2 with fail
  rw [← hw2, ← hpb]
  clear hw2 hpb hb2 hsz2
  match hd : l.drop i with
  | [] =>
    have hil : i = l.length := by have := qdrop_none l i hd; omega
    have HDD := hid hd
    subst hil
    have hjb : decide ((l.length : Int) < (l.length : Int)) = false := decide_eq_false (by omega)
    clear hd
    rw [← HDD.out]
    have HE0 := hid (show Qp.nots (l.drop l.length) = Qp.notOne (l.drop l.length) by rw [HDD.out]; rfl)
    go_wp2
    go_quiet (fail)
    obtain ⟨w3, hz3⟩ : ∃ z, z = w2.drewN nq := ⟨_, rfl⟩
    have hbz : Below w2.heap.size w2 w3 := by rw [hz3]; exact below_drawn (Below.refl _ _) nq
    rw [← hz3]
    have HR3 := hid (HR2.out.keep hbz)
    have HF3 := hid (HF2.out.trans (Frm.of_below (X := isQ q) hbz) (fun _ _ e => e))
    have HPB3 := hid (HPB.out.keep hbz)
    have HB3 := hid (HBW1.out.trans (HF3.out.below HBW1.out.size (fun k hk e => by have e : k = q := e; omega)))
    have IR := rrIri_any W0 q l l.length P0 w3 HR3.out hl hi HVV.out hq HB3.out
    unfold RIriPost at IR
    have IR := hid IR
    clear hz3 hbz c0 c1 c2 c3 f0 f1 f2 f3
    go_wp2_with fail
    refine IR.out.mono ?_
    rintro e w4 ⟨t, E, P, j, rfl, hij, hj, hR4, hF4, htl, hres⟩
    have HR4 := hid hR4
    have HF4 := hid (HF3.out.trans hF4 (fun _ _ e => e))
    have HPB4 := hid (HPB3.out.frm hF4 (fun e => hpq e))
    have HRES := hid hres
    have HTL := hid htl
    have hs4 := HF4.out.size
    obtain ⟨p0, p1, p2, p3⟩ := blk4 HPB4.out
    have g2 := HPB4.out.free 2
    have hplt := HPB4.out.lt
    clear hR4 hF4 hres htl IR
    obtain ⟨w5, hw5⟩ : ∃ w5, w5 = (w4.setCell ⟨pb, 2, none⟩ (.slice (some ⟨w4.heap.size, 0, none⟩) 1 1)).alloc (.cells #[str t] 9) := ⟨_, rfl⟩
    have HT5 := hid (show Blk w5 w4.heap.size [str t] 9 by rw [hw5]; exact Blk.new' (by simp) rfl)
    have HPB5 := hid (show Blk w5 pb [.int .i64 8, .string ⟨#[]⟩, .slice (some ⟨w4.heap.size, 0, none⟩) 1 1, .slice none 0 0] 25 by rw [hw5]; exact (HPB4.out.set 2 _).alloc _)
    have HR5 := hid (show Rr w5 q l j E P by rw [hw5]; exact (Blk.other HR4.out (by omega) 2 _).alloc _)
    have HF5 := hid (show Frm (isQ q) w1 w5 by rw [hw5]; exact (HF4.out.set (Or.inr (by have := HPBE.out; omega)) 2 _).alloc _)
    have HRB5 := hid (HRB.out.frm HF5.out (fun e => hrb2 e))
    obtain ⟨tb, htb⟩ : ∃ b, b = w4.heap.size := ⟨_, rfl⟩
    rw [← htb] at HT5 HPB5
    have HTB := hid htb
    go_upto_region 11 with fail
    rw [← hw5, ← htb]
    clear hw5 htb p0 p1 p2 p3 g2 hplt
    obtain ⟨p0, p1, p2, p3⟩ := blk4 HPB5.out
    have HTT := hid (show Hid (Asd (fun k => k < w1.heap.size) w5 (fun W => PtB W (.slice (some ⟨tb, 0, none⟩) 1 1) (.slice none 0 0) (.mk 8 [] [t] []))) from by
      refine Asd.and (Asd.blk HT5.out (by have := HTB.out; omega)) (Asd.all (X := fun k => k < w1.heap.size) (w := w5) (P := fun _ => True) fun _ => trivial) (R := fun W => PtB W (.slice (some ⟨tb, 0, none⟩) 1 1) (.slice none 0 0) (.mk 8 [] [t] [])) (fun W h _ => qptb_not ?_ ?_)
      · refine ⟨some ⟨tb, 0, none⟩, 1, rfl, Nat.le_refl _, by unfold maxLen; omega, (fun h => by cases h), Or.inr ⟨tb, 0, rfl, fun x hx => ?_⟩⟩
        obtain rfl : x = 0 := by simp at hx; omega
        exact h.cell rfl
      · intro x
        cases x with
        | zero => have := HTL.out; show t.length ≤ _; omega
        | succ x => simp)
    obtain ⟨r0, r1, r2, r3⟩ := blk4 HRB5.out
    have k0 := HRB5.out.free 0
    have k1 := HRB5.out.free 1
    have k2 := HRB5.out.free 2
    have k3 := HRB5.out.free 3
    have HZ := hid (put4_blk HRB5.out (.int .i64 8) (.string ⟨#[]⟩) (.slice (some ⟨tb, 0, none⟩) 1 1) (.slice none 0 0))
    have HQ := hid (show Rr (put4 w5 rb (.int .i64 8) (.string ⟨#[]⟩) (.slice (some ⟨tb, 0, none⟩) 1 1) (.slice none 0 0)) q l (j) (E) (P) from put4_other HR5.out (Ne.symm hrb2) _ _ _ _)
    have HFZ := hid (put4_frm (Y := isQ q) (w := w) (b := rb) (X := w5) ((Frm.of_below (X := isQ q) HB1.out).trans HF5.out (fun _ _ e => e)) (Or.inr (by have := HRBE.out; omega)) (.int .i64 8) (.string ⟨#[]⟩) (.slice (some ⟨tb, 0, none⟩) 1 1) (.slice none 0 0))
    have HPZ := hid (HTT.out.frm (Y := fun k => k = rb) (Z := fun k => k < w.heap.size) (put4_frm (Y := fun k => k = rb) (Frm.refl _ w5) (Or.inl rfl) (.int .i64 8) (.string ⟨#[]⟩) (.slice (some ⟨tb, 0, none⟩) 1 1) (.slice none 0 0)) (fun k _ e => (by have e : k = rb := e; show k < w1.heap.size; omega)) (fun k _ e => (by have := HRBE.out; have e : k < w.heap.size := e; show k < w1.heap.size; omega)))
    go_wp2
    try rw [Exit.noGoto_ret]
    refine bodyPost_ret (v := .agg #[.int .i64 8, .string ⟨#[]⟩, .slice (some ⟨tb, 0, none⟩) 1 1, .slice none 0 0]) (fail_ret (s := 2) rfl HZ.out Tryd.results91) rfl ?_
    refine ⟨.mk 8 [] [t] [], some ⟨tb, 0, none⟩, none, 1, 1, 0, 0, E, P, j, rfl, hij, hj, HQ.out, HFZ.out, ?_⟩
    rw [HE0.out]
    unfold Qp.notOne
    rcases HRES.out with ⟨h1, h2⟩ | ⟨h1, h2, h3, h4⟩
    · exact Or.inl ⟨h1, by rw [h2], HPZ.out⟩
    · exact Or.inr ⟨by rw [h1]; decide, j, hj, h3, by rw [h4, h1]⟩
  | c :: u =>
    obtain ⟨hil, hget, hdu⟩ := qdrop_get l i c u hd
    have hcc := fun q => ba_get l i c hget q
    have hjI : (i : Int) < (l.length : Int) := by omega
    have hjb : decide ((i : Int) < (l.length : Int)) = true := decide_eq_true hjI
    have HDD := hid hd
    have HDU := hid hdu
    clear hd hdu hget
    rw [← HDD.out]
    by_cases h40 : c = 40
    case neg =>
      have b1 : ((c.toNat : Int) == 40) = false := beq_eq_false_iff_ne.2 (fun e => h40 (UInt8.toNat_inj.1 (by show c.toNat = 40; omega)))
      have H40 := hid h40
      clear h40
      have HE0 := hid (show Qp.nots (l.drop i) = Qp.notOne (l.drop i) by rw [HDD.out]; unfold Qp.nots; simp only; rw [if_neg H40.out])
      go_wp2
      go_quiet (fail)
      obtain ⟨w3, hz3⟩ : ∃ z, z = w2.drewN nq := ⟨_, rfl⟩
      have hbz : Below w2.heap.size w2 w3 := by rw [hz3]; exact below_drawn (Below.refl _ _) nq
      rw [← hz3]
      have HR3 := hid (HR2.out.keep hbz)
      have HF3 := hid (HF2.out.trans (Frm.of_below (X := isQ q) hbz) (fun _ _ e => e))
      have HPB3 := hid (HPB.out.keep hbz)
      have HB3 := hid (HBW1.out.trans (HF3.out.below HBW1.out.size (fun k hk e => by have e : k = q := e; omega)))
      have IR := rrIri_any W0 q l i P0 w3 HR3.out hl hi HVV.out hq HB3.out
      unfold RIriPost at IR
      have IR := hid IR
      clear hz3 hbz c0 c1 c2 c3 f0 f1 f2 f3
      go_wp2_with fail
      refine IR.out.mono ?_
      rintro e w4 ⟨t, E, P, j, rfl, hij, hj, hR4, hF4, htl, hres⟩
      have HR4 := hid hR4
      have HF4 := hid (HF3.out.trans hF4 (fun _ _ e => e))
      have HPB4 := hid (HPB3.out.frm hF4 (fun e => hpq e))
      have HRES := hid hres
      have HTL := hid htl
      have hs4 := HF4.out.size
      obtain ⟨p0, p1, p2, p3⟩ := blk4 HPB4.out
      have g2 := HPB4.out.free 2
      have hplt := HPB4.out.lt
      clear hR4 hF4 hres htl IR
      obtain ⟨w5, hw5⟩ : ∃ w5, w5 = (w4.setCell ⟨pb, 2, none⟩ (.slice (some ⟨w4.heap.size, 0, none⟩) 1 1)).alloc (.cells #[str t] 9) := ⟨_, rfl⟩
      have HT5 := hid (show Blk w5 w4.heap.size [str t] 9 by rw [hw5]; exact Blk.new' (by simp) rfl)
      have HPB5 := hid (show Blk w5 pb [.int .i64 8, .string ⟨#[]⟩, .slice (some ⟨w4.heap.size, 0, none⟩) 1 1, .slice none 0 0] 25 by rw [hw5]; exact (HPB4.out.set 2 _).alloc _)
      have HR5 := hid (show Rr w5 q l j E P by rw [hw5]; exact (Blk.other HR4.out (by omega) 2 _).alloc _)
      have HF5 := hid (show Frm (isQ q) w1 w5 by rw [hw5]; exact (HF4.out.set (Or.inr (by have := HPBE.out; omega)) 2 _).alloc _)
      have HRB5 := hid (HRB.out.frm HF5.out (fun e => hrb2 e))
      obtain ⟨tb, htb⟩ : ∃ b, b = w4.heap.size := ⟨_, rfl⟩
      rw [← htb] at HT5 HPB5
      have HTB := hid htb
      go_upto_region 11 with fail
      rw [← hw5, ← htb]
      clear hw5 htb p0 p1 p2 p3 g2 hplt
      obtain ⟨p0, p1, p2, p3⟩ := blk4 HPB5.out
      have HTT := hid (show Hid (Asd (fun k => k < w1.heap.size) w5 (fun W => PtB W (.slice (some ⟨tb, 0, none⟩) 1 1) (.slice none 0 0) (.mk 8 [] [t] []))) from by
        refine Asd.and (Asd.blk HT5.out (by have := HTB.out; omega)) (Asd.all (X := fun k => k < w1.heap.size) (w := w5) (P := fun _ => True) fun _ => trivial) (R := fun W => PtB W (.slice (some ⟨tb, 0, none⟩) 1 1) (.slice none 0 0) (.mk 8 [] [t] [])) (fun W h _ => qptb_not ?_ ?_)
        · refine ⟨some ⟨tb, 0, none⟩, 1, rfl, Nat.le_refl _, by unfold maxLen; omega, (fun h => by cases h), Or.inr ⟨tb, 0, rfl, fun x hx => ?_⟩⟩
          obtain rfl : x = 0 := by simp at hx; omega
          exact h.cell rfl
        · intro x
          cases x with
          | zero => have := HTL.out; show t.length ≤ _; omega
          | succ x => simp)
      obtain ⟨r0, r1, r2, r3⟩ := blk4 HRB5.out
      have k0 := HRB5.out.free 0
      have k1 := HRB5.out.free 1
      have k2 := HRB5.out.free 2
      have k3 := HRB5.out.free 3
      have HZ := hid (put4_blk HRB5.out (.int .i64 8) (.string ⟨#[]⟩) (.slice (some ⟨tb, 0, none⟩) 1 1) (.slice none 0 0))
      have HQ := hid (show Rr (put4 w5 rb (.int .i64 8) (.string ⟨#[]⟩) (.slice (some ⟨tb, 0, none⟩) 1 1) (.slice none 0 0)) q l (j) (E) (P) from put4_other HR5.out (Ne.symm hrb2) _ _ _ _)
      have HFZ := hid (put4_frm (Y := isQ q) (w := w) (b := rb) (X := w5) ((Frm.of_below (X := isQ q) HB1.out).trans HF5.out (fun _ _ e => e)) (Or.inr (by have := HRBE.out; omega)) (.int .i64 8) (.string ⟨#[]⟩) (.slice (some ⟨tb, 0, none⟩) 1 1) (.slice none 0 0))
      have HPZ := hid (HTT.out.frm (Y := fun k => k = rb) (Z := fun k => k < w.heap.size) (put4_frm (Y := fun k => k = rb) (Frm.refl _ w5) (Or.inl rfl) (.int .i64 8) (.string ⟨#[]⟩) (.slice (some ⟨tb, 0, none⟩) 1 1) (.slice none 0 0)) (fun k _ e => (by have e : k = rb := e; show k < w1.heap.size; omega)) (fun k _ e => (by have := HRBE.out; have e : k < w.heap.size := e; show k < w1.heap.size; omega)))
      go_wp2
      try rw [Exit.noGoto_ret]
      refine bodyPost_ret (v := .agg #[.int .i64 8, .string ⟨#[]⟩, .slice (some ⟨tb, 0, none⟩) 1 1, .slice none 0 0]) (fail_ret (s := 2) rfl HZ.out Tryd.results91) rfl ?_
      refine ⟨.mk 8 [] [t] [], some ⟨tb, 0, none⟩, none, 1, 1, 0, 0, E, P, j, rfl, hij, hj, HQ.out, HFZ.out, ?_⟩
      rw [HE0.out]
      unfold Qp.notOne
      rcases HRES.out with ⟨h1, h2⟩ | ⟨h1, h2, h3, h4⟩
      · exact Or.inl ⟨h1, by rw [h2], HPZ.out⟩
      · exact Or.inr ⟨by rw [h1]; decide, j, hj, h3, by rw [h4, h1]⟩
    case pos =>
      subst h40
      have b1 : (((40 : UInt8).toNat : Int) == 40) = true := rfl
      have hi1 : i + 1 ≤ l.length := hil
      obtain ⟨ANS, hANS⟩ : ∃ z, z = Qp.nots (l.drop i) := ⟨_, rfl⟩
      have HAN := hid hANS
      have HANS := hid (show ANS = Qp.notGo ((l.drop i).length + 1) [] (l.drop i) by rw [hANS, HDD.out]; rfl)
      clear hANS
      go_wp2
      go_quiet (fail)
      obtain ⟨w3, hz3⟩ : ∃ z, z = w2.drewN nq := ⟨_, rfl⟩
      have hbz : Below w2.heap.size w2 w3 := by rw [hz3]; exact below_drawn (Below.refl _ _) nq
      rw [← hz3]
      have HR3 := hid (HR2.out.keep hbz)
      have HF3 := hid (HF2.out.trans (Frm.of_below (X := isQ q) hbz) (fun _ _ e => e))
      have HPB3 := hid (HPB.out.keep hbz)
      clear hz3 hbz c0 c1 c2 c3 f0 f1 f2 f3
      obtain ⟨c0, c1, c2, c3, f0, f1, f2, f3⟩ := HR3.out.cells
      obtain ⟨w4, hw4⟩ : ∃ w4, w4 = w3.setCell ⟨q, 1, none⟩ (.int .i64 ((i : Int) + 1)) := ⟨_, rfl⟩
      have hf4 : Frm (isQ q) w3 w4 := by rw [hw4]; exact Frm.set (X := isQ q) (Frm.refl _ w3) (Or.inl rfl) 1 _
      have HR4 := hid (show Rr w4 q l (i + 1) 0 P0 by rw [hw4]; exact HR3.out.to (i + 1))
      have HF4 := hid (HF3.out.trans hf4 (fun _ _ e => e))
      have HPB4 := hid (HPB3.out.frm hf4 (fun e => hpq e))
      have HB4 := hid (HBW1.out.trans (HF4.out.below HBW1.out.size (fun k hk e => by have e : k = q := e; omega)))
      have IR := rrIri_any W0 q l (i + 1) P0 w4 HR4.out hl hi1 HVV.out hq HB4.out
      unfold RIriPost at IR
      have IR := hid IR
      go_upto_region 4 with fail
      rw [← hw4]
      clear hw4 hf4 c0 c1 c2 c3 f0 f1 f2 f3
      go_wp2_with fail
      refine IR.out.mono ?_
      rintro e w5 ⟨t, E, P, j, rfl, hij, hj, hR5, hF5, htl, hres⟩
      have HR5 := hid hR5
      have HF5 := hid (HF4.out.trans hF5 (fun _ _ e => e))
      have HPB5 := hid (HPB4.out.frm hF5 (fun e => hpq e))
      have HRES := hid hres
      have HTL := hid htl
      have hs5 := HF5.out.size
      obtain ⟨p0, p1, p2, p3⟩ := blk4 HPB5.out
      have g2 := HPB5.out.free 2
      have hplt := HPB5.out.lt
      clear hR5 hF5 hres htl IR
      obtain ⟨w6, hw6⟩ : ∃ w6, w6 = (w5.setCell ⟨pb, 2, none⟩ (.slice (some ⟨w5.heap.size, 0, none⟩) 1 1)).alloc (.cells #[str t] 9) := ⟨_, rfl⟩
      have HO6 := hid (show w6.ownsRow w2.heap.size 9 1 (.slice (some ⟨w5.heap.size, 0, none⟩) 1 1) [t].length ([t].map str) from by
        rw [hw6]
        refine ⟨rfl, .inr ⟨w5.heap.size, 1, #[str t], rfl, by have := HSZ2.out; have := HPBE.out; omega, ?_, Nat.le_refl _, by unfold maxLen; omega, rfl, rfl⟩⟩
        have := heap_alloc_new (w5.setCell ⟨pb, 2, none⟩ (.slice (some ⟨w5.heap.size, 0, none⟩) 1 1)) (.cells #[str t] 9)
        simpa using this)
      have HPB6 := hid (show Blk w6 pb [.int .i64 8, .string ⟨#[]⟩, .slice (some ⟨w5.heap.size, 0, none⟩) 1 1, .slice none 0 0] 25 by rw [hw6]; exact (HPB5.out.set 2 _).alloc _)
      have HR6 := hid (show Rr w6 q l j E P by rw [hw6]; exact (Blk.other HR5.out (by omega) 2 _).alloc _)
      have HF6 := hid (show Frm (isQ q) w1 w6 by rw [hw6]; exact (HF5.out.set (Or.inr (by have := HPBE.out; omega)) 2 _).alloc _)
      have HT6 := hid (show ∀ x ∈ [t], x.length ≤ l.length from fun x hx => by rw [List.mem_singleton.1 hx]; exact HTL.out)
      have HM6 := hid (show (E = 0 ∧ ∃ m, (l.drop j).length < m ∧ notRest m [t] (l.drop j) = ANS) ∨ (E ≠ 0 ∧ ∃ m : Nat, m ≤ l.length ∧ P = m ∧ ANS = .err E (l.drop m)) by
        have h0 : (l.drop i).drop 1 = l.drop (i + 1) := by rw [List.drop_drop]
        rcases HRES.out with ⟨h1, h2⟩ | ⟨h1, h2, h3, h4⟩
        · refine Or.inl ⟨h1, (l.drop i).length, ?_, ?_⟩
          · rw [List.length_drop, List.length_drop]; omega
          · rw [HANS.out, notGo_rest _ _ _ t (l.drop j) (by rw [h0]; exact h2)]; rfl
        · exact Or.inr ⟨by rw [h1]; decide, j, hj, h3, by rw [HANS.out, notGo_err _ _ _ (l.drop j) (by rw [h0]; exact h4), h1]⟩)
      obtain ⟨tb, htb⟩ : ∃ b, b = w5.heap.size := ⟨_, rfl⟩
      rw [← htb] at HO6 HPB6
      go_upto_region 5 with fail
      rw [← hw6, ← htb]
      clear hw6 htb p0 p1 p2 p3 g2 hplt HRES HTL HPB5 HR5 HF5 HPB4 HR4 HF4 HPB3 HR3 HF3
      go_loopg [] (l.length + 1) (fun gk wr => ∃ (v : Value) (L : List T) (E P : Int) (j : Nat), i ≤ j ∧ j ≤ l.length ∧ l.length - j + 1 ≤ gk ∧ 0 < L.length ∧ L.length ≤ j + 1 ∧ Hid (Rr wr q l j E P) ∧ Hid (Frm (isQ q) w1 wr) ∧ Hid (Blk wr pb [.int .i64 8, .string ⟨#[]⟩, v, .slice none 0 0] 25) ∧ Hid (wr.ownsRow w2.heap.size 9 1 v L.length (L.map str)) ∧ Hid (∀ x ∈ L, x.length ≤ l.length) ∧ Hid ((E = 0 ∧ ∃ m, (l.drop j).length < m ∧ notRest m L (l.drop j) = ANS) ∨ (E ≠ 0 ∧ ∃ m : Nat, m ≤ l.length ∧ P = m ∧ ANS = .err E (l.drop m))))
      case atStart => exact ⟨_, [t], E, P, j, by omega, hj, by omega, by simp, by simp, HR6.out, HF6.out, HPB6.out, HO6.out, HT6.out, HM6.out⟩
      case round =>
        clear HR6 HF6 HPB6 HO6 HT6 HM6 hij hj hs5
        obtain ⟨v, L, E, P, j, hij, hj, hgk, hL0, hLj, HR, HF, HPB, HO, HTX, HM⟩ := hrel
        have SG := rsgn_any q l j E P 124 (by decide) wr HR.out hl hj
        unfold SgnPost at SG
        have SG := hid SG
        have SG := hid (show Calls Tryd.prog 48 #[.pointer (some ⟨q, 0, none⟩), .int .u8 124] wr _ from SG.out)
        go_wp2_with fail
        refine SG.out.mono ?_
        rintro e w7 ⟨j2, rfl, hjj, hj2, hd, hF7, hres⟩
        have HD7 := hid hd
        have HF7 := hid (HF.out.trans hF7 (fun _ _ e => e))
        have HPB7 := hid (HPB.out.frm hF7 (fun e => hpq e))
        have HO7 := hid (qown_frm HO.out hF7 (fun k hk e => by have e : k = q := e; have := HSZ2.out; omega))
        obtain ⟨B, hB7⟩ : ∃ z, z = isSg E (l.drop j2) 124 := ⟨_, rfl⟩
        rw [← hB7] at hres ⊢
        have HB7 := hid hB7
        have HRES := hid hres
        clear hd hF7 hres SG HR HF HPB HO hB7
        cases B
        case false =>
          have HR7 := hid (show Rr w7 q l j2 E P from HRES.out.elim (fun h => h.2) (fun h => by have := h.1; cases this))
          have SG := rsgn_any q l j2 E P 41 (by decide) w7 HR7.out hl hj2
          unfold SgnPost at SG
          have SG := hid (show Calls Tryd.prog 48 #[.pointer (some ⟨q, 0, none⟩), .int .u8 41] w7 _ from SG)
          clear HRES
          go_wp2_with fail
          refine SG.out.mono ?_
          rintro e w8 ⟨j3, rfl, hjj3, hj3, hd3, hF8, hres⟩
          have HD8 := hid hd3
          have HF8 := hid (HF7.out.trans hF8 (fun _ _ e => e))
          have HPB8 := hid (HPB7.out.frm hF8 (fun e => hpq e))
          have HO8 := hid (qown_frm HO7.out hF8 (fun k hk e => by have e : k = q := e; have := HSZ2.out; omega))
          obtain ⟨B, hB8⟩ : ∃ z, z = isSg E (l.drop j3) 41 := ⟨_, rfl⟩
          rw [← hB8] at hres ⊢
          have HB8 := hid hB8
          have HRES := hid hres
          have HDD8 := hid (show l.drop j3 = l.drop j2 by rw [hd3, HD7.out, skip_skip])
          clear hd3 hF8 hres SG HR7 HF7 HPB7 HO7 hB8
          cases B
          case false =>
            have HR8 := hid (show Rr w8 q l j3 E P from HRES.out.elim (fun h => h.2) (fun h => by have := h.1; cases this))
            obtain ⟨c0, c1, c2, c3, f0, f1, f2, f3⟩ := HR8.out.cells
            clear HRES
            by_cases hE : E = 0
            case pos =>
              subst hE
              have HE := hid (show ANS = .err 2 (l.drop j3) by
                rcases HM.out with ⟨_, m, _, h⟩ | ⟨h, _⟩
                · rw [← h]
                  unfold notRest
                  rw [← HD7.out, ← HDD8.out]
                  have n1 := isSg_no HB7.out.symm
                  have n2 := isSg_no HB8.out.symm
                  rw [← HDD8.out] at n1
                  cases hc : l.drop j3 with
                  | nil => rfl
                  | cons c9 r9 =>
                    simp only
                    rw [if_neg (fun e => n1 r9 (by rw [hc, e])), if_neg (fun e => n2 r9 (by rw [hc, e]))]
                · exact absurd rfl h)
              have FL := hid (rfail_new q l j3 P 2 (j3 : Nat) w8 HR8.out)
              go_wp2_with fail
              refine FL.out.mono ?_
              rintro e w9 ⟨rfl, hR9, hF9⟩
              have HR9 := hid hR9
              have HF9 := hid (HF8.out.trans hF9 (fun _ _ e => e))
              have HRB9 := hid (HRB.out.frm HF9.out (fun e => hrb2 e))
              clear hR9 hF9 FL c0 c1 c2 c3 f0 f1 f2 f3
              obtain ⟨r0, r1, r2, r3⟩ := blk4 HRB9.out
              have k0 := HRB9.out.free 0
              have k1 := HRB9.out.free 1
              have k2 := HRB9.out.free 2
              have k3 := HRB9.out.free 3
              have HZ := hid (put4_blk HRB9.out (.int .i64 0) (.string ⟨#[]⟩) (.slice none 0 0) (.slice none 0 0))
              have HQ := hid (show Rr (put4 w9 rb (.int .i64 0) (.string ⟨#[]⟩) (.slice none 0 0) (.slice none 0 0)) q l (j3) (2) ((j3 : Nat)) from put4_other HR9.out (Ne.symm hrb2) _ _ _ _)
              have HFZ := hid (put4_frm (Y := isQ q) (w := w) (b := rb) (X := w9) ((Frm.of_below (X := isQ q) HB1.out).trans HF9.out (fun _ _ e => e)) (Or.inr (by have := HRBE.out; omega)) (.int .i64 0) (.string ⟨#[]⟩) (.slice none 0 0) (.slice none 0 0))
              go_wp2
              try rw [Exit.noGoto_ret]
              refine bodyPost_ret (v := .agg #[.int .i64 0, .string ⟨#[]⟩, .slice none 0 0, .slice none 0 0]) (fail_ret (s := 2) rfl HZ.out Tryd.results91) rfl ?_
              exact ⟨.mk 0 [] [] [], none, none, 0, 0, 0, 0, 2, (j3 : Nat), j3, rfl, by omega, hj3, HQ.out, HFZ.out, Or.inr ⟨by decide, j3, hj3, rfl, HAN.out.symm.trans HE.out⟩⟩
            case neg =>
              have HE := hid (show ∃ m : Nat, m ≤ l.length ∧ P = m ∧ ANS = .err E (l.drop m) by
                rcases HM.out with ⟨h, _⟩ | ⟨_, h⟩
                · exact absurd h hE
                · exact h)
              have HNE := hid hE
              have FL := hid (rfail_old q l j3 E P 2 (j3 : Nat) hE w8 HR8.out)
              clear hE
              go_wp2_with fail
              refine FL.out.mono ?_
              rintro e w9 ⟨rfl, hR9, hF9⟩
              have HR9 := hid hR9
              have HF9 := hid (HF8.out.trans hF9 (fun _ _ e => e))
              have HRB9 := hid (HRB.out.frm HF9.out (fun e => hrb2 e))
              clear hR9 hF9 FL c0 c1 c2 c3 f0 f1 f2 f3
              obtain ⟨r0, r1, r2, r3⟩ := blk4 HRB9.out
              have k0 := HRB9.out.free 0
              have k1 := HRB9.out.free 1
              have k2 := HRB9.out.free 2
              have k3 := HRB9.out.free 3
              have HZ := hid (put4_blk HRB9.out (.int .i64 0) (.string ⟨#[]⟩) (.slice none 0 0) (.slice none 0 0))
              have HQ := hid (show Rr (put4 w9 rb (.int .i64 0) (.string ⟨#[]⟩) (.slice none 0 0) (.slice none 0 0)) q l (j3) (E) (P) from put4_other HR9.out (Ne.symm hrb2) _ _ _ _)
              have HFZ := hid (put4_frm (Y := isQ q) (w := w) (b := rb) (X := w9) ((Frm.of_below (X := isQ q) HB1.out).trans HF9.out (fun _ _ e => e)) (Or.inr (by have := HRBE.out; omega)) (.int .i64 0) (.string ⟨#[]⟩) (.slice none 0 0) (.slice none 0 0))
              go_wp2
              try rw [Exit.noGoto_ret]
              refine bodyPost_ret (v := .agg #[.int .i64 0, .string ⟨#[]⟩, .slice none 0 0, .slice none 0 0]) (fail_ret (s := 2) rfl HZ.out Tryd.results91) rfl ?_
              exact ⟨.mk 0 [] [] [], none, none, 0, 0, 0, 0, E, P, j3, rfl, by omega, hj3, HQ.out, HFZ.out, Or.inr ⟨HNE.out, HE.out.elim fun m h => ⟨m, h.1, h.2.1, HAN.out.symm.trans h.2.2⟩⟩⟩
          case true =>
            obtain ⟨hE, hj4, ⟨r9, hc9⟩, hR8⟩ := HRES.out.elim (fun h => by have := h.1; cases this) (fun h => h.2)
            have HC9 := hid hc9
            have HR8 := hid hR8
            have HE := hid (show E = 0 ∧ ANS = .ok (.mk 8 [] L []) (l.drop (j3 + 1)) by
              refine ⟨hE, ?_⟩
              rcases HM.out with ⟨_, m, _, h⟩ | ⟨h, _⟩
              · rw [← h]
                unfold notRest
                rw [← HD7.out, ← HDD8.out, hc9, (qdrop_get l j3 _ r9 hc9).2.2]
                rfl
              · exact absurd hE h)
            obtain ⟨nL, hnL⟩ : ∃ n, n = L.length := ⟨_, rfl⟩
            have HNL := hid hnL
            rw [← hnL] at HO8 hL0
            obtain ⟨vg, vc, hv, _, _⟩ := World.ownsRow.form HO8.out hL0
            subst hv
            have HRB8 := hid (HRB.out.frm HF8.out (fun e => hrb2 e))
            have HT8 := hid (show Hid (Asd (fun k => k < w1.heap.size) w8 (fun W => PtB W (.slice (some ⟨vg, 0, none⟩) nL vc) (.slice none 0 0) (.mk 8 [] L []))) from Asd.and (qown_asd (B := w1.heap.size) (by obtain ⟨h1, h2⟩ := HO8.out; exact ⟨h1, h2.elim Or.inl (fun ⟨g, cp, cur, e, hg, r⟩ => Or.inr ⟨g, cp, cur, e, by have := HSZ2.out; omega, r⟩)⟩) HNL.out) (Asd.all (X := fun k => k < w1.heap.size) (w := w8) (P := fun _ => True) fun _ => trivial) (R := fun W => PtB W (.slice (some ⟨vg, 0, none⟩) nL vc) (.slice none 0 0) (.mk 8 [] L [])) (fun W h1 _ => qptb_not h1 (fun x => by
              by_cases hi9 : x < L.length
              · have := HTX.out _ (List.getElem_mem hi9)
                rw [show L.getD x [] = L[x] by rw [List.getD, List.getElem?_eq_getElem hi9]; rfl]
                omega
              · rw [List.getD, List.getElem?_eq_none (by omega)]; exact Nat.zero_le _)))
            obtain ⟨p0, p1, p2, p3⟩ := blk4 HPB8.out
            clear hc9 hR8 hE HRES hnL
            obtain ⟨r0, r1, r2, r3⟩ := blk4 HRB8.out
            have k0 := HRB8.out.free 0
            have k1 := HRB8.out.free 1
            have k2 := HRB8.out.free 2
            have k3 := HRB8.out.free 3
            have HZ := hid (put4_blk HRB8.out (.int .i64 8) (.string ⟨#[]⟩) (.slice (some ⟨vg, 0, none⟩) nL vc) (.slice none 0 0))
            have HQ := hid (show Rr (put4 w8 rb (.int .i64 8) (.string ⟨#[]⟩) (.slice (some ⟨vg, 0, none⟩) nL vc) (.slice none 0 0)) q l (j3 + 1) (E) (P) from put4_other HR8.out (Ne.symm hrb2) _ _ _ _)
            have HFZ := hid (put4_frm (Y := isQ q) (w := w) (b := rb) (X := w8) ((Frm.of_below (X := isQ q) HB1.out).trans HF8.out (fun _ _ e => e)) (Or.inr (by have := HRBE.out; omega)) (.int .i64 8) (.string ⟨#[]⟩) (.slice (some ⟨vg, 0, none⟩) nL vc) (.slice none 0 0))
            have HPZ := hid (HT8.out.frm (Y := fun k => k = rb) (Z := fun k => k < w.heap.size) (put4_frm (Y := fun k => k = rb) (Frm.refl _ w8) (Or.inl rfl) (.int .i64 8) (.string ⟨#[]⟩) (.slice (some ⟨vg, 0, none⟩) nL vc) (.slice none 0 0)) (fun k _ e => (by have e : k = rb := e; show k < w1.heap.size; omega)) (fun k _ e => (by have := HRBE.out; have e : k < w.heap.size := e; show k < w1.heap.size; omega)))
            go_wp2
            try rw [Exit.noGoto_ret]
            refine bodyPost_ret (v := .agg #[.int .i64 8, .string ⟨#[]⟩, .slice (some ⟨vg, 0, none⟩) nL vc, .slice none 0 0]) (fail_ret (s := 2) rfl HZ.out Tryd.results91) rfl ?_
            exact ⟨.mk 8 [] L [], some ⟨vg, 0, none⟩, none, nL, vc, 0, 0, E, P, j3 + 1, rfl, by omega, hj4, HQ.out, HFZ.out, Or.inl ⟨HE.out.1, HAN.out.symm.trans HE.out.2, HPZ.out⟩⟩
        case true =>
          obtain ⟨hE, hj3, ⟨r9, hc9⟩, hR7⟩ := HRES.out.elim (fun h => by have := h.1; cases this) (fun h => h.2)
          subst hE
          have HR7 := hid hR7
          have HM2 := hid (show ∃ m, (l.drop j2).length < m ∧ Qp.notGo m L (l.drop j2) = ANS by
            rcases HM.out with ⟨_, m, h1, h⟩ | ⟨h, _⟩
            · refine ⟨m, by rw [List.length_drop] at h1 ⊢; omega, ?_⟩
              rw [← h]
              unfold notRest
              rw [← HD7.out, hc9]
              rfl
            · exact absurd rfl h)
          have HBW7 := hid (HBW1.out.trans (HF7.out.below HBW1.out.size (fun k hk e => by have e : k = q := e; omega)))
          obtain ⟨p0, p1, p2, p3⟩ := blk4 HPB7.out
          have C1 := hid (show L.length + 1 ≤ maxLen by unfold maxLen; omega)
          have C2 := hid (show (L.length + 1) * 16 ≤ 140737488355328 by omega)
          have ONE := hid (show ∀ (t : T), ∀ u ∈ [str t], u.oneCell' = true from fun t u hu => by
            simp only [List.mem_cons, List.not_mem_nil, or_false] at hu
            subst hu; rfl)
          have hs7 := HF7.out.size
          clear hc9 hR7 HRES HM
          go_upto_region 6 with fail
          have FD7 := hid (show Frm (isQ q) w7 w7.drew from (Frm.refl (isQ q) w7).drewN 1)
          have IR := rrIri_any W0 q l (j2 + 1) P w7.drew HR7.out hl hj3 HVV.out hq (below_drawn HBW7.out 1)
          unfold RIriPost at IR
          have IR := hid IR
          have C3 := hid (show ∀ (w8 : World) (o : Obj), Frm (isQ q) w7 w8 → w2.heap.size ≤ (w8.alloc o).heap.size from fun w8 o h => by have := h.size; have := HPB7.out.lt; have := HSZ2.out; have := HPBE.out; simp; omega)
          go_region_law
            (first
              | (go_simp; go_at_call 92; refine IR.out.mono ?_; rintro e w9 ⟨t, E, P9, j9, rfl, hij9, hj9, hR9, hF9, htl9, hres9⟩; have hF9 := FD7.out.trans hF9 (fun _ _ e => e); have HPB9 := hid (HPB7.out.frm hF9 (fun e => hpq e)); have HO9 := hid (qown_frm HO7.out hF9 (fun k hk e => by have e : k = q := e; have := HSZ2.out; omega)); have HR9 := hid hR9; have HF9 := hid (HF7.out.trans hF9 (fun _ _ e => e)); have HTL9 := hid htl9; have HRES9 := hid hres9; have x2 := HPB9.out.cell (i := 2) rfl; have hplt9 := HPB9.out.lt; have HFS9 := hid hF9; have HLT9 := hid (fun k e => (HO9.out.lt k e).1); clear hR9 hF9 htl9 hres9)
              | (refine step_append_lies _ (by rfl) (.tmp 41) (.tmp 44) 22 (by rfl) w2.heap.size 9 iS _ 1 16 Tryd.underlying22 hiS hzS hsS hbS rfl (by decide) v L.length (L.map str) (by rfl) (HO9.out.alloc _) ⟨w9.heap.size, 0, none⟩ 1 1 [str t] (by rfl) (by rfl) (World.news_of_block (cs := #[str t]) (t := 9) (fr := (0, 0)) (heap_alloc_new w9 _)) (ONE.out t) (Nat.one_pos) C1.out C2.out (C3.out _ _ HFS9.out) (w9.heap.size + 1) (by simp) ?_; intro g cap w10 hown hgr hat hlt; have hX := (HPB9.out.alloc (.cells #[str t] 9)).frm (grown_frm hgr) (fun e => by have := HLT9.out pb e.symm; have := HPBE.out; have := HSZ2.out; omega); have y2 := hX.cell (i := 2) rfl; have z2 := hX.free 2; have HX10 := hid hX; have HO10 := hid hown; have HG10 := hid hgr; clear hown hgr hat hlt hX)
              | fail)
          all_goals
            have hs9 := HF9.out.size
            have HTX9 := hid (show ∀ x ∈ L ++ [t], x.length ≤ l.length from fun x hx => (List.mem_append.1 hx).elim (HTX.out x) (fun h => by rw [List.mem_singleton.1 h]; exact HTL9.out))
            have HM9 := hid (show (E = 0 ∧ ∃ m, (l.drop j9).length < m ∧ notRest m (L ++ [t]) (l.drop j9) = ANS) ∨ (E ≠ 0 ∧ ∃ m : Nat, m ≤ l.length ∧ P9 = m ∧ ANS = .err E (l.drop m)) by
              obtain ⟨m, hm1, hm2⟩ := HM2.out
              have h0 : (l.drop j2).drop 1 = l.drop (j2 + 1) := by rw [List.drop_drop]
              cases m with
              | zero => omega
              | succ m =>
                rcases HRES9.out with ⟨h1, h2⟩ | ⟨h1, h2, h3, h4⟩
                · refine Or.inl ⟨h1, m, by rw [List.length_drop] at hm1 ⊢; omega, ?_⟩
                  rw [← hm2, notGo_rest _ _ _ t (l.drop j9) (by rw [h0]; exact h2)]
                · exact Or.inr ⟨by rw [h1]; decide, j9, hj9, h3, by rw [← hm2, notGo_err _ _ _ (l.drop j9) (by rw [h0]; exact h4), h1]⟩)
            obtain ⟨w11, hw11⟩ : ∃ w11, w11 = w10.setCell ⟨pb, 2, none⟩ (.slice (some ⟨g, 0, none⟩) (L.length + 1) cap) := ⟨_, rfl⟩
            have hal : Below w9.heap.size w9 (w9.alloc (.cells #[str t] 9)) := (Below.refl _ _).alloc (Nat.le_refl _) _
            have hg10 := grown_frm HG10.out
            have HR10 := hid (show Rr w10 q l j9 E P9 from Blk.frm (HR9.out.keep hal) hg10 (fun e => by have := HLT9.out q e.symm; have := HSZ2.out; omega))
            have HF10 := hid ((HF9.out.trans (Frm.of_below (X := isQ q) hal) (fun _ _ e => e)).trans hg10 (fun k hk e => by have := HLT9.out k e.symm; have := HSZ2.out; omega))
            have HR11 := hid (show Rr w11 q l j9 E P9 by rw [hw11]; exact Blk.other HR10.out (by omega) 2 _)
            have HF11 := hid (show Frm (isQ q) w1 w11 by rw [hw11]; exact HF10.out.set (Or.inr (by have := HPBE.out; omega)) 2 _)
            have HPB11 := hid (show Blk w11 pb [.int .i64 8, .string ⟨#[]⟩, .slice (some ⟨g, 0, none⟩) (L.length + 1) cap, .slice none 0 0] 25 by rw [hw11]; exact HX10.out.set 2 _)
            have HO11 := hid (show w11.ownsRow w2.heap.size 9 1 (.slice (some ⟨g, 0, none⟩) (L.length + 1) cap) (L ++ [t]).length ((L ++ [t]).map str) from by
              rw [List.length_append, List.map_append, hw11]
              exact qown_frm HO10.out (Frm.set (X := fun k => k = pb) (Frm.refl _ w10) (Or.inl rfl) 2 _) (fun k hk e => by have e : k = pb := e; have := HPBE.out; have := HSZ2.out; omega))
            rw [← hw11]
            clear hw11 hal hg10 y2 z2
            go_wp2
            go_roundg (l.length - j9 + 1)
            case measure => omega
            case rel => exact ⟨_, L ++ [t], E, P9, j9, by omega, hj9, Nat.le_refl _, by simp, by simp; omega, HR11.out, HF11.out, HPB11.out, HO11.out, HTX9.out, HM9.out⟩
end Go.Proofs.YtagmgkplfhlifaaDoor
