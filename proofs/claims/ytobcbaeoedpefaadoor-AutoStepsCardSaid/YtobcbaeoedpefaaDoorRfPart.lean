/- The document's automaton: the parts of a path. -/
import Derived.Test.YtobcbaeoedpefaaDoorRfPlace
namespace Go.Proofs.YtobcbaeoedpefaaDoor
set_option linter.unusedVariables false
set_option linter.unusedSimpArgs false
set_option maxRecDepth 100000
open Go.ChangeShapes Go.WideShapes Go.ChangeAt Go.RowKit
open Au
/-- What lies in WB's cells lies there, and is not touched. -/
def Held (WB : World) (Y : Nat → Prop) (p : Nat) (av lv : Value) (w : World) : Prop := ∀ b o x, WB.cell? ⟨b, o, none⟩ = some x → w.cell? ⟨b, o, none⟩ = some x ∧ ¬ Mv Y p av lv b
theorem Held.stpd {WB : World} {Y : Nat → Prop} {p : Nat} {a b a' b' : Value} {w w1 : World} (h : Held WB Y p a a' w) (hs : Stpd p a a' w b b' w1) : Held WB Y p b b' w1 := fun k o x e => by
  obtain ⟨h1, h2⟩ := h k o x e
  exact ⟨hs.1.cell (fun e => h2 e.no) h1, fun e => h2 (hs.y k (lt_of_cell h1) e)⟩
theorem Held.more {WB : World} {Y Z : Nat → Prop} {p : Nat} {av lv : Value} {w : World} (h : Held WB Y p av lv w) (hZ : ∀ k, Z k → Y k ∨ w.heap.size ≤ k) : Held WB Z p av lv w := fun k o x e => by
  obtain ⟨h1, h2⟩ := h k o x e
  have hl := lt_of_cell h1
  refine ⟨h1, fun e => h2 ?_⟩
  rcases e with e | e | e | e
  · exact Or.inl e
  · exact Or.inr (Or.inl e)
  · exact Or.inr (Or.inr (Or.inl e))
  · exact (hZ k e).elim (fun y => Or.inr (Or.inr (Or.inr y))) (fun y => by omega)
theorem Held.asdT {WB : World} {Y : Nat → Prop} {p : Nat} {av lv : Value} {w : World} {v : Value} {L : List T} (h : Held WB Y p av lv w) (hT : TextsAt WB v L) : Asd (Mv Y p av lv) w (fun W => TextsAt W v L) := fun W hW => by
  obtain ⟨a, cap, hv, h1, h2, h3, h4⟩ := hT
  refine ⟨a, cap, hv, h1, h2, h3, ?_⟩
  rcases h4 with h4 | ⟨b, off, hab, hc⟩
  · exact Or.inl h4
  · refine Or.inr ⟨b, off, hab, fun i hi => ?_⟩
    obtain ⟨k1, k2⟩ := h _ _ _ (hc i hi)
    rw [← k1]
    exact cell_heap (hW b (lt_of_cell k1) k2)
theorem Held.row4 {WB : World} {Y : Nat → Prop} {p : Nat} {av lv : Value} {w : World} {b o : Nat} {x : Pt} {v u : Value} (h : Held WB Y p av lv w) (hr : Row4 WB b o x v u) : Row4 w b o x v u :=
  ⟨(h _ _ _ hr.1).1, (h _ _ _ hr.2.1).1, (h _ _ _ hr.2.2.1).1, (h _ _ _ hr.2.2.2).1⟩
/-- What part leaves. -/
def PartPost (B : Nat) (Y : Nat → Prop) (w : World) (p : Nat) (av lv : Value) (ls : List Lb) (ps : List (Nat × Nat)) (r : Rx) (e : Ending) (w' : World) : Prop :=
  ∃ fv lsv av' lv' lxs', e = .returned (.tuple #[.agg #[.bool r.emp, fv, lsv], lv']) ∧ RsAt B Y w' p av' lv' lxs' (ls ++ r.labs) (ps ++ r.pairsL (ls.length + 1)) ∧ Stpd p av lv w av' lv' w' ∧ NsX (Mv Y p av' lv') w' fv (r.firstL (ls.length + 1)) ∧ NsX (Mv Y p av' lv') w' lsv (r.lastL (ls.length + 1))
def PartOk (r : Rx) : Prop := ∀ (B : Nat) (WB w : World) (Y : Nat → Prop) (p : Nat) (v u av lv : Value) (lxs : List Value) (ls : List Lb) (ps : List (Nat × Nat)), PtAt WB v u r.toPt → Held WB Y p av lv w → RsAt B Y w p av lv lxs ls ps → (∀ k, Y k → k < w.heap.size) → B ≤ w.heap.size →
  r.n ≤ 30 → ls.length + r.n ≤ 1000 → ps.length + r.sz * 900 ≤ 100000 → Calls Tryd.prog 32 #[.pointer (some ⟨p, 0, none⟩), pv r.toPt v u, lv] w (PartPost B Y w p av lv ls ps r)
theorem NsX.more {Y Z : Nat → Prop} {p : Nat} {av lv : Value} {w : World} {v : Value} {L : List Nat} (h : NsX (Mv Y p av lv) w v L) (hZ : ∀ k, Z k → Y k ∨ w.heap.size ≤ k) : NsX (Mv Z p av lv) w v L := Asd.frm h (Frm.refl (fun _ => False) w) (fun _ _ e => e.elim) (fun k hk e => by
  rcases e with e | e | e | e
  · exact Or.inl e
  · exact Or.inr (Or.inl e)
  · exact Or.inr (Or.inr (Or.inl e))
  · exact (hZ k e).elim (fun y => Or.inr (Or.inr (Or.inr y))) (fun x => by omega))
theorem tup_ret {fn : Func} {tmps : Array Value} {Z : World} {b s s2 : Nat} {v0 v1 v2 : Value} (ht : tmps.getD s undef = .pointer (some ⟨b, 0, none⟩)) (hZ : Blk Z b [v0, v1, v2] 68) (hf : fn.results = #[.cell s 68, .tmp s2]) :
    (results fn tmps).run Tryd.prog Z = .ok (.tuple #[.agg #[v0, v1, v2], tmps.getD s2 undef]) Z := by
  have h0 := hZ.cell (i := 0) rfl
  have h1 := hZ.cell (i := 1) rfl
  have h2 := hZ.cell (i := 2) rfl
  have ht' : tmps[s]?.getD undef = .pointer (some ⟨b, 0, none⟩) := by simpa using ht
  simp [results, hf, ht', go_sem, h0, h1, h2]
/-- The end of part: the answer is stored into its block. -/
theorem part_end {B : Nat} {Y : Nat → Prop} {w w3 : World} {p b : Nat} {av lv av' lv' : Value} {lxs : List Value} {ls : List Lb} {ps : List (Nat × Nat)} {fv lsv x0 x1 x2 : Value} {F L : List Nat} {e : Bool} (hb : w.heap.size ≤ b)
    (hA : RsAt B (fun k => Y k ∨ k = b) w3 p av' lv' lxs ls ps) (hS : Stpd p av lv w av' lv' w3) (hF : NsX (Mv (fun k => Y k ∨ k = b) p av' lv') w3 fv F) (hL : NsX (Mv (fun k => Y k ∨ k = b) p av' lv') w3 lsv L) (hR : Blk w3 b [x0, x1, x2] 68) :
    Blk (((w3.setCell ⟨b, 0, none⟩ (.bool e)).setCell ⟨b, 1, none⟩ fv).setCell ⟨b, 2, none⟩ lsv) b [.bool e, fv, lsv] 68 ∧ RsAt B Y (((w3.setCell ⟨b, 0, none⟩ (.bool e)).setCell ⟨b, 1, none⟩ fv).setCell ⟨b, 2, none⟩ lsv) p av' lv' lxs ls ps ∧
      Stpd p av lv w av' lv' (((w3.setCell ⟨b, 0, none⟩ (.bool e)).setCell ⟨b, 1, none⟩ fv).setCell ⟨b, 2, none⟩ lsv) ∧ NsX (Mv Y p av' lv') (((w3.setCell ⟨b, 0, none⟩ (.bool e)).setCell ⟨b, 1, none⟩ fv).setCell ⟨b, 2, none⟩ lsv) fv F ∧ NsX (Mv Y p av' lv') (((w3.setCell ⟨b, 0, none⟩ (.bool e)).setCell ⟨b, 1, none⟩ fv).setCell ⟨b, 2, none⟩ lsv) lsv L := by
  have hf : Frm (fun k => k = b) w3 (((w3.setCell ⟨b, 0, none⟩ (.bool e)).setCell ⟨b, 1, none⟩ fv).setCell ⟨b, 2, none⟩ lsv) := Frm.set (X := fun k => k = b) (Frm.set (X := fun k => k = b) (Frm.set (X := fun k => k = b) (Frm.refl _ _) (Or.inl rfl) _ _) (Or.inl rfl) _ _) (Or.inl rfl) _ _
  have hm : ∀ k, Y k → (Y k ∨ k = b) ∨ (((w3.setCell ⟨b, 0, none⟩ (.bool e)).setCell ⟨b, 1, none⟩ fv).setCell ⟨b, 2, none⟩ lsv).heap.size ≤ k := fun k y => Or.inl (Or.inl y)
  have key : ∀ {P : World → Prop}, Asd (Mv (fun k => Y k ∨ k = b) p av' lv') w3 P → Asd (Mv (fun k => Y k ∨ k = b) p av' lv') (((w3.setCell ⟨b, 0, none⟩ (.bool e)).setCell ⟨b, 1, none⟩ fv).setCell ⟨b, 2, none⟩ lsv) P := fun h => h.frm hf (fun k _ x => Or.inr (Or.inr (Or.inr (Or.inr x)))) (fun _ _ x => x)
  exact ⟨((hR.set 0 _).set 1 _).set 2 _, (hA.frm hf (fun k _ x => Or.inr x)).more hm, hS.own hf (fun k x => by omega), NsX.more (key hF) hm, NsX.more (key hL) hm⟩
set_option maxHeartbeats 4000000 in
theorem part_iri_false (t : T) : PartOk (.leaf ⟨false, false, [t]⟩) := by
  intro B WB w Y p v u av lv lxs ls ps hP hH h hY hB h30 hln hps
  rw [Rx.n_leaf] at h30 hln
  have htp : (Rx.leaf ⟨false, false, [t]⟩).toPt = .mk 1 t [] [] := rfl
  rw [htp] at hP ⊢
  obtain ⟨a, n, c, a', n', c', rfl, rfl⟩ := pv_open hP
  unfold pv
  simp only [Pt.kind, Pt.text]
  obtain ⟨w1, hw1⟩ : ∃ w1, w1 = (w.alloc (.cells #[.int .i64 1, str t, .slice a n c, .slice a' n' c'] 25)).alloc (.cells #[.bool false, .slice none 0 0, .slice none 0 0] 68) := ⟨_, rfl⟩
  have hz1 : w1.heap.size = w.heap.size + 2 := by rw [hw1]; simp
  have hb1 : Below w.heap.size w w1 := by rw [hw1]; exact ((Below.refl _ _).alloc (Nat.le_refl _) _).alloc (by simp) _
  have hX : Blk w1 w.heap.size [.int .i64 1, str t, .slice a n c, .slice a' n' c'] 25 := by rw [hw1]; exact (Blk.new w _ _).alloc _
  have hR : Blk w1 (w.heap.size + 1) [.bool false, .slice none 0 0, .slice none 0 0] 68 := by rw [hw1]; exact Blk.new' (by simp) rfl
  have hm1 : ∀ k, (Y k ∨ k = w.heap.size + 1) → Y k ∨ w.heap.size ≤ k := fun k e => e.elim Or.inl (fun e => Or.inr (by omega))
  have h1 := (h.more hm1).keep hb1
  have hH1 := (hH.more hm1).stpd (Stpd.below p av lv hb1)
  have hY1 : ∀ k, (Y k ∨ k = w.heap.size + 1) → k < w1.heap.size := fun k e => by rcases e with e | e; (have := hY k e; omega); omega
  have hB1 : B ≤ w1.heap.size := by omega
  obtain ⟨c0, c1, c2, c3⟩ := blk4 hX
  obtain ⟨r0, r1, r2, f0, f1, f2⟩ := blk3v hR
  have C := place_iri t false a a' n c n' c' h1 hY1 (by omega) hB1
  unfold PlPost at C
  have C := hid C
  have HB1 := hid hb1
  have HR := hid hR
  have HML := hid h.mv_lt
  clear hb1 hX hR hm1 h1 hH1 hY1 hB1 hP hH h hY htp
  go_enter Tryd.func32, Tryd.ntmps32
  go_upto_region 1 with fail
  rw [← hw1]
  clear hw1
  go_wp2_with fail
  refine C.out.mono ?_
  rintro e w3 ⟨fv, lsv, av', lxs', rfl, hA, hS, hF, hL⟩
  obtain ⟨fa, fc, rfl, _⟩ := NsX.lenx hF
  obtain ⟨la, lc, rfl, _⟩ := NsX.lenx hL
  have hR3 := HR.out.frm hS.1 (fun e => by have := HML.out _ e; omega)
  obtain ⟨r0, r1, r2, f0, f1, f2⟩ := blk3v hR3
  have HE := hid (part_end (Y := Y) (e := false) (Nat.le_succ w.heap.size) hA ((Stpd.below p av lv HB1.out).trans hS) hF hL hR3)
  clear hA hS hF hL hR3
  go_wp2
  obtain ⟨e1, e2, e3, e4, e5⟩ := HE.out
  exact bodyPost_ret (tup_ret (s := 6) (s2 := 7) rfl e1 Tryd.results32) rfl ⟨_, _, _, _, _, rfl, by simpa [Rx.pairsL, Rx.labs] using e2, e3, e4, e5⟩
set_option maxHeartbeats 4000000 in
theorem part_iri_true (t : T) : PartOk (.leaf ⟨true, false, [t]⟩) := by
  intro B WB w Y p v u av lv lxs ls ps hP hH h hY hB h30 hln hps
  rw [Rx.n_leaf] at h30 hln
  have htp : (Rx.leaf ⟨true, false, [t]⟩).toPt = .mk 2 [] [] [.mk 1 t [] []] := rfl
  rw [htp] at hP ⊢
  obtain ⟨_, _, hLt, hLl, ak, capk, bb, off, f, g, hgi, q1, q2, q3, q4, hrow, hkid⟩ := hP.open
  obtain ⟨a, c, hfi, _⟩ := hLt.open
  subst hfi
  rw [hgi]
  unfold pv
  simp only [Pt.kind, Pt.text, Pt.kids, Pt.texts, List.length_nil, List.length_cons, Nat.zero_add] at q1 q3 q4 hrow hkid hgi ⊢
  obtain rfl := q4 (by omega)
  obtain ⟨w1, hw1⟩ : ∃ w1, w1 = (w.alloc (.cells #[.int .i64 2, .string ⟨#[]⟩, .slice a 0 c, .slice (some ⟨bb, off, none⟩) 1 capk] 25)).alloc (.cells #[.bool false, .slice none 0 0, .slice none 0 0] 68) := ⟨_, rfl⟩
  have hz1 : w1.heap.size = w.heap.size + 2 := by rw [hw1]; simp
  have hb1 : Below w.heap.size w w1 := by rw [hw1]; exact ((Below.refl _ _).alloc (Nat.le_refl _) _).alloc (by simp) _
  have hX : Blk w1 w.heap.size [.int .i64 2, .string ⟨#[]⟩, .slice a 0 c, .slice (some ⟨bb, off, none⟩) 1 capk] 25 := by rw [hw1]; exact (Blk.new w _ _).alloc _
  have hR : Blk w1 (w.heap.size + 1) [.bool false, .slice none 0 0, .slice none 0 0] 68 := by rw [hw1]; exact Blk.new' (by simp) rfl
  have hm1 : ∀ k, (Y k ∨ k = w.heap.size + 1) → Y k ∨ w.heap.size ≤ k := fun k e => e.elim Or.inl (fun e => Or.inr (by omega))
  have h1 := (h.more hm1).keep hb1
  have hH1 := (hH.more hm1).stpd (Stpd.below p av lv hb1)
  have hY1 : ∀ k, (Y k ∨ k = w.heap.size + 1) → k < w1.heap.size := fun k e => by rcases e with e | e; (have := hY k e; omega); omega
  have hB1 : B ≤ w1.heap.size := by omega
  obtain ⟨c0, c1, c2, c3⟩ := blk4 hX
  obtain ⟨r0, r1, r2, f0, f1, f2⟩ := blk3v hR
  have hr := hH1.row4 (hrow 0 (by simp))
  have hk := hkid 0 (by simp)
  simp only [List.getElem_cons_zero, Nat.zero_mul, Nat.add_zero] at hr hk
  obtain ⟨a1, n1, e1, a2, n2, e2, hv1, hu1⟩ := pv_open hk
  rw [hv1, hu1] at hr hk
  obtain ⟨z0, z1, z2, z3⟩ := hr
  simp only [Pt.kind, Pt.text] at z0 z1
  have C := place_iri t true a1 a2 n1 e1 n2 e2 h1 hY1 (by omega) hB1
  unfold PlPost at C
  have C := hid C
  have HB1 := hid hb1
  have HR := hid hR
  have HML := hid h.mv_lt
  clear hb1 hX hR hm1 h1 hH1 hY1 hB1 hP hH h hY htp hk hrow hkid hgi hLl hLt q1 q3 hv1 hu1
  go_enter Tryd.func32, Tryd.ntmps32
  go_upto_region 1 with fail
  rw [← hw1]
  clear hw1
  go_wp2_with fail
  refine C.out.mono ?_
  rintro e w3 ⟨fv, lsv, av', lxs', rfl, hA, hS, hF, hL⟩
  obtain ⟨fa, fc, rfl, _⟩ := NsX.lenx hF
  obtain ⟨la, lc, rfl, _⟩ := NsX.lenx hL
  have hR3 := HR.out.frm hS.1 (fun e => by have := HML.out _ e; omega)
  obtain ⟨r0, r1, r2, f0, f1, f2⟩ := blk3v hR3
  have HE := hid (part_end (Y := Y) (e := false) (Nat.le_succ w.heap.size) hA ((Stpd.below p av lv HB1.out).trans hS) hF hL hR3)
  clear hA hS hF hL hR3
  go_wp2
  obtain ⟨e1, e2, e3, e4, e5⟩ := HE.out
  exact bodyPost_ret (tup_ret (s := 6) (s2 := 7) rfl e1 Tryd.results32) rfl ⟨_, _, _, _, _, rfl, by simpa [Rx.pairsL, Rx.labs] using e2, e3, e4, e5⟩
set_option maxHeartbeats 4000000 in
theorem part_not_false (L : List T) : PartOk (.leaf ⟨false, true, L⟩) := by
  intro B WB w Y p v u av lv lxs ls ps hP hH h hY hB h30 hln hps
  rw [Rx.n_leaf] at h30 hln
  have htp : (Rx.leaf ⟨false, true, L⟩).toPt = .mk 8 [] L [] := rfl
  rw [htp] at hP ⊢
  obtain ⟨a, n, c, a', n', c', rfl, rfl⟩ := pv_open hP
  unfold pv
  simp only [Pt.kind, Pt.text]
  obtain ⟨w1, hw1⟩ : ∃ w1, w1 = (w.alloc (.cells #[.int .i64 8, .string ⟨#[]⟩, .slice a n c, .slice a' n' c'] 25)).alloc (.cells #[.bool false, .slice none 0 0, .slice none 0 0] 68) := ⟨_, rfl⟩
  have hz1 : w1.heap.size = w.heap.size + 2 := by rw [hw1]; simp
  have hb1 : Below w.heap.size w w1 := by rw [hw1]; exact ((Below.refl _ _).alloc (Nat.le_refl _) _).alloc (by simp) _
  have hX : Blk w1 w.heap.size [.int .i64 8, .string ⟨#[]⟩, .slice a n c, .slice a' n' c'] 25 := by rw [hw1]; exact (Blk.new w _ _).alloc _
  have hR : Blk w1 (w.heap.size + 1) [.bool false, .slice none 0 0, .slice none 0 0] 68 := by rw [hw1]; exact Blk.new' (by simp) rfl
  have hm1 : ∀ k, (Y k ∨ k = w.heap.size + 1) → Y k ∨ w.heap.size ≤ k := fun k e => e.elim Or.inl (fun e => Or.inr (by omega))
  have h1 := (h.more hm1).keep hb1
  have hH1 := (hH.more hm1).stpd (Stpd.below p av lv hb1)
  have hY1 : ∀ k, (Y k ∨ k = w.heap.size + 1) → k < w1.heap.size := fun k e => by rcases e with e | e; (have := hY k e; omega); omega
  have hB1 : B ≤ w1.heap.size := by omega
  obtain ⟨c0, c1, c2, c3⟩ := blk4 hX
  obtain ⟨r0, r1, r2, f0, f1, f2⟩ := blk3v hR
  have hTX := hH1.asdT hP.open.2.2.1
  have C := place_not L false a a' n c n' c' h1 hY1 (by omega) hB1 hTX
  unfold PlPost at C
  have C := hid C
  have HB1 := hid hb1
  have HR := hid hR
  have HML := hid h.mv_lt
  clear hb1 hX hR hm1 h1 hH1 hY1 hB1 hP hH h hY htp hTX
  go_enter Tryd.func32, Tryd.ntmps32
  go_upto_region 1 with fail
  rw [← hw1]
  clear hw1
  go_wp2_with fail
  refine C.out.mono ?_
  rintro e w3 ⟨fv, lsv, av', lxs', rfl, hA, hS, hF, hL⟩
  obtain ⟨fa, fc, rfl, _⟩ := NsX.lenx hF
  obtain ⟨la, lc, rfl, _⟩ := NsX.lenx hL
  have hR3 := HR.out.frm hS.1 (fun e => by have := HML.out _ e; omega)
  obtain ⟨r0, r1, r2, f0, f1, f2⟩ := blk3v hR3
  have HE := hid (part_end (Y := Y) (e := false) (Nat.le_succ w.heap.size) hA ((Stpd.below p av lv HB1.out).trans hS) hF hL hR3)
  clear hA hS hF hL hR3
  go_wp2
  obtain ⟨e1, e2, e3, e4, e5⟩ := HE.out
  exact bodyPost_ret (tup_ret (s := 6) (s2 := 7) rfl e1 Tryd.results32) rfl ⟨_, _, _, _, _, rfl, by simpa [Rx.pairsL, Rx.labs] using e2, e3, e4, e5⟩
set_option maxHeartbeats 4000000 in
theorem part_not_true (L : List T) : PartOk (.leaf ⟨true, true, L⟩) := by
  intro B WB w Y p v u av lv lxs ls ps hP hH h hY hB h30 hln hps
  rw [Rx.n_leaf] at h30 hln
  have htp : (Rx.leaf ⟨true, true, L⟩).toPt = .mk 2 [] [] [.mk 8 [] L []] := rfl
  rw [htp] at hP ⊢
  obtain ⟨_, _, hLt, hLl, ak, capk, bb, off, f, g, hgi, q1, q2, q3, q4, hrow, hkid⟩ := hP.open
  obtain ⟨a, c, hfi, _⟩ := hLt.open
  subst hfi
  rw [hgi]
  unfold pv
  simp only [Pt.kind, Pt.text, Pt.kids, Pt.texts, List.length_nil, List.length_cons, Nat.zero_add] at q1 q3 q4 hrow hkid hgi ⊢
  obtain rfl := q4 (by omega)
  obtain ⟨w1, hw1⟩ : ∃ w1, w1 = (w.alloc (.cells #[.int .i64 2, .string ⟨#[]⟩, .slice a 0 c, .slice (some ⟨bb, off, none⟩) 1 capk] 25)).alloc (.cells #[.bool false, .slice none 0 0, .slice none 0 0] 68) := ⟨_, rfl⟩
  have hz1 : w1.heap.size = w.heap.size + 2 := by rw [hw1]; simp
  have hb1 : Below w.heap.size w w1 := by rw [hw1]; exact ((Below.refl _ _).alloc (Nat.le_refl _) _).alloc (by simp) _
  have hX : Blk w1 w.heap.size [.int .i64 2, .string ⟨#[]⟩, .slice a 0 c, .slice (some ⟨bb, off, none⟩) 1 capk] 25 := by rw [hw1]; exact (Blk.new w _ _).alloc _
  have hR : Blk w1 (w.heap.size + 1) [.bool false, .slice none 0 0, .slice none 0 0] 68 := by rw [hw1]; exact Blk.new' (by simp) rfl
  have hm1 : ∀ k, (Y k ∨ k = w.heap.size + 1) → Y k ∨ w.heap.size ≤ k := fun k e => e.elim Or.inl (fun e => Or.inr (by omega))
  have h1 := (h.more hm1).keep hb1
  have hH1 := (hH.more hm1).stpd (Stpd.below p av lv hb1)
  have hY1 : ∀ k, (Y k ∨ k = w.heap.size + 1) → k < w1.heap.size := fun k e => by rcases e with e | e; (have := hY k e; omega); omega
  have hB1 : B ≤ w1.heap.size := by omega
  obtain ⟨c0, c1, c2, c3⟩ := blk4 hX
  obtain ⟨r0, r1, r2, f0, f1, f2⟩ := blk3v hR
  have hr := hH1.row4 (hrow 0 (by simp))
  have hk := hkid 0 (by simp)
  simp only [List.getElem_cons_zero, Nat.zero_mul, Nat.add_zero] at hr hk
  obtain ⟨a1, n1, e1, a2, n2, e2, hv1, hu1⟩ := pv_open hk
  rw [hv1, hu1] at hr hk
  obtain ⟨z0, z1, z2, z3⟩ := hr
  simp only [Pt.kind, Pt.text] at z0 z1
  have hTX := hH1.asdT hk.open.2.2.1
  have C := place_not L true a1 a2 n1 e1 n2 e2 h1 hY1 (by omega) hB1 hTX
  unfold PlPost at C
  have C := hid C
  have HB1 := hid hb1
  have HR := hid hR
  have HML := hid h.mv_lt
  clear hb1 hX hR hm1 h1 hH1 hY1 hB1 hP hH h hY htp hk hrow hkid hgi hLl hLt q1 q3 hv1 hu1 hTX
  go_enter Tryd.func32, Tryd.ntmps32
  go_upto_region 1 with fail
  rw [← hw1]
  clear hw1
  go_wp2_with fail
  refine C.out.mono ?_
  rintro e w3 ⟨fv, lsv, av', lxs', rfl, hA, hS, hF, hL⟩
  obtain ⟨fa, fc, rfl, _⟩ := NsX.lenx hF
  obtain ⟨la, lc, rfl, _⟩ := NsX.lenx hL
  have hR3 := HR.out.frm hS.1 (fun e => by have := HML.out _ e; omega)
  obtain ⟨r0, r1, r2, f0, f1, f2⟩ := blk3v hR3
  have HE := hid (part_end (Y := Y) (e := false) (Nat.le_succ w.heap.size) hA ((Stpd.below p av lv HB1.out).trans hS) hF hL hR3)
  clear hA hS hF hL hR3
  go_wp2
  obtain ⟨e1, e2, e3, e4, e5⟩ := HE.out
  exact bodyPost_ret (tup_ret (s := 6) (s2 := 7) rfl e1 Tryd.results32) rfl ⟨_, _, _, _, _, rfl, by simpa [Rx.pairsL, Rx.labs] using e2, e3, e4, e5⟩
/-- Pairs are put in. -/
theorem RsAt.pairs {B : Nat} {Y : Nat → Prop} {w w' : World} {p : Nat} {av lv lv' : Value} {lxs : List Value} {ls : List Lb} {ps ps' : List (Nat × Nat)} (h : RsAt B Y w p av lv lxs ls ps) (hl : w'.ownsRow B 74 2 lv' ps'.length (fl2 ps')) (hp : PrM w lv lv' w') (hY : ∀ k, Y k → k < w.heap.size) :
    RsAt B Y w' p av lv' lxs ls ps' ∧ Stpd p av lv w av lv' w' := by
  have hS : Stpd p av lv w av lv' w' := by
    refine ⟨hp.1.weaken (fun k _ e => Or.inr (Or.inr (Or.inl e))), fun k hk e => ?_⟩
    rcases e with e | e | e | e
    · exact Or.inl e
    · exact Or.inr (Or.inl e)
    · rcases hp.2 with h2 | ⟨j, h2, h3⟩
      · exact Or.inr (Or.inr (Or.inl (by rw [← h2]; exact e)))
      · rw [h2] at e; have := Option.some.inj e; omega
    · exact e.elim
  have own' : ∀ k, lv'.ownBlock = some k → lv.ownBlock = some k ∨ w.heap.size ≤ k := fun k e => by
    rcases hp.2 with h2 | ⟨j, h2, h3⟩
    · exact Or.inl (by rw [← h2]; exact e)
    · rw [h2] at e; have := Option.some.inj e; exact Or.inr (by omega)
  refine ⟨{
    blk := h.blk.frm hp.1 (fun e => h.pl e)
    aown := own_frmg h.aown hp.1 (fun k e x => h.al k e x)
    lown := hl
    pB := h.pB
    pa := h.pa
    pl := fun e => (own' p e).elim h.pl (fun x => by have := h.blk.lt; omega)
    al := fun k e x => (own' k x).elim (h.al k e) (fun y => by have := (h.aown.lt k e).2; omega)
    yp := h.yp
    ya := h.ya
    yl := fun k e y => (own' k e).elim (fun x => h.yl k x y) (fun x => by have := hY k y; omega)
    labs := fun j hj => by
      obtain ⟨a, n, c, h1, h2, h3, h4, h5, h6⟩ := h.labs j hj
      exact ⟨a, n, c, h1, h2, h3, h4, h5, h6.stpd hS⟩ }, hS⟩
theorem NsX.lown {Y : Nat → Prop} {p : Nat} {av lv : Value} {w : World} {v : Value} {L : List Nat} (h : NsX (Mv Y p av lv) w v L) : NsX (fun k => lv.ownBlock = some k) w v L := Asd.frm h (Frm.refl (fun _ => False) w) (fun _ _ e => e.elim) (fun k _ e => Or.inr (Or.inr (Or.inl e)))
theorem Blk.other3 {w : World} {b c : Nat} {A : List Value} {t : TypeId} (h : Blk w b A t) (hc : b ≠ c) (x y z : Value) : Blk (((w.setCell ⟨c, 0, none⟩ x).setCell ⟨c, 1, none⟩ y).setCell ⟨c, 2, none⟩ z) b A t := ((h.other hc 0 x).other hc 1 y).other hc 2 z
theorem Frm.blkn {X : Nat → Prop} {w w' : World} (hf : Frm X w w') {b : Nat} {A : List Value} {t : TypeId} (h : Blk w b A t) (hx : ¬ X b) : Blk w' b A t := h.frm hf hx
set_option maxHeartbeats 8000000 in
theorem part_star (r : Rx) (IH : PartOk r) : PartOk (.star r) := by
  intro B WB w Y p v u av lv lxs ls ps hP hH h hY hB h30 hln hps
  have htp : (Rx.star r).toPt = .mk 5 [] [] [r.toPt] := rfl
  rw [htp] at hP ⊢
  obtain ⟨_, _, hLt, hLl, ak, capk, bb, off, f, g, hgi, q1, q2, q3, q4, hrow, hkid⟩ := hP.open
  obtain ⟨a, c, hfi, _⟩ := hLt.open
  subst hfi
  rw [hgi]
  unfold pv
  simp only [Pt.kind, Pt.text, Pt.kids, Pt.texts, List.length_nil, List.length_cons, Nat.zero_add] at q1 q3 q4 hrow hkid hgi ⊢
  obtain rfl := q4 (by omega)
  obtain ⟨w1, hw1⟩ : ∃ w1, w1 = (w.alloc (.cells #[.int .i64 5, .string ⟨#[]⟩, .slice a 0 c, .slice (some ⟨bb, off, none⟩) 1 capk] 25)).alloc (.cells #[.bool false, .slice none 0 0, .slice none 0 0] 68) := ⟨_, rfl⟩
  have hz1 : w1.heap.size = w.heap.size + 2 := by rw [hw1]; simp
  have hb1 : Below w.heap.size w w1 := by rw [hw1]; exact ((Below.refl _ _).alloc (Nat.le_refl _) _).alloc (by simp) _
  have hX : Blk w1 w.heap.size [.int .i64 5, .string ⟨#[]⟩, .slice a 0 c, .slice (some ⟨bb, off, none⟩) 1 capk] 25 := by rw [hw1]; exact (Blk.new w _ _).alloc _
  have hR : Blk w1 (w.heap.size + 1) [.bool false, .slice none 0 0, .slice none 0 0] 68 := by rw [hw1]; exact Blk.new' (by simp) rfl
  have hm1 : ∀ k, (Y k ∨ k = w.heap.size + 1) → Y k ∨ w.heap.size ≤ k := fun k e => e.elim Or.inl (fun e => Or.inr (by omega))
  have h1 := (h.more hm1).keep hb1
  have hH1 := (hH.more hm1).stpd (Stpd.below p av lv hb1)
  have hY1 : ∀ k, (Y k ∨ k = w.heap.size + 1) → k < w1.heap.size := fun k e => by rcases e with e | e; (have := hY k e; omega); omega
  have hB1 : B ≤ w1.heap.size := by omega
  obtain ⟨c0, c1, c2, c3⟩ := blk4 hX
  obtain ⟨r0, r1, r2, f0, f1, f2⟩ := blk3v hR
  rw [Rx.n_star] at h30 hln
  simp only [Rx.sz] at hps
  have hr := hH1.row4 (hrow 0 (by simp))
  have hk := hkid 0 (by simp)
  simp only [List.getElem_cons_zero, Nat.zero_mul, Nat.add_zero] at hr hk
  obtain ⟨a1, n1, e1, a2, n2, e2, hv1, hu1⟩ := pv_open hk
  rw [hv1, hu1] at hr hk
  obtain ⟨z0, z1, z2, z3⟩ := hr
  have C := IH B WB w1 _ p _ _ av lv lxs ls ps hk hH1 h1 hY1 hB1 h30 hln (by omega)
  obtain ⟨em, hem⟩ : ∃ em, em = r.emp := ⟨_, rfl⟩
  unfold PartPost pv at C
  rw [← hem] at C
  have C := hid C
  have HEM := hid hem
  have HB1 := hid hb1
  have HR := hid hR
  have HX := hid hX
  have HML := hid h.mv_lt
  have HY1 := hid hY1
  have HB1' := hid hB1
  have HPS := hid (show ps.length + (r.pairsL (ls.length + 1)).length + (r.lastL (ls.length + 1)).length * (r.firstL (ls.length + 1)).length ≤ 1000000 from by
    have e1 := Rx.pairsL_len (N := 30) r (ls.length + 1) h30
    have e2 := Rx.lastL_len r (ls.length + 1)
    have e3 := Rx.firstL_len r (ls.length + 1)
    have e4 : (r.lastL (ls.length + 1)).length * (r.firstL (ls.length + 1)).length ≤ 30 * 30 := Nat.mul_le_mul (by omega) (by omega)
    omega)
  clear hb1 hX hR hm1 h1 hH1 hY1 hB1 hP hH h hY htp hk hrow hkid hgi hLl hLt q1 q3 hv1 hu1 hem IH hps
  have hz := hid hz1
  cases em
  case false =>
    go_enter Tryd.func32, Tryd.ntmps32
    go_upto_region 1 with fail
    rw [← hw1]
    clear hw1
    go_wp2_with fail
    refine C.out.mono ?_
    rintro e w2 ⟨fv, lsv, av2, lv2, lxs2, rfl, hA, hS, hF, hL⟩
    obtain ⟨fa, fc, rfl, _⟩ := NsX.lenx hF
    obtain ⟨la, lc, rfl, _⟩ := NsX.lenx hL
    obtain ⟨FL, hFL⟩ : ∃ FL, FL = r.firstL (ls.length + 1) := ⟨_, rfl⟩
    obtain ⟨LL, hLL⟩ : ∃ LL, LL = r.lastL (ls.length + 1) := ⟨_, rfl⟩
    rw [← hFL] at hF ⊢
    rw [← hLL] at hL ⊢
    have HFL := hid hFL
    have HLL := hid hLL
    obtain ⟨w3, hw3⟩ : ∃ w3, w3 = w2.alloc (.cells #[.bool false, .slice fa FL.length fc, .slice la LL.length lc] 68) := ⟨_, rfl⟩
    have hb3 : Below w2.heap.size w2 w3 := by rw [hw3]; exact (Below.refl _ _).alloc (Nat.le_refl _) _
    have hN3 : Blk w3 w2.heap.size [.bool false, .slice fa FL.length fc, .slice la LL.length lc] 68 := by rw [hw3]; exact Blk.new w2 _ _
    have hR3 := (HR.out.frm hS.1 (fun e => by have := HML.out _ e; omega)).keep hb3
    have hX3 := (HX.out.frm hS.1 (fun e => by have := HML.out _ e; omega)).keep hb3
    have hA3 := hA.keep hb3
    have hS3 := ((Stpd.below p av lv HB1.out).trans hS).trans (Stpd.below p av2 lv2 hb3)
    have hF3 := Asd.stpd hF (Stpd.below p av2 lv2 hb3)
    have hL3 := Asd.stpd hL (Stpd.below p av2 lv2 hb3)
    have hY3 : ∀ k, (Y k ∨ k = w.heap.size + 1) → k < w3.heap.size := fun k e => by have := HY1.out k e; have := hS.1.size; have := hb3.size; omega
    have hnm : ¬ Mv NoY p av2 lv2 w2.heap.size := fun e => by have := hA.mv_lt _ e; omega
    have hml := hA.mv_lt
    obtain ⟨r0, r1, r2, f0, f1, f2⟩ := blk3v hR3
    obtain ⟨n0, m1, m2, _, _, _⟩ := blk3v hN3
    obtain ⟨c0, c1, c2, c3⟩ := blk4 hX3
    have hne : w2.heap.size ≠ w.heap.size + 1 := by have := hR3.lt; have := HY1.out (w.heap.size + 1) (Or.inr rfl); have := hS.1.size; omega
    have hne2 : w.heap.size ≠ w.heap.size + 1 := by omega
    have HA3 := hid hA3
    have HS3 := hid hS3
    have HF3 := hid hF3
    have HL3 := hid hL3
    have HY3 := hid hY3
    have HR3 := hid hR3
    have HN3 := hid hN3
    have HX3 := hid hX3
    have HSB := hid (show B ≤ w3.heap.size from by have := HB1'.out; have := hS.1.size; have := hb3.size; omega)
    have HNO := hid (show (∀ k, lv2.ownBlock = some k → k ≠ w2.heap.size ∧ k ≠ w.heap.size ∧ k ≠ w.heap.size + 1) from fun k e => by
      have h1 := hml k (Or.inr (Or.inr (Or.inl e)))
      refine ⟨by omega, fun e2 => ?_, fun e2 => hA.yl k e (Or.inr e2)⟩
      have := hS.2 k (by have := HB1.out.size; have := hz.out; omega) (Or.inr (Or.inr (Or.inl e)))
      have := HML.out k this
      omega)
    clear hA hS hF hL hA3 hS3 hF3 hL3 hY3 hnm hml hR3 hN3 hX3 hFL hLL z0 z1 z2 z3
    have J := hid fun W (hb : Below w3.heap.size w3 W) => joined_any (Bs := B) lv2 _ _ _ LL FL W (HA3.out.keep hb).lown (Nat.le_trans HSB.out hb.size) (NsX.lown (Asd.stpd HL3.out (Stpd.below p av2 lv2 hb))) (NsX.lown (Asd.stpd HF3.out (Stpd.below p av2 lv2 hb))) (by rw [List.length_append, HFL.out, HLL.out]; exact HPS.out)
    go_upto_region 8 with fail
    rw [← hw3]
    clear hw3 hb3
    go_upto_region 11 with fail
    have HBD := hid (show Below w3.heap.size w3 w3.drew from below_drawn (Below.refl _ _) 1)
    refine wp_region_held_drew (S := fun w' => Blk w' w2.heap.size [.bool false, .slice fa FL.length fc, .slice la LL.length lc] 68 ∧ Blk w' w.heap.size [.int .i64 5, .string ⟨#[]⟩, .slice a 0 c, .slice (some ⟨bb, off, none⟩) 1 capk] 25) (by kernel_rfl) ⟨HN3.out, HX3.out⟩ (fun hHeld => ?_)
    refine wpAnyH_take (i := 0) (oi := ({ dst := some 44, op := Op.fieldAddr 68 (Operand.tmp 8) 0, type := 0, pos := "auto.go:81", after := #[], guard := none } : Oper)) (v := ?_) rfl (by kernel_rfl) (by kernel_rfl) (by kernel_rfl) (fun _ _ _ h => h) (Or.inl ⟨by rfl, ?_⟩) hHeld ?_
    rotate_left 1
    · intro w9 hw9; (try (obtain ⟨k8, k4⟩ := hw9; obtain ⟨g0, g1, g2, _, _, _⟩ := blk3v k8; obtain ⟨h0, _, _, _⟩ := blk4 k4)); go_simp; try with_reducible rfl
    simp only [Act.put, List.setIfInBounds_toArray, List.set_cons_zero, List.set_cons_succ]
    refine wpAnyH_take (i := 1) (oi := ({ dst := some 45, op := Op.load 4 (Operand.tmp 44), type := 4, pos := "auto.go:81", after := #[{ on := 0, ground := Ground.data }], guard := none } : Oper)) (v := ?_) rfl (by kernel_rfl) (by kernel_rfl) (by kernel_rfl) (fun _ _ _ h => h) (Or.inl ⟨by rfl, ?_⟩) hHeld ?_
    rotate_left 1
    · intro w9 hw9; (try (obtain ⟨k8, k4⟩ := hw9; obtain ⟨g0, g1, g2, _, _, _⟩ := blk3v k8; obtain ⟨h0, _, _, _⟩ := blk4 k4)); go_simp; try with_reducible rfl
    simp only [Act.put, List.setIfInBounds_toArray, List.set_cons_zero, List.set_cons_succ]
    refine wpAnyH_take (i := 2) (oi := ({ dst := some 46, op := Op.move (Operand.tmp 45), type := 4, pos := "auto.go:81", after := #[{ on := 1, ground := Ground.data }], guard := none } : Oper)) (v := ?_) rfl (by kernel_rfl) (by kernel_rfl) (by kernel_rfl) (fun _ _ _ h => h) (Or.inl ⟨by rfl, ?_⟩) hHeld ?_
    rotate_left 1
    · intro w9 hw9; (try (obtain ⟨k8, k4⟩ := hw9; obtain ⟨g0, g1, g2, _, _, _⟩ := blk3v k8; obtain ⟨h0, _, _, _⟩ := blk4 k4)); go_simp; try with_reducible rfl
    simp only [Act.put, List.setIfInBounds_toArray, List.set_cons_zero, List.set_cons_succ]
    refine wpAnyH_take (i := 3) (oi := ({ dst := some 47, op := Op.fieldAddr 25 (Operand.tmp 4) 0, type := 0, pos := "auto.go:81", after := #[{ on := 2, ground := Ground.guard }], guard := some (2, false) } : Oper)) (v := ?_) rfl (by kernel_rfl) (by kernel_rfl) (by kernel_rfl) (fun _ _ _ h => h) (Or.inl ⟨by rfl, ?_⟩) hHeld ?_
    rotate_left 1
    · intro w9 hw9; (try (obtain ⟨k8, k4⟩ := hw9; obtain ⟨g0, g1, g2, _, _, _⟩ := blk3v k8; obtain ⟨h0, _, _, _⟩ := blk4 k4)); go_simp; try with_reducible rfl
    simp only [Act.put, List.setIfInBounds_toArray, List.set_cons_zero, List.set_cons_succ]
    refine wpAnyH_take (i := 4) (oi := ({ dst := some 48, op := Op.load 3 (Operand.tmp 47), type := 3, pos := "auto.go:81", after := #[{ on := 3, ground := Ground.data }, { on := 2, ground := Ground.guard }], guard := some (2, false) } : Oper)) (v := ?_) rfl (by kernel_rfl) (by kernel_rfl) (by kernel_rfl) (fun _ _ _ h => h) (Or.inl ⟨by rfl, ?_⟩) hHeld ?_
    rotate_left 1
    · intro w9 hw9; (try (obtain ⟨k8, k4⟩ := hw9; obtain ⟨g0, g1, g2, _, _, _⟩ := blk3v k8; obtain ⟨h0, _, _, _⟩ := blk4 k4)); go_simp; try with_reducible rfl
    simp only [Act.put, List.setIfInBounds_toArray, List.set_cons_zero, List.set_cons_succ]
    refine wpAnyH_take (i := 5) (oi := ({ dst := some 49, op := Op.binOp BinOp.eql 3 (Operand.tmp 48) (Operand.const (Value.int IntKind.i64 5)) 3, type := 4, pos := "auto.go:81", after := #[{ on := 4, ground := Ground.data }, { on := 2, ground := Ground.guard }], guard := some (2, false) } : Oper)) (v := ?_) rfl (by kernel_rfl) (by kernel_rfl) (by kernel_rfl) (fun _ _ _ h => h) (Or.inl ⟨by rfl, ?_⟩) hHeld ?_
    rotate_left 1
    · intro w9 hw9; (try (obtain ⟨k8, k4⟩ := hw9; obtain ⟨g0, g1, g2, _, _, _⟩ := blk3v k8; obtain ⟨h0, _, _, _⟩ := blk4 k4)); go_simp; try with_reducible rfl
    simp only [Act.put, List.setIfInBounds_toArray, List.set_cons_zero, List.set_cons_succ]
    refine wpAnyH_take (i := 6) (oi := ({ dst := some 50, op := Op.pick (Operand.tmp 46) (Operand.const (Value.bool true)) (Operand.tmp 49), type := 4, pos := "auto.go:81", after := #[{ on := 2, ground := Ground.data }, { on := 5, ground := Ground.data }], guard := none } : Oper)) (v := ?_) rfl (by kernel_rfl) (by kernel_rfl) (by kernel_rfl) (fun _ _ _ h => h) (Or.inl ⟨by rfl, ?_⟩) hHeld ?_
    rotate_left 1
    · intro w9 hw9; (try (obtain ⟨k8, k4⟩ := hw9; obtain ⟨g0, g1, g2, _, _, _⟩ := blk3v k8; obtain ⟨h0, _, _, _⟩ := blk4 k4)); go_simp; try with_reducible rfl
    simp only [Act.put, List.setIfInBounds_toArray, List.set_cons_zero, List.set_cons_succ]
    refine wpAnyH_take (i := 7) (oi := ({ dst := some 51, op := Op.fieldAddr 68 (Operand.tmp 8) 1, type := 0, pos := "auto.go:81", after := #[], guard := none } : Oper)) (v := ?_) rfl (by kernel_rfl) (by kernel_rfl) (by kernel_rfl) (fun _ _ _ h => h) (Or.inl ⟨by rfl, ?_⟩) hHeld ?_
    rotate_left 1
    · intro w9 hw9; (try (obtain ⟨k8, k4⟩ := hw9; obtain ⟨g0, g1, g2, _, _, _⟩ := blk3v k8; obtain ⟨h0, _, _, _⟩ := blk4 k4)); go_simp; try with_reducible rfl
    simp only [Act.put, List.setIfInBounds_toArray, List.set_cons_zero, List.set_cons_succ]
    refine wpAnyH_take (i := 8) (oi := ({ dst := some 52, op := Op.load 66 (Operand.tmp 51), type := 66, pos := "auto.go:81", after := #[{ on := 7, ground := Ground.data }], guard := none } : Oper)) (v := ?_) rfl (by kernel_rfl) (by kernel_rfl) (by kernel_rfl) (fun _ _ _ h => h) (Or.inl ⟨by rfl, ?_⟩) hHeld ?_
    rotate_left 1
    · intro w9 hw9; (try (obtain ⟨k8, k4⟩ := hw9; obtain ⟨g0, g1, g2, _, _, _⟩ := blk3v k8; obtain ⟨h0, _, _, _⟩ := blk4 k4)); go_simp; try with_reducible rfl
    simp only [Act.put, List.setIfInBounds_toArray, List.set_cons_zero, List.set_cons_succ]
    refine wpAnyH_take (i := 9) (oi := ({ dst := some 53, op := Op.fieldAddr 68 (Operand.tmp 8) 2, type := 0, pos := "auto.go:81", after := #[], guard := none } : Oper)) (v := ?_) rfl (by kernel_rfl) (by kernel_rfl) (by kernel_rfl) (fun _ _ _ h => h) (Or.inl ⟨by rfl, ?_⟩) hHeld ?_
    rotate_left 1
    · intro w9 hw9; (try (obtain ⟨k8, k4⟩ := hw9; obtain ⟨g0, g1, g2, _, _, _⟩ := blk3v k8; obtain ⟨h0, _, _, _⟩ := blk4 k4)); go_simp; try with_reducible rfl
    simp only [Act.put, List.setIfInBounds_toArray, List.set_cons_zero, List.set_cons_succ]
    refine wpAnyH_take (i := 10) (oi := ({ dst := some 54, op := Op.load 66 (Operand.tmp 53), type := 66, pos := "auto.go:81", after := #[{ on := 9, ground := Ground.data }], guard := none } : Oper)) (v := ?_) rfl (by kernel_rfl) (by kernel_rfl) (by kernel_rfl) (fun _ _ _ h => h) (Or.inl ⟨by rfl, ?_⟩) hHeld ?_
    rotate_left 1
    · intro w9 hw9; (try (obtain ⟨k8, k4⟩ := hw9; obtain ⟨g0, g1, g2, _, _, _⟩ := blk3v k8; obtain ⟨h0, _, _, _⟩ := blk4 k4)); go_simp; try with_reducible rfl
    simp only [Act.put, List.setIfInBounds_toArray, List.set_cons_zero, List.set_cons_succ]
    refine wpAnyH_take (i := 11) (oi := ({ dst := some 55, op := Op.build 68 #[(0, Operand.tmp 50), (1, Operand.tmp 52), (2, Operand.tmp 54)], type := 68, pos := "auto.go:81", after := #[{ on := 6, ground := Ground.data }, { on := 8, ground := Ground.data }, { on := 10, ground := Ground.data }], guard := none } : Oper)) (v := ?_) rfl (by kernel_rfl) (by kernel_rfl) (by kernel_rfl) (fun _ _ _ h => h) (Or.inl ⟨by rfl, ?_⟩) hHeld ?_
    rotate_left 1
    · intro w9 hw9; (try (obtain ⟨k8, k4⟩ := hw9; obtain ⟨g0, g1, g2, _, _, _⟩ := blk3v k8; obtain ⟨h0, _, _, _⟩ := blk4 k4)); go_simp; try with_reducible rfl
    simp only [Act.put, List.setIfInBounds_toArray, List.set_cons_zero, List.set_cons_succ]
    refine wpAnyH_take (i := 12) (oi := ({ dst := some 56, op := Op.move (Operand.tmp 2), type := 69, pos := "auto.go:81", after := #[], guard := none } : Oper)) (v := ?_) rfl (by kernel_rfl) (by kernel_rfl) (by kernel_rfl) (fun _ _ _ h => h) (Or.inl ⟨by rfl, ?_⟩) hHeld ?_
    rotate_left 1
    · intro w9 hw9; (try (obtain ⟨k8, k4⟩ := hw9; obtain ⟨g0, g1, g2, _, _, _⟩ := blk3v k8; obtain ⟨h0, _, _, _⟩ := blk4 k4)); go_simp; try with_reducible rfl
    simp only [Act.put, List.setIfInBounds_toArray, List.set_cons_zero, List.set_cons_succ]
    refine wpAnyH_take (i := 13) (oi := ({ dst := some 57, op := Op.fieldAddr 68 (Operand.tmp 8) 2, type := 0, pos := "auto.go:81", after := #[], guard := none } : Oper)) (v := ?_) rfl (by kernel_rfl) (by kernel_rfl) (by kernel_rfl) (fun _ _ _ h => h) (Or.inl ⟨by rfl, ?_⟩) hHeld ?_
    rotate_left 1
    · intro w9 hw9; (try (obtain ⟨k8, k4⟩ := hw9; obtain ⟨g0, g1, g2, _, _, _⟩ := blk3v k8; obtain ⟨h0, _, _, _⟩ := blk4 k4)); go_simp; try with_reducible rfl
    simp only [Act.put, List.setIfInBounds_toArray, List.set_cons_zero, List.set_cons_succ]
    refine wpAnyH_take (i := 14) (oi := ({ dst := some 58, op := Op.load 66 (Operand.tmp 57), type := 66, pos := "auto.go:81", after := #[{ on := 13, ground := Ground.data }], guard := none } : Oper)) (v := ?_) rfl (by kernel_rfl) (by kernel_rfl) (by kernel_rfl) (fun _ _ _ h => h) (Or.inl ⟨by rfl, ?_⟩) hHeld ?_
    rotate_left 1
    · intro w9 hw9; (try (obtain ⟨k8, k4⟩ := hw9; obtain ⟨g0, g1, g2, _, _, _⟩ := blk3v k8; obtain ⟨h0, _, _, _⟩ := blk4 k4)); go_simp; try with_reducible rfl
    simp only [Act.put, List.setIfInBounds_toArray, List.set_cons_zero, List.set_cons_succ]
    refine wpAnyH_take (i := 15) (oi := ({ dst := some 59, op := Op.fieldAddr 68 (Operand.tmp 8) 1, type := 0, pos := "auto.go:81", after := #[], guard := none } : Oper)) (v := ?_) rfl (by kernel_rfl) (by kernel_rfl) (by kernel_rfl) (fun _ _ _ h => h) (Or.inl ⟨by rfl, ?_⟩) hHeld ?_
    rotate_left 1
    · intro w9 hw9; (try (obtain ⟨k8, k4⟩ := hw9; obtain ⟨g0, g1, g2, _, _, _⟩ := blk3v k8; obtain ⟨h0, _, _, _⟩ := blk4 k4)); go_simp; try with_reducible rfl
    simp only [Act.put, List.setIfInBounds_toArray, List.set_cons_zero, List.set_cons_succ]
    refine wpAnyH_take (i := 16) (oi := ({ dst := some 60, op := Op.load 66 (Operand.tmp 59), type := 66, pos := "auto.go:81", after := #[{ on := 15, ground := Ground.data }], guard := none } : Oper)) (v := ?_) rfl (by kernel_rfl) (by kernel_rfl) (by kernel_rfl) (fun _ _ _ h => h) (Or.inl ⟨by rfl, ?_⟩) hHeld ?_
    rotate_left 1
    · intro w9 hw9; (try (obtain ⟨k8, k4⟩ := hw9; obtain ⟨g0, g1, g2, _, _, _⟩ := blk3v k8; obtain ⟨h0, _, _, _⟩ := blk4 k4)); go_simp; try with_reducible rfl
    simp only [Act.put, List.setIfInBounds_toArray, List.set_cons_zero, List.set_cons_succ]
    refine wpAnyH_ready (rs := [17]) (by kernel_rfl) (by simp) ?_
    refine AllReadyH.cons (o := ({ dst := some 61, op := Op.call { callee := Callee.value (Operand.func 45), args := #[Operand.tmp 56, Operand.tmp 58, Operand.tmp 60], argTypes := #[69, 66, 66] }, type := 69, pos := "auto.go:81", after := #[{ on := 12, ground := Ground.data }, { on := 14, ground := Ground.data }, { on := 16, ground := Ground.data }, { on := 2, ground := Ground.chain }], guard := none } : Oper)) rfl (fun K hK => ?_) AllReadyH.nil
    go_simp
    go_at_call 45
    refine (J.out _ HBD.out).mono ?_
    rintro e w4 ⟨lv3, rfl, hown, hpm, hsz⟩
    have hpm : PrM w3 lv2 lv3 w4 := PrM.trans ⟨(Frm.refl _ _).drewN 1, Or.inl rfl⟩ hpm
    have hN4 := HN3.out.frm (hpm.1) (fun e => (HNO.out _ e).1 rfl)
    have hX4 := HX3.out.frm (hpm.1) (fun e => (HNO.out _ e).2.1 rfl)
    have hR4 := HR3.out.frm (hpm.1) (fun e => (HNO.out _ e).2.2 rfl)
    obtain ⟨r0, r1, r2, f0, f1, f2⟩ := blk3v hR4
    have HO4 := hid hown
    have HPM := hid hpm
    have HR4 := hid hR4
    have HN4 := hid hN4
    have HX4 := hid hX4
    clear hown hpm hN4 hX4 hR4
    refine hK.out _ _ (⟨HN4.out, HX4.out⟩) (fun hHeld => ?_)
    clear hK K
    (try simp only [Act.put, List.setIfInBounds_toArray, List.set_cons_zero, List.set_cons_succ])
    refine wpAnyH_ready (rs := [18]) (by kernel_rfl) (by simp) ?_
    refine AllReadyH.cons (o := ({ dst := none, op := Op.store 68 (Operand.tmp 6) (Operand.tmp 55), type := 0, pos := "auto.go:81", after := #[{ on := 11, ground := Ground.data }, { on := 17, ground := Ground.chain }, { on := 0, ground := Ground.phase }, { on := 1, ground := Ground.phase }, { on := 2, ground := Ground.phase }, { on := 3, ground := Ground.phase }, { on := 4, ground := Ground.phase }, { on := 5, ground := Ground.phase }, { on := 6, ground := Ground.phase }, { on := 7, ground := Ground.phase }, { on := 8, ground := Ground.phase }, { on := 9, ground := Ground.phase }, { on := 10, ground := Ground.phase }, { on := 11, ground := Ground.phase }, { on := 12, ground := Ground.textOnly Departure.lateStores }, { on := 13, ground := Ground.textOnly Departure.lateStores }, { on := 14, ground := Ground.textOnly Departure.lateStores }, { on := 15, ground := Ground.textOnly Departure.lateStores }, { on := 16, ground := Ground.textOnly Departure.lateStores }, { on := 17, ground := Ground.textOnly Departure.lateStoresUnsure }], guard := none } : Oper)) rfl (fun K hK => ?_) AllReadyH.nil
    go_simp
    refine hK.out _ _ (⟨HN4.out.other3 hne _ _ _, HX4.out.other3 hne2 _ _ _⟩) (fun hHeld => ?_)
    clear hK K
    (try simp only [Act.put, List.setIfInBounds_toArray, List.set_cons_zero, List.set_cons_succ])
    refine wpAnyH_take (i := 19) (oi := ({ dst := some 7, op := Op.assign (Operand.tmp 61), type := 69, pos := "auto.go:81", after := #[{ on := 17, ground := Ground.data }, { on := 18, ground := Ground.chain }, { on := 0, ground := Ground.phase }, { on := 1, ground := Ground.phase }, { on := 2, ground := Ground.phase }, { on := 3, ground := Ground.phase }, { on := 4, ground := Ground.phase }, { on := 5, ground := Ground.phase }, { on := 6, ground := Ground.phase }, { on := 7, ground := Ground.phase }, { on := 8, ground := Ground.phase }, { on := 9, ground := Ground.phase }, { on := 10, ground := Ground.phase }, { on := 11, ground := Ground.phase }, { on := 12, ground := Ground.phase }, { on := 13, ground := Ground.phase }, { on := 14, ground := Ground.phase }, { on := 15, ground := Ground.phase }, { on := 16, ground := Ground.phase }, { on := 17, ground := Ground.phase }, { on := 18, ground := Ground.phase }], guard := none } : Oper)) (v := ?_) rfl (by kernel_rfl) (by kernel_rfl) (by kernel_rfl) (fun _ _ _ h => h) (Or.inl ⟨by rfl, ?_⟩) hHeld ?_
    rotate_left 1
    · intro w9 hw9; (try (obtain ⟨k8, k4⟩ := hw9; obtain ⟨g0, g1, g2, _, _, _⟩ := blk3v k8; obtain ⟨h0, _, _, _⟩ := blk4 k4)); go_simp; try with_reducible rfl
    simp only [Act.put, List.setIfInBounds_toArray, List.set_cons_zero, List.set_cons_succ]
    refine wpAnyH_done (by kernel_rfl) ?_ _
    obtain ⟨hA4, hS4⟩ := HA3.out.pairs HO4.out HPM.out HY3.out
    obtain ⟨e1, e2, e3, e4, e5⟩ := part_end (Y := Y) (e := true) (Nat.le_succ w.heap.size) hA4 (HS3.out.trans hS4) (Asd.stpd HF3.out hS4) (Asd.stpd HL3.out hS4) HR4.out
    have HE1 := hid e1
    have HE2 := hid e2
    have HE3 := hid e3
    have HE4 := hid e4
    have HE5 := hid e5
    clear hA4 hS4 e1 e2 e3 e4 e5
    go_wp2
    have e1 := HE1.out
    have e2 := HE2.out
    have e3 := HE3.out
    have e4 := HE4.out
    have e5 := HE5.out
    refine bodyPost_ret (tup_ret (s := 6) (s2 := 7) rfl e1 Tryd.results32) rfl ⟨_, _, _, _, _, (by show _ = Ending.returned (.tuple #[.agg #[.bool (Rx.star r).emp, _, _], _]); skip; rfl), (by simpa [Rx.pairsL, Rx.labs, HFL.out, HLL.out, List.append_assoc] using e2), e3, (by rw [show (Rx.star r).firstL (ls.length + 1) = FL from HFL.out.symm]; exact e4), (by rw [show (Rx.star r).lastL (ls.length + 1) = LL from HLL.out.symm]; exact e5)⟩
  case true =>
    go_enter Tryd.func32, Tryd.ntmps32
    go_upto_region 1 with fail
    rw [← hw1]
    clear hw1
    go_wp2_with fail
    refine C.out.mono ?_
    rintro e w2 ⟨fv, lsv, av2, lv2, lxs2, rfl, hA, hS, hF, hL⟩
    obtain ⟨fa, fc, rfl, _⟩ := NsX.lenx hF
    obtain ⟨la, lc, rfl, _⟩ := NsX.lenx hL
    obtain ⟨FL, hFL⟩ : ∃ FL, FL = r.firstL (ls.length + 1) := ⟨_, rfl⟩
    obtain ⟨LL, hLL⟩ : ∃ LL, LL = r.lastL (ls.length + 1) := ⟨_, rfl⟩
    rw [← hFL] at hF ⊢
    rw [← hLL] at hL ⊢
    have HFL := hid hFL
    have HLL := hid hLL
    obtain ⟨w3, hw3⟩ : ∃ w3, w3 = w2.alloc (.cells #[.bool true, .slice fa FL.length fc, .slice la LL.length lc] 68) := ⟨_, rfl⟩
    have hb3 : Below w2.heap.size w2 w3 := by rw [hw3]; exact (Below.refl _ _).alloc (Nat.le_refl _) _
    have hN3 : Blk w3 w2.heap.size [.bool true, .slice fa FL.length fc, .slice la LL.length lc] 68 := by rw [hw3]; exact Blk.new w2 _ _
    have hR3 := (HR.out.frm hS.1 (fun e => by have := HML.out _ e; omega)).keep hb3
    have hX3 := (HX.out.frm hS.1 (fun e => by have := HML.out _ e; omega)).keep hb3
    have hA3 := hA.keep hb3
    have hS3 := ((Stpd.below p av lv HB1.out).trans hS).trans (Stpd.below p av2 lv2 hb3)
    have hF3 := Asd.stpd hF (Stpd.below p av2 lv2 hb3)
    have hL3 := Asd.stpd hL (Stpd.below p av2 lv2 hb3)
    have hY3 : ∀ k, (Y k ∨ k = w.heap.size + 1) → k < w3.heap.size := fun k e => by have := HY1.out k e; have := hS.1.size; have := hb3.size; omega
    have hnm : ¬ Mv NoY p av2 lv2 w2.heap.size := fun e => by have := hA.mv_lt _ e; omega
    have hml := hA.mv_lt
    obtain ⟨r0, r1, r2, f0, f1, f2⟩ := blk3v hR3
    obtain ⟨n0, m1, m2, _, _, _⟩ := blk3v hN3
    obtain ⟨c0, c1, c2, c3⟩ := blk4 hX3
    have hne : w2.heap.size ≠ w.heap.size + 1 := by have := hR3.lt; have := HY1.out (w.heap.size + 1) (Or.inr rfl); have := hS.1.size; omega
    have hne2 : w.heap.size ≠ w.heap.size + 1 := by omega
    have HA3 := hid hA3
    have HS3 := hid hS3
    have HF3 := hid hF3
    have HL3 := hid hL3
    have HY3 := hid hY3
    have HR3 := hid hR3
    have HN3 := hid hN3
    have HX3 := hid hX3
    have HSB := hid (show B ≤ w3.heap.size from by have := HB1'.out; have := hS.1.size; have := hb3.size; omega)
    have HNO := hid (show (∀ k, lv2.ownBlock = some k → k ≠ w2.heap.size ∧ k ≠ w.heap.size ∧ k ≠ w.heap.size + 1) from fun k e => by
      have h1 := hml k (Or.inr (Or.inr (Or.inl e)))
      refine ⟨by omega, fun e2 => ?_, fun e2 => hA.yl k e (Or.inr e2)⟩
      have := hS.2 k (by have := HB1.out.size; have := hz.out; omega) (Or.inr (Or.inr (Or.inl e)))
      have := HML.out k this
      omega)
    clear hA hS hF hL hA3 hS3 hF3 hL3 hY3 hnm hml hR3 hN3 hX3 hFL hLL z0 z1 z2 z3
    have J := hid fun W (hb : Below w3.heap.size w3 W) => joined_any (Bs := B) lv2 _ _ _ LL FL W (HA3.out.keep hb).lown (Nat.le_trans HSB.out hb.size) (NsX.lown (Asd.stpd HL3.out (Stpd.below p av2 lv2 hb))) (NsX.lown (Asd.stpd HF3.out (Stpd.below p av2 lv2 hb))) (by rw [List.length_append, HFL.out, HLL.out]; exact HPS.out)
    go_upto_region 8 with fail
    rw [← hw3]
    clear hw3 hb3
    go_upto_region 11 with fail
    have HBD := hid (show Below w3.heap.size w3 w3.drew from below_drawn (Below.refl _ _) 1)
    refine wp_region_held_drew (S := fun w' => Blk w' w2.heap.size [.bool true, .slice fa FL.length fc, .slice la LL.length lc] 68 ∧ Blk w' w.heap.size [.int .i64 5, .string ⟨#[]⟩, .slice a 0 c, .slice (some ⟨bb, off, none⟩) 1 capk] 25) (by kernel_rfl) ⟨HN3.out, HX3.out⟩ (fun hHeld => ?_)
    refine wpAnyH_take (i := 0) (oi := ({ dst := some 44, op := Op.fieldAddr 68 (Operand.tmp 8) 0, type := 0, pos := "auto.go:81", after := #[], guard := none } : Oper)) (v := ?_) rfl (by kernel_rfl) (by kernel_rfl) (by kernel_rfl) (fun _ _ _ h => h) (Or.inl ⟨by rfl, ?_⟩) hHeld ?_
    rotate_left 1
    · intro w9 hw9; (try (obtain ⟨k8, k4⟩ := hw9; obtain ⟨g0, g1, g2, _, _, _⟩ := blk3v k8; obtain ⟨h0, _, _, _⟩ := blk4 k4)); go_simp; try with_reducible rfl
    simp only [Act.put, List.setIfInBounds_toArray, List.set_cons_zero, List.set_cons_succ]
    refine wpAnyH_take (i := 1) (oi := ({ dst := some 45, op := Op.load 4 (Operand.tmp 44), type := 4, pos := "auto.go:81", after := #[{ on := 0, ground := Ground.data }], guard := none } : Oper)) (v := ?_) rfl (by kernel_rfl) (by kernel_rfl) (by kernel_rfl) (fun _ _ _ h => h) (Or.inl ⟨by rfl, ?_⟩) hHeld ?_
    rotate_left 1
    · intro w9 hw9; (try (obtain ⟨k8, k4⟩ := hw9; obtain ⟨g0, g1, g2, _, _, _⟩ := blk3v k8; obtain ⟨h0, _, _, _⟩ := blk4 k4)); go_simp; try with_reducible rfl
    simp only [Act.put, List.setIfInBounds_toArray, List.set_cons_zero, List.set_cons_succ]
    refine wpAnyH_take (i := 2) (oi := ({ dst := some 46, op := Op.move (Operand.tmp 45), type := 4, pos := "auto.go:81", after := #[{ on := 1, ground := Ground.data }], guard := none } : Oper)) (v := ?_) rfl (by kernel_rfl) (by kernel_rfl) (by kernel_rfl) (fun _ _ _ h => h) (Or.inl ⟨by rfl, ?_⟩) hHeld ?_
    rotate_left 1
    · intro w9 hw9; (try (obtain ⟨k8, k4⟩ := hw9; obtain ⟨g0, g1, g2, _, _, _⟩ := blk3v k8; obtain ⟨h0, _, _, _⟩ := blk4 k4)); go_simp; try with_reducible rfl
    simp only [Act.put, List.setIfInBounds_toArray, List.set_cons_zero, List.set_cons_succ]
    refine wpAnyH_take (i := 3) (oi := ({ dst := some 47, op := Op.fieldAddr 25 (Operand.tmp 4) 0, type := 0, pos := "auto.go:81", after := #[{ on := 2, ground := Ground.guard }], guard := some (2, false) } : Oper)) (v := undef) rfl (by kernel_rfl) (by kernel_rfl) (by kernel_rfl) (fun _ _ _ h => h) (Or.inr ⟨by rfl, rfl⟩) hHeld ?_
    simp only [Act.put, List.setIfInBounds_toArray, List.set_cons_zero, List.set_cons_succ]
    refine wpAnyH_take (i := 4) (oi := ({ dst := some 48, op := Op.load 3 (Operand.tmp 47), type := 3, pos := "auto.go:81", after := #[{ on := 3, ground := Ground.data }, { on := 2, ground := Ground.guard }], guard := some (2, false) } : Oper)) (v := undef) rfl (by kernel_rfl) (by kernel_rfl) (by kernel_rfl) (fun _ _ _ h => h) (Or.inr ⟨by rfl, rfl⟩) hHeld ?_
    simp only [Act.put, List.setIfInBounds_toArray, List.set_cons_zero, List.set_cons_succ]
    refine wpAnyH_take (i := 5) (oi := ({ dst := some 49, op := Op.binOp BinOp.eql 3 (Operand.tmp 48) (Operand.const (Value.int IntKind.i64 5)) 3, type := 4, pos := "auto.go:81", after := #[{ on := 4, ground := Ground.data }, { on := 2, ground := Ground.guard }], guard := some (2, false) } : Oper)) (v := undef) rfl (by kernel_rfl) (by kernel_rfl) (by kernel_rfl) (fun _ _ _ h => h) (Or.inr ⟨by rfl, rfl⟩) hHeld ?_
    simp only [Act.put, List.setIfInBounds_toArray, List.set_cons_zero, List.set_cons_succ]
    refine wpAnyH_take (i := 6) (oi := ({ dst := some 50, op := Op.pick (Operand.tmp 46) (Operand.const (Value.bool true)) (Operand.tmp 49), type := 4, pos := "auto.go:81", after := #[{ on := 2, ground := Ground.data }, { on := 5, ground := Ground.data }], guard := none } : Oper)) (v := ?_) rfl (by kernel_rfl) (by kernel_rfl) (by kernel_rfl) (fun _ _ _ h => h) (Or.inl ⟨by rfl, ?_⟩) hHeld ?_
    rotate_left 1
    · intro w9 hw9; (try (obtain ⟨k8, k4⟩ := hw9; obtain ⟨g0, g1, g2, _, _, _⟩ := blk3v k8; obtain ⟨h0, _, _, _⟩ := blk4 k4)); go_simp; try with_reducible rfl
    simp only [Act.put, List.setIfInBounds_toArray, List.set_cons_zero, List.set_cons_succ]
    refine wpAnyH_take (i := 7) (oi := ({ dst := some 51, op := Op.fieldAddr 68 (Operand.tmp 8) 1, type := 0, pos := "auto.go:81", after := #[], guard := none } : Oper)) (v := ?_) rfl (by kernel_rfl) (by kernel_rfl) (by kernel_rfl) (fun _ _ _ h => h) (Or.inl ⟨by rfl, ?_⟩) hHeld ?_
    rotate_left 1
    · intro w9 hw9; (try (obtain ⟨k8, k4⟩ := hw9; obtain ⟨g0, g1, g2, _, _, _⟩ := blk3v k8; obtain ⟨h0, _, _, _⟩ := blk4 k4)); go_simp; try with_reducible rfl
    simp only [Act.put, List.setIfInBounds_toArray, List.set_cons_zero, List.set_cons_succ]
    refine wpAnyH_take (i := 8) (oi := ({ dst := some 52, op := Op.load 66 (Operand.tmp 51), type := 66, pos := "auto.go:81", after := #[{ on := 7, ground := Ground.data }], guard := none } : Oper)) (v := ?_) rfl (by kernel_rfl) (by kernel_rfl) (by kernel_rfl) (fun _ _ _ h => h) (Or.inl ⟨by rfl, ?_⟩) hHeld ?_
    rotate_left 1
    · intro w9 hw9; (try (obtain ⟨k8, k4⟩ := hw9; obtain ⟨g0, g1, g2, _, _, _⟩ := blk3v k8; obtain ⟨h0, _, _, _⟩ := blk4 k4)); go_simp; try with_reducible rfl
    simp only [Act.put, List.setIfInBounds_toArray, List.set_cons_zero, List.set_cons_succ]
    refine wpAnyH_take (i := 9) (oi := ({ dst := some 53, op := Op.fieldAddr 68 (Operand.tmp 8) 2, type := 0, pos := "auto.go:81", after := #[], guard := none } : Oper)) (v := ?_) rfl (by kernel_rfl) (by kernel_rfl) (by kernel_rfl) (fun _ _ _ h => h) (Or.inl ⟨by rfl, ?_⟩) hHeld ?_
    rotate_left 1
    · intro w9 hw9; (try (obtain ⟨k8, k4⟩ := hw9; obtain ⟨g0, g1, g2, _, _, _⟩ := blk3v k8; obtain ⟨h0, _, _, _⟩ := blk4 k4)); go_simp; try with_reducible rfl
    simp only [Act.put, List.setIfInBounds_toArray, List.set_cons_zero, List.set_cons_succ]
    refine wpAnyH_take (i := 10) (oi := ({ dst := some 54, op := Op.load 66 (Operand.tmp 53), type := 66, pos := "auto.go:81", after := #[{ on := 9, ground := Ground.data }], guard := none } : Oper)) (v := ?_) rfl (by kernel_rfl) (by kernel_rfl) (by kernel_rfl) (fun _ _ _ h => h) (Or.inl ⟨by rfl, ?_⟩) hHeld ?_
    rotate_left 1
    · intro w9 hw9; (try (obtain ⟨k8, k4⟩ := hw9; obtain ⟨g0, g1, g2, _, _, _⟩ := blk3v k8; obtain ⟨h0, _, _, _⟩ := blk4 k4)); go_simp; try with_reducible rfl
    simp only [Act.put, List.setIfInBounds_toArray, List.set_cons_zero, List.set_cons_succ]
    refine wpAnyH_take (i := 11) (oi := ({ dst := some 55, op := Op.build 68 #[(0, Operand.tmp 50), (1, Operand.tmp 52), (2, Operand.tmp 54)], type := 68, pos := "auto.go:81", after := #[{ on := 6, ground := Ground.data }, { on := 8, ground := Ground.data }, { on := 10, ground := Ground.data }], guard := none } : Oper)) (v := ?_) rfl (by kernel_rfl) (by kernel_rfl) (by kernel_rfl) (fun _ _ _ h => h) (Or.inl ⟨by rfl, ?_⟩) hHeld ?_
    rotate_left 1
    · intro w9 hw9; (try (obtain ⟨k8, k4⟩ := hw9; obtain ⟨g0, g1, g2, _, _, _⟩ := blk3v k8; obtain ⟨h0, _, _, _⟩ := blk4 k4)); go_simp; try with_reducible rfl
    simp only [Act.put, List.setIfInBounds_toArray, List.set_cons_zero, List.set_cons_succ]
    refine wpAnyH_take (i := 12) (oi := ({ dst := some 56, op := Op.move (Operand.tmp 2), type := 69, pos := "auto.go:81", after := #[], guard := none } : Oper)) (v := ?_) rfl (by kernel_rfl) (by kernel_rfl) (by kernel_rfl) (fun _ _ _ h => h) (Or.inl ⟨by rfl, ?_⟩) hHeld ?_
    rotate_left 1
    · intro w9 hw9; (try (obtain ⟨k8, k4⟩ := hw9; obtain ⟨g0, g1, g2, _, _, _⟩ := blk3v k8; obtain ⟨h0, _, _, _⟩ := blk4 k4)); go_simp; try with_reducible rfl
    simp only [Act.put, List.setIfInBounds_toArray, List.set_cons_zero, List.set_cons_succ]
    refine wpAnyH_take (i := 13) (oi := ({ dst := some 57, op := Op.fieldAddr 68 (Operand.tmp 8) 2, type := 0, pos := "auto.go:81", after := #[], guard := none } : Oper)) (v := ?_) rfl (by kernel_rfl) (by kernel_rfl) (by kernel_rfl) (fun _ _ _ h => h) (Or.inl ⟨by rfl, ?_⟩) hHeld ?_
    rotate_left 1
    · intro w9 hw9; (try (obtain ⟨k8, k4⟩ := hw9; obtain ⟨g0, g1, g2, _, _, _⟩ := blk3v k8; obtain ⟨h0, _, _, _⟩ := blk4 k4)); go_simp; try with_reducible rfl
    simp only [Act.put, List.setIfInBounds_toArray, List.set_cons_zero, List.set_cons_succ]
    refine wpAnyH_take (i := 14) (oi := ({ dst := some 58, op := Op.load 66 (Operand.tmp 57), type := 66, pos := "auto.go:81", after := #[{ on := 13, ground := Ground.data }], guard := none } : Oper)) (v := ?_) rfl (by kernel_rfl) (by kernel_rfl) (by kernel_rfl) (fun _ _ _ h => h) (Or.inl ⟨by rfl, ?_⟩) hHeld ?_
    rotate_left 1
    · intro w9 hw9; (try (obtain ⟨k8, k4⟩ := hw9; obtain ⟨g0, g1, g2, _, _, _⟩ := blk3v k8; obtain ⟨h0, _, _, _⟩ := blk4 k4)); go_simp; try with_reducible rfl
    simp only [Act.put, List.setIfInBounds_toArray, List.set_cons_zero, List.set_cons_succ]
    refine wpAnyH_take (i := 15) (oi := ({ dst := some 59, op := Op.fieldAddr 68 (Operand.tmp 8) 1, type := 0, pos := "auto.go:81", after := #[], guard := none } : Oper)) (v := ?_) rfl (by kernel_rfl) (by kernel_rfl) (by kernel_rfl) (fun _ _ _ h => h) (Or.inl ⟨by rfl, ?_⟩) hHeld ?_
    rotate_left 1
    · intro w9 hw9; (try (obtain ⟨k8, k4⟩ := hw9; obtain ⟨g0, g1, g2, _, _, _⟩ := blk3v k8; obtain ⟨h0, _, _, _⟩ := blk4 k4)); go_simp; try with_reducible rfl
    simp only [Act.put, List.setIfInBounds_toArray, List.set_cons_zero, List.set_cons_succ]
    refine wpAnyH_take (i := 16) (oi := ({ dst := some 60, op := Op.load 66 (Operand.tmp 59), type := 66, pos := "auto.go:81", after := #[{ on := 15, ground := Ground.data }], guard := none } : Oper)) (v := ?_) rfl (by kernel_rfl) (by kernel_rfl) (by kernel_rfl) (fun _ _ _ h => h) (Or.inl ⟨by rfl, ?_⟩) hHeld ?_
    rotate_left 1
    · intro w9 hw9; (try (obtain ⟨k8, k4⟩ := hw9; obtain ⟨g0, g1, g2, _, _, _⟩ := blk3v k8; obtain ⟨h0, _, _, _⟩ := blk4 k4)); go_simp; try with_reducible rfl
    simp only [Act.put, List.setIfInBounds_toArray, List.set_cons_zero, List.set_cons_succ]
    refine wpAnyH_ready (rs := [17]) (by kernel_rfl) (by simp) ?_
    refine AllReadyH.cons (o := ({ dst := some 61, op := Op.call { callee := Callee.value (Operand.func 45), args := #[Operand.tmp 56, Operand.tmp 58, Operand.tmp 60], argTypes := #[69, 66, 66] }, type := 69, pos := "auto.go:81", after := #[{ on := 12, ground := Ground.data }, { on := 14, ground := Ground.data }, { on := 16, ground := Ground.data }, { on := 2, ground := Ground.chain }], guard := none } : Oper)) rfl (fun K hK => ?_) AllReadyH.nil
    go_simp
    go_at_call 45
    refine (J.out _ HBD.out).mono ?_
    rintro e w4 ⟨lv3, rfl, hown, hpm, hsz⟩
    have hpm : PrM w3 lv2 lv3 w4 := PrM.trans ⟨(Frm.refl _ _).drewN 1, Or.inl rfl⟩ hpm
    have hN4 := HN3.out.frm (hpm.1) (fun e => (HNO.out _ e).1 rfl)
    have hX4 := HX3.out.frm (hpm.1) (fun e => (HNO.out _ e).2.1 rfl)
    have hR4 := HR3.out.frm (hpm.1) (fun e => (HNO.out _ e).2.2 rfl)
    obtain ⟨r0, r1, r2, f0, f1, f2⟩ := blk3v hR4
    have HO4 := hid hown
    have HPM := hid hpm
    have HR4 := hid hR4
    have HN4 := hid hN4
    have HX4 := hid hX4
    clear hown hpm hN4 hX4 hR4
    refine hK.out _ _ (⟨HN4.out, HX4.out⟩) (fun hHeld => ?_)
    clear hK K
    (try simp only [Act.put, List.setIfInBounds_toArray, List.set_cons_zero, List.set_cons_succ])
    refine wpAnyH_ready (rs := [18]) (by kernel_rfl) (by simp) ?_
    refine AllReadyH.cons (o := ({ dst := none, op := Op.store 68 (Operand.tmp 6) (Operand.tmp 55), type := 0, pos := "auto.go:81", after := #[{ on := 11, ground := Ground.data }, { on := 17, ground := Ground.chain }, { on := 0, ground := Ground.phase }, { on := 1, ground := Ground.phase }, { on := 2, ground := Ground.phase }, { on := 3, ground := Ground.phase }, { on := 4, ground := Ground.phase }, { on := 5, ground := Ground.phase }, { on := 6, ground := Ground.phase }, { on := 7, ground := Ground.phase }, { on := 8, ground := Ground.phase }, { on := 9, ground := Ground.phase }, { on := 10, ground := Ground.phase }, { on := 11, ground := Ground.phase }, { on := 12, ground := Ground.textOnly Departure.lateStores }, { on := 13, ground := Ground.textOnly Departure.lateStores }, { on := 14, ground := Ground.textOnly Departure.lateStores }, { on := 15, ground := Ground.textOnly Departure.lateStores }, { on := 16, ground := Ground.textOnly Departure.lateStores }, { on := 17, ground := Ground.textOnly Departure.lateStoresUnsure }], guard := none } : Oper)) rfl (fun K hK => ?_) AllReadyH.nil
    go_simp
    refine hK.out _ _ (⟨HN4.out.other3 hne _ _ _, HX4.out.other3 hne2 _ _ _⟩) (fun hHeld => ?_)
    clear hK K
    (try simp only [Act.put, List.setIfInBounds_toArray, List.set_cons_zero, List.set_cons_succ])
    refine wpAnyH_take (i := 19) (oi := ({ dst := some 7, op := Op.assign (Operand.tmp 61), type := 69, pos := "auto.go:81", after := #[{ on := 17, ground := Ground.data }, { on := 18, ground := Ground.chain }, { on := 0, ground := Ground.phase }, { on := 1, ground := Ground.phase }, { on := 2, ground := Ground.phase }, { on := 3, ground := Ground.phase }, { on := 4, ground := Ground.phase }, { on := 5, ground := Ground.phase }, { on := 6, ground := Ground.phase }, { on := 7, ground := Ground.phase }, { on := 8, ground := Ground.phase }, { on := 9, ground := Ground.phase }, { on := 10, ground := Ground.phase }, { on := 11, ground := Ground.phase }, { on := 12, ground := Ground.phase }, { on := 13, ground := Ground.phase }, { on := 14, ground := Ground.phase }, { on := 15, ground := Ground.phase }, { on := 16, ground := Ground.phase }, { on := 17, ground := Ground.phase }, { on := 18, ground := Ground.phase }], guard := none } : Oper)) (v := ?_) rfl (by kernel_rfl) (by kernel_rfl) (by kernel_rfl) (fun _ _ _ h => h) (Or.inl ⟨by rfl, ?_⟩) hHeld ?_
    rotate_left 1
    · intro w9 hw9; (try (obtain ⟨k8, k4⟩ := hw9; obtain ⟨g0, g1, g2, _, _, _⟩ := blk3v k8; obtain ⟨h0, _, _, _⟩ := blk4 k4)); go_simp; try with_reducible rfl
    simp only [Act.put, List.setIfInBounds_toArray, List.set_cons_zero, List.set_cons_succ]
    refine wpAnyH_done (by kernel_rfl) ?_ _
    obtain ⟨hA4, hS4⟩ := HA3.out.pairs HO4.out HPM.out HY3.out
    obtain ⟨e1, e2, e3, e4, e5⟩ := part_end (Y := Y) (e := true) (Nat.le_succ w.heap.size) hA4 (HS3.out.trans hS4) (Asd.stpd HF3.out hS4) (Asd.stpd HL3.out hS4) HR4.out
    have HE1 := hid e1
    have HE2 := hid e2
    have HE3 := hid e3
    have HE4 := hid e4
    have HE5 := hid e5
    clear hA4 hS4 e1 e2 e3 e4 e5
    go_wp2
    have e1 := HE1.out
    have e2 := HE2.out
    have e3 := HE3.out
    have e4 := HE4.out
    have e5 := HE5.out
    refine bodyPost_ret (tup_ret (s := 6) (s2 := 7) rfl e1 Tryd.results32) rfl ⟨_, _, _, _, _, (by show _ = Ending.returned (.tuple #[.agg #[.bool (Rx.star r).emp, _, _], _]); skip; rfl), (by simpa [Rx.pairsL, Rx.labs, HFL.out, HLL.out, List.append_assoc] using e2), e3, (by rw [show (Rx.star r).firstL (ls.length + 1) = FL from HFL.out.symm]; exact e4), (by rw [show (Rx.star r).lastL (ls.length + 1) = LL from HLL.out.symm]; exact e5)⟩
set_option maxHeartbeats 8000000 in
theorem part_plus (r : Rx) (IH : PartOk r) : PartOk (.plus r) := by
  intro B WB w Y p v u av lv lxs ls ps hP hH h hY hB h30 hln hps
  have htp : (Rx.plus r).toPt = .mk 6 [] [] [r.toPt] := rfl
  rw [htp] at hP ⊢
  obtain ⟨_, _, hLt, hLl, ak, capk, bb, off, f, g, hgi, q1, q2, q3, q4, hrow, hkid⟩ := hP.open
  obtain ⟨a, c, hfi, _⟩ := hLt.open
  subst hfi
  rw [hgi]
  unfold pv
  simp only [Pt.kind, Pt.text, Pt.kids, Pt.texts, List.length_nil, List.length_cons, Nat.zero_add] at q1 q3 q4 hrow hkid hgi ⊢
  obtain rfl := q4 (by omega)
  obtain ⟨w1, hw1⟩ : ∃ w1, w1 = (w.alloc (.cells #[.int .i64 6, .string ⟨#[]⟩, .slice a 0 c, .slice (some ⟨bb, off, none⟩) 1 capk] 25)).alloc (.cells #[.bool false, .slice none 0 0, .slice none 0 0] 68) := ⟨_, rfl⟩
  have hz1 : w1.heap.size = w.heap.size + 2 := by rw [hw1]; simp
  have hb1 : Below w.heap.size w w1 := by rw [hw1]; exact ((Below.refl _ _).alloc (Nat.le_refl _) _).alloc (by simp) _
  have hX : Blk w1 w.heap.size [.int .i64 6, .string ⟨#[]⟩, .slice a 0 c, .slice (some ⟨bb, off, none⟩) 1 capk] 25 := by rw [hw1]; exact (Blk.new w _ _).alloc _
  have hR : Blk w1 (w.heap.size + 1) [.bool false, .slice none 0 0, .slice none 0 0] 68 := by rw [hw1]; exact Blk.new' (by simp) rfl
  have hm1 : ∀ k, (Y k ∨ k = w.heap.size + 1) → Y k ∨ w.heap.size ≤ k := fun k e => e.elim Or.inl (fun e => Or.inr (by omega))
  have h1 := (h.more hm1).keep hb1
  have hH1 := (hH.more hm1).stpd (Stpd.below p av lv hb1)
  have hY1 : ∀ k, (Y k ∨ k = w.heap.size + 1) → k < w1.heap.size := fun k e => by rcases e with e | e; (have := hY k e; omega); omega
  have hB1 : B ≤ w1.heap.size := by omega
  obtain ⟨c0, c1, c2, c3⟩ := blk4 hX
  obtain ⟨r0, r1, r2, f0, f1, f2⟩ := blk3v hR
  rw [Rx.n_plus] at h30 hln
  simp only [Rx.sz] at hps
  have hr := hH1.row4 (hrow 0 (by simp))
  have hk := hkid 0 (by simp)
  simp only [List.getElem_cons_zero, Nat.zero_mul, Nat.add_zero] at hr hk
  obtain ⟨a1, n1, e1, a2, n2, e2, hv1, hu1⟩ := pv_open hk
  rw [hv1, hu1] at hr hk
  obtain ⟨z0, z1, z2, z3⟩ := hr
  have C := IH B WB w1 _ p _ _ av lv lxs ls ps hk hH1 h1 hY1 hB1 h30 hln (by omega)
  obtain ⟨em, hem⟩ : ∃ em, em = r.emp := ⟨_, rfl⟩
  unfold PartPost pv at C
  rw [← hem] at C
  have C := hid C
  have HEM := hid hem
  have HB1 := hid hb1
  have HR := hid hR
  have HX := hid hX
  have HML := hid h.mv_lt
  have HY1 := hid hY1
  have HB1' := hid hB1
  have HPS := hid (show ps.length + (r.pairsL (ls.length + 1)).length + (r.lastL (ls.length + 1)).length * (r.firstL (ls.length + 1)).length ≤ 1000000 from by
    have e1 := Rx.pairsL_len (N := 30) r (ls.length + 1) h30
    have e2 := Rx.lastL_len r (ls.length + 1)
    have e3 := Rx.firstL_len r (ls.length + 1)
    have e4 : (r.lastL (ls.length + 1)).length * (r.firstL (ls.length + 1)).length ≤ 30 * 30 := Nat.mul_le_mul (by omega) (by omega)
    omega)
  clear hb1 hX hR hm1 h1 hH1 hY1 hB1 hP hH h hY htp hk hrow hkid hgi hLl hLt q1 q3 hv1 hu1 hem IH hps
  have hz := hid hz1
  cases em
  case false =>
    go_enter Tryd.func32, Tryd.ntmps32
    go_upto_region 1 with fail
    rw [← hw1]
    clear hw1
    go_wp2_with fail
    refine C.out.mono ?_
    rintro e w2 ⟨fv, lsv, av2, lv2, lxs2, rfl, hA, hS, hF, hL⟩
    obtain ⟨fa, fc, rfl, _⟩ := NsX.lenx hF
    obtain ⟨la, lc, rfl, _⟩ := NsX.lenx hL
    obtain ⟨FL, hFL⟩ : ∃ FL, FL = r.firstL (ls.length + 1) := ⟨_, rfl⟩
    obtain ⟨LL, hLL⟩ : ∃ LL, LL = r.lastL (ls.length + 1) := ⟨_, rfl⟩
    rw [← hFL] at hF ⊢
    rw [← hLL] at hL ⊢
    have HFL := hid hFL
    have HLL := hid hLL
    obtain ⟨w3, hw3⟩ : ∃ w3, w3 = w2.alloc (.cells #[.bool false, .slice fa FL.length fc, .slice la LL.length lc] 68) := ⟨_, rfl⟩
    have hb3 : Below w2.heap.size w2 w3 := by rw [hw3]; exact (Below.refl _ _).alloc (Nat.le_refl _) _
    have hN3 : Blk w3 w2.heap.size [.bool false, .slice fa FL.length fc, .slice la LL.length lc] 68 := by rw [hw3]; exact Blk.new w2 _ _
    have hR3 := (HR.out.frm hS.1 (fun e => by have := HML.out _ e; omega)).keep hb3
    have hX3 := (HX.out.frm hS.1 (fun e => by have := HML.out _ e; omega)).keep hb3
    have hA3 := hA.keep hb3
    have hS3 := ((Stpd.below p av lv HB1.out).trans hS).trans (Stpd.below p av2 lv2 hb3)
    have hF3 := Asd.stpd hF (Stpd.below p av2 lv2 hb3)
    have hL3 := Asd.stpd hL (Stpd.below p av2 lv2 hb3)
    have hY3 : ∀ k, (Y k ∨ k = w.heap.size + 1) → k < w3.heap.size := fun k e => by have := HY1.out k e; have := hS.1.size; have := hb3.size; omega
    have hnm : ¬ Mv NoY p av2 lv2 w2.heap.size := fun e => by have := hA.mv_lt _ e; omega
    have hml := hA.mv_lt
    obtain ⟨r0, r1, r2, f0, f1, f2⟩ := blk3v hR3
    obtain ⟨n0, m1, m2, _, _, _⟩ := blk3v hN3
    obtain ⟨c0, c1, c2, c3⟩ := blk4 hX3
    have hne : w2.heap.size ≠ w.heap.size + 1 := by have := hR3.lt; have := HY1.out (w.heap.size + 1) (Or.inr rfl); have := hS.1.size; omega
    have hne2 : w.heap.size ≠ w.heap.size + 1 := by omega
    have HA3 := hid hA3
    have HS3 := hid hS3
    have HF3 := hid hF3
    have HL3 := hid hL3
    have HY3 := hid hY3
    have HR3 := hid hR3
    have HN3 := hid hN3
    have HX3 := hid hX3
    have HSB := hid (show B ≤ w3.heap.size from by have := HB1'.out; have := hS.1.size; have := hb3.size; omega)
    have HNO := hid (show (∀ k, lv2.ownBlock = some k → k ≠ w2.heap.size ∧ k ≠ w.heap.size ∧ k ≠ w.heap.size + 1) from fun k e => by
      have h1 := hml k (Or.inr (Or.inr (Or.inl e)))
      refine ⟨by omega, fun e2 => ?_, fun e2 => hA.yl k e (Or.inr e2)⟩
      have := hS.2 k (by have := HB1.out.size; have := hz.out; omega) (Or.inr (Or.inr (Or.inl e)))
      have := HML.out k this
      omega)
    clear hA hS hF hL hA3 hS3 hF3 hL3 hY3 hnm hml hR3 hN3 hX3 hFL hLL z0 z1 z2 z3
    have J := hid fun W (hb : Below w3.heap.size w3 W) => joined_any (Bs := B) lv2 _ _ _ LL FL W (HA3.out.keep hb).lown (Nat.le_trans HSB.out hb.size) (NsX.lown (Asd.stpd HL3.out (Stpd.below p av2 lv2 hb))) (NsX.lown (Asd.stpd HF3.out (Stpd.below p av2 lv2 hb))) (by rw [List.length_append, HFL.out, HLL.out]; exact HPS.out)
    go_upto_region 8 with fail
    rw [← hw3]
    clear hw3 hb3
    go_upto_region 11 with fail
    have HBD := hid (show Below w3.heap.size w3 w3.drew from below_drawn (Below.refl _ _) 1)
    refine wp_region_held_drew (S := fun w' => Blk w' w2.heap.size [.bool false, .slice fa FL.length fc, .slice la LL.length lc] 68 ∧ Blk w' w.heap.size [.int .i64 6, .string ⟨#[]⟩, .slice a 0 c, .slice (some ⟨bb, off, none⟩) 1 capk] 25) (by kernel_rfl) ⟨HN3.out, HX3.out⟩ (fun hHeld => ?_)
    refine wpAnyH_take (i := 0) (oi := ({ dst := some 44, op := Op.fieldAddr 68 (Operand.tmp 8) 0, type := 0, pos := "auto.go:81", after := #[], guard := none } : Oper)) (v := ?_) rfl (by kernel_rfl) (by kernel_rfl) (by kernel_rfl) (fun _ _ _ h => h) (Or.inl ⟨by rfl, ?_⟩) hHeld ?_
    rotate_left 1
    · intro w9 hw9; (try (obtain ⟨k8, k4⟩ := hw9; obtain ⟨g0, g1, g2, _, _, _⟩ := blk3v k8; obtain ⟨h0, _, _, _⟩ := blk4 k4)); go_simp; try with_reducible rfl
    simp only [Act.put, List.setIfInBounds_toArray, List.set_cons_zero, List.set_cons_succ]
    refine wpAnyH_take (i := 1) (oi := ({ dst := some 45, op := Op.load 4 (Operand.tmp 44), type := 4, pos := "auto.go:81", after := #[{ on := 0, ground := Ground.data }], guard := none } : Oper)) (v := ?_) rfl (by kernel_rfl) (by kernel_rfl) (by kernel_rfl) (fun _ _ _ h => h) (Or.inl ⟨by rfl, ?_⟩) hHeld ?_
    rotate_left 1
    · intro w9 hw9; (try (obtain ⟨k8, k4⟩ := hw9; obtain ⟨g0, g1, g2, _, _, _⟩ := blk3v k8; obtain ⟨h0, _, _, _⟩ := blk4 k4)); go_simp; try with_reducible rfl
    simp only [Act.put, List.setIfInBounds_toArray, List.set_cons_zero, List.set_cons_succ]
    refine wpAnyH_take (i := 2) (oi := ({ dst := some 46, op := Op.move (Operand.tmp 45), type := 4, pos := "auto.go:81", after := #[{ on := 1, ground := Ground.data }], guard := none } : Oper)) (v := ?_) rfl (by kernel_rfl) (by kernel_rfl) (by kernel_rfl) (fun _ _ _ h => h) (Or.inl ⟨by rfl, ?_⟩) hHeld ?_
    rotate_left 1
    · intro w9 hw9; (try (obtain ⟨k8, k4⟩ := hw9; obtain ⟨g0, g1, g2, _, _, _⟩ := blk3v k8; obtain ⟨h0, _, _, _⟩ := blk4 k4)); go_simp; try with_reducible rfl
    simp only [Act.put, List.setIfInBounds_toArray, List.set_cons_zero, List.set_cons_succ]
    refine wpAnyH_take (i := 3) (oi := ({ dst := some 47, op := Op.fieldAddr 25 (Operand.tmp 4) 0, type := 0, pos := "auto.go:81", after := #[{ on := 2, ground := Ground.guard }], guard := some (2, false) } : Oper)) (v := ?_) rfl (by kernel_rfl) (by kernel_rfl) (by kernel_rfl) (fun _ _ _ h => h) (Or.inl ⟨by rfl, ?_⟩) hHeld ?_
    rotate_left 1
    · intro w9 hw9; (try (obtain ⟨k8, k4⟩ := hw9; obtain ⟨g0, g1, g2, _, _, _⟩ := blk3v k8; obtain ⟨h0, _, _, _⟩ := blk4 k4)); go_simp; try with_reducible rfl
    simp only [Act.put, List.setIfInBounds_toArray, List.set_cons_zero, List.set_cons_succ]
    refine wpAnyH_take (i := 4) (oi := ({ dst := some 48, op := Op.load 3 (Operand.tmp 47), type := 3, pos := "auto.go:81", after := #[{ on := 3, ground := Ground.data }, { on := 2, ground := Ground.guard }], guard := some (2, false) } : Oper)) (v := ?_) rfl (by kernel_rfl) (by kernel_rfl) (by kernel_rfl) (fun _ _ _ h => h) (Or.inl ⟨by rfl, ?_⟩) hHeld ?_
    rotate_left 1
    · intro w9 hw9; (try (obtain ⟨k8, k4⟩ := hw9; obtain ⟨g0, g1, g2, _, _, _⟩ := blk3v k8; obtain ⟨h0, _, _, _⟩ := blk4 k4)); go_simp; try with_reducible rfl
    simp only [Act.put, List.setIfInBounds_toArray, List.set_cons_zero, List.set_cons_succ]
    refine wpAnyH_take (i := 5) (oi := ({ dst := some 49, op := Op.binOp BinOp.eql 3 (Operand.tmp 48) (Operand.const (Value.int IntKind.i64 5)) 3, type := 4, pos := "auto.go:81", after := #[{ on := 4, ground := Ground.data }, { on := 2, ground := Ground.guard }], guard := some (2, false) } : Oper)) (v := ?_) rfl (by kernel_rfl) (by kernel_rfl) (by kernel_rfl) (fun _ _ _ h => h) (Or.inl ⟨by rfl, ?_⟩) hHeld ?_
    rotate_left 1
    · intro w9 hw9; (try (obtain ⟨k8, k4⟩ := hw9; obtain ⟨g0, g1, g2, _, _, _⟩ := blk3v k8; obtain ⟨h0, _, _, _⟩ := blk4 k4)); go_simp; try with_reducible rfl
    simp only [Act.put, List.setIfInBounds_toArray, List.set_cons_zero, List.set_cons_succ]
    refine wpAnyH_take (i := 6) (oi := ({ dst := some 50, op := Op.pick (Operand.tmp 46) (Operand.const (Value.bool true)) (Operand.tmp 49), type := 4, pos := "auto.go:81", after := #[{ on := 2, ground := Ground.data }, { on := 5, ground := Ground.data }], guard := none } : Oper)) (v := ?_) rfl (by kernel_rfl) (by kernel_rfl) (by kernel_rfl) (fun _ _ _ h => h) (Or.inl ⟨by rfl, ?_⟩) hHeld ?_
    rotate_left 1
    · intro w9 hw9; (try (obtain ⟨k8, k4⟩ := hw9; obtain ⟨g0, g1, g2, _, _, _⟩ := blk3v k8; obtain ⟨h0, _, _, _⟩ := blk4 k4)); go_simp; try with_reducible rfl
    simp only [Act.put, List.setIfInBounds_toArray, List.set_cons_zero, List.set_cons_succ]
    refine wpAnyH_take (i := 7) (oi := ({ dst := some 51, op := Op.fieldAddr 68 (Operand.tmp 8) 1, type := 0, pos := "auto.go:81", after := #[], guard := none } : Oper)) (v := ?_) rfl (by kernel_rfl) (by kernel_rfl) (by kernel_rfl) (fun _ _ _ h => h) (Or.inl ⟨by rfl, ?_⟩) hHeld ?_
    rotate_left 1
    · intro w9 hw9; (try (obtain ⟨k8, k4⟩ := hw9; obtain ⟨g0, g1, g2, _, _, _⟩ := blk3v k8; obtain ⟨h0, _, _, _⟩ := blk4 k4)); go_simp; try with_reducible rfl
    simp only [Act.put, List.setIfInBounds_toArray, List.set_cons_zero, List.set_cons_succ]
    refine wpAnyH_take (i := 8) (oi := ({ dst := some 52, op := Op.load 66 (Operand.tmp 51), type := 66, pos := "auto.go:81", after := #[{ on := 7, ground := Ground.data }], guard := none } : Oper)) (v := ?_) rfl (by kernel_rfl) (by kernel_rfl) (by kernel_rfl) (fun _ _ _ h => h) (Or.inl ⟨by rfl, ?_⟩) hHeld ?_
    rotate_left 1
    · intro w9 hw9; (try (obtain ⟨k8, k4⟩ := hw9; obtain ⟨g0, g1, g2, _, _, _⟩ := blk3v k8; obtain ⟨h0, _, _, _⟩ := blk4 k4)); go_simp; try with_reducible rfl
    simp only [Act.put, List.setIfInBounds_toArray, List.set_cons_zero, List.set_cons_succ]
    refine wpAnyH_take (i := 9) (oi := ({ dst := some 53, op := Op.fieldAddr 68 (Operand.tmp 8) 2, type := 0, pos := "auto.go:81", after := #[], guard := none } : Oper)) (v := ?_) rfl (by kernel_rfl) (by kernel_rfl) (by kernel_rfl) (fun _ _ _ h => h) (Or.inl ⟨by rfl, ?_⟩) hHeld ?_
    rotate_left 1
    · intro w9 hw9; (try (obtain ⟨k8, k4⟩ := hw9; obtain ⟨g0, g1, g2, _, _, _⟩ := blk3v k8; obtain ⟨h0, _, _, _⟩ := blk4 k4)); go_simp; try with_reducible rfl
    simp only [Act.put, List.setIfInBounds_toArray, List.set_cons_zero, List.set_cons_succ]
    refine wpAnyH_take (i := 10) (oi := ({ dst := some 54, op := Op.load 66 (Operand.tmp 53), type := 66, pos := "auto.go:81", after := #[{ on := 9, ground := Ground.data }], guard := none } : Oper)) (v := ?_) rfl (by kernel_rfl) (by kernel_rfl) (by kernel_rfl) (fun _ _ _ h => h) (Or.inl ⟨by rfl, ?_⟩) hHeld ?_
    rotate_left 1
    · intro w9 hw9; (try (obtain ⟨k8, k4⟩ := hw9; obtain ⟨g0, g1, g2, _, _, _⟩ := blk3v k8; obtain ⟨h0, _, _, _⟩ := blk4 k4)); go_simp; try with_reducible rfl
    simp only [Act.put, List.setIfInBounds_toArray, List.set_cons_zero, List.set_cons_succ]
    refine wpAnyH_take (i := 11) (oi := ({ dst := some 55, op := Op.build 68 #[(0, Operand.tmp 50), (1, Operand.tmp 52), (2, Operand.tmp 54)], type := 68, pos := "auto.go:81", after := #[{ on := 6, ground := Ground.data }, { on := 8, ground := Ground.data }, { on := 10, ground := Ground.data }], guard := none } : Oper)) (v := ?_) rfl (by kernel_rfl) (by kernel_rfl) (by kernel_rfl) (fun _ _ _ h => h) (Or.inl ⟨by rfl, ?_⟩) hHeld ?_
    rotate_left 1
    · intro w9 hw9; (try (obtain ⟨k8, k4⟩ := hw9; obtain ⟨g0, g1, g2, _, _, _⟩ := blk3v k8; obtain ⟨h0, _, _, _⟩ := blk4 k4)); go_simp; try with_reducible rfl
    simp only [Act.put, List.setIfInBounds_toArray, List.set_cons_zero, List.set_cons_succ]
    refine wpAnyH_take (i := 12) (oi := ({ dst := some 56, op := Op.move (Operand.tmp 2), type := 69, pos := "auto.go:81", after := #[], guard := none } : Oper)) (v := ?_) rfl (by kernel_rfl) (by kernel_rfl) (by kernel_rfl) (fun _ _ _ h => h) (Or.inl ⟨by rfl, ?_⟩) hHeld ?_
    rotate_left 1
    · intro w9 hw9; (try (obtain ⟨k8, k4⟩ := hw9; obtain ⟨g0, g1, g2, _, _, _⟩ := blk3v k8; obtain ⟨h0, _, _, _⟩ := blk4 k4)); go_simp; try with_reducible rfl
    simp only [Act.put, List.setIfInBounds_toArray, List.set_cons_zero, List.set_cons_succ]
    refine wpAnyH_take (i := 13) (oi := ({ dst := some 57, op := Op.fieldAddr 68 (Operand.tmp 8) 2, type := 0, pos := "auto.go:81", after := #[], guard := none } : Oper)) (v := ?_) rfl (by kernel_rfl) (by kernel_rfl) (by kernel_rfl) (fun _ _ _ h => h) (Or.inl ⟨by rfl, ?_⟩) hHeld ?_
    rotate_left 1
    · intro w9 hw9; (try (obtain ⟨k8, k4⟩ := hw9; obtain ⟨g0, g1, g2, _, _, _⟩ := blk3v k8; obtain ⟨h0, _, _, _⟩ := blk4 k4)); go_simp; try with_reducible rfl
    simp only [Act.put, List.setIfInBounds_toArray, List.set_cons_zero, List.set_cons_succ]
    refine wpAnyH_take (i := 14) (oi := ({ dst := some 58, op := Op.load 66 (Operand.tmp 57), type := 66, pos := "auto.go:81", after := #[{ on := 13, ground := Ground.data }], guard := none } : Oper)) (v := ?_) rfl (by kernel_rfl) (by kernel_rfl) (by kernel_rfl) (fun _ _ _ h => h) (Or.inl ⟨by rfl, ?_⟩) hHeld ?_
    rotate_left 1
    · intro w9 hw9; (try (obtain ⟨k8, k4⟩ := hw9; obtain ⟨g0, g1, g2, _, _, _⟩ := blk3v k8; obtain ⟨h0, _, _, _⟩ := blk4 k4)); go_simp; try with_reducible rfl
    simp only [Act.put, List.setIfInBounds_toArray, List.set_cons_zero, List.set_cons_succ]
    refine wpAnyH_take (i := 15) (oi := ({ dst := some 59, op := Op.fieldAddr 68 (Operand.tmp 8) 1, type := 0, pos := "auto.go:81", after := #[], guard := none } : Oper)) (v := ?_) rfl (by kernel_rfl) (by kernel_rfl) (by kernel_rfl) (fun _ _ _ h => h) (Or.inl ⟨by rfl, ?_⟩) hHeld ?_
    rotate_left 1
    · intro w9 hw9; (try (obtain ⟨k8, k4⟩ := hw9; obtain ⟨g0, g1, g2, _, _, _⟩ := blk3v k8; obtain ⟨h0, _, _, _⟩ := blk4 k4)); go_simp; try with_reducible rfl
    simp only [Act.put, List.setIfInBounds_toArray, List.set_cons_zero, List.set_cons_succ]
    refine wpAnyH_take (i := 16) (oi := ({ dst := some 60, op := Op.load 66 (Operand.tmp 59), type := 66, pos := "auto.go:81", after := #[{ on := 15, ground := Ground.data }], guard := none } : Oper)) (v := ?_) rfl (by kernel_rfl) (by kernel_rfl) (by kernel_rfl) (fun _ _ _ h => h) (Or.inl ⟨by rfl, ?_⟩) hHeld ?_
    rotate_left 1
    · intro w9 hw9; (try (obtain ⟨k8, k4⟩ := hw9; obtain ⟨g0, g1, g2, _, _, _⟩ := blk3v k8; obtain ⟨h0, _, _, _⟩ := blk4 k4)); go_simp; try with_reducible rfl
    simp only [Act.put, List.setIfInBounds_toArray, List.set_cons_zero, List.set_cons_succ]
    refine wpAnyH_ready (rs := [17]) (by kernel_rfl) (by simp) ?_
    refine AllReadyH.cons (o := ({ dst := some 61, op := Op.call { callee := Callee.value (Operand.func 45), args := #[Operand.tmp 56, Operand.tmp 58, Operand.tmp 60], argTypes := #[69, 66, 66] }, type := 69, pos := "auto.go:81", after := #[{ on := 12, ground := Ground.data }, { on := 14, ground := Ground.data }, { on := 16, ground := Ground.data }, { on := 2, ground := Ground.chain }], guard := none } : Oper)) rfl (fun K hK => ?_) AllReadyH.nil
    go_simp
    go_at_call 45
    refine (J.out _ HBD.out).mono ?_
    rintro e w4 ⟨lv3, rfl, hown, hpm, hsz⟩
    have hpm : PrM w3 lv2 lv3 w4 := PrM.trans ⟨(Frm.refl _ _).drewN 1, Or.inl rfl⟩ hpm
    have hN4 := HN3.out.frm (hpm.1) (fun e => (HNO.out _ e).1 rfl)
    have hX4 := HX3.out.frm (hpm.1) (fun e => (HNO.out _ e).2.1 rfl)
    have hR4 := HR3.out.frm (hpm.1) (fun e => (HNO.out _ e).2.2 rfl)
    obtain ⟨r0, r1, r2, f0, f1, f2⟩ := blk3v hR4
    have HO4 := hid hown
    have HPM := hid hpm
    have HR4 := hid hR4
    have HN4 := hid hN4
    have HX4 := hid hX4
    clear hown hpm hN4 hX4 hR4
    refine hK.out _ _ (⟨HN4.out, HX4.out⟩) (fun hHeld => ?_)
    clear hK K
    (try simp only [Act.put, List.setIfInBounds_toArray, List.set_cons_zero, List.set_cons_succ])
    refine wpAnyH_ready (rs := [18]) (by kernel_rfl) (by simp) ?_
    refine AllReadyH.cons (o := ({ dst := none, op := Op.store 68 (Operand.tmp 6) (Operand.tmp 55), type := 0, pos := "auto.go:81", after := #[{ on := 11, ground := Ground.data }, { on := 17, ground := Ground.chain }, { on := 0, ground := Ground.phase }, { on := 1, ground := Ground.phase }, { on := 2, ground := Ground.phase }, { on := 3, ground := Ground.phase }, { on := 4, ground := Ground.phase }, { on := 5, ground := Ground.phase }, { on := 6, ground := Ground.phase }, { on := 7, ground := Ground.phase }, { on := 8, ground := Ground.phase }, { on := 9, ground := Ground.phase }, { on := 10, ground := Ground.phase }, { on := 11, ground := Ground.phase }, { on := 12, ground := Ground.textOnly Departure.lateStores }, { on := 13, ground := Ground.textOnly Departure.lateStores }, { on := 14, ground := Ground.textOnly Departure.lateStores }, { on := 15, ground := Ground.textOnly Departure.lateStores }, { on := 16, ground := Ground.textOnly Departure.lateStores }, { on := 17, ground := Ground.textOnly Departure.lateStoresUnsure }], guard := none } : Oper)) rfl (fun K hK => ?_) AllReadyH.nil
    go_simp
    refine hK.out _ _ (⟨HN4.out.other3 hne _ _ _, HX4.out.other3 hne2 _ _ _⟩) (fun hHeld => ?_)
    clear hK K
    (try simp only [Act.put, List.setIfInBounds_toArray, List.set_cons_zero, List.set_cons_succ])
    refine wpAnyH_take (i := 19) (oi := ({ dst := some 7, op := Op.assign (Operand.tmp 61), type := 69, pos := "auto.go:81", after := #[{ on := 17, ground := Ground.data }, { on := 18, ground := Ground.chain }, { on := 0, ground := Ground.phase }, { on := 1, ground := Ground.phase }, { on := 2, ground := Ground.phase }, { on := 3, ground := Ground.phase }, { on := 4, ground := Ground.phase }, { on := 5, ground := Ground.phase }, { on := 6, ground := Ground.phase }, { on := 7, ground := Ground.phase }, { on := 8, ground := Ground.phase }, { on := 9, ground := Ground.phase }, { on := 10, ground := Ground.phase }, { on := 11, ground := Ground.phase }, { on := 12, ground := Ground.phase }, { on := 13, ground := Ground.phase }, { on := 14, ground := Ground.phase }, { on := 15, ground := Ground.phase }, { on := 16, ground := Ground.phase }, { on := 17, ground := Ground.phase }, { on := 18, ground := Ground.phase }], guard := none } : Oper)) (v := ?_) rfl (by kernel_rfl) (by kernel_rfl) (by kernel_rfl) (fun _ _ _ h => h) (Or.inl ⟨by rfl, ?_⟩) hHeld ?_
    rotate_left 1
    · intro w9 hw9; (try (obtain ⟨k8, k4⟩ := hw9; obtain ⟨g0, g1, g2, _, _, _⟩ := blk3v k8; obtain ⟨h0, _, _, _⟩ := blk4 k4)); go_simp; try with_reducible rfl
    simp only [Act.put, List.setIfInBounds_toArray, List.set_cons_zero, List.set_cons_succ]
    refine wpAnyH_done (by kernel_rfl) ?_ _
    obtain ⟨hA4, hS4⟩ := HA3.out.pairs HO4.out HPM.out HY3.out
    obtain ⟨e1, e2, e3, e4, e5⟩ := part_end (Y := Y) (e := false) (Nat.le_succ w.heap.size) hA4 (HS3.out.trans hS4) (Asd.stpd HF3.out hS4) (Asd.stpd HL3.out hS4) HR4.out
    have HE1 := hid e1
    have HE2 := hid e2
    have HE3 := hid e3
    have HE4 := hid e4
    have HE5 := hid e5
    clear hA4 hS4 e1 e2 e3 e4 e5
    go_wp2
    have e1 := HE1.out
    have e2 := HE2.out
    have e3 := HE3.out
    have e4 := HE4.out
    have e5 := HE5.out
    refine bodyPost_ret (tup_ret (s := 6) (s2 := 7) rfl e1 Tryd.results32) rfl ⟨_, _, _, _, _, (by show _ = Ending.returned (.tuple #[.agg #[.bool (Rx.plus r).emp, _, _], _]); rw [show (Rx.plus r).emp = r.emp from rfl, ← HEM.out]; rfl), (by simpa [Rx.pairsL, Rx.labs, HFL.out, HLL.out, List.append_assoc] using e2), e3, (by rw [show (Rx.plus r).firstL (ls.length + 1) = FL from HFL.out.symm]; exact e4), (by rw [show (Rx.plus r).lastL (ls.length + 1) = LL from HLL.out.symm]; exact e5)⟩
  case true =>
    go_enter Tryd.func32, Tryd.ntmps32
    go_upto_region 1 with fail
    rw [← hw1]
    clear hw1
    go_wp2_with fail
    refine C.out.mono ?_
    rintro e w2 ⟨fv, lsv, av2, lv2, lxs2, rfl, hA, hS, hF, hL⟩
    obtain ⟨fa, fc, rfl, _⟩ := NsX.lenx hF
    obtain ⟨la, lc, rfl, _⟩ := NsX.lenx hL
    obtain ⟨FL, hFL⟩ : ∃ FL, FL = r.firstL (ls.length + 1) := ⟨_, rfl⟩
    obtain ⟨LL, hLL⟩ : ∃ LL, LL = r.lastL (ls.length + 1) := ⟨_, rfl⟩
    rw [← hFL] at hF ⊢
    rw [← hLL] at hL ⊢
    have HFL := hid hFL
    have HLL := hid hLL
    obtain ⟨w3, hw3⟩ : ∃ w3, w3 = w2.alloc (.cells #[.bool true, .slice fa FL.length fc, .slice la LL.length lc] 68) := ⟨_, rfl⟩
    have hb3 : Below w2.heap.size w2 w3 := by rw [hw3]; exact (Below.refl _ _).alloc (Nat.le_refl _) _
    have hN3 : Blk w3 w2.heap.size [.bool true, .slice fa FL.length fc, .slice la LL.length lc] 68 := by rw [hw3]; exact Blk.new w2 _ _
    have hR3 := (HR.out.frm hS.1 (fun e => by have := HML.out _ e; omega)).keep hb3
    have hX3 := (HX.out.frm hS.1 (fun e => by have := HML.out _ e; omega)).keep hb3
    have hA3 := hA.keep hb3
    have hS3 := ((Stpd.below p av lv HB1.out).trans hS).trans (Stpd.below p av2 lv2 hb3)
    have hF3 := Asd.stpd hF (Stpd.below p av2 lv2 hb3)
    have hL3 := Asd.stpd hL (Stpd.below p av2 lv2 hb3)
    have hY3 : ∀ k, (Y k ∨ k = w.heap.size + 1) → k < w3.heap.size := fun k e => by have := HY1.out k e; have := hS.1.size; have := hb3.size; omega
    have hnm : ¬ Mv NoY p av2 lv2 w2.heap.size := fun e => by have := hA.mv_lt _ e; omega
    have hml := hA.mv_lt
    obtain ⟨r0, r1, r2, f0, f1, f2⟩ := blk3v hR3
    obtain ⟨n0, m1, m2, _, _, _⟩ := blk3v hN3
    obtain ⟨c0, c1, c2, c3⟩ := blk4 hX3
    have hne : w2.heap.size ≠ w.heap.size + 1 := by have := hR3.lt; have := HY1.out (w.heap.size + 1) (Or.inr rfl); have := hS.1.size; omega
    have hne2 : w.heap.size ≠ w.heap.size + 1 := by omega
    have HA3 := hid hA3
    have HS3 := hid hS3
    have HF3 := hid hF3
    have HL3 := hid hL3
    have HY3 := hid hY3
    have HR3 := hid hR3
    have HN3 := hid hN3
    have HX3 := hid hX3
    have HSB := hid (show B ≤ w3.heap.size from by have := HB1'.out; have := hS.1.size; have := hb3.size; omega)
    have HNO := hid (show (∀ k, lv2.ownBlock = some k → k ≠ w2.heap.size ∧ k ≠ w.heap.size ∧ k ≠ w.heap.size + 1) from fun k e => by
      have h1 := hml k (Or.inr (Or.inr (Or.inl e)))
      refine ⟨by omega, fun e2 => ?_, fun e2 => hA.yl k e (Or.inr e2)⟩
      have := hS.2 k (by have := HB1.out.size; have := hz.out; omega) (Or.inr (Or.inr (Or.inl e)))
      have := HML.out k this
      omega)
    clear hA hS hF hL hA3 hS3 hF3 hL3 hY3 hnm hml hR3 hN3 hX3 hFL hLL z0 z1 z2 z3
    have J := hid fun W (hb : Below w3.heap.size w3 W) => joined_any (Bs := B) lv2 _ _ _ LL FL W (HA3.out.keep hb).lown (Nat.le_trans HSB.out hb.size) (NsX.lown (Asd.stpd HL3.out (Stpd.below p av2 lv2 hb))) (NsX.lown (Asd.stpd HF3.out (Stpd.below p av2 lv2 hb))) (by rw [List.length_append, HFL.out, HLL.out]; exact HPS.out)
    go_upto_region 8 with fail
    rw [← hw3]
    clear hw3 hb3
    go_upto_region 11 with fail
    have HBD := hid (show Below w3.heap.size w3 w3.drew from below_drawn (Below.refl _ _) 1)
    refine wp_region_held_drew (S := fun w' => Blk w' w2.heap.size [.bool true, .slice fa FL.length fc, .slice la LL.length lc] 68 ∧ Blk w' w.heap.size [.int .i64 6, .string ⟨#[]⟩, .slice a 0 c, .slice (some ⟨bb, off, none⟩) 1 capk] 25) (by kernel_rfl) ⟨HN3.out, HX3.out⟩ (fun hHeld => ?_)
    refine wpAnyH_take (i := 0) (oi := ({ dst := some 44, op := Op.fieldAddr 68 (Operand.tmp 8) 0, type := 0, pos := "auto.go:81", after := #[], guard := none } : Oper)) (v := ?_) rfl (by kernel_rfl) (by kernel_rfl) (by kernel_rfl) (fun _ _ _ h => h) (Or.inl ⟨by rfl, ?_⟩) hHeld ?_
    rotate_left 1
    · intro w9 hw9; (try (obtain ⟨k8, k4⟩ := hw9; obtain ⟨g0, g1, g2, _, _, _⟩ := blk3v k8; obtain ⟨h0, _, _, _⟩ := blk4 k4)); go_simp; try with_reducible rfl
    simp only [Act.put, List.setIfInBounds_toArray, List.set_cons_zero, List.set_cons_succ]
    refine wpAnyH_take (i := 1) (oi := ({ dst := some 45, op := Op.load 4 (Operand.tmp 44), type := 4, pos := "auto.go:81", after := #[{ on := 0, ground := Ground.data }], guard := none } : Oper)) (v := ?_) rfl (by kernel_rfl) (by kernel_rfl) (by kernel_rfl) (fun _ _ _ h => h) (Or.inl ⟨by rfl, ?_⟩) hHeld ?_
    rotate_left 1
    · intro w9 hw9; (try (obtain ⟨k8, k4⟩ := hw9; obtain ⟨g0, g1, g2, _, _, _⟩ := blk3v k8; obtain ⟨h0, _, _, _⟩ := blk4 k4)); go_simp; try with_reducible rfl
    simp only [Act.put, List.setIfInBounds_toArray, List.set_cons_zero, List.set_cons_succ]
    refine wpAnyH_take (i := 2) (oi := ({ dst := some 46, op := Op.move (Operand.tmp 45), type := 4, pos := "auto.go:81", after := #[{ on := 1, ground := Ground.data }], guard := none } : Oper)) (v := ?_) rfl (by kernel_rfl) (by kernel_rfl) (by kernel_rfl) (fun _ _ _ h => h) (Or.inl ⟨by rfl, ?_⟩) hHeld ?_
    rotate_left 1
    · intro w9 hw9; (try (obtain ⟨k8, k4⟩ := hw9; obtain ⟨g0, g1, g2, _, _, _⟩ := blk3v k8; obtain ⟨h0, _, _, _⟩ := blk4 k4)); go_simp; try with_reducible rfl
    simp only [Act.put, List.setIfInBounds_toArray, List.set_cons_zero, List.set_cons_succ]
    refine wpAnyH_take (i := 3) (oi := ({ dst := some 47, op := Op.fieldAddr 25 (Operand.tmp 4) 0, type := 0, pos := "auto.go:81", after := #[{ on := 2, ground := Ground.guard }], guard := some (2, false) } : Oper)) (v := undef) rfl (by kernel_rfl) (by kernel_rfl) (by kernel_rfl) (fun _ _ _ h => h) (Or.inr ⟨by rfl, rfl⟩) hHeld ?_
    simp only [Act.put, List.setIfInBounds_toArray, List.set_cons_zero, List.set_cons_succ]
    refine wpAnyH_take (i := 4) (oi := ({ dst := some 48, op := Op.load 3 (Operand.tmp 47), type := 3, pos := "auto.go:81", after := #[{ on := 3, ground := Ground.data }, { on := 2, ground := Ground.guard }], guard := some (2, false) } : Oper)) (v := undef) rfl (by kernel_rfl) (by kernel_rfl) (by kernel_rfl) (fun _ _ _ h => h) (Or.inr ⟨by rfl, rfl⟩) hHeld ?_
    simp only [Act.put, List.setIfInBounds_toArray, List.set_cons_zero, List.set_cons_succ]
    refine wpAnyH_take (i := 5) (oi := ({ dst := some 49, op := Op.binOp BinOp.eql 3 (Operand.tmp 48) (Operand.const (Value.int IntKind.i64 5)) 3, type := 4, pos := "auto.go:81", after := #[{ on := 4, ground := Ground.data }, { on := 2, ground := Ground.guard }], guard := some (2, false) } : Oper)) (v := undef) rfl (by kernel_rfl) (by kernel_rfl) (by kernel_rfl) (fun _ _ _ h => h) (Or.inr ⟨by rfl, rfl⟩) hHeld ?_
    simp only [Act.put, List.setIfInBounds_toArray, List.set_cons_zero, List.set_cons_succ]
    refine wpAnyH_take (i := 6) (oi := ({ dst := some 50, op := Op.pick (Operand.tmp 46) (Operand.const (Value.bool true)) (Operand.tmp 49), type := 4, pos := "auto.go:81", after := #[{ on := 2, ground := Ground.data }, { on := 5, ground := Ground.data }], guard := none } : Oper)) (v := ?_) rfl (by kernel_rfl) (by kernel_rfl) (by kernel_rfl) (fun _ _ _ h => h) (Or.inl ⟨by rfl, ?_⟩) hHeld ?_
    rotate_left 1
    · intro w9 hw9; (try (obtain ⟨k8, k4⟩ := hw9; obtain ⟨g0, g1, g2, _, _, _⟩ := blk3v k8; obtain ⟨h0, _, _, _⟩ := blk4 k4)); go_simp; try with_reducible rfl
    simp only [Act.put, List.setIfInBounds_toArray, List.set_cons_zero, List.set_cons_succ]
    refine wpAnyH_take (i := 7) (oi := ({ dst := some 51, op := Op.fieldAddr 68 (Operand.tmp 8) 1, type := 0, pos := "auto.go:81", after := #[], guard := none } : Oper)) (v := ?_) rfl (by kernel_rfl) (by kernel_rfl) (by kernel_rfl) (fun _ _ _ h => h) (Or.inl ⟨by rfl, ?_⟩) hHeld ?_
    rotate_left 1
    · intro w9 hw9; (try (obtain ⟨k8, k4⟩ := hw9; obtain ⟨g0, g1, g2, _, _, _⟩ := blk3v k8; obtain ⟨h0, _, _, _⟩ := blk4 k4)); go_simp; try with_reducible rfl
    simp only [Act.put, List.setIfInBounds_toArray, List.set_cons_zero, List.set_cons_succ]
    refine wpAnyH_take (i := 8) (oi := ({ dst := some 52, op := Op.load 66 (Operand.tmp 51), type := 66, pos := "auto.go:81", after := #[{ on := 7, ground := Ground.data }], guard := none } : Oper)) (v := ?_) rfl (by kernel_rfl) (by kernel_rfl) (by kernel_rfl) (fun _ _ _ h => h) (Or.inl ⟨by rfl, ?_⟩) hHeld ?_
    rotate_left 1
    · intro w9 hw9; (try (obtain ⟨k8, k4⟩ := hw9; obtain ⟨g0, g1, g2, _, _, _⟩ := blk3v k8; obtain ⟨h0, _, _, _⟩ := blk4 k4)); go_simp; try with_reducible rfl
    simp only [Act.put, List.setIfInBounds_toArray, List.set_cons_zero, List.set_cons_succ]
    refine wpAnyH_take (i := 9) (oi := ({ dst := some 53, op := Op.fieldAddr 68 (Operand.tmp 8) 2, type := 0, pos := "auto.go:81", after := #[], guard := none } : Oper)) (v := ?_) rfl (by kernel_rfl) (by kernel_rfl) (by kernel_rfl) (fun _ _ _ h => h) (Or.inl ⟨by rfl, ?_⟩) hHeld ?_
    rotate_left 1
    · intro w9 hw9; (try (obtain ⟨k8, k4⟩ := hw9; obtain ⟨g0, g1, g2, _, _, _⟩ := blk3v k8; obtain ⟨h0, _, _, _⟩ := blk4 k4)); go_simp; try with_reducible rfl
    simp only [Act.put, List.setIfInBounds_toArray, List.set_cons_zero, List.set_cons_succ]
    refine wpAnyH_take (i := 10) (oi := ({ dst := some 54, op := Op.load 66 (Operand.tmp 53), type := 66, pos := "auto.go:81", after := #[{ on := 9, ground := Ground.data }], guard := none } : Oper)) (v := ?_) rfl (by kernel_rfl) (by kernel_rfl) (by kernel_rfl) (fun _ _ _ h => h) (Or.inl ⟨by rfl, ?_⟩) hHeld ?_
    rotate_left 1
    · intro w9 hw9; (try (obtain ⟨k8, k4⟩ := hw9; obtain ⟨g0, g1, g2, _, _, _⟩ := blk3v k8; obtain ⟨h0, _, _, _⟩ := blk4 k4)); go_simp; try with_reducible rfl
    simp only [Act.put, List.setIfInBounds_toArray, List.set_cons_zero, List.set_cons_succ]
    refine wpAnyH_take (i := 11) (oi := ({ dst := some 55, op := Op.build 68 #[(0, Operand.tmp 50), (1, Operand.tmp 52), (2, Operand.tmp 54)], type := 68, pos := "auto.go:81", after := #[{ on := 6, ground := Ground.data }, { on := 8, ground := Ground.data }, { on := 10, ground := Ground.data }], guard := none } : Oper)) (v := ?_) rfl (by kernel_rfl) (by kernel_rfl) (by kernel_rfl) (fun _ _ _ h => h) (Or.inl ⟨by rfl, ?_⟩) hHeld ?_
    rotate_left 1
    · intro w9 hw9; (try (obtain ⟨k8, k4⟩ := hw9; obtain ⟨g0, g1, g2, _, _, _⟩ := blk3v k8; obtain ⟨h0, _, _, _⟩ := blk4 k4)); go_simp; try with_reducible rfl
    simp only [Act.put, List.setIfInBounds_toArray, List.set_cons_zero, List.set_cons_succ]
    refine wpAnyH_take (i := 12) (oi := ({ dst := some 56, op := Op.move (Operand.tmp 2), type := 69, pos := "auto.go:81", after := #[], guard := none } : Oper)) (v := ?_) rfl (by kernel_rfl) (by kernel_rfl) (by kernel_rfl) (fun _ _ _ h => h) (Or.inl ⟨by rfl, ?_⟩) hHeld ?_
    rotate_left 1
    · intro w9 hw9; (try (obtain ⟨k8, k4⟩ := hw9; obtain ⟨g0, g1, g2, _, _, _⟩ := blk3v k8; obtain ⟨h0, _, _, _⟩ := blk4 k4)); go_simp; try with_reducible rfl
    simp only [Act.put, List.setIfInBounds_toArray, List.set_cons_zero, List.set_cons_succ]
    refine wpAnyH_take (i := 13) (oi := ({ dst := some 57, op := Op.fieldAddr 68 (Operand.tmp 8) 2, type := 0, pos := "auto.go:81", after := #[], guard := none } : Oper)) (v := ?_) rfl (by kernel_rfl) (by kernel_rfl) (by kernel_rfl) (fun _ _ _ h => h) (Or.inl ⟨by rfl, ?_⟩) hHeld ?_
    rotate_left 1
    · intro w9 hw9; (try (obtain ⟨k8, k4⟩ := hw9; obtain ⟨g0, g1, g2, _, _, _⟩ := blk3v k8; obtain ⟨h0, _, _, _⟩ := blk4 k4)); go_simp; try with_reducible rfl
    simp only [Act.put, List.setIfInBounds_toArray, List.set_cons_zero, List.set_cons_succ]
    refine wpAnyH_take (i := 14) (oi := ({ dst := some 58, op := Op.load 66 (Operand.tmp 57), type := 66, pos := "auto.go:81", after := #[{ on := 13, ground := Ground.data }], guard := none } : Oper)) (v := ?_) rfl (by kernel_rfl) (by kernel_rfl) (by kernel_rfl) (fun _ _ _ h => h) (Or.inl ⟨by rfl, ?_⟩) hHeld ?_
    rotate_left 1
    · intro w9 hw9; (try (obtain ⟨k8, k4⟩ := hw9; obtain ⟨g0, g1, g2, _, _, _⟩ := blk3v k8; obtain ⟨h0, _, _, _⟩ := blk4 k4)); go_simp; try with_reducible rfl
    simp only [Act.put, List.setIfInBounds_toArray, List.set_cons_zero, List.set_cons_succ]
    refine wpAnyH_take (i := 15) (oi := ({ dst := some 59, op := Op.fieldAddr 68 (Operand.tmp 8) 1, type := 0, pos := "auto.go:81", after := #[], guard := none } : Oper)) (v := ?_) rfl (by kernel_rfl) (by kernel_rfl) (by kernel_rfl) (fun _ _ _ h => h) (Or.inl ⟨by rfl, ?_⟩) hHeld ?_
    rotate_left 1
    · intro w9 hw9; (try (obtain ⟨k8, k4⟩ := hw9; obtain ⟨g0, g1, g2, _, _, _⟩ := blk3v k8; obtain ⟨h0, _, _, _⟩ := blk4 k4)); go_simp; try with_reducible rfl
    simp only [Act.put, List.setIfInBounds_toArray, List.set_cons_zero, List.set_cons_succ]
    refine wpAnyH_take (i := 16) (oi := ({ dst := some 60, op := Op.load 66 (Operand.tmp 59), type := 66, pos := "auto.go:81", after := #[{ on := 15, ground := Ground.data }], guard := none } : Oper)) (v := ?_) rfl (by kernel_rfl) (by kernel_rfl) (by kernel_rfl) (fun _ _ _ h => h) (Or.inl ⟨by rfl, ?_⟩) hHeld ?_
    rotate_left 1
    · intro w9 hw9; (try (obtain ⟨k8, k4⟩ := hw9; obtain ⟨g0, g1, g2, _, _, _⟩ := blk3v k8; obtain ⟨h0, _, _, _⟩ := blk4 k4)); go_simp; try with_reducible rfl
    simp only [Act.put, List.setIfInBounds_toArray, List.set_cons_zero, List.set_cons_succ]
    refine wpAnyH_ready (rs := [17]) (by kernel_rfl) (by simp) ?_
    refine AllReadyH.cons (o := ({ dst := some 61, op := Op.call { callee := Callee.value (Operand.func 45), args := #[Operand.tmp 56, Operand.tmp 58, Operand.tmp 60], argTypes := #[69, 66, 66] }, type := 69, pos := "auto.go:81", after := #[{ on := 12, ground := Ground.data }, { on := 14, ground := Ground.data }, { on := 16, ground := Ground.data }, { on := 2, ground := Ground.chain }], guard := none } : Oper)) rfl (fun K hK => ?_) AllReadyH.nil
    go_simp
    go_at_call 45
    refine (J.out _ HBD.out).mono ?_
    rintro e w4 ⟨lv3, rfl, hown, hpm, hsz⟩
    have hpm : PrM w3 lv2 lv3 w4 := PrM.trans ⟨(Frm.refl _ _).drewN 1, Or.inl rfl⟩ hpm
    have hN4 := HN3.out.frm (hpm.1) (fun e => (HNO.out _ e).1 rfl)
    have hX4 := HX3.out.frm (hpm.1) (fun e => (HNO.out _ e).2.1 rfl)
    have hR4 := HR3.out.frm (hpm.1) (fun e => (HNO.out _ e).2.2 rfl)
    obtain ⟨r0, r1, r2, f0, f1, f2⟩ := blk3v hR4
    have HO4 := hid hown
    have HPM := hid hpm
    have HR4 := hid hR4
    have HN4 := hid hN4
    have HX4 := hid hX4
    clear hown hpm hN4 hX4 hR4
    refine hK.out _ _ (⟨HN4.out, HX4.out⟩) (fun hHeld => ?_)
    clear hK K
    (try simp only [Act.put, List.setIfInBounds_toArray, List.set_cons_zero, List.set_cons_succ])
    refine wpAnyH_ready (rs := [18]) (by kernel_rfl) (by simp) ?_
    refine AllReadyH.cons (o := ({ dst := none, op := Op.store 68 (Operand.tmp 6) (Operand.tmp 55), type := 0, pos := "auto.go:81", after := #[{ on := 11, ground := Ground.data }, { on := 17, ground := Ground.chain }, { on := 0, ground := Ground.phase }, { on := 1, ground := Ground.phase }, { on := 2, ground := Ground.phase }, { on := 3, ground := Ground.phase }, { on := 4, ground := Ground.phase }, { on := 5, ground := Ground.phase }, { on := 6, ground := Ground.phase }, { on := 7, ground := Ground.phase }, { on := 8, ground := Ground.phase }, { on := 9, ground := Ground.phase }, { on := 10, ground := Ground.phase }, { on := 11, ground := Ground.phase }, { on := 12, ground := Ground.textOnly Departure.lateStores }, { on := 13, ground := Ground.textOnly Departure.lateStores }, { on := 14, ground := Ground.textOnly Departure.lateStores }, { on := 15, ground := Ground.textOnly Departure.lateStores }, { on := 16, ground := Ground.textOnly Departure.lateStores }, { on := 17, ground := Ground.textOnly Departure.lateStoresUnsure }], guard := none } : Oper)) rfl (fun K hK => ?_) AllReadyH.nil
    go_simp
    refine hK.out _ _ (⟨HN4.out.other3 hne _ _ _, HX4.out.other3 hne2 _ _ _⟩) (fun hHeld => ?_)
    clear hK K
    (try simp only [Act.put, List.setIfInBounds_toArray, List.set_cons_zero, List.set_cons_succ])
    refine wpAnyH_take (i := 19) (oi := ({ dst := some 7, op := Op.assign (Operand.tmp 61), type := 69, pos := "auto.go:81", after := #[{ on := 17, ground := Ground.data }, { on := 18, ground := Ground.chain }, { on := 0, ground := Ground.phase }, { on := 1, ground := Ground.phase }, { on := 2, ground := Ground.phase }, { on := 3, ground := Ground.phase }, { on := 4, ground := Ground.phase }, { on := 5, ground := Ground.phase }, { on := 6, ground := Ground.phase }, { on := 7, ground := Ground.phase }, { on := 8, ground := Ground.phase }, { on := 9, ground := Ground.phase }, { on := 10, ground := Ground.phase }, { on := 11, ground := Ground.phase }, { on := 12, ground := Ground.phase }, { on := 13, ground := Ground.phase }, { on := 14, ground := Ground.phase }, { on := 15, ground := Ground.phase }, { on := 16, ground := Ground.phase }, { on := 17, ground := Ground.phase }, { on := 18, ground := Ground.phase }], guard := none } : Oper)) (v := ?_) rfl (by kernel_rfl) (by kernel_rfl) (by kernel_rfl) (fun _ _ _ h => h) (Or.inl ⟨by rfl, ?_⟩) hHeld ?_
    rotate_left 1
    · intro w9 hw9; (try (obtain ⟨k8, k4⟩ := hw9; obtain ⟨g0, g1, g2, _, _, _⟩ := blk3v k8; obtain ⟨h0, _, _, _⟩ := blk4 k4)); go_simp; try with_reducible rfl
    simp only [Act.put, List.setIfInBounds_toArray, List.set_cons_zero, List.set_cons_succ]
    refine wpAnyH_done (by kernel_rfl) ?_ _
    obtain ⟨hA4, hS4⟩ := HA3.out.pairs HO4.out HPM.out HY3.out
    obtain ⟨e1, e2, e3, e4, e5⟩ := part_end (Y := Y) (e := true) (Nat.le_succ w.heap.size) hA4 (HS3.out.trans hS4) (Asd.stpd HF3.out hS4) (Asd.stpd HL3.out hS4) HR4.out
    have HE1 := hid e1
    have HE2 := hid e2
    have HE3 := hid e3
    have HE4 := hid e4
    have HE5 := hid e5
    clear hA4 hS4 e1 e2 e3 e4 e5
    go_wp2
    have e1 := HE1.out
    have e2 := HE2.out
    have e3 := HE3.out
    have e4 := HE4.out
    have e5 := HE5.out
    refine bodyPost_ret (tup_ret (s := 6) (s2 := 7) rfl e1 Tryd.results32) rfl ⟨_, _, _, _, _, (by show _ = Ending.returned (.tuple #[.agg #[.bool (Rx.plus r).emp, _, _], _]); rw [show (Rx.plus r).emp = r.emp from rfl, ← HEM.out]; rfl), (by simpa [Rx.pairsL, Rx.labs, HFL.out, HLL.out, List.append_assoc] using e2), e3, (by rw [show (Rx.plus r).firstL (ls.length + 1) = FL from HFL.out.symm]; exact e4), (by rw [show (Rx.plus r).lastL (ls.length + 1) = LL from HLL.out.symm]; exact e5)⟩
set_option maxHeartbeats 8000000 in
theorem part_maybe (r : Rx) (IH : PartOk r) : PartOk (.maybe r) := by
  intro B WB w Y p v u av lv lxs ls ps hP hH h hY hB h30 hln hps
  have htp : (Rx.maybe r).toPt = .mk 7 [] [] [r.toPt] := rfl
  rw [htp] at hP ⊢
  obtain ⟨_, _, hLt, hLl, ak, capk, bb, off, f, g, hgi, q1, q2, q3, q4, hrow, hkid⟩ := hP.open
  obtain ⟨a, c, hfi, _⟩ := hLt.open
  subst hfi
  rw [hgi]
  unfold pv
  simp only [Pt.kind, Pt.text, Pt.kids, Pt.texts, List.length_nil, List.length_cons, Nat.zero_add] at q1 q3 q4 hrow hkid hgi ⊢
  obtain rfl := q4 (by omega)
  obtain ⟨w1, hw1⟩ : ∃ w1, w1 = (w.alloc (.cells #[.int .i64 7, .string ⟨#[]⟩, .slice a 0 c, .slice (some ⟨bb, off, none⟩) 1 capk] 25)).alloc (.cells #[.bool false, .slice none 0 0, .slice none 0 0] 68) := ⟨_, rfl⟩
  have hz1 : w1.heap.size = w.heap.size + 2 := by rw [hw1]; simp
  have hb1 : Below w.heap.size w w1 := by rw [hw1]; exact ((Below.refl _ _).alloc (Nat.le_refl _) _).alloc (by simp) _
  have hX : Blk w1 w.heap.size [.int .i64 7, .string ⟨#[]⟩, .slice a 0 c, .slice (some ⟨bb, off, none⟩) 1 capk] 25 := by rw [hw1]; exact (Blk.new w _ _).alloc _
  have hR : Blk w1 (w.heap.size + 1) [.bool false, .slice none 0 0, .slice none 0 0] 68 := by rw [hw1]; exact Blk.new' (by simp) rfl
  have hm1 : ∀ k, (Y k ∨ k = w.heap.size + 1) → Y k ∨ w.heap.size ≤ k := fun k e => e.elim Or.inl (fun e => Or.inr (by omega))
  have h1 := (h.more hm1).keep hb1
  have hH1 := (hH.more hm1).stpd (Stpd.below p av lv hb1)
  have hY1 : ∀ k, (Y k ∨ k = w.heap.size + 1) → k < w1.heap.size := fun k e => by rcases e with e | e; (have := hY k e; omega); omega
  have hB1 : B ≤ w1.heap.size := by omega
  obtain ⟨c0, c1, c2, c3⟩ := blk4 hX
  obtain ⟨r0, r1, r2, f0, f1, f2⟩ := blk3v hR
  rw [Rx.n_maybe] at h30 hln
  simp only [Rx.sz] at hps
  have hr := hH1.row4 (hrow 0 (by simp))
  have hk := hkid 0 (by simp)
  simp only [List.getElem_cons_zero, Nat.zero_mul, Nat.add_zero] at hr hk
  obtain ⟨a1, n1, e1, a2, n2, e2, hv1, hu1⟩ := pv_open hk
  rw [hv1, hu1] at hr hk
  obtain ⟨z0, z1, z2, z3⟩ := hr
  have C := IH B WB w1 _ p _ _ av lv lxs ls ps hk hH1 h1 hY1 hB1 h30 hln (by omega)
  obtain ⟨em, hem⟩ : ∃ em, em = r.emp := ⟨_, rfl⟩
  unfold PartPost pv at C
  rw [← hem] at C
  have C := hid C
  have HEM := hid hem
  have HB1 := hid hb1
  have HR := hid hR
  have HX := hid hX
  have HML := hid h.mv_lt
  have HY1 := hid hY1
  have HB1' := hid hB1
  have HPS := hid (show ps.length + (r.pairsL (ls.length + 1)).length + (r.lastL (ls.length + 1)).length * (r.firstL (ls.length + 1)).length ≤ 1000000 from by
    have e1 := Rx.pairsL_len (N := 30) r (ls.length + 1) h30
    have e2 := Rx.lastL_len r (ls.length + 1)
    have e3 := Rx.firstL_len r (ls.length + 1)
    have e4 : (r.lastL (ls.length + 1)).length * (r.firstL (ls.length + 1)).length ≤ 30 * 30 := Nat.mul_le_mul (by omega) (by omega)
    omega)
  clear hb1 hX hR hm1 h1 hH1 hY1 hB1 hP hH h hY htp hk hrow hkid hgi hLl hLt q1 q3 hv1 hu1 hem IH hps
  have hz := hid hz1
  cases em
  case false =>
    go_enter Tryd.func32, Tryd.ntmps32
    go_upto_region 1 with fail
    rw [← hw1]
    clear hw1
    go_wp2_with fail
    refine C.out.mono ?_
    rintro e w2 ⟨fv, lsv, av2, lv2, lxs2, rfl, hA, hS, hF, hL⟩
    obtain ⟨fa, fc, rfl, _⟩ := NsX.lenx hF
    obtain ⟨la, lc, rfl, _⟩ := NsX.lenx hL
    obtain ⟨FL, hFL⟩ : ∃ FL, FL = r.firstL (ls.length + 1) := ⟨_, rfl⟩
    obtain ⟨LL, hLL⟩ : ∃ LL, LL = r.lastL (ls.length + 1) := ⟨_, rfl⟩
    rw [← hFL] at hF ⊢
    rw [← hLL] at hL ⊢
    have HFL := hid hFL
    have HLL := hid hLL
    obtain ⟨w3, hw3⟩ : ∃ w3, w3 = w2.alloc (.cells #[.bool false, .slice fa FL.length fc, .slice la LL.length lc] 68) := ⟨_, rfl⟩
    have hb3 : Below w2.heap.size w2 w3 := by rw [hw3]; exact (Below.refl _ _).alloc (Nat.le_refl _) _
    have hN3 : Blk w3 w2.heap.size [.bool false, .slice fa FL.length fc, .slice la LL.length lc] 68 := by rw [hw3]; exact Blk.new w2 _ _
    have hR3 := (HR.out.frm hS.1 (fun e => by have := HML.out _ e; omega)).keep hb3
    have hX3 := (HX.out.frm hS.1 (fun e => by have := HML.out _ e; omega)).keep hb3
    have hA3 := hA.keep hb3
    have hS3 := ((Stpd.below p av lv HB1.out).trans hS).trans (Stpd.below p av2 lv2 hb3)
    have hF3 := Asd.stpd hF (Stpd.below p av2 lv2 hb3)
    have hL3 := Asd.stpd hL (Stpd.below p av2 lv2 hb3)
    have hY3 : ∀ k, (Y k ∨ k = w.heap.size + 1) → k < w3.heap.size := fun k e => by have := HY1.out k e; have := hS.1.size; have := hb3.size; omega
    have hnm : ¬ Mv NoY p av2 lv2 w2.heap.size := fun e => by have := hA.mv_lt _ e; omega
    have hml := hA.mv_lt
    obtain ⟨r0, r1, r2, f0, f1, f2⟩ := blk3v hR3
    obtain ⟨n0, m1, m2, _, _, _⟩ := blk3v hN3
    obtain ⟨c0, c1, c2, c3⟩ := blk4 hX3
    have hne : w2.heap.size ≠ w.heap.size + 1 := by have := hR3.lt; have := HY1.out (w.heap.size + 1) (Or.inr rfl); have := hS.1.size; omega
    have hne2 : w.heap.size ≠ w.heap.size + 1 := by omega
    have HA3 := hid hA3
    have HS3 := hid hS3
    have HF3 := hid hF3
    have HL3 := hid hL3
    have HY3 := hid hY3
    have HR3 := hid hR3
    have HN3 := hid hN3
    have HX3 := hid hX3
    have HSB := hid (show B ≤ w3.heap.size from by have := HB1'.out; have := hS.1.size; have := hb3.size; omega)
    have HNO := hid (show (∀ k, lv2.ownBlock = some k → k ≠ w2.heap.size ∧ k ≠ w.heap.size ∧ k ≠ w.heap.size + 1) from fun k e => by
      have h1 := hml k (Or.inr (Or.inr (Or.inl e)))
      refine ⟨by omega, fun e2 => ?_, fun e2 => hA.yl k e (Or.inr e2)⟩
      have := hS.2 k (by have := HB1.out.size; have := hz.out; omega) (Or.inr (Or.inr (Or.inl e)))
      have := HML.out k this
      omega)
    clear hA hS hF hL hA3 hS3 hF3 hL3 hY3 hnm hml hR3 hN3 hX3 hFL hLL z0 z1 z2 z3
    go_upto_region 8 with fail
    rw [← hw3]
    clear hw3 hb3
    obtain ⟨e1, e2, e3, e4, e5⟩ := part_end (Y := Y) (e := true) (Nat.le_succ w.heap.size) HA3.out HS3.out HF3.out HL3.out HR3.out
    have HE1 := hid e1
    have HE2 := hid e2
    have HE3 := hid e3
    have HE4 := hid e4
    have HE5 := hid e5
    clear e1 e2 e3 e4 e5
    go_wp2
    refine bodyPost_ret (tup_ret (s := 6) (s2 := 7) rfl HE1.out Tryd.results32) rfl ⟨_, _, _, _, _, (by show _ = Ending.returned (.tuple #[.agg #[.bool (Rx.maybe r).emp, _, _], _]); skip; rfl), (by simpa [Rx.pairsL, Rx.labs] using HE2.out), HE3.out, (by rw [show (Rx.maybe r).firstL (ls.length + 1) = FL from HFL.out.symm]; exact HE4.out), (by rw [show (Rx.maybe r).lastL (ls.length + 1) = LL from HLL.out.symm]; exact HE5.out)⟩
  case true =>
    go_enter Tryd.func32, Tryd.ntmps32
    go_upto_region 1 with fail
    rw [← hw1]
    clear hw1
    go_wp2_with fail
    refine C.out.mono ?_
    rintro e w2 ⟨fv, lsv, av2, lv2, lxs2, rfl, hA, hS, hF, hL⟩
    obtain ⟨fa, fc, rfl, _⟩ := NsX.lenx hF
    obtain ⟨la, lc, rfl, _⟩ := NsX.lenx hL
    obtain ⟨FL, hFL⟩ : ∃ FL, FL = r.firstL (ls.length + 1) := ⟨_, rfl⟩
    obtain ⟨LL, hLL⟩ : ∃ LL, LL = r.lastL (ls.length + 1) := ⟨_, rfl⟩
    rw [← hFL] at hF ⊢
    rw [← hLL] at hL ⊢
    have HFL := hid hFL
    have HLL := hid hLL
    obtain ⟨w3, hw3⟩ : ∃ w3, w3 = w2.alloc (.cells #[.bool true, .slice fa FL.length fc, .slice la LL.length lc] 68) := ⟨_, rfl⟩
    have hb3 : Below w2.heap.size w2 w3 := by rw [hw3]; exact (Below.refl _ _).alloc (Nat.le_refl _) _
    have hN3 : Blk w3 w2.heap.size [.bool true, .slice fa FL.length fc, .slice la LL.length lc] 68 := by rw [hw3]; exact Blk.new w2 _ _
    have hR3 := (HR.out.frm hS.1 (fun e => by have := HML.out _ e; omega)).keep hb3
    have hX3 := (HX.out.frm hS.1 (fun e => by have := HML.out _ e; omega)).keep hb3
    have hA3 := hA.keep hb3
    have hS3 := ((Stpd.below p av lv HB1.out).trans hS).trans (Stpd.below p av2 lv2 hb3)
    have hF3 := Asd.stpd hF (Stpd.below p av2 lv2 hb3)
    have hL3 := Asd.stpd hL (Stpd.below p av2 lv2 hb3)
    have hY3 : ∀ k, (Y k ∨ k = w.heap.size + 1) → k < w3.heap.size := fun k e => by have := HY1.out k e; have := hS.1.size; have := hb3.size; omega
    have hnm : ¬ Mv NoY p av2 lv2 w2.heap.size := fun e => by have := hA.mv_lt _ e; omega
    have hml := hA.mv_lt
    obtain ⟨r0, r1, r2, f0, f1, f2⟩ := blk3v hR3
    obtain ⟨n0, m1, m2, _, _, _⟩ := blk3v hN3
    obtain ⟨c0, c1, c2, c3⟩ := blk4 hX3
    have hne : w2.heap.size ≠ w.heap.size + 1 := by have := hR3.lt; have := HY1.out (w.heap.size + 1) (Or.inr rfl); have := hS.1.size; omega
    have hne2 : w.heap.size ≠ w.heap.size + 1 := by omega
    have HA3 := hid hA3
    have HS3 := hid hS3
    have HF3 := hid hF3
    have HL3 := hid hL3
    have HY3 := hid hY3
    have HR3 := hid hR3
    have HN3 := hid hN3
    have HX3 := hid hX3
    have HSB := hid (show B ≤ w3.heap.size from by have := HB1'.out; have := hS.1.size; have := hb3.size; omega)
    have HNO := hid (show (∀ k, lv2.ownBlock = some k → k ≠ w2.heap.size ∧ k ≠ w.heap.size ∧ k ≠ w.heap.size + 1) from fun k e => by
      have h1 := hml k (Or.inr (Or.inr (Or.inl e)))
      refine ⟨by omega, fun e2 => ?_, fun e2 => hA.yl k e (Or.inr e2)⟩
      have := hS.2 k (by have := HB1.out.size; have := hz.out; omega) (Or.inr (Or.inr (Or.inl e)))
      have := HML.out k this
      omega)
    clear hA hS hF hL hA3 hS3 hF3 hL3 hY3 hnm hml hR3 hN3 hX3 hFL hLL z0 z1 z2 z3
    go_upto_region 8 with fail
    rw [← hw3]
    clear hw3 hb3
    obtain ⟨e1, e2, e3, e4, e5⟩ := part_end (Y := Y) (e := true) (Nat.le_succ w.heap.size) HA3.out HS3.out HF3.out HL3.out HR3.out
    have HE1 := hid e1
    have HE2 := hid e2
    have HE3 := hid e3
    have HE4 := hid e4
    have HE5 := hid e5
    clear e1 e2 e3 e4 e5
    go_wp2
    refine bodyPost_ret (tup_ret (s := 6) (s2 := 7) rfl HE1.out Tryd.results32) rfl ⟨_, _, _, _, _, (by show _ = Ending.returned (.tuple #[.agg #[.bool (Rx.maybe r).emp, _, _], _]); skip; rfl), (by simpa [Rx.pairsL, Rx.labs] using HE2.out), HE3.out, (by rw [show (Rx.maybe r).firstL (ls.length + 1) = FL from HFL.out.symm]; exact HE4.out), (by rw [show (Rx.maybe r).lastL (ls.length + 1) = LL from HLL.out.symm]; exact HE5.out)⟩
end Go.Proofs.YtobcbaeoedpefaaDoor
