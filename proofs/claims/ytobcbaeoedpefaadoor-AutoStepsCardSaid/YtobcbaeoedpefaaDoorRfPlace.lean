/- The document's automaton: one more place. -/
import Derived.Test.YtobcbaeoedpefaaDoorRfObj
namespace Go.Proofs.YtobcbaeoedpefaaDoor
set_option linter.unusedVariables false
set_option linter.unusedSimpArgs false
set_option maxRecDepth 100000
open Go.ChangeShapes Go.WideShapes Go.ChangeAt Go.RowKit
open Au
theorem own_frmg {X : Nat → Prop} {w w' : World} {B e size n : Nat} {v : Value} {xs : List Value} (h : w.ownsRow B e size v n xs) (hf : Frm X w w') (hx : ∀ k, v.ownBlock = some k → ¬ X k) : w'.ownsRow B e size v n xs := by
  obtain ⟨h0, h1 | ⟨g, cap, cur, rfl, hB, hg, r⟩⟩ := h
  · exact ⟨h0, Or.inl h1⟩
  · exact ⟨h0, Or.inr ⟨g, cap, cur, rfl, hB, by rw [hf.block g (lt_of_block hg) (hx g rfl)]; exact hg, r⟩⟩
/-- The blocks that change while it is laid out, and those of Y. -/
def Mv (Y : Nat → Prop) (p : Nat) (av lv : Value) (k : Nat) : Prop := k = p ∨ av.ownBlock = some k ∨ lv.ownBlock = some k ∨ Y k
def NoY (_ : Nat) : Prop := False
theorem Mv.no {Y : Nat → Prop} {p : Nat} {av lv : Value} {k : Nat} (h : Mv NoY p av lv k) : Mv Y p av lv k := by
  rcases h with h | h | h | h
  · exact Or.inl h
  · exact Or.inr (Or.inl h)
  · exact Or.inr (Or.inr (Or.inl h))
  · exact h.elim
/-- An automaton of the document at p while it is laid out; lv: the pairs; no block of Y is of it. -/
structure RsAt (B : Nat) (Y : Nat → Prop) (w : World) (p : Nat) (av lv : Value) (lxs : List Value) (ls : List Lb) (ps : List (Nat × Nat)) : Prop where
  blk : Blk w p [av, .slice none 0 0, .slice none 0 0] 40
  aown : w.ownsRow B 48 5 av ls.length lxs
  lown : w.ownsRow B 74 2 lv ps.length (fl2 ps)
  pB : B ≤ p
  pa : av.ownBlock ≠ some p
  pl : lv.ownBlock ≠ some p
  al : ∀ k, av.ownBlock = some k → lv.ownBlock ≠ some k
  yp : ¬ Y p
  ya : ∀ k, av.ownBlock = some k → ¬ Y k
  yl : ∀ k, lv.ownBlock = some k → ¬ Y k
  labs : ∀ j (h : j < ls.length), ∃ a n c, lxs[j * 5]? = some (.int .i64 0) ∧ lxs[j * 5 + 1]? = some (.int .i64 0) ∧ lxs[j * 5 + 2]? = some (.bool ls[j].back) ∧ lxs[j * 5 + 3]? = some (.bool ls[j].not) ∧ lxs[j * 5 + 4]? = some (.slice a n c) ∧ Asd (Mv Y p av lv) w (fun W => TextsAt W (.slice a n c) ls[j].texts)
/-- From one state to the next: what changes, and what then may change. -/
def Stpd (p : Nat) (av lv : Value) (w : World) (av' lv' : Value) (w' : World) : Prop := Frm (Mv NoY p av lv) w w' ∧ ∀ k, k < w.heap.size → Mv NoY p av' lv' k → Mv NoY p av lv k
theorem Stpd.refl (p : Nat) (av lv : Value) (w : World) : Stpd p av lv w av lv w := ⟨Frm.refl _ _, fun _ _ h => h⟩
theorem Stpd.trans {p : Nat} {a b c a' b' c' : Value} {w w1 w2 : World} (h : Stpd p a a' w b b' w1) (k : Stpd p b b' w1 c c' w2) : Stpd p a a' w c c' w2 :=
  ⟨h.1.trans k.1 (fun i hi e => h.2 i hi e), fun i hi e => h.2 i hi (k.2 i (Nat.lt_of_lt_of_le hi h.1.size) e)⟩
theorem Stpd.below (p : Nat) (av lv : Value) {w w' : World} (h : Below w.heap.size w w') : Stpd p av lv w av lv w' := ⟨Frm.of_below h, fun _ _ h => h⟩
theorem Stpd.y {Y : Nat → Prop} {p : Nat} {a b a' b' : Value} {w w1 : World} (h : Stpd p a a' w b b' w1) : ∀ k, k < w.heap.size → Mv Y p b b' k → Mv Y p a a' k := fun k hk e => by
  rcases e with e | e | e | e
  · exact (h.2 k hk (Or.inl e)).no
  · exact (h.2 k hk (Or.inr (Or.inl e))).no
  · exact (h.2 k hk (Or.inr (Or.inr (Or.inl e)))).no
  · exact Or.inr (Or.inr (Or.inr e))
theorem Asd.stpd {Y : Nat → Prop} {p : Nat} {a b a' b' : Value} {w w1 : World} {P : World → Prop} (hP : Asd (Mv Y p a a') w P) (h : Stpd p a a' w b b' w1) : Asd (Mv Y p b b') w1 P := hP.frm h.1 (fun _ _ e => e.no) h.y
/-- Its own, of what comes before: a block of the call's own is changed. -/
theorem Stpd.own {p : Nat} {a b a' b' : Value} {w w1 w2 : World} {X : Nat → Prop} (h : Stpd p a a' w b b' w1) (hf : Frm X w1 w2) (hX : ∀ k, X k → w.heap.size ≤ k) : Stpd p a a' w b b' w2 :=
  ⟨h.1.trans (hf.weaken (Y := X) (fun _ _ e => e)) (fun i hi e => by have := hX i e; omega), h.2⟩
section
variable {B : Nat} {Y : Nat → Prop} {w w' : World} {p : Nat} {av lv : Value} {lxs : List Value} {ls : List Lb} {ps : List (Nat × Nat)}
theorem RsAt.mv_lt (h : RsAt B Y w p av lv lxs ls ps) : ∀ k, Mv NoY p av lv k → k < w.heap.size := fun k e => by
  rcases e with e | e | e | e
  · rw [e]; exact h.blk.lt
  · exact (h.aown.lt k e).2
  · exact (h.lown.lt k e).2
  · exact e.elim
theorem RsAt.mv_ge (h : RsAt B Y w p av lv lxs ls ps) : ∀ k, Mv NoY p av lv k → B ≤ k := fun k e => by
  rcases e with e | e | e | e
  · rw [e]; exact h.pB
  · exact (h.aown.lt k e).1
  · exact (h.lown.lt k e).1
  · exact e.elim
theorem RsAt.y_no (h : RsAt B Y w p av lv lxs ls ps) : ∀ k, Y k → ¬ Mv NoY p av lv k := fun k hy e => by
  rcases e with e | e | e | e
  · exact h.yp (e ▸ hy)
  · exact h.ya k e hy
  · exact h.yl k e hy
  · exact e
/-- What happens in blocks of Y, or in new ones, does not touch it. -/
theorem RsAt.frm {X : Nat → Prop} (h : RsAt B Y w p av lv lxs ls ps) (hf : Frm X w w') (hX : ∀ k, k < w.heap.size → X k → Y k) : RsAt B Y w' p av lv lxs ls ps where
  blk := h.blk.frm hf (fun e => h.yp (hX _ h.blk.lt e))
  aown := own_frmg h.aown hf (fun k e x => h.ya k e (hX k (h.aown.lt k e).2 x))
  lown := own_frmg h.lown hf (fun k e x => h.yl k e (hX k (h.lown.lt k e).2 x))
  pB := h.pB
  pa := h.pa
  pl := h.pl
  al := h.al
  yp := h.yp
  ya := h.ya
  yl := h.yl
  labs := fun j hj => by
    obtain ⟨a, n, c, h1, h2, h3, h4, h5, h6⟩ := h.labs j hj
    exact ⟨a, n, c, h1, h2, h3, h4, h5, h6.frm hf (fun k hk e => Or.inr (Or.inr (Or.inr (hX k hk e)))) (fun _ _ e => e)⟩
theorem RsAt.keep (h : RsAt B Y w p av lv lxs ls ps) (hb : Below w.heap.size w w') : RsAt B Y w' p av lv lxs ls ps := h.frm (X := fun _ => False) (Frm.of_below hb) (fun _ _ h => h.elim)
/-- New blocks may be kept apart from it. -/
theorem RsAt.more {Z : Nat → Prop} (h : RsAt B Y w p av lv lxs ls ps) (hZ : ∀ k, Z k → Y k ∨ w.heap.size ≤ k) : RsAt B Z w p av lv lxs ls ps where
  blk := h.blk
  aown := h.aown
  lown := h.lown
  pB := h.pB
  pa := h.pa
  pl := h.pl
  al := h.al
  yp := fun z => (hZ _ z).elim h.yp (fun e => by have := h.blk.lt; omega)
  ya := fun k e z => (hZ _ z).elim (h.ya k e) (fun x => by have := (h.aown.lt k e).2; omega)
  yl := fun k e z => (hZ _ z).elim (h.yl k e) (fun x => by have := (h.lown.lt k e).2; omega)
  labs := fun j hj => by
    obtain ⟨a, n, c, h1, h2, h3, h4, h5, h6⟩ := h.labs j hj
    refine ⟨a, n, c, h1, h2, h3, h4, h5, h6.frm (Frm.refl (fun _ => False) w) (fun _ _ e => e.elim) (fun k hk e => ?_)⟩
    rcases e with e | e | e | e
    · exact Or.inl e
    · exact Or.inr (Or.inl e)
    · exact Or.inr (Or.inr (Or.inl e))
    · exact (hZ k e).elim (fun y => Or.inr (Or.inr (Or.inr y))) (fun x => by omega)
theorem RsAt.place {l : Lb} {a : Option Addr} {n c : Nat} {av' : Value} {w2 : World} (h : RsAt B Y w p av lv lxs ls ps) (hown : w2.ownsRow B 48 5 av' (ls.length + 1) (lxs ++ [.int .i64 0, .int .i64 0, .bool l.back, .bool l.not, .slice a n c])) (hgr : w.grownBy w2 av.ownBlock) (hmv : Moved w av av')
    (hT : Asd (Mv Y p av lv) w (fun W => TextsAt W (.slice a n c) l.texts)) (hY : ∀ k, Y k → k < w.heap.size) :
    RsAt B Y (w2.setCell ⟨p, 0, none⟩ av') p av' lv (lxs ++ [.int .i64 0, .int .i64 0, .bool l.back, .bool l.not, .slice a n c]) (ls ++ [l]) ps ∧ Stpd p av lv w av' lv (w2.setCell ⟨p, 0, none⟩ av') := by
  have hp := h.blk.lt
  have hf1 : Frm (fun k => av.ownBlock = some k) w w2 := frm_grown hgr
  have hS : Stpd p av lv w av' lv (w2.setCell ⟨p, 0, none⟩ av') := by
    refine ⟨Frm.set (X := Mv NoY p av lv) (hf1.weaken (fun k _ e => Or.inr (Or.inl e))) (Or.inl (Or.inl rfl)) 0 av', fun k hk e => ?_⟩
    rcases e with e | e | e | e
    · exact Or.inl e
    · rcases hmv with hm | ⟨j, hm, hj⟩
      · exact Or.inr (Or.inl (by rw [← hm]; exact e))
      · rw [hm] at e; have := Option.some.inj e; omega
    · exact Or.inr (Or.inr (Or.inl e))
    · exact e.elim
  have hpa' : av'.ownBlock ≠ some p := fun e => by
    rcases hmv with hm | ⟨j, hm, hj⟩
    · exact h.pa (by rw [← hm]; exact e)
    · rw [hm] at e; have := Option.some.inj e; omega
  have hset : Frm (fun k => k = p) w2 (w2.setCell ⟨p, 0, none⟩ av') := Frm.set (X := fun k => k = p) (Frm.refl _ _) (Or.inl rfl) 0 av'
  have hxl : lxs.length = ls.length * 5 := h.aown.1
  refine ⟨{
    blk := by
      have := (h.blk.frm hf1 (fun e => h.pa e)).set 0 av'
      exact this
    aown := by
      have := own_frmg hown hset (fun k e x => hpa' (by rw [← x]; exact e))
      simpa using this
    lown := own_frmg (own_frmg h.lown hf1 (fun k e x => h.al k x e)) hset (fun k e x => h.pl (by rw [← x]; exact e))
    pB := h.pB
    pa := hpa'
    pl := h.pl
    al := fun k e x => by
      rcases hmv with hm | ⟨j, hm, hj⟩
      · exact h.al k (by rw [← hm]; exact e) x
      · rw [hm] at e
        have h1 := Option.some.inj e
        have h2 := (h.lown.lt k x).2
        omega
    yp := h.yp
    ya := fun k e y => by
      rcases hmv with hm | ⟨j, hm, hj⟩
      · exact h.ya k (by rw [← hm]; exact e) y
      · rw [hm] at e
        have h1 := Option.some.inj e
        have h2 := hY k y
        omega
    yl := h.yl
    labs := fun j hj => ?_ }, hS⟩
  by_cases hjl : j < ls.length
  · obtain ⟨a', n', c', h1, h2, h3, h4, h5, h6⟩ := h.labs j hjl
    rw [List.getElem_append_left hjl]
    exact ⟨a', n', c', by rw [List.getElem?_append_left (by omega)]; exact h1, by rw [List.getElem?_append_left (by omega)]; exact h2, by rw [List.getElem?_append_left (by omega)]; exact h3, by rw [List.getElem?_append_left (by omega)]; exact h4, by rw [List.getElem?_append_left (by omega)]; exact h5, h6.stpd hS⟩
  · have hje : j = ls.length := by simp at hj; omega
    subst hje
    rw [List.getElem_append_right (Nat.le_refl _)]
    simp only [Nat.sub_self, List.getElem_cons_zero]
    exact ⟨a, n, c, by rw [List.getElem?_append_right (by omega), hxl]; simp, by rw [List.getElem?_append_right (by omega), hxl]; simp, by rw [List.getElem?_append_right (by omega), hxl]; simp, by rw [List.getElem?_append_right (by omega), hxl]; simp, by rw [List.getElem?_append_right (by omega), hxl]; simp, hT.stpd hS⟩
end
theorem rpart_ret {fn : Func} {tmps : Array Value} {Z : World} {b s : Nat} {v0 v1 v2 : Value} (ht : tmps.getD s undef = .pointer (some ⟨b, 0, none⟩)) (hZ : Blk Z b [v0, v1, v2] 68) (hf : fn.results = #[.cell s 68]) :
    (results fn tmps).run Tryd.prog Z = .ok (.agg #[v0, v1, v2]) Z := by
  have h0 := hZ.cell (i := 0) rfl
  have h1 := hZ.cell (i := 1) rfl
  have h2 := hZ.cell (i := 2) rfl
  have ht' : tmps[s]?.getD undef = .pointer (some ⟨b, 0, none⟩) := by simpa using ht
  simp [results, hf, ht', go_sem, h0, h1, h2]
theorem Tryd.infoStep5 : (Tryd.prog.info? 48).map (fun i => (i.zero, i.size, i.bytes)) = some (some (.agg #[.int .i64 0, .int .i64 0, .bool false, .bool false, .slice none 0 0]), 5, 48) := by kernel_rfl
theorem blk3v {W : World} {b : Nat} {x0 x1 x2 : Value} {t : TypeId} (h : Blk W b [x0, x1, x2] t) :
    W.cell? ⟨b, 0, none⟩ = some x0 ∧ W.cell? ⟨b, 1, none⟩ = some x1 ∧ W.cell? ⟨b, 2, none⟩ = some x2 ∧ W.frozen? ⟨b, 0, none⟩ = false ∧ W.frozen? ⟨b, 1, none⟩ = false ∧ W.frozen? ⟨b, 2, none⟩ = false :=
  ⟨h.cell (i := 0) rfl, h.cell (i := 1) rfl, h.cell (i := 2) rfl, h.free 0, h.free 1, h.free 2⟩
/-- A row of one number in a block that is none of X. -/
theorem nsx_one {X : Nat → Prop} {w : World} {b n : Nat} {t : TypeId} (h : Blk w b [natv n] t) (hX : ¬ X b) : NsX X w (.slice (some ⟨b, 0, none⟩) 1 1) [n] := fun W hW => by
  have hlt := h.lt
  have h2 : Blk W b [natv n] t := by unfold Blk at h ⊢; rw [hW b hlt hX]; exact h
  refine SlAt.blk (f := natv) (d := 0) (l := [n]) h2 rfl (fun i hi => ?_) 1 (Nat.le_refl _) (by unfold maxLen; omega)
  obtain rfl : i = 0 := by simp at hi; omega
  rfl
/-- What place leaves. -/
def PlPost (B : Nat) (Y : Nat → Prop) (w : World) (p : Nat) (av lv : Value) (ls : List Lb) (ps : List (Nat × Nat)) (l : Lb) (e : Ending) (w' : World) : Prop :=
  ∃ fv lsv av' lxs', e = .returned (.agg #[.bool false, fv, lsv]) ∧ RsAt B Y w' p av' lv lxs' (ls ++ [l]) ps ∧ Stpd p av lv w av' lv w' ∧ NsX (Mv Y p av' lv) w' fv [ls.length + 1] ∧ NsX (Mv Y p av' lv) w' lsv [ls.length + 1]
set_option maxHeartbeats 4000000 in
theorem place_iri {B : Nat} {Y : Nat → Prop} {w : World} {p : Nat} {av lv : Value} {lxs : List Value} {ls : List Lb} {ps : List (Nat × Nat)} (t : T) (back : Bool) (a a' : Option Addr) (n c n' c' : Nat) (h : RsAt B Y w p av lv lxs ls ps) (hY : ∀ k, Y k → k < w.heap.size) (hn : ls.length ≤ 1000) (hB : B ≤ w.heap.size) :
    Calls Tryd.prog 44 #[.pointer (some ⟨p, 0, none⟩), .agg #[.int .i64 1, str t, .slice a n c, .slice a' n' c'], .bool back] w (PlPost B Y w p av lv ls ps ⟨back, false, [t]⟩) := by
  obtain ⟨iS, hiS, hzS, hsS, hbS⟩ := info_two Tryd.infoStep5
  obtain ⟨w1, hw1⟩ : ∃ w1, w1 = (w.alloc (.cells #[.int .i64 1, str t, .slice a n c, .slice a' n' c'] 25)).alloc (.cells #[.bool false, .slice none 0 0, .slice none 0 0] 68) := ⟨_, rfl⟩
  have hz1 : w1.heap.size = w.heap.size + 2 := by rw [hw1]; simp
  have hb1 : Below w.heap.size w w1 := by rw [hw1]; exact ((Below.refl _ _).alloc (Nat.le_refl _) _).alloc (by simp) _
  have hX : Blk w1 w.heap.size [.int .i64 1, str t, .slice a n c, .slice a' n' c'] 25 := by rw [hw1]; exact (Blk.new w _ _).alloc _
  have hR : Blk w1 (w.heap.size + 1) [.bool false, .slice none 0 0, .slice none 0 0] 68 := by rw [hw1]; exact Blk.new' (by simp) rfl
  obtain ⟨w3, hw3⟩ : ∃ w3, w3 = (w1.alloc (.cells #[.int .i64 0, .int .i64 0, .bool back, .bool false, .slice (some ⟨w1.heap.size + 1, 0, none⟩) 1 1] 48)).alloc (.cells #[str t] 9) := ⟨_, rfl⟩
  have hz3 : w3.heap.size = w1.heap.size + 2 := by rw [hw3]; simp
  have hb3 : Below w1.heap.size w1 w3 := by rw [hw3]; exact ((Below.refl _ _).alloc (Nat.le_refl _) _).alloc (by simp) _
  have hN : Blk w3 w1.heap.size [.int .i64 0, .int .i64 0, .bool back, .bool false, .slice (some ⟨w1.heap.size + 1, 0, none⟩) 1 1] 48 := by
    rw [hw3]
    exact (Blk.new w1 _ _).alloc _
  have hTB : Blk w3 (w1.heap.size + 1) [str t] 9 := by
    rw [hw3]
    exact Blk.new' (by simp) rfl
  have i4 : ∀ o, (w1.alloc o).heap.size = w1.heap.size + 1 := fun o => by simp
  have j4 := fun o => ((Blk.new w1 [.int .i64 0, .int .i64 0, .bool back, .bool false, .slice a n c] 48).alloc o).cell (i := 4) rfl
  have k4 := fun o => ((Blk.new w1 [.int .i64 0, .int .i64 0, .bool back, .bool false, .slice a n c] 48).alloc o).free 4
  have hb13 := below_then hb1 hb3
  have h3 := (h.more (Z := fun k => Y k ∨ k = w.heap.size + 1) (fun k e => e.elim Or.inl (fun e => Or.inr (by omega)))).keep hb13
  have hlt := h.mv_lt
  have hmv1 : ∀ k, Mv (fun k => Y k ∨ k = w.heap.size + 1) p av lv k → k < w1.heap.size := fun k e => by
    rcases e with e | e | e | e | e
    · have := hlt k (Or.inl e); omega
    · have := hlt k (Or.inr (Or.inl e)); omega
    · have := hlt k (Or.inr (Or.inr (Or.inl e))); omega
    · have := hY k e; omega
    · omega
  have hT3 : Asd (Mv (fun k => Y k ∨ k = w.heap.size + 1) p av lv) w3 (fun W => TextsAt W (.slice (some ⟨w1.heap.size + 1, 0, none⟩) 1 1) [t]) := fun W hW => by
    have hl := hTB.lt
    have h2 : Blk W (w1.heap.size + 1) [str t] 9 := by
      have h0 := hTB
      unfold Blk at h0 ⊢
      rw [hW _ hl (fun e => by have := hmv1 _ e; omega)]; exact h0
    refine SlAt.blk (f := str) (d := []) (l := [t]) h2 rfl (fun i hi => ?_) 1 (Nat.le_refl _) (by unfold maxLen; omega)
    obtain rfl : i = 0 := by simp at hi; omega
    rfl
  obtain ⟨x0, x1, x2, x3⟩ := blk4 hX
  have m0 := fun o => (hX.alloc o).cell (i := 0) rfl
  have m1 := fun o => (hX.alloc o).cell (i := 1) rfl
  obtain ⟨p0, p1, p2, p3, p4, p5⟩ := blk3v h3.blk
  obtain ⟨q0, q1', q2, q3, q4⟩ : w3.cell? ⟨w1.heap.size, 0, none⟩ = some (.int .i64 0) ∧ w3.cell? ⟨w1.heap.size, 1, none⟩ = some (.int .i64 0) ∧ w3.cell? ⟨w1.heap.size, 2, none⟩ = some (.bool back) ∧ w3.cell? ⟨w1.heap.size, 3, none⟩ = some (.bool false) ∧ w3.cell? ⟨w1.heap.size, 4, none⟩ = some (.slice (some ⟨w1.heap.size + 1, 0, none⟩) 1 1) := ⟨hN.cell rfl, hN.cell rfl, hN.cell rfl, hN.cell rfl, hN.cell rfl⟩
  have H3 := hid h3
  have HT3 := hid hT3
  have HB1 := hid hb1
  have HB13 := hid hb13
  have HR3 := hid (hR.keep hb3)
  have HZ1 := hid hz1
  have HZ3 := hid hz3
  have HMV := hid hlt
  have HW3 := hid hw3
  have HY3 := hid (show ∀ k, (Y k ∨ k = w.heap.size + 1) → k < w3.heap.size from fun k e => by have := hb3.size; rcases e with e | e; (have := hY k e; omega); omega)
  have y0 := below_keep hb3 x0
  have y1 := below_keep hb3 x1
  have HOW := hid fun (o : Obj) => h3.aown.alloc (w := w3) o
  have hpw : p < w.heap.size := h.blk.lt
  have hs3 : w.heap.size ≤ w3.heap.size := hb13.size
  have B1 := hid (show ls.length + 1 ≤ maxLen by unfold maxLen; omega)
  have B2 := hid (show (ls.length + 1) * 48 ≤ 140737488355328 by omega)
  have B3 := hid (show ∀ (a2 : Option Addr) (m cap2 : Nat), ∀ u ∈ [Value.int .i64 0, .int .i64 0, .bool back, .bool false, .slice a2 m cap2], u.oneCell' = true from fun a2 m cap2 u hu => by
    simp only [List.mem_cons, List.not_mem_nil, or_false] at hu
    rcases hu with rfl | rfl | rfl | rfl | rfl <;> rfl)
  have B4 := hid (show ∀ (o : Obj), B ≤ (w3.alloc o).heap.size from fun o => by simp; omega)
  have hpl : p < w3.heap.size := by omega
  have hnl := hN.lt
  have HNE := hid (show p ≠ w3.heap.size ∧ w.heap.size + 1 ≠ p ∧ w.heap.size + 1 < w3.heap.size by omega)
  clear hb1 hX hR h3 h hlt hz1 hz3 hN hb13 hb3 hT3 hmv1 hTB
  go_enter Tryd.func44, Tryd.ntmps44
  go_upto_region 1 with fail
  rw [← hw1]
  clear hw1
  go_upto_region 4 with fail
  try simp only [i4]
  rw [← hw3]
  clear hw3 x0 x1 x2 x3 m0 m1 i4 j4 k4
  go_region_law ((refine step_append_lies _ (by rfl) (.tmp 27) (.tmp 29) 36 (by rfl) B 48 iS _ 5 48 Tryd.underlying36 hiS hzS hsS hbS rfl (by decide) av ls.length lxs (by rfl) (HOW.out _) ⟨w3.heap.size, 0, none⟩ 1 1 [.int .i64 0, .int .i64 0, .bool back, .bool false, .slice (some ⟨w1.heap.size + 1, 0, none⟩) 1 1] (by rfl) (by rfl) (World.news_of_block (cs := #[.int .i64 0, .int .i64 0, .bool back, .bool false, .slice (some ⟨w1.heap.size + 1, 0, none⟩) 1 1]) (t := 48) (fr := (0, 0)) (heap_alloc_new w3.drew _)) (B3.out _ _ _) (by decide) B1.out B2.out (B4.out _) (w3.heap.size + 1) (by simp) ?_; intro g cap w5 hown hgr hg hlt; have hRS := RsAt.place (l := ⟨back, false, [t]⟩) (H3.out.keep ((below_drawn (Below.refl _ _) 1).alloc (Nat.le_refl _) (.cells #[.int .i64 0, .int .i64 0, .bool back, .bool false, .slice (some ⟨w1.heap.size + 1, 0, none⟩) 1 1] 48))) hown hgr (hg.elim (fun e => Or.inl (by rw [e]; rfl)) (fun e => Or.inr ⟨g, rfl, by rw [e]; simp⟩)) (HT3.out.stpd (Stpd.below p av lv ((below_drawn (Below.refl _ _) 1).alloc (Nat.le_refl _) (.cells #[.int .i64 0, .int .i64 0, .bool back, .bool false, .slice (some ⟨w1.heap.size + 1, 0, none⟩) 1 1] 48)))) (fun k e => by have := HY3.out k e; simp; omega); have hb5 := (RsAt.blk hRS.1); have z0 := (H3.out.keep ((below_drawn (Below.refl _ _) 1).alloc (Nat.le_refl _) (.cells #[.int .i64 0, .int .i64 0, .bool back, .bool false, .slice (some ⟨w1.heap.size + 1, 0, none⟩) 1 1] 48))).blk.frm (frm_grown hgr) H3.out.pa; have z1 := z0.cell (i := 0) rfl; have z2 := z0.free 0; have HRS := hid hRS; clear hRS hb5 z0 hown hgr hg hlt))
  all_goals
    obtain ⟨w6, hw6⟩ : ∃ w6, w6 = w5.setCell ⟨p, 0, none⟩ (.slice (some ⟨g, 0, none⟩) (ls.length + 1) cap) := ⟨_, rfl⟩
    rw [← hw6] at HRS ⊢
    clear hw6 z1 z2
    obtain ⟨hRA, hST⟩ := HRS.out
    have hb4 : Below w3.heap.size w3 ((w3.drewN 1).alloc (.cells #[.int .i64 0, .int .i64 0, .bool back, .bool false, .slice (some ⟨w1.heap.size + 1, 0, none⟩) 1 1] 48)) := (below_drawn (Below.refl _ _) 1).alloc (Nat.le_refl _) _
    have hz1 := HZ1.out
    have HS := hid ((Stpd.below p av lv (below_then HB13.out hb4)).trans hST)
    have hR6 := (HR3.out.keep hb4).frm hST.1 (fun e => by have := HMV.out _ e; omega)
    have HA6 := hid hRA
    have HSZ := hid (show w3.heap.size ≤ w6.heap.size from Nat.le_trans hb4.size hST.1.size)
    obtain ⟨u0, u1, u2, u3, u4, u5⟩ := blk3v hR6
    obtain ⟨s0, s1, s2, s3, s4, s5⟩ := blk3v hRA.blk
    have HR6 := hid hR6
    have ha1 := fun o o' => (((hR6.alloc o).alloc o').cell (i := 0) rfl)
    have ha2 := fun o o' => (((hR6.alloc o).alloc o').cell (i := 1) rfl)
    have ha3 := fun o o' => (((hR6.alloc o).alloc o').cell (i := 2) rfl)
    have ha4 := fun o o' => (((hR6.alloc o).alloc o').free 0)
    have ha5 := fun o o' => (((hR6.alloc o).alloc o').free 1)
    have ha6 := fun o o' => (((hR6.alloc o).alloc o').free 2)
    have h6l : w.heap.size + 1 < w6.heap.size := hR6.lt
    have HBZ := hid h6l
    obtain ⟨N, hN⟩ : ∃ N, N = ls.length + 1 := ⟨_, rfl⟩
    have HNN := hid hN
    clear hb4 hz1 hRA hST hR6 HRS p0 p1 p2 p3 p4 p5 q0 q1' q2 q3 q4
    go_wp2
    have hz6 := HBZ.out
    have hf8 := (((Frm.set (X := fun k => k = w.heap.size + 1) (b := w.heap.size + 1) (((Frm.refl _ w6).alloc (.cells #[.int .i64 ((ls.length : Int) + 1)] 3)).alloc (.cells #[.int .i64 ((ls.length : Int) + 1)] 3)) (Or.inl rfl) 0 (.bool false)).set (b := w.heap.size + 1) (Or.inl rfl) 1 (.slice (some ⟨w6.heap.size, 0, none⟩) 1 1)).set (b := w.heap.size + 1) (Or.inl rfl) 2 (.slice (some ⟨w6.heap.size + 1, 0, none⟩) 1 1))
    have hk0 := ((((((Blk.new w6 [natv (ls.length + 1)] 3).alloc (.cells #[.int .i64 ((ls.length : Int) + 1)] 3)).other (c := w.heap.size + 1) (by omega) 0 (.bool false)).other (c := w.heap.size + 1) (by omega) 1 (.slice (some ⟨w6.heap.size, 0, none⟩) 1 1)).other (c := w.heap.size + 1) (by omega) 2 (.slice (some ⟨w6.heap.size + 1, 0, none⟩) 1 1)))
    have hk1 := (((((Blk.new' (w := w6.alloc (.cells #[.int .i64 ((ls.length : Int) + 1)] 3)) (n := w6.heap.size + 1) (A := [natv (ls.length + 1)]) (c := #[.int .i64 ((ls.length : Int) + 1)]) (t := 3) (by simp) rfl).other (c := w.heap.size + 1) (by omega) 0 (.bool false)).other (c := w.heap.size + 1) (by omega) 1 (.slice (some ⟨w6.heap.size, 0, none⟩) 1 1)).other (c := w.heap.size + 1) (by omega) 2 (.slice (some ⟨w6.heap.size + 1, 0, none⟩) 1 1)))
    have hbR := (((((HR6.out.alloc (.cells #[.int .i64 ((ls.length : Int) + 1)] 3)).alloc (.cells #[.int .i64 ((ls.length : Int) + 1)] 3)).set 0 (.bool false)).set 1 (.slice (some ⟨w6.heap.size, 0, none⟩) 1 1)).set 2 (.slice (some ⟨w6.heap.size + 1, 0, none⟩) 1 1))
    obtain ⟨w8, hw8⟩ : ∃ w8, w8 = ((((w6.alloc (.cells #[.int .i64 ((ls.length : Int) + 1)] 3)).alloc (.cells #[.int .i64 ((ls.length : Int) + 1)] 3)).setCell ⟨w.heap.size + 1, 0, none⟩ (.bool false)).setCell ⟨w.heap.size + 1, 1, none⟩ (.slice (some ⟨w6.heap.size, 0, none⟩) 1 1)).setCell ⟨w.heap.size + 1, 2, none⟩ (.slice (some ⟨w6.heap.size + 1, 0, none⟩) 1 1) := ⟨_, rfl⟩
    have hk0 : Blk w8 w6.heap.size [natv (ls.length + 1)] 3 := by rw [hw8]; exact hk0
    have hk1 : Blk w8 (w6.heap.size + 1) [natv (ls.length + 1)] 3 := by rw [hw8]; exact hk1
    rw [← hw8] at hf8 hbR ⊢
    clear hw8
    have hA6 := HA6.out
    have hA8 := hA6.frm hf8 (fun k _ e => Or.inr e)
    have hml := hA6.mv_lt
    have hnmv : ∀ k, w6.heap.size ≤ k → ¬ Mv Y p (.slice (some ⟨g, 0, none⟩) (ls.length + 1) cap) lv k := fun k hk e => by
      rcases e with e | e | e | e
      · have := hml k (Or.inl e); omega
      · have := hml k (Or.inr (Or.inl e)); omega
      · have := hml k (Or.inr (Or.inr (Or.inl e))); omega
      · have := HY3.out k (Or.inl e); have := HS.out.1.size; have := HB13.out.size; have := HSZ.out; omega
    exact bodyPost_ret (rpart_ret (s := 6) rfl hbR Tryd.results44) rfl ⟨_, _, _, _, rfl, hA8.more (fun k e => Or.inl (Or.inl e)), HS.out.own hf8 (fun k e => by omega), nsx_one hk0 (hnmv _ (Nat.le_refl _)), nsx_one hk1 (hnmv _ (Nat.le_succ _))⟩
set_option maxHeartbeats 4000000 in
theorem place_not {B : Nat} {Y : Nat → Prop} {w : World} {p : Nat} {av lv : Value} {lxs : List Value} {ls : List Lb} {ps : List (Nat × Nat)} (L : List T) (back : Bool) (a a' : Option Addr) (n c n' c' : Nat) (h : RsAt B Y w p av lv lxs ls ps) (hY : ∀ k, Y k → k < w.heap.size) (hn : ls.length ≤ 1000) (hB : B ≤ w.heap.size) (hT : Asd (Mv Y p av lv) w (fun W => TextsAt W (.slice a n c) L)) :
    Calls Tryd.prog 44 #[.pointer (some ⟨p, 0, none⟩), .agg #[.int .i64 8, .string ⟨#[]⟩, .slice a n c, .slice a' n' c'], .bool back] w (PlPost B Y w p av lv ls ps ⟨back, true, L⟩) := by
  obtain ⟨iS, hiS, hzS, hsS, hbS⟩ := info_two Tryd.infoStep5
  obtain ⟨w1, hw1⟩ : ∃ w1, w1 = (w.alloc (.cells #[.int .i64 8, .string ⟨#[]⟩, .slice a n c, .slice a' n' c'] 25)).alloc (.cells #[.bool false, .slice none 0 0, .slice none 0 0] 68) := ⟨_, rfl⟩
  have hz1 : w1.heap.size = w.heap.size + 2 := by rw [hw1]; simp
  have hb1 : Below w.heap.size w w1 := by rw [hw1]; exact ((Below.refl _ _).alloc (Nat.le_refl _) _).alloc (by simp) _
  have hX : Blk w1 w.heap.size [.int .i64 8, .string ⟨#[]⟩, .slice a n c, .slice a' n' c'] 25 := by rw [hw1]; exact (Blk.new w _ _).alloc _
  have hR : Blk w1 (w.heap.size + 1) [.bool false, .slice none 0 0, .slice none 0 0] 68 := by rw [hw1]; exact Blk.new' (by simp) rfl
  obtain ⟨w3, hw3⟩ : ∃ w3, w3 = w1.alloc (.cells #[.int .i64 0, .int .i64 0, .bool back, .bool true, .slice a n c] 48) := ⟨_, rfl⟩
  have hz3 : w3.heap.size = w1.heap.size + 1 := by rw [hw3]; simp
  have hb3 : Below w1.heap.size w1 w3 := by rw [hw3]; exact (Below.refl _ _).alloc (Nat.le_refl _) _
  have hN : Blk w3 w1.heap.size [.int .i64 0, .int .i64 0, .bool back, .bool true, .slice a n c] 48 := by rw [hw3]; exact Blk.new w1 _ _
  have hb13 := below_then hb1 hb3
  have h3 := (h.more (Z := fun k => Y k ∨ k = w.heap.size + 1) (fun k e => e.elim Or.inl (fun e => Or.inr (by omega)))).keep hb13
  have hlt := h.mv_lt
  have hmv1 : ∀ k, Mv (fun k => Y k ∨ k = w.heap.size + 1) p av lv k → k < w1.heap.size := fun k e => by
    rcases e with e | e | e | e | e
    · have := hlt k (Or.inl e); omega
    · have := hlt k (Or.inr (Or.inl e)); omega
    · have := hlt k (Or.inr (Or.inr (Or.inl e))); omega
    · have := hY k e; omega
    · omega
  have hT3 : Asd (Mv (fun k => Y k ∨ k = w.heap.size + 1) p av lv) w3 (fun W => TextsAt W (.slice a n c) L) := hT.frm (Y := fun _ => False) (Frm.of_below hb13) (fun _ _ e => e.elim) (fun k hk e => by
    rcases e with e | e | e | e | e
    · exact Or.inl e
    · exact Or.inr (Or.inl e)
    · exact Or.inr (Or.inr (Or.inl e))
    · exact Or.inr (Or.inr (Or.inr e))
    · omega)
  obtain ⟨x0, x1, x2, x3⟩ := blk4 hX
  have m0 := fun o => (hX.alloc o).cell (i := 0) rfl
  have m1 := fun o => (hX.alloc o).cell (i := 1) rfl
  obtain ⟨p0, p1, p2, p3, p4, p5⟩ := blk3v h3.blk
  obtain ⟨q0, q1', q2, q3, q4⟩ : w3.cell? ⟨w1.heap.size, 0, none⟩ = some (.int .i64 0) ∧ w3.cell? ⟨w1.heap.size, 1, none⟩ = some (.int .i64 0) ∧ w3.cell? ⟨w1.heap.size, 2, none⟩ = some (.bool back) ∧ w3.cell? ⟨w1.heap.size, 3, none⟩ = some (.bool true) ∧ w3.cell? ⟨w1.heap.size, 4, none⟩ = some (.slice a n c) := ⟨hN.cell rfl, hN.cell rfl, hN.cell rfl, hN.cell rfl, hN.cell rfl⟩
  have H3 := hid h3
  have HT3 := hid hT3
  have HB1 := hid hb1
  have HB13 := hid hb13
  have HR3 := hid (hR.keep hb3)
  have HZ1 := hid hz1
  have HZ3 := hid hz3
  have HMV := hid hlt
  have HW3 := hid hw3
  have HY3 := hid (show ∀ k, (Y k ∨ k = w.heap.size + 1) → k < w3.heap.size from fun k e => by have := hb3.size; rcases e with e | e; (have := hY k e; omega); omega)
  have y0 := below_keep hb3 x0
  have y1 := below_keep hb3 x1
  have HOW := hid fun (o : Obj) => h3.aown.alloc (w := w3) o
  have hpw : p < w.heap.size := h.blk.lt
  have hs3 : w.heap.size ≤ w3.heap.size := hb13.size
  have B1 := hid (show ls.length + 1 ≤ maxLen by unfold maxLen; omega)
  have B2 := hid (show (ls.length + 1) * 48 ≤ 140737488355328 by omega)
  have B3 := hid (show ∀ (a2 : Option Addr) (m cap2 : Nat), ∀ u ∈ [Value.int .i64 0, .int .i64 0, .bool back, .bool true, .slice a2 m cap2], u.oneCell' = true from fun a2 m cap2 u hu => by
    simp only [List.mem_cons, List.not_mem_nil, or_false] at hu
    rcases hu with rfl | rfl | rfl | rfl | rfl <;> rfl)
  have B4 := hid (show ∀ (o : Obj), B ≤ (w3.alloc o).heap.size from fun o => by simp; omega)
  have hpl : p < w3.heap.size := by omega
  have hnl := hN.lt
  have HNE := hid (show p ≠ w3.heap.size ∧ w.heap.size + 1 ≠ p ∧ w.heap.size + 1 < w3.heap.size by omega)
  clear hb1 hX hR h3 h hlt hz1 hz3 hN hb13 hb3 hT3 hmv1 hT
  go_enter Tryd.func44, Tryd.ntmps44
  go_upto_region 1 with fail
  rw [← hw1]
  clear hw1
  go_upto_region 4 with fail
  try simp only [i4]
  rw [← hw3]
  clear hw3 x0 x1 x2 x3 m0 m1 
  go_region_law ((refine step_append_lies _ (by rfl) (.tmp 27) (.tmp 29) 36 (by rfl) B 48 iS _ 5 48 Tryd.underlying36 hiS hzS hsS hbS rfl (by decide) av ls.length lxs (by rfl) (HOW.out _) ⟨w3.heap.size, 0, none⟩ 1 1 [.int .i64 0, .int .i64 0, .bool back, .bool true, .slice a n c] (by rfl) (by rfl) (World.news_of_block (cs := #[.int .i64 0, .int .i64 0, .bool back, .bool true, .slice a n c]) (t := 48) (fr := (0, 0)) (heap_alloc_new w3.drew _)) (B3.out _ _ _) (by decide) B1.out B2.out (B4.out _) (w3.heap.size + 1) (by simp) ?_; intro g cap w5 hown hgr hg hlt; have hRS := RsAt.place (l := ⟨back, true, L⟩) (H3.out.keep ((below_drawn (Below.refl _ _) 1).alloc (Nat.le_refl _) (.cells #[.int .i64 0, .int .i64 0, .bool back, .bool true, .slice a n c] 48))) hown hgr (hg.elim (fun e => Or.inl (by rw [e]; rfl)) (fun e => Or.inr ⟨g, rfl, by rw [e]; simp⟩)) (HT3.out.stpd (Stpd.below p av lv ((below_drawn (Below.refl _ _) 1).alloc (Nat.le_refl _) (.cells #[.int .i64 0, .int .i64 0, .bool back, .bool true, .slice a n c] 48)))) (fun k e => by have := HY3.out k e; simp; omega); have hb5 := (RsAt.blk hRS.1); have z0 := (H3.out.keep ((below_drawn (Below.refl _ _) 1).alloc (Nat.le_refl _) (.cells #[.int .i64 0, .int .i64 0, .bool back, .bool true, .slice a n c] 48))).blk.frm (frm_grown hgr) H3.out.pa; have z1 := z0.cell (i := 0) rfl; have z2 := z0.free 0; have HRS := hid hRS; clear hRS hb5 z0 hown hgr hg hlt))
  all_goals
    obtain ⟨w6, hw6⟩ : ∃ w6, w6 = w5.setCell ⟨p, 0, none⟩ (.slice (some ⟨g, 0, none⟩) (ls.length + 1) cap) := ⟨_, rfl⟩
    rw [← hw6] at HRS ⊢
    clear hw6 z1 z2
    obtain ⟨hRA, hST⟩ := HRS.out
    have hb4 : Below w3.heap.size w3 ((w3.drewN 1).alloc (.cells #[.int .i64 0, .int .i64 0, .bool back, .bool true, .slice a n c] 48)) := (below_drawn (Below.refl _ _) 1).alloc (Nat.le_refl _) _
    have hz1 := HZ1.out
    have HS := hid ((Stpd.below p av lv (below_then HB13.out hb4)).trans hST)
    have hR6 := (HR3.out.keep hb4).frm hST.1 (fun e => by have := HMV.out _ e; omega)
    have HA6 := hid hRA
    have HSZ := hid (show w3.heap.size ≤ w6.heap.size from Nat.le_trans hb4.size hST.1.size)
    obtain ⟨u0, u1, u2, u3, u4, u5⟩ := blk3v hR6
    obtain ⟨s0, s1, s2, s3, s4, s5⟩ := blk3v hRA.blk
    have HR6 := hid hR6
    have ha1 := fun o o' => (((hR6.alloc o).alloc o').cell (i := 0) rfl)
    have ha2 := fun o o' => (((hR6.alloc o).alloc o').cell (i := 1) rfl)
    have ha3 := fun o o' => (((hR6.alloc o).alloc o').cell (i := 2) rfl)
    have ha4 := fun o o' => (((hR6.alloc o).alloc o').free 0)
    have ha5 := fun o o' => (((hR6.alloc o).alloc o').free 1)
    have ha6 := fun o o' => (((hR6.alloc o).alloc o').free 2)
    have h6l : w.heap.size + 1 < w6.heap.size := hR6.lt
    have HBZ := hid h6l
    obtain ⟨N, hN⟩ : ∃ N, N = ls.length + 1 := ⟨_, rfl⟩
    have HNN := hid hN
    clear hb4 hz1 hRA hST hR6 HRS p0 p1 p2 p3 p4 p5 q0 q1' q2 q3 q4
    go_wp2
    have hz6 := HBZ.out
    have hf8 := (((Frm.set (X := fun k => k = w.heap.size + 1) (b := w.heap.size + 1) (((Frm.refl _ w6).alloc (.cells #[.int .i64 ((ls.length : Int) + 1)] 3)).alloc (.cells #[.int .i64 ((ls.length : Int) + 1)] 3)) (Or.inl rfl) 0 (.bool false)).set (b := w.heap.size + 1) (Or.inl rfl) 1 (.slice (some ⟨w6.heap.size, 0, none⟩) 1 1)).set (b := w.heap.size + 1) (Or.inl rfl) 2 (.slice (some ⟨w6.heap.size + 1, 0, none⟩) 1 1))
    have hk0 := ((((((Blk.new w6 [natv (ls.length + 1)] 3).alloc (.cells #[.int .i64 ((ls.length : Int) + 1)] 3)).other (c := w.heap.size + 1) (by omega) 0 (.bool false)).other (c := w.heap.size + 1) (by omega) 1 (.slice (some ⟨w6.heap.size, 0, none⟩) 1 1)).other (c := w.heap.size + 1) (by omega) 2 (.slice (some ⟨w6.heap.size + 1, 0, none⟩) 1 1)))
    have hk1 := (((((Blk.new' (w := w6.alloc (.cells #[.int .i64 ((ls.length : Int) + 1)] 3)) (n := w6.heap.size + 1) (A := [natv (ls.length + 1)]) (c := #[.int .i64 ((ls.length : Int) + 1)]) (t := 3) (by simp) rfl).other (c := w.heap.size + 1) (by omega) 0 (.bool false)).other (c := w.heap.size + 1) (by omega) 1 (.slice (some ⟨w6.heap.size, 0, none⟩) 1 1)).other (c := w.heap.size + 1) (by omega) 2 (.slice (some ⟨w6.heap.size + 1, 0, none⟩) 1 1)))
    have hbR := (((((HR6.out.alloc (.cells #[.int .i64 ((ls.length : Int) + 1)] 3)).alloc (.cells #[.int .i64 ((ls.length : Int) + 1)] 3)).set 0 (.bool false)).set 1 (.slice (some ⟨w6.heap.size, 0, none⟩) 1 1)).set 2 (.slice (some ⟨w6.heap.size + 1, 0, none⟩) 1 1))
    obtain ⟨w8, hw8⟩ : ∃ w8, w8 = ((((w6.alloc (.cells #[.int .i64 ((ls.length : Int) + 1)] 3)).alloc (.cells #[.int .i64 ((ls.length : Int) + 1)] 3)).setCell ⟨w.heap.size + 1, 0, none⟩ (.bool false)).setCell ⟨w.heap.size + 1, 1, none⟩ (.slice (some ⟨w6.heap.size, 0, none⟩) 1 1)).setCell ⟨w.heap.size + 1, 2, none⟩ (.slice (some ⟨w6.heap.size + 1, 0, none⟩) 1 1) := ⟨_, rfl⟩
    have hk0 : Blk w8 w6.heap.size [natv (ls.length + 1)] 3 := by rw [hw8]; exact hk0
    have hk1 : Blk w8 (w6.heap.size + 1) [natv (ls.length + 1)] 3 := by rw [hw8]; exact hk1
    rw [← hw8] at hf8 hbR ⊢
    clear hw8
    have hA6 := HA6.out
    have hA8 := hA6.frm hf8 (fun k _ e => Or.inr e)
    have hml := hA6.mv_lt
    have hnmv : ∀ k, w6.heap.size ≤ k → ¬ Mv Y p (.slice (some ⟨g, 0, none⟩) (ls.length + 1) cap) lv k := fun k hk e => by
      rcases e with e | e | e | e
      · have := hml k (Or.inl e); omega
      · have := hml k (Or.inr (Or.inl e)); omega
      · have := hml k (Or.inr (Or.inr (Or.inl e))); omega
      · have := HY3.out k (Or.inl e); have := HS.out.1.size; have := HB13.out.size; have := HSZ.out; omega
    exact bodyPost_ret (rpart_ret (s := 6) rfl hbR Tryd.results44) rfl ⟨_, _, _, _, rfl, hA8.more (fun k e => Or.inl (Or.inl e)), HS.out.own hf8 (fun k e => by omega), nsx_one hk0 (hnmv _ (Nat.le_refl _)), nsx_one hk1 (hnmv _ (Nat.le_succ _))⟩
end Go.Proofs.YtobcbaeoedpefaaDoor
