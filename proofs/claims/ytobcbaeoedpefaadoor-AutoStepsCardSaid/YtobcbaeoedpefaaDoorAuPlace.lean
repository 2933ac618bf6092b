/- auto's place and follow. -/
import Derived.Test.YtobcbaeoedpefaaDoorAuObj
import Derived.Deep.DeepCutAuto
import Derived.Deep.RegionLaw
namespace Go.Proofs.YtobcbaeoedpefaaDoor
set_option linter.unusedVariables false
set_option linter.unusedSimpArgs false
set_option maxRecDepth 100000
open Go.ChangeShapes Go.WideShapes Go.ChangeAt Go.RowKit
open Au
theorem frm_grown {w w' : World} {row : Option Nat} (h : w.grownBy w' row) : Frm (fun k => row = some k) w w' := ⟨h.os, h.tape, h.output, h.size, fun k hk hx => h.block k hk (fun e => hx e.symm)⟩
theorem frm_grown1 {w w' : World} {g : Nat} (h : w.grownBy w' (some g)) : Frm (fun k => k = g) w w' := (frm_grown h).weaken fun k _ e => by simpa using (Option.some.inj e).symm
section
variable {B : Nat} {Y : Nat → Prop} {w w' : World} {p lb cl nb cn : Nat} {lxs : List Value} {ls : List Lb} {nx : List Nat} {last : Nat}
/-- One more label. -/
theorem AuAt.putLab (h : AuAt B Y w p lb cl nb cn lxs ls nx last) {g cap : Nat} {l : Lb} {a : Option Addr} {m c : Nat}
    (hown : w'.ownsRow B 76 3 (.slice (some ⟨g, 0, none⟩) (ls.length + 1) cap) (ls.length + 1) (lxs ++ [.bool l.back, .bool l.not, .slice a m c]))
    (hgr : w.grownBy w' (some lb)) (hg : some lb = some g ∨ g = w.heap.size) (hY : ∀ k, Y k → k < w.heap.size) (hT : Asd (AuB p lb nb Y) w (fun W => TextsAt W (.slice a m c) l.texts)) :
    AuAt B Y (w'.setCell ⟨p, 0, none⟩ (.slice (some ⟨g, 0, none⟩) (ls.length + 1) cap)) p g cap nb cn (lxs ++ [.bool l.back, .bool l.not, .slice a m c]) (ls ++ [l]) nx last := by
  have hf : Frm (fun k => k = lb) w w' := frm_grown1 hgr
  have hf2 : Frm (fun k => k = lb ∨ k = p) w (w'.setCell ⟨p, 0, none⟩ (.slice (some ⟨g, 0, none⟩) (ls.length + 1) cap)) := Frm.set (X := fun k => k = lb ∨ k = p) (hf.weaken (fun k _ e => Or.inl e)) (Or.inl (Or.inr rfl)) _ _
  have hpl := h.blk.lt
  have hnl := (own_blk h.nown).2.1
  have hll := (own_blk h.lown).2.1
  have hgp : g ≠ p := by rcases hg with e | e; (cases e; exact h.lp); omega
  have hgn : g ≠ nb := by rcases hg with e | e; (cases e; exact h.ln); omega
  have hyg : ¬ Y g := by rcases hg with e | e; (cases e; exact h.yl); exact fun hy => by have := hY g hy; omega
  have hxl : lxs.length = ls.length * 3 := (own_blk h.lown).2.2.2.2.1
  have hgk : ∀ k, k < w.heap.size → k = g → k = lb := fun k hk e => by rcases hg with e2 | e2; (cases e2; exact e); omega
  refine ⟨?_, ?_, ?_, h.pB, hgp, h.np, hgn, h.yp, hyg, h.yn, fun j hj => ?_⟩
  · have := (h.blk.frm hf (fun e => h.lp e.symm)).set 0 (.slice (some ⟨g, 0, none⟩) (ls.length + 1) cap)
    simpa using this
  · have := own_frm (X := fun k => k = p) hown (Frm.set (X := fun k => k = p) (Frm.refl _ w') (Or.inl rfl) 0 (.slice (some ⟨g, 0, none⟩) (ls.length + 1) cap)) hgp
    simpa using this
  · exact own_frm h.nown hf2 (fun e => by rcases e with e | e; exact h.ln e.symm; exact h.np e)
  · have key : ∀ P, Asd (AuB p lb nb Y) w P → Asd (AuB p g nb Y) (w'.setCell ⟨p, 0, none⟩ (.slice (some ⟨g, 0, none⟩) (ls.length + 1) cap)) P := fun P hP =>
      hP.frm hf2 (fun k _ e => by rcases e with e | e; exact Or.inr (Or.inl e); exact Or.inl e) (fun k hk e => by
        rcases e with e | e | e | e
        · exact Or.inl e
        · exact Or.inr (Or.inl (hgk k hk e))
        · exact Or.inr (Or.inr (Or.inl e))
        · exact Or.inr (Or.inr (Or.inr e)))
    by_cases hjl : j < ls.length
    · obtain ⟨a', n', c', h1, h2, h3, h4⟩ := h.labs j hjl
      rw [List.getElem_append_left hjl]
      exact ⟨a', n', c', by rw [List.getElem?_append_left (by omega)]; exact h1, by rw [List.getElem?_append_left (by omega)]; exact h2, by rw [List.getElem?_append_left (by omega)]; exact h3, key _ h4⟩
    · have hje : j = ls.length := by simp at hj; omega
      subst hje
      rw [List.getElem_append_right (Nat.le_refl _)]
      simp only [Nat.sub_self, List.getElem_cons_zero]
      exact ⟨a, m, c, by rw [List.getElem?_append_right (by omega), hxl]; simp, by rw [List.getElem?_append_right (by omega), hxl]; simp, by rw [List.getElem?_append_right (by omega), hxl]; simp, key _ hT⟩
/-- One more row of steps. -/
theorem AuAt.putNext (h : AuAt B Y w p lb cl nb cn lxs ls nx last) {g cap x : Nat}
    (hown : w'.ownsRow B 59 1 (.slice (some ⟨g, 0, none⟩) (nx.length + 1) cap) (nx.length + 1) (nx.map u32v ++ [u32v x]))
    (hgr : w.grownBy w' (some nb)) (hg : some nb = some g ∨ g = w.heap.size) (hY : ∀ k, Y k → k < w.heap.size) :
    AuAt B Y (w'.setCell ⟨p, 1, none⟩ (.slice (some ⟨g, 0, none⟩) (nx.length + 1) cap)) p lb cl g cap lxs ls (nx ++ [x]) last := by
  have hf : Frm (fun k => k = nb) w w' := frm_grown1 hgr
  have hf2 : Frm (fun k => k = nb ∨ k = p) w (w'.setCell ⟨p, 1, none⟩ (.slice (some ⟨g, 0, none⟩) (nx.length + 1) cap)) := Frm.set (X := fun k => k = nb ∨ k = p) (hf.weaken (fun k _ e => Or.inl e)) (Or.inl (Or.inr rfl)) _ _
  have hpl := h.blk.lt
  have hnl := (own_blk h.nown).2.1
  have hll := (own_blk h.lown).2.1
  have hgp : g ≠ p := by rcases hg with e | e; (cases e; exact h.np); omega
  have hgl : lb ≠ g := by rcases hg with e | e; (cases e; exact h.ln); omega
  have hyg : ¬ Y g := by rcases hg with e | e; (cases e; exact h.yn); exact fun hy => by have := hY g hy; omega
  have hgk : ∀ k, k < w.heap.size → k = g → k = nb := fun k hk e => by rcases hg with e2 | e2; (cases e2; exact e); omega
  refine ⟨?_, ?_, ?_, h.pB, h.lp, hgp, hgl, h.yp, h.yl, hyg, fun j hj => ?_⟩
  · have := (h.blk.frm hf (fun e => h.np e.symm)).set 1 (.slice (some ⟨g, 0, none⟩) (nx.length + 1) cap)
    simpa using this
  · exact own_frm h.lown hf2 (fun e => by rcases e with e | e; exact h.ln e; exact h.lp e)
  · have := own_frm (X := fun k => k = p) hown (Frm.set (X := fun k => k = p) (Frm.refl _ w') (Or.inl rfl) 1 (.slice (some ⟨g, 0, none⟩) (nx.length + 1) cap)) hgp
    simpa using this
  · obtain ⟨a', n', c', h1, h2, h3, h4⟩ := h.labs j hj
    exact ⟨a', n', c', h1, h2, h3, h4.frm hf2 (fun k _ e => by rcases e with e | e; exact Or.inr (Or.inr (Or.inl e)); exact Or.inl e) (fun k hk e => by
        rcases e with e | e | e | e
        · exact Or.inl e
        · exact Or.inr (Or.inl e)
        · exact Or.inr (Or.inr (Or.inl (hgk k hk e)))
        · exact Or.inr (Or.inr (Or.inr e)))⟩
end
/-- What a call leaves of an automaton. -/
def AuPost (B : Nat) (Y : Nat → Prop) (w : World) (p lb nb : Nat) (ls : List Lb) (nx : List Nat) (last : Nat) (w' : World) : Prop :=
  ∃ lb' cl' nb' cn' lxs', AuAt B Y w' p lb' cl' nb' cn' lxs' ls nx last ∧ Frm (AuB p lb nb fun _ => False) w w' ∧ (lb' = lb ∨ w.heap.size ≤ lb') ∧ (nb' = nb ∨ w.heap.size ≤ nb')

theorem info_two {P : Program} {t : TypeId} {z : Value} {size bytes : Nat} (h : (P.info? t).map (fun i => (i.zero, i.size, i.bytes)) = some (some z, size, bytes)) : ∃ i, P.info? t = some i ∧ i.zero = some z ∧ i.size = size ∧ i.bytes = bytes := by
  cases hp : P.info? t with
  | none => rw [hp] at h; cases h
  | some i =>
    rw [hp] at h
    simp only [Option.map_some, Option.some.injEq, Prod.mk.injEq] at h
    exact ⟨i, rfl, h.1, h.2.1, h.2.2⟩
theorem Tryd.infoLabel : (Tryd.prog.info? 76).map (fun i => (i.zero, i.size, i.bytes)) = some (some (.agg #[.bool false, .bool false, .slice none 0 0]), 3, 32) := by kernel_rfl
theorem Tryd.infoPlaces : (Tryd.prog.info? 59).map (fun i => (i.zero, i.size, i.bytes)) = some (some (.int .u32 0), 1, 4) := by kernel_rfl
theorem news3 (W : World) (x y z : Value) (t : TypeId) (W' : World) (hW : W' = W.alloc (.cells #[x, y, z] t)) : ∀ j u, [x, y, z][j]? = some u → W'.cell? ((⟨W.heap.size, 0, none⟩ : Addr).add j) = some u := by
  subst hW
  intro j u hu
  rw [add_cell rfl, Nat.zero_add, cell_new, ← hu]
  simp
theorem AuAt.grownLab {B : Nat} {Y : Nat → Prop} {w1 W w2 : World} {p lb cl nb cn : Nat} {lxs : List Value} {ls : List Lb} {nx : List Nat} {last : Nat} (h : AuAt B Y w1 p lb cl nb cn lxs ls nx last) (hW : Below w1.heap.size w1 W) {g cap : Nat} {l : Lb} {a : Option Addr} {m c : Nat}
    (hown : w2.ownsRow B 76 3 (.slice (some ⟨g, 0, none⟩) (ls.length + 1) cap) (ls.length + 1) (lxs ++ [.bool l.back, .bool l.not, .slice a m c]))
    (hgr : W.grownBy w2 (some lb)) {H : Nat} (hg : some lb = some g ∨ g = H) (hH : W.heap.size = H) (hY : ∀ k, Y k → k < w1.heap.size) (hT : Asd (AuB p lb nb Y) w1 (fun W => TextsAt W (.slice a m c) l.texts)) :
    Hid (Blk w2 p [.slice (some ⟨lb, 0, none⟩) ls.length cl, .slice (some ⟨nb, 0, none⟩) nx.length cn, u32v last] 61) ∧
    Hid (AuAt B Y (w2.setCell ⟨p, 0, none⟩ (.slice (some ⟨g, 0, none⟩) (ls.length + 1) cap)) p g cap nb cn (lxs ++ [.bool l.back, .bool l.not, .slice a m c]) (ls ++ [l]) nx last) ∧
    Hid (Frm (fun k => k = p ∨ k = lb) w1 (w2.setCell ⟨p, 0, none⟩ (.slice (some ⟨g, 0, none⟩) (ls.length + 1) cap))) ∧ Hid (g = lb ∨ w1.heap.size ≤ g) := by
  subst hH
  have h2 := h.keep hW
  have hf : Frm (fun k => k = lb) W w2 := frm_grown1 hgr
  refine ⟨h2.blk.frm hf (fun e => h.lp e.symm), h2.putLab hown hgr hg (fun k hk => Nat.lt_of_lt_of_le (hY k hk) hW.size) (hT.frm (Y := fun _ => False) (Frm.of_below hW) (fun _ _ h => h.elim) (fun _ _ h => h)), ?_, ?_⟩
  · exact Frm.set (X := fun k => k = p ∨ k = lb) ((Frm.of_below (X := fun k => k = p ∨ k = lb) hW).trans hf (fun k _ e => Or.inr e)) (Or.inl (Or.inl rfl)) _ _
  · rcases hg with e | e
    · cases e; exact Or.inl rfl
    · have := hW.size; exact Or.inr (by omega)
theorem AuAt.grownNext {B : Nat} {Y : Nat → Prop} {w1 W w2 : World} {p lb cl nb cn : Nat} {lxs : List Value} {ls : List Lb} {nx : List Nat} {last x : Nat} (h : AuAt B Y w1 p lb cl nb cn lxs ls nx last) (hW : Below w1.heap.size w1 W) {g cap : Nat}
    (hown : w2.ownsRow B 59 1 (.slice (some ⟨g, 0, none⟩) (nx.length + 1) cap) (nx.length + 1) (nx.map u32v ++ [u32v x]))
    (hgr : W.grownBy w2 (some nb)) {H : Nat} (hg : some nb = some g ∨ g = H) (hH : W.heap.size = H) (hY : ∀ k, Y k → k < w1.heap.size) :
    Hid (Blk w2 p [.slice (some ⟨lb, 0, none⟩) ls.length cl, .slice (some ⟨nb, 0, none⟩) nx.length cn, u32v last] 61) ∧
    Hid (AuAt B Y (w2.setCell ⟨p, 1, none⟩ (.slice (some ⟨g, 0, none⟩) (nx.length + 1) cap)) p lb cl g cap lxs ls (nx ++ [x]) last) ∧
    Hid (Frm (fun k => k = p ∨ k = nb) w1 (w2.setCell ⟨p, 1, none⟩ (.slice (some ⟨g, 0, none⟩) (nx.length + 1) cap))) ∧ Hid (g = nb ∨ w1.heap.size ≤ g) := by
  subst hH
  have h2 := h.keep hW
  have hf : Frm (fun k => k = nb) W w2 := frm_grown1 hgr
  refine ⟨h2.blk.frm hf (fun e => h.np e.symm), h2.putNext hown hgr hg (fun k hk => Nat.lt_of_lt_of_le (hY k hk) hW.size), ?_, ?_⟩
  · exact Frm.set (X := fun k => k = p ∨ k = nb) ((Frm.of_below (X := fun k => k = p ∨ k = nb) hW).trans hf (fun k _ e => Or.inr e)) (Or.inl (Or.inl rfl)) _ _
  · rcases hg with e | e
    · cases e; exact Or.inl rfl
    · have := hW.size; exact Or.inr (by omega)
theorem part_ret {fn : Func} {tmps : Array Value} {Z : World} {b s : Nat} {v0 v1 v2 : Value} (ht : tmps.getD s undef = .pointer (some ⟨b, 0, none⟩)) (hZ : Blk Z b [v0, v1, v2] 63) (hf : fn.results = #[.cell s 63]) :
    (results fn tmps).run Tryd.prog Z = .ok (.agg #[v0, v1, v2]) Z := by
  have h0 := hZ.cell (i := 0) rfl
  have h1 := hZ.cell (i := 1) rfl
  have h2 := hZ.cell (i := 2) rfl
  have ht' : tmps[s]?.getD undef = .pointer (some ⟨b, 0, none⟩) := by simpa using ht
  simp [results, hf, ht', go_sem, h0, h1, h2]
def placePost (B : Nat) (Y : Nat → Prop) (w : World) (p lb nb : Nat) (ls : List Lb) (nx : List Nat) (last : Nat) (l : Lb) (e : Ending) (w' : World) : Prop :=
  e = .returned (.agg #[u32v (2 ^ ls.length), u32v (2 ^ ls.length), .bool false]) ∧ AuPost B Y w p lb nb (ls ++ [l]) (nx ++ [0]) last w'
set_option maxHeartbeats 2000000 in
theorem place_au {B : Nat} {Y : Nat → Prop} {w : World} {p lb cl nb cn : Nat} {lxs : List Value} {ls : List Lb} {nx : List Nat} {last : Nat} (l : Lb) (a : Option Addr) (m c : Nat)
    (h : AuAt B Y w p lb cl nb cn lxs ls nx last) (hY : ∀ k, Y k → k < w.heap.size) (hT : Asd (AuB p lb nb Y) w (fun W => TextsAt W (.slice a m c) l.texts)) (h32 : ls.length < 32) (hn32 : nx.length < 32) (hB : B ≤ w.heap.size) :
    Calls Tryd.prog 41 #[.pointer (some ⟨p, 0, none⟩), .agg #[.bool l.back, .bool l.not, .slice a m c]] w (placePost B Y w p lb nb ls nx last l) := by
  obtain ⟨iL, hiL, hzL, hsL, hbL⟩ := info_two Tryd.infoLabel
  obtain ⟨iP, hiP, hzP, hsP, hbP⟩ := info_two Tryd.infoPlaces
  have ON := hid (fun w => only_any ls.length h32 w)
  obtain ⟨w1, hw1⟩ : ∃ w1, w1 = (w.alloc (.cells #[.bool l.back, .bool l.not, .slice a m c] 76)).alloc (.cells #[.int .u32 0, .int .u32 0, .bool false] 63) := ⟨_, rfl⟩
  have hz1 : w1.heap.size = w.heap.size + 2 := by rw [hw1]; simp
  have hb1 : Below w.heap.size w w1 := by rw [hw1]; exact ((Below.refl _ _).alloc (Nat.le_refl _) _).alloc (by simp) _
  have hX : Blk w1 w.heap.size [.bool l.back, .bool l.not, .slice a m c] 76 := by rw [hw1]; exact (Blk.new w _ _).alloc _
  have hR : Blk w1 (w.heap.size + 1) [.int .u32 0, .int .u32 0, .bool false] 63 := by rw [hw1]; exact Blk.new' (by simp) rfl
  have h1 := ((h.more (Z := fun k => Y k ∨ k = w.heap.size + 1) (fun k e => e.elim Or.inl (fun e => Or.inr (by omega)))).keep hb1)
  have hT1 : Asd (AuB p lb nb fun k => Y k ∨ k = w.heap.size + 1) w1 (fun W => TextsAt W (.slice a m c) l.texts) := hT.frm (Y := fun _ => False) (Frm.of_below hb1) (fun _ _ h => h.elim) (fun k hk e => by
    rcases e with e | e | e | e | e
    · exact Or.inl e
    · exact Or.inr (Or.inl e)
    · exact Or.inr (Or.inr (Or.inl e))
    · exact Or.inr (Or.inr (Or.inr e))
    · omega)
  have x0 := hX.cell (i := 0) rfl
  have x1 := hX.cell (i := 1) rfl
  have x2 := hX.cell (i := 2) rfl
  have a0 := h1.blk.cell (i := 0) rfl
  have a1 := h1.blk.cell (i := 1) rfl
  have f0 := h1.blk.free 0
  have f1 := h1.blk.free 1
  have q1 := (own_blk h1.lown).2.2.1
  have q2 := (own_blk h1.lown).2.2.2.1
  have H1 := hid h1
  have HT1 := hid hT1
  have HB1 := hid hb1
  have HR := hid hR
  have HY := hid hY
  have hpl := h1.blk.lt
  have HZ := hid hz1
  clear hb1 hX hR h1 hT1 h hT hY hz1
  go_enter Tryd.func41, Tryd.ntmps41
  go_upto_region 1 with fail
  rw [← hw1]
  clear hw1
  simp only [u32v] at ON
  go_wp2_with (go_at_call 30; refine (ON.out _).mono ?_; rintro e wq ⟨rfl, hw⟩; rw [hw]; clear hw wq)
  have OW : ∀ o : Obj, (w1.alloc o).ownsRow B 76 3 (.slice (some ⟨lb, 0, none⟩) ls.length cl) ls.length lxs := fun o => H1.out.lown.alloc o
  have HBw1 : B ≤ w1.heap.size := by have := HZ.out; omega
  have HY1 := hid (show ∀ k, (Y k ∨ k = w.heap.size + 1) → k < w1.heap.size from fun k e => by have := HZ.out; rcases e with e | e; (have := HY.out k e; omega); omega)
  go_region_law ((refine step_append_lies _ (by rfl) (.tmp 16) (.tmp 18) 56 (by rfl) B 76 iL _ 3 32 Tryd.underlying56 hiL hzL hsL hbL rfl (by decide) (.slice (some ⟨lb, 0, none⟩) ls.length cl) ls.length lxs (by rfl) (OW _) ⟨w1.heap.size, 0, none⟩ 1 1 [.bool l.back, .bool l.not, .slice a m c] (by rfl) (by rfl) (World.news_of_block (cs := #[.bool l.back, .bool l.not, .slice a m c]) (t := 76) (fr := (0, 0)) (heap_alloc_new w1 _)) (by simp [Value.oneCell']) (by decide) (by unfold maxLen; omega) (by omega) (by simp; omega) (w1.heap.size + 1) (by simp) ?_; intro g cap w2 hown hgr hg hlt; obtain ⟨hb2, H3, F3, G3⟩ := AuAt.grownLab H1.out (((Below.refl _ _).alloc (Nat.le_refl _) _).drew) hown hgr hg (by simp) HY1.out HT1.out; have p0 := hb2.out.cell (i := 0) rfl; have z0 := hb2.out.free 0))
  all_goals
    obtain ⟨w3, hw3⟩ : ∃ w3, w3 = w2.setCell ⟨p, 0, none⟩ (.slice (some ⟨g, 0, none⟩) (ls.length + 1) cap) := ⟨_, rfl⟩
    rw [← hw3] at H3 F3 ⊢
    clear hw3 hown hgr hg hlt hb2 p0 z0
    have a1 := H3.out.blk.cell (i := 1) rfl
    have f1 := H3.out.blk.free 1
    have hs3 := F3.out.size
    have HBw3 : B ≤ w3.heap.size := by omega
    have OW3 : ∀ o : Obj, (w3.alloc o).ownsRow B 59 1 (.slice (some ⟨nb, 0, none⟩) nx.length cn) nx.length (nx.map u32v) := fun o => H3.out.nown.alloc o
    have HY3 := hid (show ∀ k, (Y k ∨ k = w.heap.size + 1) → k < w3.heap.size from fun k e => Nat.lt_of_lt_of_le (HY1.out k e) hs3)
    clear hs3
    go_wp2_with (at_builtin; refine wpList_append_lies _ (by rfl) (.tmp 26) (.tmp 27) 57 (by rfl) B 59 iP _ 1 4 Tryd.underlying57 hiP hzP hsP hbP rfl (by decide) (.slice (some ⟨nb, 0, none⟩) nx.length cn) nx.length (nx.map u32v) (by rfl) (OW3 _) ⟨w3.heap.size, 0, none⟩ 1 1 [.int .u32 0] (by rfl) (by rfl) (World.news_of_block (cs := #[.int .u32 0]) (t := 59) (fr := (0, 0)) (heap_alloc_new w3 _)) (by simp [Value.oneCell']) (by decide) (by unfold maxLen; omega) (by omega) (by simp; omega) (w3.heap.size + 1) (by simp) ?_; intro g4 cap4 w4 hown4 hgr4 hg4 hlt4; obtain ⟨hb4, H4, F4, G4⟩ := AuAt.grownNext (x := 0) H3.out ((Below.refl _ _).alloc (Nat.le_refl _) _) hown4 hgr4 hg4 (by simp) HY3.out; have p4 := hb4.out.cell (i := 1) rfl; have z4 := hb4.out.free 1; clear hown4 hgr4 hg4 hlt4 hb4; have hbl := ((HR.out.frm F3.out (fun e => e.elim (fun e => H1.out.yp (Or.inr e.symm)) (fun e => H1.out.yl (Or.inr e.symm)))).frm F4.out (fun e => e.elim (fun e => H1.out.yp (Or.inr e.symm)) (fun e => H1.out.yn (Or.inr e.symm)))); have r0 := hbl.cell (i := 0) rfl; have r1 := hbl.cell (i := 1) rfl; have r2 := hbl.cell (i := 2) rfl; have s0 := hbl.free 0; have s1 := hbl.free 1; have s2 := hbl.free 2; have HBL := hid hbl; clear hbl)
    have hz := HZ.out
    refine bodyPost_ret (v := .agg #[u32v (2 ^ ls.length), u32v (2 ^ ls.length), .bool false]) (part_ret (s := 4) rfl (((HBL.out.set 0 _).set 1 _).set 2 _) Tryd.results41) rfl ⟨rfl, g, cap, g4, cap4, _, ((H4.out.frm (Z := fun k => k = w.heap.size + 1) (Frm.set (X := fun k => k = w.heap.size + 1) (Frm.set (X := fun k => k = w.heap.size + 1) (Frm.set (X := fun k => k = w.heap.size + 1) (Frm.refl _ _) (Or.inl rfl) _ _) (Or.inl rfl) _ _) (Or.inl rfl) _ _) (fun k _ e => Or.inr e)).more (fun k e => Or.inl (Or.inl e))), ?_, ?_, ?_⟩
    · refine Frm.set (Frm.set (Frm.set (X := AuB p lb nb fun _ => False) ?_ (Or.inr (by omega)) _ _) (Or.inr (by omega)) _ _) (Or.inr (by omega)) _ _
      exact ((Frm.of_below (X := AuB p lb nb fun _ => False) HB1.out).trans F3.out (fun k _ e => e.elim Or.inl (fun e => Or.inr (Or.inl e)))).trans F4.out (fun k _ e => e.elim Or.inl (fun e => Or.inr (Or.inr (Or.inl e))))
    · exact G3.out.elim Or.inl (fun e => Or.inr (by omega))
    · have := F3.out.size
      exact G4.out.elim Or.inl (fun e => Or.inr (by omega))
end Go.Proofs.YtobcbaeoedpefaaDoor
