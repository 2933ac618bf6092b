/- Triples: how two compare, a triple that begins with a column, and the sort's own comparison. -/
import Derived.Test.YtagadfgginneeaaRgSmall
import Derived.Sort.Grow
namespace Go.Proofs.Ytagadfgginneeaa
set_option linter.unusedVariables false
set_option linter.unusedSimpArgs false
set_option maxRecDepth 100000
open Go.ChangeShapes Go.WideShapes Go.ChangeAt Go.RowKit
/-- Draws alone. -/
def Dr (w w' : World) : Prop := ∃ q, w'.drawn = w.drawn + q
theorem Dr.refl (w : World) : Dr w w := ⟨0, rfl⟩
theorem Dr.trans {a b c : World} (h : Dr a b) (k : Dr b c) : Dr a c := by
  obtain ⟨p, hp⟩ := h; obtain ⟨q, hq⟩ := k; exact ⟨p + q, by rw [hq, hp, Nat.add_assoc]⟩
theorem Dr.alloc {a b : World} (h : Dr a b) (o : Obj) : Dr a (b.alloc o) := h
theorem Dr.drewN {a b : World} (h : Dr a b) (n : Nat) : Dr a (b.drewN n) := by
  obtain ⟨p, hp⟩ := h; exact ⟨p + n, by show b.drawn + n = _; rw [hp, Nat.add_assoc]⟩
theorem Dr.setCell {a b : World} (h : Dr a b) (x : Addr) (v : Value) : Dr a (b.setCell x v) := by
  obtain ⟨p, hp⟩ := h; exact ⟨p, by rw [← hp]; rfl⟩
/-- A new block's cells, and what they are in the end. -/
theorem ids_ret {fn : Func} {tmps : Array Value} {Z : World} {b k : Nat} {v0 v1 v2 : Value} (ht : tmps.getD k undef = .pointer (some ⟨b, 0, none⟩)) (hZ : Blk Z b [v0, v1, v2] 24) (hf : fn.results = #[.cell k 24]) :
    (results fn tmps).run Try.prog Z = .ok (.agg #[v0, v1, v2]) Z := by
  have h0 := hZ.cell (i := 0) rfl
  have h1 := hZ.cell (i := 1) rfl
  have h2 := hZ.cell (i := 2) rfl
  have ht' : tmps[k]?.getD undef = .pointer (some ⟨b, 0, none⟩) := by simpa using ht
  simp [results, hf, ht', go_sem, h0, h1, h2]
theorem ids_box (w : World) (t : Rg.T) : ∃ w1, w1 = w.alloc (.cells #[.int .i64 t.1, .int .i64 t.2.1, .int .i64 t.2.2] 24) ∧ Hid (Blk w1 w.heap.size (tl t) 24) ∧ Hid (Below w.heap.size w w1) ∧ Hid (Dr w w1) ∧ w1.heap.size = w.heap.size + 1 :=
  ⟨_, rfl, Blk.new w (tl t) 24, (Below.refl _ _).alloc (Nat.le_refl _) _, Dr.alloc (Dr.refl _) _, by simp⟩
theorem ids_cells {w : World} {b : Nat} {t : Rg.T} (h : Blk w b (tl t) 24) : w.cell? ⟨b, 0, none⟩ = some (.int .i64 t.1) ∧ w.cell? ⟨b, 1, none⟩ = some (.int .i64 t.2.1) ∧ w.cell? ⟨b, 2, none⟩ = some (.int .i64 t.2.2) :=
  ⟨h.cell rfl, h.cell rfl, h.cell rfl⟩
theorem two_box (w : World) (x y : Rg.T) : ∃ w1, w1 = (w.alloc (.cells #[.int .i64 x.1, .int .i64 x.2.1, .int .i64 x.2.2] 24)).alloc (.cells #[.int .i64 y.1, .int .i64 y.2.1, .int .i64 y.2.2] 24) ∧ Hid (Blk w1 w.heap.size (tl x) 24) ∧ Hid (Blk w1 (w.heap.size + 1) (tl y) 24) ∧ Hid (Below w.heap.size w w1) ∧ Hid (Dr w w1) := by
  refine ⟨_, rfl, (Blk.new w (tl x) 24).alloc _, Blk.new' (by simp) rfl, ((Below.refl _ _).alloc (Nat.le_refl _) _).alloc (by simp) _, Dr.alloc (Dr.alloc (Dr.refl _) _) _⟩
theorem rcmp_any (x y : Rg.T) (w : World) : Calls Try.prog 23 #[tv x, tv y] w fun e w' => e = .returned (.int .i64 (Rg.cmp x y)) ∧ Below w.heap.size w w' ∧ Dr w w' := by
  unfold tv
  go_enter Try.func23, Try.ntmps23
  go_upto_region 1 with fail
  obtain ⟨w1, hw1, HX, HY, HB, HD⟩ := two_box w x y
  rw [← hw1]
  clear hw1
  have SC := hid fun q => scmp_any x y w.heap.size (w.heap.size + 1) 24 24 (w1.drewN q) (HX.out.drewN q) (HY.out.drewN q)
  go_quiet ((go_at_call 36; exact drawn_same fun W hW => by rw [hW]; exact SC.out _))
  go_wp2
  go_ret
  exact ⟨rfl, below_drawn HB.out _, HD.out.drewN _⟩
theorem turned_any (t : Rg.T) (c : Nat) (hc : c < 3) (w : World) : Calls Try.prog 43 #[tv t, .int .i64 c] w fun e w' => e = .returned (tv (Rg.rot c t)) ∧ Below w.heap.size w w' ∧ Dr w w' := by
  unfold tv
  have BH := hid fun W => behind_any c hc W
  have AH := hid fun W => ahead_any c hc W
  go_enter Try.func43, Try.ntmps43
  go_upto_region 1 with fail
  obtain ⟨w1, hw1, HX, HY, HB, HD⟩ := two_box w t (0, 0, 0)
  rw [show (w.alloc (.cells #[.int .i64 t.1, .int .i64 t.2.1, .int .i64 t.2.2] 24)).alloc (.cells #[.int .i64 0, .int .i64 0, .int .i64 0] 24) = w1 from hw1.symm]
  clear hw1
  have c0 := HX.out.cell (tl_get t c hc)
  have c1 := HX.out.cell (tl_get t (Rg.nx c) (Nat.mod_lt _ (by decide)))
  have c2 := HX.out.cell (tl_get t (Rg.pv c) (Rg.pv_lt c))
  have hnx : Rg.nx c < 3 := Nat.mod_lt _ (by decide)
  have hpv : Rg.pv c < 3 := Rg.pv_lt c
  refine wp_region_drawn_tail 12 (by kernel_rfl) (by kernel_rfl) ?_
  simp only [List.take_succ_cons, List.take_zero, List.drop_succ_cons, List.drop_zero]
  repeat (go_big_quiet_step (first | (go_at_call 33; exact drawn_same fun W hW => BH.out W) | (go_at_call 31; exact drawn_same fun W hW => AH.out W)))
  refine wpQuiet_nil ?_
  rintro _ ⟨nq, rfl⟩
  obtain ⟨W, hW⟩ : ∃ W, W = w1.drewN nq := ⟨_, rfl⟩
  rw [← hW]
  have HY2 : Blk W (w.heap.size + 1) (tl (0, 0, 0)) 24 := by rw [hW]; exact HY.out.drewN nq
  have HB2 := hid (show Below w.heap.size w W by rw [hW]; exact below_drawn HB.out nq)
  have HD2 := hid (show Dr w W by rw [hW]; exact HD.out.drewN nq)
  have d0 := HY2.cell (i := 0) rfl
  have d1 := HY2.cell (i := 1) rfl
  have d2 := HY2.cell (i := 2) rfl
  have f0 := HY2.free 0
  have f1 := HY2.free 1
  have f2 := HY2.free 2
  have HY3 := hid HY2
  clear hW c0 c1 c2 HY2
  go_wp2
  have HZ := hid (((HY3.out.set 0 (.int .i64 (Rg.at' t c))).set 1 (.int .i64 (Rg.at' t (Rg.nx c)))).set 2 (.int .i64 (Rg.at' t (Rg.pv c))))
  exact bodyPost_ret (v := .agg #[.int .i64 (Rg.at' t c), .int .i64 (Rg.at' t (Rg.nx c)), .int .i64 (Rg.at' t (Rg.pv c))]) (ids_ret rfl HZ.out Try.results43) rfl ⟨rfl, ((HB2.out.setCell (by simp) _).setCell (by simp) _).setCell (by simp) _, ((HD2.out.setCell _ _).setCell _ _).setCell _ _⟩
/-- A world that has grown, and drawn. -/
structure Gro (w : World) where
  it : World
  low : Below w.heap.size w it
  dr : Dr w it
instance {w : World} : Nonempty (Gro w) := ⟨⟨w, Below.refl _ w, Dr.refl w⟩⟩
theorem wp_region_gro {P : Program} {id : Nat} {Q : Exit → Act → World → Prop} {a : Act} {w : World} {l : List Oper} (hm : P.follows .mixedOrders = true) (hB : Region.lexB .any l.toArray = true)
    (h : wpQuiet P l.toArray (fun w' => ∃ p : Gro w, w' = p.it) (fun a' => ∀ w', (∃ p : Gro w, w' = p.it) → Q .normal a' w') l a) : (Code.region id l.toArray true).wp P Q a w :=
  wp_region_quiet (C := fun w' => ∃ p : Gro w, w' = p.it) hm hB ⟨⟨_, (Below.refl _ w).drew, ⟨1, rfl⟩⟩, rfl⟩ (by simpa using h)
theorem Gro.call {P : Program} {f : FuncId} {args : Array Value} {w : World} {p : Gro w} {v : Value}
    (h : Calls P f args p.it fun e w' => e = .returned v ∧ Below p.it.heap.size p.it w' ∧ Dr p.it w') : Calls P f args p.it fun e w'' => e = .returned v ∧ ∃ q : Gro w, w'' = q.it :=
  h.mono fun _ _ ⟨he, hb, hd⟩ => ⟨he, ⟨_, below_then p.low hb, p.dr.trans hd⟩, rfl⟩
theorem Gro.keep {w : World} (p : Gro w) {b o : Nat} {v : Value} (hc : w.cell? ⟨b, o, none⟩ = some v) : p.it.cell? ⟨b, o, none⟩ = some v := below_keep p.low hc
theorem Dr.drawnN (w : World) (h : Below w.heap.size w w) : Dr w w := Dr.refl w
/-- A world that has grown is the old one, with draws, and blocks behind. -/
theorem grown_eq {w w' : World} (h : Below w.heap.size w w') (d : Dr w w') : ∃ q os, w' = Go.Sort.grow (w.drewN q) os := by
  obtain ⟨q, hq⟩ := d
  refine ⟨q, w'.heap.extract w.heap.size w'.heap.size, ?_⟩
  have hh : w'.heap = w.heap ++ w'.heap.extract w.heap.size w'.heap.size := by
    apply Array.ext_getElem?
    intro k
    rw [Array.getElem?_append]
    split
    · rename_i hk; exact h.block k hk
    · rename_i hk
      rw [Array.getElem?_extract]
      have hs := h.size
      by_cases hk2 : k < w'.heap.size
      · rw [if_pos (by omega), show w.heap.size + (k - w.heap.size) = k by omega]
      · rw [if_neg (by omega), Array.getElem?_eq_none (by omega)]
  obtain ⟨h1, h2, h3, h4, h5⟩ := w'
  have e1 := h.tape
  have e2 := h.os
  have e3 := h.output
  simp only at e1 e2 e3 hq hh
  subst e1 e2 e3 hq
  unfold Go.Sort.grow World.drewN
  simp only [World.mk.injEq, and_true, true_and]
  exact hh
theorem colF_any (x y : Rg.T) (c bc : Nat) (hc : c < 3) (w : World) (hb : w.cell? ⟨bc, 0, none⟩ = some (.int .i64 c)) :
    Calls Try.prog 42 #[tv x, tv y, .pointer (some ⟨bc, 0, none⟩)] w fun e w' => e = .returned (.int .i64 (Rg.cf c x y)) ∧ Below w.heap.size w w' ∧ Dr w w' := by
  unfold tv
  go_enter Try.func42, Try.ntmps42
  go_upto_region 1 with fail
  obtain ⟨w1, hw1, HX, HY, HB, HD⟩ := two_box w x y
  rw [← hw1]
  clear hw1
  have g0 := fun q : Gro w1 => q.keep (below_keep HB.out hb)
  have g1 := fun q : Gro w1 => q.keep (ids_cells HX.out).1
  have g2 := fun q : Gro w1 => q.keep (ids_cells HX.out).2.1
  have g3 := fun q : Gro w1 => q.keep (ids_cells HX.out).2.2
  have g4 := fun q : Gro w1 => q.keep (ids_cells HY.out).1
  have g5 := fun q : Gro w1 => q.keep (ids_cells HY.out).2.1
  have g6 := fun q : Gro w1 => q.keep (ids_cells HY.out).2.2
  have T1 := hid fun q : Gro w1 => turned_any x c hc q.it
  have T2 := hid fun q : Gro w1 => turned_any y c hc q.it
  have CM := hid fun q : Gro w1 => rcmp_any (Rg.rot c x) (Rg.rot c y) q.it
  unfold tv at T1 T2 CM
  have hcf : Rg.cmp (Rg.rot c x) (Rg.rot c y) = Rg.cf c x y := rfl
  rw [hcf] at CM
  generalize Rg.rot c x = rx at *
  generalize Rg.rot c y = ry at *
  obtain ⟨r, hr⟩ : ∃ r, r = Rg.cf c x y := ⟨_, rfl⟩
  rw [← hr] at CM
  have HR := hid hr
  clear hb HX HY hr
  refine wp_region_gro (by kernel_rfl) (by kernel_rfl) ?_
  repeat (go_big_quiet_step (first | (go_at_call 43; with_reducible exact Gro.call (T1.out _)) | (go_at_call 43; with_reducible exact Gro.call (T2.out _)) | (go_at_call 23; with_reducible exact Gro.call (CM.out _))))
  refine wpQuiet_nil ?_
  rintro _ ⟨q, rfl⟩
  go_wp2
  go_ret
  exact ⟨by rw [← HR.out]; rfl, below_then HB.out q.low, HD.out.trans q.dr⟩
end Go.Proofs.Ytagadfgginneeaa
