/- The document's Laid: a path with all Backs laid on its steps. -/
import Derived.Test.YtobcbaeoedpefaaDoorRfMath
import Derived.Test.YtobcbaeoedpefaaDoorAuSeq
import Derived.Test.YtobcbaeoedpefaaDoorRPath
import Derived.Test.YtobcbaeoedpefaaDoorAuPlace
import Derived.Deep.RegionHeld3
namespace Go.Proofs.YtobcbaeoedpefaaDoor
set_option linter.unusedVariables false
set_option linter.unusedSimpArgs false
set_option maxRecDepth 100000
open Go.ChangeShapes Go.WideShapes Go.ChangeAt Go.RowKit
open Au
theorem Tryd.infoPath4 : (Tryd.prog.info? 25).map (fun i => (i.zero, i.size, i.bytes)) = some (some (.agg #[.int .i64 0, .string ⟨#[]⟩, .slice none 0 0, .slice none 0 0]), 4, 72) := by kernel_rfl
/-- append at a place in the row of operations. -/
theorem wpList_append_w {w : World} {P : Program} {ops : Array Oper} {rest : List Oper} {o : Oper} {a : Act} {Q : Exit → Act → World → Prop} (hw : Region.wanted o (yielded ops a.tmps) = true) (s x : Operand) (t : TypeId)
    (ho : o.op = .call { callee := .builtin .append, args := #[s, x], argTypes := #[t, t] })
    (base : Nat) (e : TypeId) (i : TypeInfo) (z : Value) (size bytes : Nat) (ht : P.underlying t = some (.slice e)) (hi : P.info? e = some i) (hz : i.zero = some z)
    (hsize : i.size = size) (hby : i.bytes = bytes) (hzs : z.cells.size = size) (hsz : 0 < size)
    (v : Value) (n : Nat) (xs : List Value) (hs : a.eval s = v) (hown : w.ownsRow base e size v n xs)
    (ad : Addr) (m c : Nat) (us : List Value) (hx : a.eval x = .slice (some ad) m c) (hm : us.length = m * size) (hc : ∀ j u, us[j]? = some u → w.cell? (ad.add j) = some u) (h1 : ∀ u ∈ us, u.oneCell' = true)
    (h63 : n + m ≤ maxLen) (hbytes : (n + m) * bytes ≤ 140737488355328) (hbase : base ≤ w.heap.size)
    (h : ∀ v' w', w'.ownsRow base e size v' (n + m) (xs ++ us) → w.grownBy w' v.ownBlock → Moved w v v' → wpList P ops Q rest (a.put o.dst v') w') : wpList P ops Q (o :: rest) a w := by
  refine wpList_step fun K hK => ?_
  rw [if_pos hw]
  obtain ⟨v', w', hr, h2, h3, h4⟩ := run_append_blk (P := P) (w := w) base t o.type e i z size bytes ht hi hz hsize hby hzs hsz v n xs hown ad m c us hm hc h1 h63 hbytes hbase
  unfold Oper.wp execOp
  simp only [ho, resolve, invoke, builtin, Sem.run_bind, Sem.run_pure, Result.andThen_ok, List.map_toArray, List.map_cons, List.map_nil, hs, hx, hr]
  exact hK _ _ (h v' w' h2 h3 h4)
/-- A row of paths that is built by appending; no block of X is of them. -/
structure PkAt (B : Nat) (X : Nat → Prop) (w : World) (v : Value) (xs : List Value) (K : List Pt) : Prop where
  own : w.ownsRow B 25 4 v K.length xs
  cells : ∀ j (h : j < K.length), ∃ a u, xs[j * 4]? = some (.int .i64 K[j].kind) ∧ xs[j * 4 + 1]? = some (str K[j].text) ∧ xs[j * 4 + 2]? = some a ∧ xs[j * 4 + 3]? = some u ∧ Asd (fun k => v.ownBlock = some k ∨ X k) w (fun W => PtAt W a u K[j])
theorem PkAt.nil (B : Nat) (X : Nat → Prop) (w : World) : PkAt B X w (.slice none 0 0) [] [] := ⟨World.ownsRow_nil _ _ _ _, fun j h => absurd h (by simp)⟩
theorem PkAt.keep {B : Nat} {X : Nat → Prop} {w w' : World} {v : Value} {xs : List Value} {K : List Pt} (h : PkAt B X w v xs K) (hb : Below w.heap.size w w') : PkAt B X w' v xs K := by
  refine ⟨?_, fun j hj => ?_⟩
  · obtain ⟨h0, h1 | ⟨g, cap, cur, e, hB, hg, r⟩⟩ := h.own
    · exact ⟨h0, Or.inl h1⟩
    · exact ⟨h0, Or.inr ⟨g, cap, cur, e, hB, by rw [hb.block g (lt_of_block hg)]; exact hg, r⟩⟩
  · obtain ⟨a, u, h1, h2, h3, h4, h6⟩ := h.cells j hj
    exact ⟨a, u, h1, h2, h3, h4, h6.frm (Y := fun _ => False) (Frm.of_below hb) (fun _ _ h => h.elim) (fun _ _ h => h)⟩
theorem PkAt.snoc {B : Nat} {X : Nat → Prop} {w w' : World} {v v' : Value} {xs : List Value} {K : List Pt} (h : PkAt B X w v xs K) {y : Pt} {a u : Value} (hown : w'.ownsRow B 25 4 v' (K.length + 1) (xs ++ [.int .i64 y.kind, str y.text, a, u]))
    (hgr : w.grownBy w' v.ownBlock) (hg : Moved w v v') (hT : Asd (fun k => v.ownBlock = some k ∨ X k) w (fun W => PtAt W a u y)) :
    PkAt B X w' v' (xs ++ [.int .i64 y.kind, str y.text, a, u]) (K ++ [y]) := by
  have hxl : xs.length = K.length * 4 := h.own.1
  have key : ∀ P, Asd (fun k => v.ownBlock = some k ∨ X k) w P → Asd (fun k => v'.ownBlock = some k ∨ X k) w' P := fun P hP =>
    hP.frm (frm_grown hgr) (fun k _ e => Or.inl e) (fun k hk e => by
      rcases e with e | e
      · rcases hg with hg | ⟨k', hg, hk'⟩
        · exact Or.inl (by rw [← hg, e])
        · rw [hg] at e; have := Option.some.inj e; omega
      · exact Or.inr e)
  refine ⟨by simpa using hown, fun j hj => ?_⟩
  by_cases hjl : j < K.length
  · obtain ⟨a', u', h1, h2, h3, h4, h6⟩ := h.cells j hjl
    rw [List.getElem_append_left hjl]
    exact ⟨a', u', by rw [List.getElem?_append_left (by omega)]; exact h1, by rw [List.getElem?_append_left (by omega)]; exact h2, by rw [List.getElem?_append_left (by omega)]; exact h3, by rw [List.getElem?_append_left (by omega)]; exact h4, key _ h6⟩
  · have hje : j = K.length := by simp at hj; omega
    subst hje
    rw [List.getElem_append_right (Nat.le_refl _)]
    simp only [Nat.sub_self, List.getElem_cons_zero]
    exact ⟨a, u, by rw [List.getElem?_append_right (by omega), hxl]; simp, by rw [List.getElem?_append_right (by omega), hxl]; simp, by rw [List.getElem?_append_right (by omega), hxl]; simp, by rw [List.getElem?_append_right (by omega), hxl]; simp, key _ hT⟩
/-- The path of such Kids. -/
theorem PkAt.path {B : Nat} {X : Nat → Prop} {w : World} {v : Value} {xs : List Value} {K : List Pt} (h : PkAt B X w v xs K) (hX : ∀ k, X k → k < B) (k : Int) (hk : -9223372036854775808 ≤ k ∧ k ≤ 9223372036854775807) : Asd X w (fun W => PtAt W (.slice none 0 0) v (.mk k [] [] K)) := fun W hW => by
  obtain ⟨h0, h1 | ⟨g, cap, cur, rfl, hB, hg, hn, hm, hs, ht⟩⟩ := h.own
  · obtain ⟨rfl, hl⟩ := h1
    have : K = [] := List.eq_nil_of_length_eq_zero hl
    subst this
    exact .mk k [] [] [] _ none 0 0 0 (fun _ => undef) (fun _ => undef) hk (by simp) (SlAt.nil W) (fun i => by simp) (Nat.le_refl _) (by unfold maxLen; omega) (fun _ => rfl) (fun h => absurd h (by simp)) (fun i h => absurd h (by simp)) (fun i h => absurd h (by simp))
  · have hgl := lt_of_block hg
    have hgW : W.heap[g]? = w.heap[g]? := hW g hgl (fun hx => by have := hX g hx; omega)
    have cell : ∀ (i : Nat) (u : Value), xs[i]? = some u → W.cell? ⟨g, i, none⟩ = some u := fun i u hi => by
      have := (own_cell h.own hi).1
      rw [← this]
      exact cell_heap hgW
    obtain ⟨f, hf⟩ : ∃ f : Nat → Value, ∀ j, j < K.length → xs[j * 4 + 2]? = some (f j) := ⟨fun j => xs.getD (j * 4 + 2) undef, fun j hj => by
      obtain ⟨a, u, _, _, h3, _⟩ := h.cells j hj; rw [h3]; simp [List.getD, h3]⟩
    obtain ⟨f', hf'⟩ : ∃ f : Nat → Value, ∀ j, j < K.length → xs[j * 4 + 3]? = some (f j) := ⟨fun j => xs.getD (j * 4 + 3) undef, fun j hj => by
      obtain ⟨a, u, _, _, _, h4, _⟩ := h.cells j hj; rw [h4]; simp [List.getD, h4]⟩
    refine .mk k [] [] K _ (some ⟨g, 0, none⟩) cap g 0 f f' hk (by simp) (SlAt.nil W) (fun i => by simp) hn hm (fun h => by cases h) (fun _ => rfl) (fun j hj => ?_) (fun j hj => ?_)
    · obtain ⟨a, u, h1, h2, h3, h4, h6⟩ := h.cells j hj
      rw [Nat.zero_add]
      exact ⟨cell _ _ h1, cell _ _ h2, cell _ _ (hf j hj), cell _ _ (hf' j hj)⟩
    · obtain ⟨a, u, h1, h2, h3, h4, h6⟩ := h.cells j hj
      have e3 := hf j hj
      have e4 := hf' j hj
      rw [h3] at e3
      rw [h4] at e4
      rw [← Option.some.inj e3, ← Option.some.inj e4]
      refine h6 W fun k hk hx => hW k hk (fun h => hx (Or.inr h))
/-- What Laid answers. -/
def LaidPost (W0 w : World) (y : Pt) (e : Ending) (w' : World) : Prop := (∃ v' u', e = .returned (pv y v' u') ∧ Asd (fun k => W0.heap.size ≤ k ∧ k < w.heap.size) w' (fun W => PtAt W v' u' y)) ∧ Below w.heap.size w w'
def LaidOk (x : Pt) (b : Bool) : Prop := ∀ (W0 w : World) (v u : Value), PtAt W0 v u x → Below W0.heap.size W0 w → Calls Tryd.prog 33 #[pv x v u, .bool b] w (LaidPost W0 w (x.rx b).toPt)
/-- A path lies where its blocks are as they were. -/
theorem PtAt.heap {W W' : World} {v u : Value} {x : Pt} (h : PtAt W v u x) (hs : W.heap.size ≤ W'.heap.size) (hb : ∀ k, k < W.heap.size → W'.heap[k]? = W.heap[k]?) : PtAt W' v u x := by
  have hB : Below W.heap.size W { W' with os := W.os, tape := W.tape, output := W.output } := ⟨rfl, rfl, rfl, hs, hb⟩
  induction h with
  | mk k t L K v a cap b off f g hk ht hL hl h1 h2 h3 h4 hc hK ih => exact .mk k t L K v a cap b off f g hk ht (show TextsAt { W' with os := W.os, tape := W.tape, output := W.output } v L from hL.keep hB) hl h1 h2 h3 h4 (fun i h => (show Row4 { W' with os := W.os, tape := W.tape, output := W.output } b (off + i * 4) K[i] (f i) (g i) from (hc i h).keep hB)) ih
theorem PtAt.asd {W0 w : World} {v u : Value} {x : Pt} (h : PtAt W0 v u x) (hb : Below W0.heap.size W0 w) {X : Nat → Prop} (hX : ∀ k, X k → W0.heap.size ≤ k) : Asd X w (fun W => PtAt W v u x) := fun W hW =>
  h.heap (by
    rcases Nat.eq_zero_or_pos W0.heap.size with h0 | h0
    · omega
    · have hk : W0.heap.size - 1 < W0.heap.size := by omega
      have h1 : W.heap[W0.heap.size - 1]? = W0.heap[W0.heap.size - 1]? := by rw [hW _ (Nat.lt_of_lt_of_le hk hb.size) (fun hx => by have := hX _ hx; omega), hb.block _ hk]
      rw [Array.getElem?_eq_getElem hk] at h1
      have := (Array.getElem?_eq_some_iff.1 h1).1
      omega) fun k hk => by rw [hW k (Nat.lt_of_lt_of_le hk hb.size) (fun hx => by have := hX k hx; omega), hb.block k hk]
theorem path_ret {fn : Func} {tmps : Array Value} {Z : World} {b s : Nat} {v0 v1 v2 v3 : Value} (ht : tmps.getD s undef = .pointer (some ⟨b, 0, none⟩)) (hZ : Blk Z b [v0, v1, v2, v3] 25) (hf : fn.results = #[.cell s 25]) :
    (results fn tmps).run Tryd.prog Z = .ok (.agg #[v0, v1, v2, v3]) Z := by
  have h0 := hZ.cell (i := 0) rfl
  have h1 := hZ.cell (i := 1) rfl
  have h2 := hZ.cell (i := 2) rfl
  have h3 := hZ.cell (i := 3) rfl
  have ht' : tmps[s]?.getD undef = .pointer (some ⟨b, 0, none⟩) := by simpa using ht
  simp [results, hf, ht', go_sem, h0, h1, h2, h3]
theorem blk4f {W : World} {b : Nat} {x0 x1 x2 x3 : Value} {t : TypeId} (h : Blk W b [x0, x1, x2, x3] t) : W.frozen? ⟨b, 0, none⟩ = false ∧ W.frozen? ⟨b, 1, none⟩ = false ∧ W.frozen? ⟨b, 2, none⟩ = false ∧ W.frozen? ⟨b, 3, none⟩ = false := ⟨h.free 0, h.free 1, h.free 2, h.free 3⟩
/-- Four cells are stored. -/
theorem Blk.set4 {W : World} {b : Nat} {x0 x1 x2 x3 : Value} {t : TypeId} (h : Blk W b [x0, x1, x2, x3] t) (y0 y1 y2 y3 : Value) : Blk ((((W.setCell ⟨b, 0, none⟩ y0).setCell ⟨b, 1, none⟩ y1).setCell ⟨b, 2, none⟩ y2).setCell ⟨b, 3, none⟩ y3) b [y0, y1, y2, y3] t :=
  (((h.set 0 y0).set 1 y1).set 2 y2).set 3 y3
theorem Frm.set4 {X : Nat → Prop} {w W : World} (h : Frm X w W) {b : Nat} (hb : X b ∨ w.heap.size ≤ b) (y0 y1 y2 y3 : Value) : Frm X w ((((W.setCell ⟨b, 0, none⟩ y0).setCell ⟨b, 1, none⟩ y1).setCell ⟨b, 2, none⟩ y2).setCell ⟨b, 3, none⟩ y3) :=
  (((h.set hb 0 y0).set hb 1 y1).set hb 2 y2).set hb 3 y3
set_option maxHeartbeats 2000000 in
theorem laid_iri_false (t : T) : LaidOk (.mk 1 t [] []) false := by
  intro W0 w v u hP hB
  obtain ⟨a, n, c, a', n', c', rfl, rfl⟩ := pv_open hP
  have hrx : ((Pt.mk 1 t [] []).rx false).toPt = .mk 1 t [] [] := by rw [Pt.rx]; rfl
  rw [hrx]
  unfold pv
  simp only [Pt.kind, Pt.text]
  obtain ⟨w1, hw1⟩ : ∃ w1, w1 = (w.alloc (.cells #[.int .i64 1, str t, .slice a n c, .slice a' n' c'] 25)).alloc (.cells #[.int .i64 0, .string ⟨#[]⟩, .slice none 0 0, .slice none 0 0] 25) := ⟨_, rfl⟩
  have hz1 : w1.heap.size = w.heap.size + 2 := by rw [hw1]; simp
  have hb1 : Below w.heap.size w w1 := by rw [hw1]; exact ((Below.refl _ _).alloc (Nat.le_refl _) _).alloc (by simp) _
  have hX : Blk w1 w.heap.size [.int .i64 1, str t, .slice a n c, .slice a' n' c'] 25 := by rw [hw1]; exact (Blk.new w _ _).alloc _
  have hR : Blk w1 (w.heap.size + 1) [.int .i64 0, .string ⟨#[]⟩, .slice none 0 0, .slice none 0 0] 25 := by rw [hw1]; exact Blk.new' (by simp) rfl
  have hB1 : Below W0.heap.size W0 w1 := hB.trans (hb1.mono hB.size)
  obtain ⟨c0, c1, c2, c3⟩ := blk4 hX
  obtain ⟨f0, f1, f2, f3⟩ := blk4f hR
  obtain ⟨r0, r1, r2, r3⟩ := blk4 hR
  have HB1 := hid hb1
  have HZ := hid hz1
  have HR := hid hR
  have HP := hid hP
  have HB := hid hB
  clear hb1 hX hR hP hB hB1 hz1
  go_enter Tryd.func33, Tryd.ntmps33
  go_upto_region 1 with fail
  rw [← hw1]
  clear hw1
  go_wp2
  have hz1 := HZ.out
  have hR4 := HR.out.set4 (.int .i64 1) (str t) (.slice a n c) (.slice a' n' c')
  have hF4 := Frm.set4 (X := fun k => k = w.heap.size + 1) (b := w.heap.size + 1) (Frm.refl _ w1) (Or.inl rfl) (.int .i64 1) (str t) (.slice a n c) (.slice a' n' c')
  have hbw := HB.out.size
  have hB4 := HB1.out.trans (hF4.below (B := w.heap.size) (by omega) (fun k hk e => by omega))
  exact bodyPost_ret (path_ret (s := 4) rfl hR4 Tryd.results33) rfl ⟨⟨_, _, rfl, HP.out.asd (HB.out.trans (hB4.mono hbw)) (fun k hk => hk.1)⟩, hB4⟩
set_option maxHeartbeats 2000000 in
theorem laid_iri_true (t : T) : LaidOk (.mk 1 t [] []) true := by
  intro W0 w v u hP hB
  obtain ⟨a, n, c, a', n', c', rfl, rfl⟩ := pv_open hP
  have hrx : ((Pt.mk 1 t [] []).rx true).toPt = .mk 2 [] [] [.mk 1 t [] []] := by rw [Pt.rx]; rfl
  rw [hrx]
  unfold pv
  simp only [Pt.kind, Pt.text]
  obtain ⟨w1, hw1⟩ : ∃ w1, w1 = (w.alloc (.cells #[.int .i64 1, str t, .slice a n c, .slice a' n' c'] 25)).alloc (.cells #[.int .i64 0, .string ⟨#[]⟩, .slice none 0 0, .slice none 0 0] 25) := ⟨_, rfl⟩
  have hz1 : w1.heap.size = w.heap.size + 2 := by rw [hw1]; simp
  have hb1 : Below w.heap.size w w1 := by rw [hw1]; exact ((Below.refl _ _).alloc (Nat.le_refl _) _).alloc (by simp) _
  have hX : Blk w1 w.heap.size [.int .i64 1, str t, .slice a n c, .slice a' n' c'] 25 := by rw [hw1]; exact (Blk.new w _ _).alloc _
  have hR : Blk w1 (w.heap.size + 1) [.int .i64 0, .string ⟨#[]⟩, .slice none 0 0, .slice none 0 0] 25 := by rw [hw1]; exact Blk.new' (by simp) rfl
  have hB1 : Below W0.heap.size W0 w1 := hB.trans (hb1.mono hB.size)
  obtain ⟨c0, c1, c2, c3⟩ := blk4 hX
  obtain ⟨f0, f1, f2, f3⟩ := blk4f hR
  obtain ⟨r0, r1, r2, r3⟩ := blk4 hR
  obtain ⟨w2, hw2⟩ : ∃ w2, w2 = w1.alloc (.cells #[.int .i64 1, str t, .slice a n c, .slice a' n' c'] 25) := ⟨_, rfl⟩
  have hb2 : Below w1.heap.size w1 w2 := by rw [hw2]; exact (Below.refl _ _).alloc (Nat.le_refl _) _
  have hR2 := hR.keep hb2
  have g0 := fun o => (hR.alloc o).free 0
  have s0 := fun o => (hR.alloc o).cell (i := 0) rfl
  have g1 := fun o => (hR.alloc o).free 1
  have s1 := fun o => (hR.alloc o).cell (i := 1) rfl
  have g2 := fun o => (hR.alloc o).free 2
  have s2 := fun o => (hR.alloc o).cell (i := 2) rfl
  have g3 := fun o => (hR.alloc o).free 3
  have s3 := fun o => (hR.alloc o).cell (i := 3) rfl
  have hN2 : Blk w2 w1.heap.size [.int .i64 1, str t, .slice a n c, .slice a' n' c'] 25 := by rw [hw2]; exact Blk.new w1 _ _
  have HB1 := hid hb1
  have HBW := hid hB1
  have HZ := hid hz1
  have HR := hid hR2
  have HN := hid hN2
  have HP := hid hP
  have HB2 := hid hb2
  have HB := hid hB
  clear hb1 hX hR hP hB hB1 hz1 hR2 hN2 hb2
  go_enter Tryd.func33, Tryd.ntmps33
  go_upto_region 1 with fail
  rw [← hw1]
  clear hw1
  go_upto_region 5 with fail
  go_wp2
  rw [← hw2]
  clear hw2
  have hz1 := HZ.out
  have hR4 := HR.out.set4 (.int .i64 2) (.string ⟨#[]⟩) (.slice none 0 0) (.slice (some ⟨w1.heap.size, 0, none⟩) 1 1)
  have hF4 := Frm.set4 (X := fun k => k = w.heap.size + 1) (b := w.heap.size + 1) (Frm.refl _ w2) (Or.inl rfl) (.int .i64 2) (.string ⟨#[]⟩) (.slice none 0 0) (.slice (some ⟨w1.heap.size, 0, none⟩) 1 1)
  have hN4 := HN.out.frm hF4 (fun e => by omega)
  have hbw := HB.out.size
  have hb2s := HB2.out.size
  have hB4 := (HB1.out.trans (HB2.out.mono (by omega))).trans (hF4.below (B := w.heap.size) (by omega) (fun k hk e => by omega))
  refine bodyPost_ret (path_ret (s := 4) rfl hR4 Tryd.results33) rfl ⟨⟨.slice none 0 0, .slice (some ⟨w1.heap.size, 0, none⟩) 1 1, rfl, fun W hW => ?_⟩, hB4⟩
  have hPW := HP.out.asd (HB.out.trans (hB4.mono hbw)) (X := fun k => W0.heap.size ≤ k ∧ k < w.heap.size) (fun k hk => hk.1) W hW
  have hNW : Blk W w1.heap.size [.int .i64 1, str t, .slice a n c, .slice a' n' c'] 25 := by
    have hlt := hN4.lt
    unfold Blk at hN4 ⊢
    rw [hW _ hlt (fun e => by omega)]; exact hN4
  refine .mk 2 [] [] [.mk 1 t [] []] _ _ 1 w1.heap.size 0 (fun _ => .slice a n c) (fun _ => .slice a' n' c') (by omega) (by simp) (SlAt.nil _) (fun i => by simp) (Nat.le_refl _) (by unfold maxLen; omega) (fun h => by cases h) (fun _ => rfl) (fun i hi => ?_) (fun i hi => ?_)
  · obtain rfl : i = 0 := by simp at hi; omega
    exact ⟨hNW.cell rfl, hNW.cell rfl, hNW.cell rfl, hNW.cell rfl⟩
  · obtain rfl : i = 0 := by simp at hi; omega
    exact hPW
set_option maxHeartbeats 2000000 in
theorem laid_not_false (L : List T) : LaidOk (.mk 8 [] L []) false := by
  intro W0 w v u hP hB
  obtain ⟨a, n, c, a', n', c', rfl, rfl⟩ := pv_open hP
  have hrx : ((Pt.mk 8 [] L []).rx false).toPt = .mk 8 [] L [] := by rw [Pt.rx]; rfl
  rw [hrx]
  unfold pv
  simp only [Pt.kind, Pt.text]
  obtain ⟨w1, hw1⟩ : ∃ w1, w1 = (w.alloc (.cells #[.int .i64 8, .string ⟨#[]⟩, .slice a n c, .slice a' n' c'] 25)).alloc (.cells #[.int .i64 0, .string ⟨#[]⟩, .slice none 0 0, .slice none 0 0] 25) := ⟨_, rfl⟩
  have hz1 : w1.heap.size = w.heap.size + 2 := by rw [hw1]; simp
  have hb1 : Below w.heap.size w w1 := by rw [hw1]; exact ((Below.refl _ _).alloc (Nat.le_refl _) _).alloc (by simp) _
  have hX : Blk w1 w.heap.size [.int .i64 8, .string ⟨#[]⟩, .slice a n c, .slice a' n' c'] 25 := by rw [hw1]; exact (Blk.new w _ _).alloc _
  have hR : Blk w1 (w.heap.size + 1) [.int .i64 0, .string ⟨#[]⟩, .slice none 0 0, .slice none 0 0] 25 := by rw [hw1]; exact Blk.new' (by simp) rfl
  have hB1 : Below W0.heap.size W0 w1 := hB.trans (hb1.mono hB.size)
  obtain ⟨c0, c1, c2, c3⟩ := blk4 hX
  obtain ⟨f0, f1, f2, f3⟩ := blk4f hR
  obtain ⟨r0, r1, r2, r3⟩ := blk4 hR
  have HB1 := hid hb1
  have HZ := hid hz1
  have HR := hid hR
  have HP := hid hP
  have HB := hid hB
  clear hb1 hX hR hP hB hB1 hz1
  go_enter Tryd.func33, Tryd.ntmps33
  go_upto_region 1 with fail
  rw [← hw1]
  clear hw1
  go_wp2
  have hz1 := HZ.out
  have hR4 := HR.out.set4 (.int .i64 8) (.string ⟨#[]⟩) (.slice a n c) (.slice a' n' c')
  have hF4 := Frm.set4 (X := fun k => k = w.heap.size + 1) (b := w.heap.size + 1) (Frm.refl _ w1) (Or.inl rfl) (.int .i64 8) (.string ⟨#[]⟩) (.slice a n c) (.slice a' n' c')
  have hbw := HB.out.size
  have hB4 := HB1.out.trans (hF4.below (B := w.heap.size) (by omega) (fun k hk e => by omega))
  exact bodyPost_ret (path_ret (s := 4) rfl hR4 Tryd.results33) rfl ⟨⟨_, _, rfl, HP.out.asd (HB.out.trans (hB4.mono hbw)) (fun k hk => hk.1)⟩, hB4⟩
set_option maxHeartbeats 2000000 in
theorem laid_not_true (L : List T) : LaidOk (.mk 8 [] L []) true := by
  intro W0 w v u hP hB
  obtain ⟨a, n, c, a', n', c', rfl, rfl⟩ := pv_open hP
  have hrx : ((Pt.mk 8 [] L []).rx true).toPt = .mk 2 [] [] [.mk 8 [] L []] := by rw [Pt.rx]; rfl
  rw [hrx]
  unfold pv
  simp only [Pt.kind, Pt.text]
  obtain ⟨w1, hw1⟩ : ∃ w1, w1 = (w.alloc (.cells #[.int .i64 8, .string ⟨#[]⟩, .slice a n c, .slice a' n' c'] 25)).alloc (.cells #[.int .i64 0, .string ⟨#[]⟩, .slice none 0 0, .slice none 0 0] 25) := ⟨_, rfl⟩
  have hz1 : w1.heap.size = w.heap.size + 2 := by rw [hw1]; simp
  have hb1 : Below w.heap.size w w1 := by rw [hw1]; exact ((Below.refl _ _).alloc (Nat.le_refl _) _).alloc (by simp) _
  have hX : Blk w1 w.heap.size [.int .i64 8, .string ⟨#[]⟩, .slice a n c, .slice a' n' c'] 25 := by rw [hw1]; exact (Blk.new w _ _).alloc _
  have hR : Blk w1 (w.heap.size + 1) [.int .i64 0, .string ⟨#[]⟩, .slice none 0 0, .slice none 0 0] 25 := by rw [hw1]; exact Blk.new' (by simp) rfl
  have hB1 : Below W0.heap.size W0 w1 := hB.trans (hb1.mono hB.size)
  obtain ⟨c0, c1, c2, c3⟩ := blk4 hX
  obtain ⟨f0, f1, f2, f3⟩ := blk4f hR
  obtain ⟨r0, r1, r2, r3⟩ := blk4 hR
  obtain ⟨w2, hw2⟩ : ∃ w2, w2 = w1.alloc (.cells #[.int .i64 8, .string ⟨#[]⟩, .slice a n c, .slice a' n' c'] 25) := ⟨_, rfl⟩
  have hb2 : Below w1.heap.size w1 w2 := by rw [hw2]; exact (Below.refl _ _).alloc (Nat.le_refl _) _
  have hR2 := hR.keep hb2
  have g0 := fun o => (hR.alloc o).free 0
  have s0 := fun o => (hR.alloc o).cell (i := 0) rfl
  have g1 := fun o => (hR.alloc o).free 1
  have s1 := fun o => (hR.alloc o).cell (i := 1) rfl
  have g2 := fun o => (hR.alloc o).free 2
  have s2 := fun o => (hR.alloc o).cell (i := 2) rfl
  have g3 := fun o => (hR.alloc o).free 3
  have s3 := fun o => (hR.alloc o).cell (i := 3) rfl
  have hN2 : Blk w2 w1.heap.size [.int .i64 8, .string ⟨#[]⟩, .slice a n c, .slice a' n' c'] 25 := by rw [hw2]; exact Blk.new w1 _ _
  have HB1 := hid hb1
  have HBW := hid hB1
  have HZ := hid hz1
  have HR := hid hR2
  have HN := hid hN2
  have HP := hid hP
  have HB2 := hid hb2
  have HB := hid hB
  clear hb1 hX hR hP hB hB1 hz1 hR2 hN2 hb2
  go_enter Tryd.func33, Tryd.ntmps33
  go_upto_region 1 with fail
  rw [← hw1]
  clear hw1
  go_upto_region 5 with fail
  go_wp2
  rw [← hw2]
  clear hw2
  have hz1 := HZ.out
  have hR4 := HR.out.set4 (.int .i64 2) (.string ⟨#[]⟩) (.slice none 0 0) (.slice (some ⟨w1.heap.size, 0, none⟩) 1 1)
  have hF4 := Frm.set4 (X := fun k => k = w.heap.size + 1) (b := w.heap.size + 1) (Frm.refl _ w2) (Or.inl rfl) (.int .i64 2) (.string ⟨#[]⟩) (.slice none 0 0) (.slice (some ⟨w1.heap.size, 0, none⟩) 1 1)
  have hN4 := HN.out.frm hF4 (fun e => by omega)
  have hbw := HB.out.size
  have hb2s := HB2.out.size
  have hB4 := (HB1.out.trans (HB2.out.mono (by omega))).trans (hF4.below (B := w.heap.size) (by omega) (fun k hk e => by omega))
  refine bodyPost_ret (path_ret (s := 4) rfl hR4 Tryd.results33) rfl ⟨⟨.slice none 0 0, .slice (some ⟨w1.heap.size, 0, none⟩) 1 1, rfl, fun W hW => ?_⟩, hB4⟩
  have hPW := HP.out.asd (HB.out.trans (hB4.mono hbw)) (X := fun k => W0.heap.size ≤ k ∧ k < w.heap.size) (fun k hk => hk.1) W hW
  have hNW : Blk W w1.heap.size [.int .i64 8, .string ⟨#[]⟩, .slice a n c, .slice a' n' c'] 25 := by
    have hlt := hN4.lt
    unfold Blk at hN4 ⊢
    rw [hW _ hlt (fun e => by omega)]; exact hN4
  refine .mk 2 [] [] [.mk 8 [] L []] _ _ 1 w1.heap.size 0 (fun _ => .slice a n c) (fun _ => .slice a' n' c') (by omega) (by simp) (SlAt.nil _) (fun i => by simp) (Nat.le_refl _) (by unfold maxLen; omega) (fun h => by cases h) (fun _ => rfl) (fun i hi => ?_) (fun i hi => ?_)
  · obtain rfl : i = 0 := by simp at hi; omega
    exact ⟨hNW.cell rfl, hNW.cell rfl, hNW.cell rfl, hNW.cell rfl⟩
  · obtain rfl : i = 0 := by simp at hi; omega
    exact hPW
set_option maxHeartbeats 2000000 in
theorem laid_back (x : Pt) (b : Bool) (IH : LaidOk x (!b)) : LaidOk (.mk 2 [] [] [x]) b := by
  intro W0 w v u hP hB
  have hrx : ((Pt.mk 2 [] [] [x]).rx b) = x.rx (!b) := by rw [Pt.rx]; rfl
  rw [hrx]
  obtain ⟨_, _, hLt, hLl, ak, capk, bb, off, f, g, hgi, q1, q2, q3, q4, hrow, hkid⟩ := hP.open
  obtain ⟨a, c, hfi, _⟩ := hLt.open
  subst hfi
  rw [hgi]
  unfold pv
  simp only [Pt.kind, Pt.text, Pt.kids, Pt.texts, List.length_nil, List.length_cons, Nat.zero_add] at q1 q3 q4 hrow hkid hgi ⊢
  obtain rfl := q4 (by omega)
  obtain ⟨w1, hw1⟩ : ∃ w1, w1 = (w.alloc (.cells #[.int .i64 2, .string ⟨#[]⟩, .slice a 0 c, .slice (some ⟨bb, off, none⟩) 1 capk] 25)).alloc (.cells #[.int .i64 0, .string ⟨#[]⟩, .slice none 0 0, .slice none 0 0] 25) := ⟨_, rfl⟩
  have hz1 : w1.heap.size = w.heap.size + 2 := by rw [hw1]; simp
  have hb1 : Below w.heap.size w w1 := by rw [hw1]; exact ((Below.refl _ _).alloc (Nat.le_refl _) _).alloc (by simp) _
  have hX : Blk w1 w.heap.size [.int .i64 2, .string ⟨#[]⟩, .slice a 0 c, .slice (some ⟨bb, off, none⟩) 1 capk] 25 := by rw [hw1]; exact (Blk.new w _ _).alloc _
  have hR : Blk w1 (w.heap.size + 1) [.int .i64 0, .string ⟨#[]⟩, .slice none 0 0, .slice none 0 0] 25 := by rw [hw1]; exact Blk.new' (by simp) rfl
  have hB1 : Below W0.heap.size W0 w1 := hB.trans (hb1.mono hB.size)
  obtain ⟨c0, c1, c2, c3⟩ := blk4 hX
  obtain ⟨f0, f1, f2, f3⟩ := blk4f hR
  obtain ⟨r0, r1, r2, r3⟩ := blk4 hR
  have hr := (hrow 0 (by simp)).keep hB1
  have hk := hkid 0 (by simp)
  simp only [List.getElem_cons_zero, Nat.zero_mul, Nat.add_zero] at hr hk
  obtain ⟨a1, n1, e1, a2, n2, e2, hv1, hu1⟩ := pv_open hk
  rw [hv1, hu1] at hr hk
  obtain ⟨z0, z1, z2, z3⟩ := hr
  have C := IH W0 w1 _ _ hk hB1
  unfold LaidPost pv at C
  have C := hid C
  have HB1 := hid hb1
  have HZ := hid hz1
  have HR := hid hR
  have HB := hid hB
  clear hb1 hX hR hP hB hB1 hz1 hk hrow hkid hgi hLl hLt hrx q1 q3 hv1 hu1 IH
  go_enter Tryd.func33, Tryd.ntmps33
  go_upto_region 1 with fail
  rw [← hw1]
  clear hw1
  go_wp2_with fail
  refine C.out.mono ?_
  rintro e w2 ⟨⟨v', u', rfl, hA⟩, hb2⟩
  have HA := hid hA
  have HB2 := hid hb2
  have hR2 := HR.out.keep hb2
  obtain ⟨g0, g1, g2, g3⟩ := blk4f hR2
  obtain ⟨s0, s1, s2, s3⟩ := blk4 hR2
  have HR2 := hid hR2
  have hv' : ∃ a n c a' n' c', v' = .slice a n c ∧ u' = .slice a' n' c' := pv_open (hA w2 (fun _ _ _ => rfl))
  obtain ⟨a3, n3, e3, a4, n4, e4, rfl, rfl⟩ := hv'
  clear hA hb2 hR2
  go_wp2
  have hz1 := HZ.out
  have hR4 := HR2.out.set4 (.int .i64 (x.rx (!b)).toPt.kind) (str (x.rx (!b)).toPt.text) (.slice a3 n3 e3) (.slice a4 n4 e4)
  have hF4 := Frm.set4 (X := fun k => k = w.heap.size + 1) (b := w.heap.size + 1) (Frm.refl _ w2) (Or.inl rfl) (.int .i64 (x.rx (!b)).toPt.kind) (str (x.rx (!b)).toPt.text) (.slice a3 n3 e3) (.slice a4 n4 e4)
  have hbw := HB.out.size
  have hb2s := HB2.out.size
  have hB4 := (HB1.out.trans (HB2.out.mono (by omega))).trans (hF4.below (B := w.heap.size) (by omega) (fun k hk e => by omega))
  refine bodyPost_ret (path_ret (s := 4) rfl hR4 Tryd.results33) rfl ⟨⟨_, _, rfl, ?_⟩, hB4⟩
  exact HA.out.frm hF4 (fun k _ e => by subst e; exact ⟨by omega, by omega⟩) (fun k _ e => ⟨e.1, by omega⟩)
theorem PkAt.swap {B : Nat} {X : Nat → Prop} {w : World} {g gc : Nat} {xs : List Value} {x y : Pt} {a1 u1 a2 u2 : Value} (h : PkAt B X w (.slice (some ⟨g, 0, none⟩) 2 gc) xs [x, y])
    (hA1 : Asd (fun k => (Value.slice (some ⟨g, 0, none⟩) 2 gc).ownBlock = some k ∨ X k) w (fun W => PtAt W a1 u1 x)) (hA2 : Asd (fun k => (Value.slice (some ⟨g, 0, none⟩) 2 gc).ownBlock = some k ∨ X k) w (fun W => PtAt W a2 u2 y)) :
    PkAt B X ((((((((w.setCell ⟨g, 0, none⟩ (.int .i64 y.kind)).setCell ⟨g, 1, none⟩ (str y.text)).setCell ⟨g, 2, none⟩ a2).setCell ⟨g, 3, none⟩ u2).setCell ⟨g, 4, none⟩ (.int .i64 x.kind)).setCell ⟨g, 5, none⟩ (str x.text)).setCell ⟨g, 6, none⟩ a1).setCell ⟨g, 7, none⟩ u1).drew
      (.slice (some ⟨g, 0, none⟩) 2 gc) [.int .i64 y.kind, str y.text, a2, u2, .int .i64 x.kind, str x.text, a1, u1] [y, x] ∧
    Frm (fun k => k = g) w ((((((((w.setCell ⟨g, 0, none⟩ (.int .i64 y.kind)).setCell ⟨g, 1, none⟩ (str y.text)).setCell ⟨g, 2, none⟩ a2).setCell ⟨g, 3, none⟩ u2).setCell ⟨g, 4, none⟩ (.int .i64 x.kind)).setCell ⟨g, 5, none⟩ (str x.text)).setCell ⟨g, 6, none⟩ a1).setCell ⟨g, 7, none⟩ u1).drew := by
  have hl : xs.length = 8 := h.own.1
  obtain ⟨c0, c1, c2, c3, c4, c5, c6, c7, rfl⟩ : ∃ c0 c1 c2 c3 c4 c5 c6 c7, xs = [c0, c1, c2, c3, c4, c5, c6, c7] := by
    match xs, hl with
    | [c0, c1, c2, c3, c4, c5, c6, c7], _ => exact ⟨_, _, _, _, _, _, _, _, rfl⟩
  have hF := (((((((((Frm.refl (fun k => k = g) w).set (Or.inl rfl) 0 (.int .i64 y.kind)).set (Or.inl rfl) 1 (str y.text)).set (Or.inl rfl) 2 a2).set (Or.inl rfl) 3 u2).set (Or.inl rfl) 4 (.int .i64 x.kind)).set (Or.inl rfl) 5 (str x.text)).set (Or.inl rfl) 6 a1).set (Or.inl rfl) 7 u1).drewN 1
  refine ⟨⟨?_, fun j hj => ?_⟩, hF⟩
  · have hn : ([x, y] : List Pt).length = 2 := rfl
    have e := own_set (own_set (own_set (own_set (own_set (own_set (own_set (own_set h.own 0 (.int .i64 y.kind) (by simp)) 1 (str y.text) (by simp)) 2 a2 (by simp)) 3 u2 (by simp)) 4 (.int .i64 x.kind) (by simp)) 5 (str x.text) (by simp)) 6 a1 (by simp)) 7 u1 (by simp)
    exact own_frm (X := fun _ => False) e (Frm.of_below (below_drawn (Below.refl _ _) 1)) id
  · have hj2 : j = 0 ∨ j = 1 := by simp at hj; omega
    rcases hj2 with rfl | rfl
    · exact ⟨a2, u2, rfl, rfl, rfl, rfl, hA2.frm hF (fun k _ e => Or.inl (by rw [e]; rfl)) (fun _ _ h => h)⟩
    · exact ⟨a1, u1, rfl, rfl, rfl, rfl, hA1.frm hF (fun k _ e => Or.inl (by rw [e]; rfl)) (fun _ _ h => h)⟩
set_option maxHeartbeats 4000000 in
theorem laid_kids (k : Int) (K : List Pt) (b : Bool) (hk1 : k ≠ 1) (hk8 : k ≠ 8) (hk2 : k ≠ 2) (hsw : k = 3 → b = false) (hK2 : K.length ≤ 2) (hK0 : 0 < K.length) (IH : ∀ y ∈ K, LaidOk y b) : ∀ (W0 w : World) (v u : Value), PtAt W0 v u (.mk k [] [] K) → Below W0.heap.size W0 w → Calls Tryd.prog 33 #[pv (.mk k [] [] K) v u, .bool b] w (LaidPost W0 w (.mk k [] [] (K.map fun y => (y.rx b).toPt))) := by
  intro W0 w v u hP hB
  have hkb := hP.open.1
  simp only [Pt.kind] at hkb
  obtain ⟨_, _, hLt, hLl, ak, capk, bb, off, f, g, hgi, q1, q2, q3, q4, hrow, hkid⟩ := hP.open
  obtain ⟨a, c, hfi, _⟩ := hLt.open
  subst hfi
  rw [hgi]
  unfold pv
  simp only [Pt.kind, Pt.text, Pt.kids, Pt.texts, List.length_nil] at q1 q3 q4 hrow hkid hgi ⊢
  obtain rfl := q4 hK0
  obtain ⟨n, hn⟩ : ∃ n, n = K.length := ⟨_, rfl⟩
  have HN := hid hn
  rw [← hn] at q1 hgi hK2 hK0 ⊢
  clear hn
  obtain ⟨w1, hw1⟩ : ∃ w1, w1 = (w.alloc (.cells #[.int .i64 k, .string ⟨#[]⟩, .slice a 0 c, .slice (some ⟨bb, off, none⟩) n capk] 25)).alloc (.cells #[.int .i64 0, .string ⟨#[]⟩, .slice none 0 0, .slice none 0 0] 25) := ⟨_, rfl⟩
  have hz1 : w1.heap.size = w.heap.size + 2 := by rw [hw1]; simp
  have hb1 : Below w.heap.size w w1 := by rw [hw1]; exact ((Below.refl _ _).alloc (Nat.le_refl _) _).alloc (by simp) _
  have hX : Blk w1 w.heap.size [.int .i64 k, .string ⟨#[]⟩, .slice a 0 c, .slice (some ⟨bb, off, none⟩) n capk] 25 := by rw [hw1]; exact (Blk.new w _ _).alloc _
  have hR : Blk w1 (w.heap.size + 1) [.int .i64 0, .string ⟨#[]⟩, .slice none 0 0, .slice none 0 0] 25 := by rw [hw1]; exact Blk.new' (by simp) rfl
  have hB1 : Below W0.heap.size W0 w1 := hB.trans (hb1.mono hB.size)
  obtain ⟨c0, c1, c2, c3⟩ := blk4 hX
  have HROW := hid hrow
  have HKID := hid hkid
  have HIH := hid IH
  have e1 : (k == 1) = false := beq_eq_false_iff_ne.2 hk1
  have e8 : (k == 8) = false := beq_eq_false_iff_ne.2 hk8
  have e2 : (k == 2) = false := beq_eq_false_iff_ne.2 hk2
  have HB1 := hid hb1
  have HBW := hid hB1
  have HZ := hid hz1
  have HR := hid hR
  have HX := hid hX
  have HB := hid hB
  obtain ⟨LK, hLK⟩ : ∃ LK, LK = K.map fun y => (y.rx b).toPt := ⟨_, rfl⟩
  have HLK := hid hLK
  have HTK := hid fun i (hi : i < n) => (show LK.take (i + 1) = LK.take i ++ [((K.getD i default).rx b).toPt] from by
    have hiK : i < K.length := by rw [← HN.out]; exact hi
    rw [List.take_add_one, hLK, List.getElem?_eq_getElem (by simpa using hiK)]
    simp [List.getD, hiK])
  have HLL := hid (show LK.length = n by rw [hLK, List.length_map]; exact HN.out.symm)
  obtain ⟨iP, hiP, hzP, hsP, hbP⟩ := info_two Tryd.infoPath4
  clear hb1 hX hR hP hB hB1 hz1 hkid hrow hgi hLl hLt IH hk1 hk8 hk2
  rw [← hLK]
  clear hLK
  go_enter Tryd.func33, Tryd.ntmps33
  go_upto_region 1 with fail
  rw [← hw1]
  clear hw1
  go_wp2
  go_loopw [5, 6] (fun s5 s6 wr => ∃ (i : Nat) (kv : Value) (xs : List Value), i ≤ n ∧ s5 = kv ∧ s6 = .int .i64 i ∧ Hid (Below w1.heap.size w1 wr) ∧ Hid (PkAt w1.heap.size (fun k => W0.heap.size ≤ k ∧ k < w1.heap.size) wr kv xs (LK.take i))) (fun _ s6 _ => n - (intOf s6).toNat)
  case atStart => exact ⟨0, _, [], by omega, rfl, rfl, Below.refl _ _, PkAt.nil _ _ _⟩
  case round =>
    obtain ⟨i, kv, xs, hi, hkv, rfl, HBr, HV⟩ := hrel
    have hkv := hkv.symm
    subst hkv
    have c0 := below_keep HBr.out c0
    have c3 := below_keep HBr.out c3
    by_cases hlt : i < n
    case pos =>
      have hiK : i < K.length := by rw [← HN.out]; exact hlt
      have hr := (HROW.out i hiK).keep (HBW.out.trans (HBr.out.mono HBW.out.size))
      have hk := HKID.out i hiK
      have htk := HTK.out i hlt
      have C := HIH.out K[i] (List.getElem_mem _) W0 wr _ _ hk (HBW.out.trans (HBr.out.mono HBW.out.size))
      rw [show K.getD i default = K[i] by simp [List.getD, hiK]] at htk
      obtain ⟨y, hy⟩ : ∃ y, y = K[i] := ⟨_, rfl⟩
      rw [← hy] at hr hk htk C
      obtain ⟨a1, n1, f1, a2, n2, f2, hv1, hu1⟩ := pv_open hk
      rw [hv1, hu1] at hr C
      obtain ⟨z0, z1, z2, z3⟩ := hr
      unfold LaidPost pv at C
      have C := hid C
      have HTKi := hid htk
      have HLEN := hid (show (LK.take i).length ≤ 2 by rw [List.length_take, HLL.out]; omega)
      clear hk hy hv1 hu1 htk hiK
      go_wp2_with fail
      refine C.out.mono ?_
      rintro e w3 ⟨⟨v', u', rfl, hA⟩, hb3⟩
      obtain ⟨a3, n3, f3, a4, n4, f4, rfl, rfl⟩ := pv_open (hA w3 (fun _ _ _ => rfl))
      obtain ⟨y', hy'⟩ : ∃ y', y' = (y.rx b).toPt := ⟨_, rfl⟩
      rw [← hy'] at hA ⊢
      have HY' := hid hy'
      have HV3 := hid (HV.out.keep hb3)
      have HOL := hid fun k (e : kv.ownBlock = some k) => (HV.out.own.lt k e).2
      have HA3 := hid (show Asd (fun k => kv.ownBlock = some k ∨ (W0.heap.size ≤ k ∧ k < w1.heap.size)) w3 (fun W => PtAt W (.slice a3 n3 f3) (.slice a4 n4 f4) y') from hA.frm (Frm.refl (fun _ => False) w3) (fun _ _ h => h.elim) (fun k _ e => by
        have hbs := HBr.out.size
        have hbw := HBW.out.size
        rcases e with e | e
        · have h1 := HOL.out k e
          have h2 := (HV.out.own.lt k e).1
          exact ⟨by omega, h1⟩
        · exact ⟨e.1, by omega⟩))
      have HB3 := hid (below_then HBr.out hb3)
      clear hA hb3 hy'
      go_wp2_with (at_builtin; refine wpList_append_w (by rfl) (.tmp 33) (.tmp 41) 23 (by rfl) w1.heap.size 25 iP _ 4 72 Tryd.underlying23 hiP hzP hsP hbP rfl (by decide) kv _ xs (by rfl) (HV3.out.own.alloc _) ⟨w3.heap.size, 0, none⟩ 1 1 [.int .i64 y'.kind, str y'.text, .slice a3 n3 f3, .slice a4 n4 f4] (by rfl) (by rfl) (World.news_of_block (cs := #[.int .i64 y'.kind, str y'.text, .slice a3 n3 f3, .slice a4 n4 f4]) (t := 25) (fr := (0, 0)) (heap_alloc_new w3 _)) (by simp [Value.oneCell']) (by have := HLEN.out; unfold maxLen; omega) (by have := HLEN.out; omega) (by have := HB3.out.size; simp; omega) ?_; intro v5 w5 hown hgr hmv; have HN5 := hid (PkAt.snoc (HV3.out.keep ((Below.refl _ _).alloc (Nat.le_refl _) (.cells #[.int .i64 y'.kind, str y'.text, .slice a3 n3 f3, .slice a4 n4 f4] 25))) hown hgr hmv (HA3.out.frm (Y := fun _ => False) (Frm.of_below ((Below.refl _ _).alloc (Nat.le_refl _) _)) (fun _ _ h => h.elim) (fun _ _ h => h))); have HB5 := hid ((HB3.out.alloc HB3.out.size (.cells #[.int .i64 y'.kind, str y'.text, .slice a3 n3 f3, .slice a4 n4 f4] 25)).grown hgr (by have := HB3.out.size; simp; omega) (fun q hq => (HV3.out.own.lt q hq).1)); clear hown hgr hmv)
      go_roundw
      case rel => exact ⟨i + 1, _, _, by omega, rfl, by go_num, HB5.out, hid (by rw [HTKi.out, ← HY'.out]; exact HN5.out)⟩
      case measure => simp [intOf]; omega
    obtain rfl : i = n := by omega
    have HV1 := hid (show PkAt w1.heap.size (fun k => W0.heap.size ≤ k ∧ k < w1.heap.size) wr kv xs LK from by have h := HV.out; rwa [List.take_of_length_le (by rw [HLL.out]; exact Nat.le_refl _)] at h)
    have hRr := HR.out.keep HBr.out
    obtain ⟨f0, f1, f2, f3⟩ := blk4f hRr
    obtain ⟨r0, r1, r2, r3⟩ := blk4 hRr
    have HRr := hid hRr
    obtain ⟨gk, gc, rfl, _, _⟩ := World.ownsRow.form HV1.out.own (by rw [HLL.out]; exact hK0)
    rw [HLL.out] at HV1 HV ⊢
    clear hRr HV
    by_cases hk3 : k = 3
    · obtain rfl := hsw hk3
      have e3 : (k == 3) = true := by rw [hk3]; rfl
      clear hk3
      go_wp2
      have hz1 := HZ.out
      have hR4 := HRr.out.set4 (.int .i64 k) (.string ⟨#[]⟩) (.slice none 0 0) (.slice (some ⟨gk, 0, none⟩) i gc)
      have hF4 := Frm.set4 (X := fun k => k = w.heap.size + 1) (b := w.heap.size + 1) (Frm.refl _ wr) (Or.inl rfl) (.int .i64 k) (.string ⟨#[]⟩) (.slice none 0 0) (.slice (some ⟨gk, 0, none⟩) i gc)
      have hbw := HB.out.size
      have hbr := HBr.out.size
      have hB4 := (HB1.out.trans (HBr.out.mono (by omega))).trans (hF4.below (B := w.heap.size) (by omega) (fun k hk e => by omega))
      refine bodyPost_ret (path_ret (s := 4) rfl hR4 Tryd.results33) rfl ⟨⟨_, _, rfl, ?_⟩, hB4⟩
      exact (HV1.out.path (fun k hk => hk.2) k hkb).frm hF4 (fun k _ e => by subst e; exact ⟨by omega, by omega⟩) (fun k _ e => ⟨e.1, by omega⟩)
    · have e3 : (k == 3) = false := beq_eq_false_iff_ne.2 hk3
      go_wp2
      have hz1 := HZ.out
      have hR4 := HRr.out.set4 (.int .i64 k) (.string ⟨#[]⟩) (.slice none 0 0) (.slice (some ⟨gk, 0, none⟩) i gc)
      have hF4 := Frm.set4 (X := fun k => k = w.heap.size + 1) (b := w.heap.size + 1) (Frm.refl _ wr) (Or.inl rfl) (.int .i64 k) (.string ⟨#[]⟩) (.slice none 0 0) (.slice (some ⟨gk, 0, none⟩) i gc)
      have hbw := HB.out.size
      have hbr := HBr.out.size
      have hB4 := (HB1.out.trans (HBr.out.mono (by omega))).trans (hF4.below (B := w.heap.size) (by omega) (fun k hk e => by omega))
      refine bodyPost_ret (path_ret (s := 4) rfl hR4 Tryd.results33) rfl ⟨⟨_, _, rfl, ?_⟩, hB4⟩
      exact (HV1.out.path (fun k hk => hk.2) k hkb).frm hF4 (fun k _ e => by subst e; exact ⟨by omega, by omega⟩) (fun k _ e => ⟨e.1, by omega⟩)
set_option maxHeartbeats 4000000 in
theorem laid_swap (x y : Pt) (IHx : LaidOk x true) (IHy : LaidOk y true) : ∀ (W0 w : World) (v u : Value), PtAt W0 v u (.mk 3 [] [] [x, y]) → Below W0.heap.size W0 w → Calls Tryd.prog 33 #[pv (.mk 3 [] [] [x, y]) v u, .bool true] w (LaidPost W0 w (.mk 3 [] [] [(y.rx true).toPt, (x.rx true).toPt])) := by
  intro W0 w v u hP hB
  obtain ⟨k, hk3⟩ : ∃ k : Int, k = 3 := ⟨_, rfl⟩
  obtain ⟨b, hbt⟩ : ∃ b, b = true := ⟨_, rfl⟩
  obtain ⟨K, hK⟩ : ∃ K, K = [x, y] := ⟨_, rfl⟩
  have hk1 : k ≠ 1 := by omega
  have hk8 : k ≠ 8 := by omega
  have hk2 : k ≠ 2 := by omega
  have hkb : -9223372036854775808 ≤ k ∧ k ≤ 9223372036854775807 := by omega
  have hK2 : K.length ≤ 2 := by rw [hK]; simp
  have hK0 : 0 < K.length := by rw [hK]; simp
  have IH : ∀ y ∈ K, LaidOk y b := by
    rw [hK, hbt]
    intro z hz
    simp only [List.mem_cons, List.not_mem_nil, or_false] at hz
    rcases hz with rfl | rfl
    · exact IHx
    · exact IHy
  rw [← hK, ← hk3] at hP
  rw [show (Pt.mk 3 [] [] [x, y]) = .mk k [] [] K by rw [hK, hk3], show true = b from hbt.symm]
  obtain ⟨_, _, hLt, hLl, ak, capk, bb, off, f, g, hgi, q1, q2, q3, q4, hrow, hkid⟩ := hP.open
  obtain ⟨a, c, hfi, _⟩ := hLt.open
  subst hfi
  rw [hgi]
  unfold pv
  simp only [Pt.kind, Pt.text, Pt.kids, Pt.texts, List.length_nil] at q1 q3 q4 hrow hkid hgi ⊢
  obtain rfl := q4 hK0
  obtain ⟨n, hn⟩ : ∃ n, n = K.length := ⟨_, rfl⟩
  have HN := hid hn
  rw [← hn] at q1 hgi hK2 hK0 ⊢
  clear hn
  obtain ⟨w1, hw1⟩ : ∃ w1, w1 = (w.alloc (.cells #[.int .i64 k, .string ⟨#[]⟩, .slice a 0 c, .slice (some ⟨bb, off, none⟩) n capk] 25)).alloc (.cells #[.int .i64 0, .string ⟨#[]⟩, .slice none 0 0, .slice none 0 0] 25) := ⟨_, rfl⟩
  have hz1 : w1.heap.size = w.heap.size + 2 := by rw [hw1]; simp
  have hb1 : Below w.heap.size w w1 := by rw [hw1]; exact ((Below.refl _ _).alloc (Nat.le_refl _) _).alloc (by simp) _
  have hX : Blk w1 w.heap.size [.int .i64 k, .string ⟨#[]⟩, .slice a 0 c, .slice (some ⟨bb, off, none⟩) n capk] 25 := by rw [hw1]; exact (Blk.new w _ _).alloc _
  have hR : Blk w1 (w.heap.size + 1) [.int .i64 0, .string ⟨#[]⟩, .slice none 0 0, .slice none 0 0] 25 := by rw [hw1]; exact Blk.new' (by simp) rfl
  have hB1 : Below W0.heap.size W0 w1 := hB.trans (hb1.mono hB.size)
  obtain ⟨c0, c1, c2, c3⟩ := blk4 hX
  have HROW := hid hrow
  have HKID := hid hkid
  have HIH := hid IH
  have e1 : (k == 1) = false := beq_eq_false_iff_ne.2 hk1
  have e8 : (k == 8) = false := beq_eq_false_iff_ne.2 hk8
  have e2 : (k == 2) = false := beq_eq_false_iff_ne.2 hk2
  have HB1 := hid hb1
  have HBW := hid hB1
  have HZ := hid hz1
  have HR := hid hR
  have HX := hid hX
  have HB := hid hB
  obtain ⟨LK, hLK⟩ : ∃ LK, LK = K.map fun y => (y.rx b).toPt := ⟨_, rfl⟩
  have HLK := hid hLK
  have HTK := hid fun i (hi : i < n) => (show LK.take (i + 1) = LK.take i ++ [((K.getD i default).rx b).toPt] from by
    have hiK : i < K.length := by rw [← HN.out]; exact hi
    rw [List.take_add_one, hLK, List.getElem?_eq_getElem (by simpa using hiK)]
    simp [List.getD, hiK])
  have HLL := hid (show LK.length = n by rw [hLK, List.length_map]; exact HN.out.symm)
  obtain ⟨iP, hiP, hzP, hsP, hbP⟩ := info_two Tryd.infoPath4
  clear hb1 hX hR hP hB hB1 hz1 hkid hrow hgi hLl hLt IH hk1 hk8 hk2
  have HK3 := hid hk3
  have HK := hid hK
  have HBT := hid hbt
  clear hk3 hK hbt
  clear hLK
  go_enter Tryd.func33, Tryd.ntmps33
  go_upto_region 1 with fail
  rw [← hw1]
  clear hw1
  go_wp2
  go_loopw [5, 6] (fun s5 s6 wr => ∃ (i : Nat) (kv : Value) (xs : List Value), i ≤ n ∧ s5 = kv ∧ s6 = .int .i64 i ∧ Hid (Below w1.heap.size w1 wr) ∧ Hid (PkAt w1.heap.size (fun k => W0.heap.size ≤ k ∧ k < w1.heap.size) wr kv xs (LK.take i))) (fun _ s6 _ => n - (intOf s6).toNat)
  case atStart => exact ⟨0, _, [], by omega, rfl, rfl, Below.refl _ _, PkAt.nil _ _ _⟩
  case round =>
    obtain ⟨i, kv, xs, hi, hkv, rfl, HBr, HV⟩ := hrel
    have hkv := hkv.symm
    subst hkv
    have c0 := below_keep HBr.out c0
    have c3 := below_keep HBr.out c3
    by_cases hlt : i < n
    case pos =>
      have hiK : i < K.length := by rw [← HN.out]; exact hlt
      have hr := (HROW.out i hiK).keep (HBW.out.trans (HBr.out.mono HBW.out.size))
      have hk := HKID.out i hiK
      have htk := HTK.out i hlt
      have C := HIH.out K[i] (List.getElem_mem _) W0 wr _ _ hk (HBW.out.trans (HBr.out.mono HBW.out.size))
      rw [show K.getD i default = K[i] by simp [List.getD, hiK]] at htk
      obtain ⟨y, hy⟩ : ∃ y, y = K[i] := ⟨_, rfl⟩
      rw [← hy] at hr hk htk C
      obtain ⟨a1, n1, f1, a2, n2, f2, hv1, hu1⟩ := pv_open hk
      rw [hv1, hu1] at hr C
      obtain ⟨z0, z1, z2, z3⟩ := hr
      unfold LaidPost pv at C
      have C := hid C
      have HTKi := hid htk
      have HLEN := hid (show (LK.take i).length ≤ 2 by rw [List.length_take, HLL.out]; omega)
      clear hk hy hv1 hu1 htk hiK
      go_wp2_with fail
      refine C.out.mono ?_
      rintro e w3 ⟨⟨v', u', rfl, hA⟩, hb3⟩
      obtain ⟨a3, n3, f3, a4, n4, f4, rfl, rfl⟩ := pv_open (hA w3 (fun _ _ _ => rfl))
      obtain ⟨y', hy'⟩ : ∃ y', y' = (y.rx b).toPt := ⟨_, rfl⟩
      rw [← hy'] at hA ⊢
      have HY' := hid hy'
      have HV3 := hid (HV.out.keep hb3)
      have HOL := hid fun k (e : kv.ownBlock = some k) => (HV.out.own.lt k e).2
      have HA3 := hid (show Asd (fun k => kv.ownBlock = some k ∨ (W0.heap.size ≤ k ∧ k < w1.heap.size)) w3 (fun W => PtAt W (.slice a3 n3 f3) (.slice a4 n4 f4) y') from hA.frm (Frm.refl (fun _ => False) w3) (fun _ _ h => h.elim) (fun k _ e => by
        have hbs := HBr.out.size
        have hbw := HBW.out.size
        rcases e with e | e
        · have h1 := HOL.out k e
          have h2 := (HV.out.own.lt k e).1
          exact ⟨by omega, h1⟩
        · exact ⟨e.1, by omega⟩))
      have HB3 := hid (below_then HBr.out hb3)
      clear hA hb3 hy'
      go_wp2_with (at_builtin; refine wpList_append_w (by rfl) (.tmp 33) (.tmp 41) 23 (by rfl) w1.heap.size 25 iP _ 4 72 Tryd.underlying23 hiP hzP hsP hbP rfl (by decide) kv _ xs (by rfl) (HV3.out.own.alloc _) ⟨w3.heap.size, 0, none⟩ 1 1 [.int .i64 y'.kind, str y'.text, .slice a3 n3 f3, .slice a4 n4 f4] (by rfl) (by rfl) (World.news_of_block (cs := #[.int .i64 y'.kind, str y'.text, .slice a3 n3 f3, .slice a4 n4 f4]) (t := 25) (fr := (0, 0)) (heap_alloc_new w3 _)) (by simp [Value.oneCell']) (by have := HLEN.out; unfold maxLen; omega) (by have := HLEN.out; omega) (by have := HB3.out.size; simp; omega) ?_; intro v5 w5 hown hgr hmv; have HN5 := hid (PkAt.snoc (HV3.out.keep ((Below.refl _ _).alloc (Nat.le_refl _) (.cells #[.int .i64 y'.kind, str y'.text, .slice a3 n3 f3, .slice a4 n4 f4] 25))) hown hgr hmv (HA3.out.frm (Y := fun _ => False) (Frm.of_below ((Below.refl _ _).alloc (Nat.le_refl _) _)) (fun _ _ h => h.elim) (fun _ _ h => h))); have HB5 := hid ((HB3.out.alloc HB3.out.size (.cells #[.int .i64 y'.kind, str y'.text, .slice a3 n3 f3, .slice a4 n4 f4] 25)).grown hgr (by have := HB3.out.size; simp; omega) (fun q hq => (HV3.out.own.lt q hq).1)); clear hown hgr hmv)
      go_roundw
      case rel => exact ⟨i + 1, _, _, by omega, rfl, by go_num, HB5.out, hid (by rw [HTKi.out, ← HY'.out]; exact HN5.out)⟩
      case measure => simp [intOf]; omega
    obtain rfl : i = n := by omega
    have HV1 := hid (show PkAt w1.heap.size (fun k => W0.heap.size ≤ k ∧ k < w1.heap.size) wr kv xs LK from by have h := HV.out; rwa [List.take_of_length_le (by rw [HLL.out]; exact Nat.le_refl _)] at h)
    have hRr := HR.out.keep HBr.out
    obtain ⟨f0, f1, f2, f3⟩ := blk4f hRr
    obtain ⟨r0, r1, r2, r3⟩ := blk4 hRr
    have HRr := hid hRr
    obtain ⟨gk, gc, rfl, _, _⟩ := World.ownsRow.form HV1.out.own (by rw [HLL.out]; exact hK0)
    rw [HLL.out] at HV1 HV ⊢
    clear hRr HV
    have hbt := HBT.out
    have e3 : (k == 3) = true := by rw [HK3.out]; rfl
    subst hbt
    have hL2 : LK = [(x.rx true).toPt, (y.rx true).toPt] := by rw [HLK.out, HK.out]; rfl
    obtain rfl : i = 2 := by rw [HN.out, HK.out]; rfl
    obtain ⟨x', hx'⟩ : ∃ x', x' = (x.rx true).toPt := ⟨_, rfl⟩
    obtain ⟨y', hy'⟩ : ∃ y', y' = (y.rx true).toPt := ⟨_, rfl⟩
    rw [← hx', ← hy'] at hL2
    have HYX := hid (show x' = (x.rx true).toPt ∧ y' = (y.rx true).toPt from ⟨hx', hy'⟩)
    subst hL2
    obtain ⟨a1, u1, m1, m2, m3, m4, hA1⟩ := HV1.out.cells 0 (by simp)
    obtain ⟨a2, u2, m5, m6, m7, m8, hA2⟩ := HV1.out.cells 1 (by simp)
    simp only [List.getElem_cons_zero, List.getElem_cons_succ, Nat.zero_mul, Nat.one_mul, Nat.zero_add] at m1 m2 m3 m4 m5 m6 m7 m8 hA1 hA2
    obtain ⟨b1, d1, j1, b2, d2, j2, rfl, rfl⟩ := pv_open (hA1 wr (fun _ _ _ => rfl))
    obtain ⟨b3, d3, j3, b4, d4, j4, rfl, rfl⟩ := pv_open (hA2 wr (fun _ _ _ => rfl))
    have o1 := own_cell HV1.out.own m1
    have o2 := own_cell HV1.out.own m2
    have o3 := own_cell HV1.out.own m3
    have o4 := own_cell HV1.out.own m4
    have o5 := own_cell HV1.out.own m5
    have o6 := own_cell HV1.out.own m6
    have o7 := own_cell HV1.out.own m7
    have o8 := own_cell HV1.out.own m8
    obtain ⟨p1, t1⟩ := o1
    obtain ⟨p2, t2⟩ := o2
    obtain ⟨p3, t3⟩ := o3
    obtain ⟨p4, t4⟩ := o4
    obtain ⟨p5, t5⟩ := o5
    obtain ⟨p6, t6⟩ := o6
    obtain ⟨p7, t7⟩ := o7
    obtain ⟨p8, t8⟩ := o8
    have HA1 := hid hA1
    have HA2 := hid hA2
    clear hA1 hA2 hx' hy'
    go_upto_region 15 with fail
    go_region
    obtain ⟨wS, hwS⟩ : ∃ wS, wS = ((((((((wr.setCell ⟨gk, 0, none⟩ (.int .i64 y'.kind)).setCell ⟨gk, 1, none⟩ (str y'.text)).setCell ⟨gk, 2, none⟩ (.slice b3 d3 j3)).setCell ⟨gk, 3, none⟩ (.slice b4 d4 j4)).setCell ⟨gk, 4, none⟩ (.int .i64 x'.kind)).setCell ⟨gk, 5, none⟩ (str x'.text)).setCell ⟨gk, 6, none⟩ (.slice b1 d1 j1)).setCell ⟨gk, 7, none⟩ (.slice b2 d2 j2)).drew := ⟨_, rfl⟩
    rw [← hwS]
    obtain ⟨hPS, hFS⟩ := PkAt.swap HV1.out HA1.out HA2.out
    rw [← hwS] at hPS hFS
    have hgB := (own_blk HV1.out.own).1
    have hRS := (HR.out.keep HBr.out).frm hFS (fun e => by have := HZ.out; omega)
    have hXS := (HX.out.keep HBr.out).frm hFS (fun e => by have := HZ.out; omega)
    have HPS := hid hPS
    have HBS := hid (HBr.out.trans (hFS.below HBr.out.size (fun k hk e => by omega)))
    obtain ⟨f0, f1, f2, f3⟩ := blk4f hRS
    obtain ⟨r0, r1, r2, r3⟩ := blk4 hRS
    have c0 := hXS.cell (i := 0) rfl
    have HRr := hid hRS
    clear hwS hPS hFS hRS hXS hgB p1 p2 p3 p4 p5 p6 p7 p8 t1 t2 t3 t4 t5 t6 t7 t8 m1 m2 m3 m4 m5 m6 m7 m8
    go_wp2
    have hz1 := HZ.out
    have hR4 := HRr.out.set4 (.int .i64 k) (.string ⟨#[]⟩) (.slice none 0 0) (.slice (some ⟨gk, 0, none⟩) 2 gc)
    have hF4 := Frm.set4 (X := fun k => k = w.heap.size + 1) (b := w.heap.size + 1) (Frm.refl _ wS) (Or.inl rfl) (.int .i64 k) (.string ⟨#[]⟩) (.slice none 0 0) (.slice (some ⟨gk, 0, none⟩) 2 gc)
    have hbw := HB.out.size
    have hbr := HBS.out.size
    have hB4 := (HB1.out.trans (HBS.out.mono (by omega))).trans (hF4.below (B := w.heap.size) (by omega) (fun k hk e => by omega))
    rw [← HYX.out.1, ← HYX.out.2]
    refine bodyPost_ret (path_ret (s := 4) rfl hR4 Tryd.results33) rfl ⟨⟨_, _, by rw [HK3.out]; rfl, ?_⟩, hB4⟩
    have := (HPS.out.path (fun k hk => hk.2) 3 (by decide)).frm hF4 (Z := fun k => W0.heap.size ≤ k ∧ k < w.heap.size) (fun k _ e => by subst e; exact ⟨by omega, by omega⟩) (fun k _ e => ⟨e.1, by omega⟩)
    exact this
theorem wf_mk4 {d : Nat} {k : Int} {t : T} {L : List T} {K : List Pt} (h : (Pt.mk k t L K).wf d = true) : (K.length : Int) = Pt.kidsOf k ∧ Pt.txt k t L = true ∧ ∀ x ∈ K, x.wf (d + 1) = true := by
  simp only [Pt.wf, Bool.and_eq_true, decide_eq_true_eq] at h
  exact ⟨h.1.1.2, h.1.2, (Pt.wfs_all _ _).1 h.2⟩
/-- Laid lays each path that may be. -/
theorem laid_any (x : Pt) : ∀ d b, x.wf d = true → LaidOk x b := by
  induction x using Pt.ind with
  | h k t L K ih =>
    intro d b h
    obtain ⟨h1, h2, h3⟩ := wf_mk4 h
    have hN : k ≠ 1 → k ≠ 8 → t = [] ∧ L = [] := fun n1 n8 => by
      simp only [Pt.txt, if_neg n1, if_neg n8, Bool.and_eq_true, List.isEmpty_iff] at h2
      exact h2
    unfold Pt.kidsOf at h1
    by_cases k1 : k = 1
    · subst k1
      rw [if_pos (Or.inl rfl)] at h1
      obtain rfl : K = [] := List.eq_nil_of_length_eq_zero (by omega)
      simp only [Pt.txt, if_pos, Bool.and_eq_true, List.isEmpty_iff] at h2
      obtain rfl := h2.1
      cases b
      · exact laid_iri_false t
      · exact laid_iri_true t
    · by_cases k8 : k = 8
      · subst k8
        rw [if_pos (Or.inr rfl)] at h1
        obtain rfl : K = [] := List.eq_nil_of_length_eq_zero (by omega)
        simp only [Pt.txt, if_neg (show ¬ (8 : Int) = 1 by omega), if_pos, Bool.and_eq_true, List.isEmpty_iff, decide_eq_true_eq] at h2
        obtain rfl := h2.1.1.1
        cases b
        · exact laid_not_false L
        · exact laid_not_true L
      · obtain ⟨rfl, rfl⟩ := hN k1 k8
        rw [if_neg (by omega)] at h1
        by_cases k2 : k = 2
        · subst k2
          rw [if_pos (Or.inl rfl)] at h1
          obtain ⟨x, rfl⟩ := List.length_eq_one_iff.1 (show K.length = 1 by omega)
          exact laid_back x b (ih x (by simp) _ _ (h3 x (by simp)))
        · by_cases k5 : k = 5 ∨ k = 6 ∨ k = 7
          · rw [if_pos (Or.inr k5)] at h1
            obtain ⟨x, rfl⟩ := List.length_eq_one_iff.1 (show K.length = 1 by omega)
            intro W0 w v u hP hB
            have := laid_kids k [x] b k1 k8 k2 (fun e => by omega) (by simp) (by simp) (fun y hy => ih y hy _ _ (h3 y hy)) W0 w v u hP hB
            rw [show ((Pt.mk k [] [] [x]).rx b).toPt = .mk k [] [] ([x].map fun y => (y.rx b).toPt) by rw [Pt.rx, if_neg k2]; rcases k5 with rfl | rfl | rfl <;> rfl]
            exact this
          · rw [if_neg (by omega)] at h1
            by_cases k3 : k = 3 ∨ k = 4
            · rw [if_pos k3] at h1
              obtain ⟨x, y, rfl⟩ : ∃ x y, K = [x, y] := by
                match K, h1 with
                | [a, b], _ => exact ⟨a, b, rfl⟩
                | [], h => simp at h
                | [_], h => simp at h
                | _ :: _ :: _ :: _, h => simp at h; omega
              intro W0 w v u hP hB
              rcases k3 with rfl | rfl
              · cases b
                · have := laid_kids 3 [x, y] false k1 k8 k2 (fun _ => rfl) (by simp) (by simp) (fun z hz => ih z hz _ _ (h3 z hz)) W0 w v u hP hB
                  rw [show ((Pt.mk 3 [] [] [x, y]).rx false).toPt = .mk 3 [] [] ([x, y].map fun y => (y.rx false).toPt) by rw [Pt.rx]; rfl]
                  exact this
                · have := laid_swap x y (ih x (by simp) _ _ (h3 x (by simp))) (ih y (by simp) _ _ (h3 y (by simp))) W0 w v u hP hB
                  rw [show ((Pt.mk 3 [] [] [x, y]).rx true).toPt = .mk 3 [] [] [(y.rx true).toPt, (x.rx true).toPt] by rw [Pt.rx]; rfl]
                  exact this
              · have := laid_kids 4 [x, y] b k1 k8 k2 (fun e => by omega) (by simp) (by simp) (fun z hz => ih z hz _ _ (h3 z hz)) W0 w v u hP hB
                rw [show ((Pt.mk 4 [] [] [x, y]).rx b).toPt = .mk 4 [] [] ([x, y].map fun y => (y.rx b).toPt) by rw [Pt.rx]; rfl]
                exact this
            · rw [if_neg k3] at h1
              omega
end Go.Proofs.YtobcbaeoedpefaaDoor
