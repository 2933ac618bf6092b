/- auto's add: alternatives. -/
import Derived.Test.YtobcbaeoedpefaaDoorAuAdd3
import Derived.Deep.RegionHeld3
namespace Go.Proofs.YtobcbaeoedpefaaDoor
set_option linter.unusedVariables false
set_option linter.unusedSimpArgs false
set_option maxRecDepth 100000
open Go.ChangeShapes Go.WideShapes Go.ChangeAt Go.RowKit
open Au
def OwnK (Z : Nat → Prop) (own : List (Nat × List Value)) (k : Nat) : Prop := Z k ∨ ∃ o ∈ own, k = o.1
abbrev zz3 : List Value := [.int .u32 0, .int .u32 0, .bool false]
/-- Within the region: what has been laid out so far; the blocks of its own. -/
structure AltJ (W0 w1 : World) (Z : Nat → Prop) (bX bR : Nat) (xb : List Value) (own : List (Nat × List Value)) (p lb nb : Nat) (ls : List Lb) (nx : List Nat) (last : Nat) (W : World) : Prop where
  post : AuPost W0.heap.size (OwnK Z own) w1 p lb nb ls nx last W
  low : Below W0.heap.size W0 W
  base : W0.heap.size ≤ w1.heap.size
  zl : ∀ k, Z k → k < w1.heap.size
  zX : Z bX
  zR : Z bR
  bx : Blk W bX xb 25
  br : Blk W bR zz3 63
  big : ∀ o ∈ own, w1.heap.size ≤ o.1
  blk : ∀ o ∈ own, Blk W o.1 o.2 63
section
variable {W0 w1 : World} {Z : Nat → Prop} {bX bR : Nat} {xb : List Value} {own : List (Nat × List Value)} {p lb nb : Nat} {ls : List Lb} {nx : List Nat} {last : Nat} {W : World}
theorem AltJ.lt (h : AltJ W0 w1 Z bX bR xb own p lb nb ls nx last W) : ∀ k, OwnK Z own k → k < W.heap.size := fun k e => by
  rcases e with e | ⟨o, ho, rfl⟩
  · have := h.zl k e; have := h.post.size; omega
  · exact (h.blk o ho).lt
theorem AltJ.drew (h : AltJ W0 w1 Z bX bR xb own p lb nb ls nx last W) : AltJ W0 w1 Z bX bR xb own p lb nb ls nx last W.drew where
  post := by
    obtain ⟨lb', cl', nb', cn', lxs', A, F, g, k⟩ := h.post
    exact ⟨lb', cl', nb', cn', lxs', A.keep (below_drawn (Below.refl _ _) 1), F.drewN 1, g, k⟩
  low := below_drawn h.low 1
  base := h.base
  zl := h.zl
  zX := h.zX
  zR := h.zR
  bx := h.bx
  br := h.br
  big := h.big
  blk := h.blk
theorem AltJ.perm {own' : List (Nat × List Value)} (h : AltJ W0 w1 Z bX bR xb own p lb nb ls nx last W) (hp : ∀ o, o ∈ own' ↔ o ∈ own) : AltJ W0 w1 Z bX bR xb own' p lb nb ls nx last W where
  post := AuPost.from (Below.refl _ _) h.post (fun k e => e.elim Or.inl (fun ⟨o, ho, e⟩ => Or.inr ⟨o, (hp o).1 ho, e⟩))
  low := h.low
  base := h.base
  zl := h.zl
  zX := h.zX
  zR := h.zR
  bx := h.bx
  br := h.br
  big := fun o ho => h.big o ((hp o).1 ho)
  blk := fun o ho => h.blk o ((hp o).1 ho)
theorem AltJ.alloc (h : AltJ W0 w1 Z bX bR xb own p lb nb ls nx last W) : AltJ W0 w1 Z bX bR xb ((W.heap.size, zz3) :: own) p lb nb ls nx last (W.alloc (.cells #[.int .u32 0, .int .u32 0, .bool false] 63)) where
  post := AuPost.from (Below.refl _ _) (AuPost.alloc h.post _) (fun k e => by
    rcases e with e | ⟨o, ho, rfl⟩
    · exact Or.inl (Or.inl e)
    · rcases List.mem_cons.1 ho with rfl | ho
      · exact Or.inr rfl
      · exact Or.inl (Or.inr ⟨o, ho, rfl⟩))
  low := h.low.alloc h.low.size _
  base := h.base
  zl := h.zl
  zX := h.zX
  zR := h.zR
  bx := h.bx.alloc _
  br := h.br.alloc _
  big := fun o ho => by
    rcases List.mem_cons.1 ho with rfl | ho
    · exact h.post.size
    · exact h.big o ho
  blk := fun o ho => by
    rcases List.mem_cons.1 ho with rfl | ho
    · exact Blk.new W _ _
    · exact (h.blk o ho).alloc _
theorem AltJ.ne {o : Nat × List Value} (h : AltJ W0 w1 Z bX bR xb own p lb nb ls nx last W) (ho : o ∈ own) : bX ≠ o.1 ∧ bR ≠ o.1 := by
  have h1 := h.big o ho
  have h2 := h.zl _ h.zX
  have h3 := h.zl _ h.zR
  omega
/-- A part is stored into a block of the region's own. -/
theorem AltJ.store {q : Nat} {x : List Value} (h : AltJ W0 w1 Z bX bR xb ((q, zz3) :: own) p lb nb ls nx last W) (hne : ∀ o ∈ own, o.1 ≠ q) (F L e : Value) :
    AltJ W0 w1 Z bX bR xb ((q, [F, L, e]) :: own) p lb nb ls nx last (((W.setCell ⟨q, 0, none⟩ F).setCell ⟨q, 1, none⟩ L).setCell ⟨q, 2, none⟩ e) where
  post := by
    have hq := h.big (q, zz3) (by simp)
    have hY : OwnK Z ((q, zz3) :: own) q := Or.inr ⟨(q, zz3), by simp, rfl⟩
    refine AuPost.from (Below.refl _ _) (((h.post.set hY hq 0 F).set hY hq 1 L).set hY hq 2 e) (fun k e => ?_)
    rcases e with e | ⟨o, ho, rfl⟩
    · exact Or.inl e
    · rcases List.mem_cons.1 ho with rfl | ho
      · exact hY
      · exact Or.inr ⟨o, List.mem_cons_of_mem _ ho, rfl⟩
  low := by
    have hq := h.big (q, zz3) (by simp)
    have hb := h.base
    exact ((h.low.setCell (p := ⟨q, 0, none⟩) (by show _ ≤ q; omega) F).setCell (p := ⟨q, 1, none⟩) (by show _ ≤ q; omega) L).setCell (p := ⟨q, 2, none⟩) (by show _ ≤ q; omega) e
  base := h.base
  zl := h.zl
  zX := h.zX
  zR := h.zR
  bx := by
    have hn := (h.ne (o := (q, zz3)) (by simp)).1
    exact ((h.bx.other hn 0 F).other hn 1 L).other hn 2 e
  br := by
    have hn := (h.ne (o := (q, zz3)) (by simp)).2
    exact ((h.br.other hn 0 F).other hn 1 L).other hn 2 e
  big := fun o ho => by
    rcases List.mem_cons.1 ho with rfl | ho
    · exact h.big (q, zz3) (by simp)
    · exact h.big o (List.mem_cons_of_mem _ ho)
  blk := fun o ho => by
    rcases List.mem_cons.1 ho with rfl | ho
    · exact (((h.blk (q, zz3) (by simp)).set 0 F).set 1 L).set 2 e
    · have hn := hne o ho
      exact (((h.blk o (List.mem_cons_of_mem _ ho)).other hn 0 F).other hn 1 L).other hn 2 e
theorem AltJ.call {x : Pt} {vx ux : Value} {bk : Bool} (IH : AddOk x) (hk : PtAt W0 vx ux x) (hn : nx.length = ls.length) (h32 : ls.length + (x.rx bk).n ≤ 32) (hx : ∀ j, nx.getD j 0 < 2 ^ 32) (h : AltJ W0 w1 Z bX bR xb own p lb nb ls nx last W) :
    Calls Tryd.prog 29 #[.pointer (some ⟨p, 0, none⟩), pv x vx ux, .bool bk] W fun e W' => ∃ F L nx', e = .returned (.agg #[u32v F, u32v L, .bool (x.rx bk).emp]) ∧ Set F ((x.rx bk).fst ls.length) ∧ Set L ((x.rx bk).lst ls.length) ∧ Rows (x.rx bk) ls.length nx nx' ∧
      AltJ W0 w1 Z bX bR xb own p lb nb (ls ++ (x.rx bk).labs) nx' last W' := by
  obtain ⟨lb', cl', nb', cn', lxs', A, F, g, k⟩ := h.post
  refine (IH W0 W _ _ bk _ p lb' cl' nb' cn' lxs' ls nx last hk h.low A h.lt hn h32 hx).mono ?_
  rintro e W' ⟨F', L', nx', rfl, hF, hL, hR, hp⟩
  exact ⟨F', L', nx', rfl, hF, hL, hR, {
    post := AuPost.then F g k hp
    low := h.low.trans (AuPost.below A hp)
    base := h.base
    zl := h.zl
    zX := h.zX
    zR := h.zR
    bx := AuPost.blk A hp (Or.inl h.zX) h.bx
    br := AuPost.blk A hp (Or.inl h.zR) h.br
    big := h.big
    blk := fun o ho => AuPost.blk A hp (Or.inr ⟨o, ho, rfl⟩) (h.blk o ho) }⟩
end
theorem mem2 (a b : Nat × List Value) (o : Nat × List Value) : o ∈ [a, b] ↔ o ∈ [b, a] := by simp only [List.mem_cons, List.not_mem_nil, or_false]; exact or_comm
theorem AltJ.b1 {W0 w1 : World} {Z : Nat → Prop} {bX bR : Nat} {xb A : List Value} {q : Nat} {own : List (Nat × List Value)} {p lb nb : Nat} {ls : List Lb} {nx : List Nat} {last : Nat} {W : World} (h : AltJ W0 w1 Z bX bR xb ((q, A) :: own) p lb nb ls nx last W) : Blk W q A 63 := h.blk (q, A) (by simp)
theorem AltJ.b2 {W0 w1 : World} {Z : Nat → Prop} {bX bR : Nat} {xb A : List Value} {q : Nat} {o : Nat × List Value} {own : List (Nat × List Value)} {p lb nb : Nat} {ls : List Lb} {nx : List Nat} {last : Nat} {W : World} (h : AltJ W0 w1 Z bX bR xb (o :: (q, A) :: own) p lb nb ls nx last W) : Blk W q A 63 := h.blk (q, A) (by simp)
theorem blk3 {W : World} {b : Nat} {x0 x1 x2 : Value} {t : TypeId} (h : Blk W b [x0, x1, x2] t) :
    W.cell? ⟨b, 0, none⟩ = some x0 ∧ W.cell? ⟨b, 1, none⟩ = some x1 ∧ W.cell? ⟨b, 2, none⟩ = some x2 ∧ W.frozen? ⟨b, 0, none⟩ = false ∧ W.frozen? ⟨b, 1, none⟩ = false ∧ W.frozen? ⟨b, 2, none⟩ = false :=
  ⟨h.cell (i := 0) rfl, h.cell (i := 1) rfl, h.cell (i := 2) rfl, h.free 0, h.free 1, h.free 2⟩
theorem nameQ {P : Program} {md : Region.Mode} {ops : Array Oper} {Q : Exit → Act → World → Prop} {S : World → Prop} {fuel : Nat} {l : Array Bool} {T : Array Value} {d : List Deferred} {w : World} (h : ∀ Q' S', Q' = Q → S' = S → wpAnyH P md ops Q' S' fuel l ⟨T, d⟩ w) : wpAnyH P md ops Q S fuel l ⟨T, d⟩ w := h Q S rfl rfl
theorem nameH {P : Program} {md : Region.Mode} {ops : Array Oper} {Q : Exit → Act → World → Prop} {S : World → Prop} {fuel : Nat} {l : Array Bool} {a : Act} {w : World} (h : ∀ O T d, O = ops → T = a.tmps → d = a.defers → wpAnyH P md O Q S fuel l ⟨T, d⟩ w) : wpAnyH P md ops Q S fuel l a w := h ops a.tmps a.defers rfl rfl rfl
def AltS (b bb off capk : Nat) (x y : Pt) (vx ux vy uy : Value) (w' : World) : Prop := w'.cell? ⟨b, 3, none⟩ = some (.slice (some ⟨bb, off, none⟩) 2 capk) ∧ w'.cell? ⟨bb, off, none⟩ = some (.int .i64 x.kind) ∧ w'.cell? ⟨bb, off + 1, none⟩ = some (str x.text) ∧ w'.cell? ⟨bb, off + 2, none⟩ = some vx ∧ w'.cell? ⟨bb, off + 3, none⟩ = some ux ∧
      w'.cell? ⟨bb, off + 4, none⟩ = some (.int .i64 y.kind) ∧ w'.cell? ⟨bb, off + 4 + 1, none⟩ = some (str y.text) ∧ w'.cell? ⟨bb, off + 4 + 2, none⟩ = some vy ∧ w'.cell? ⟨bb, off + 4 + 3, none⟩ = some uy
theorem AltJ.s {W0 w1 : World} {Z : Nat → Prop} {bX bR : Nat} {x0 x1 x2 : Value} {own : List (Nat × List Value)} {p lb nb : Nat} {ls : List Lb} {nx : List Nat} {last : Nat} {W : World} {bb off capk : Nat} {x y : Pt} {vx ux vy uy : Value} (h : AltJ W0 w1 Z bX bR [x0, x1, x2, .slice (some ⟨bb, off, none⟩) 2 capk] own p lb nb ls nx last W)
    (hx : Row4 W0 bb off x vx ux) (hy : Row4 W0 bb (off + 4) y vy uy) : AltS bX bb off capk x y vx ux vy uy W := by
  obtain ⟨a0, a1, a2, a3⟩ := hx.keep h.low
  obtain ⟨b0, b1, b2, b3⟩ := hy.keep h.low
  exact ⟨h.bx.cell (i := 3) rfl, a0, a1, a2, a3, b0, b1, b2, b3⟩
set_option maxHeartbeats 32000000 in
theorem add_alt (x y : Pt) (IHx : AddOk x) (IHy : AddOk y) : AddOk (.mk 4 [] [] [x, y]) := by
  intro W0 w v u bk Y p lb cl nb cn lxs ls nx last hP hB h hY hn h32 hx
  have hrx : (Pt.mk 4 [] [] [x, y]).rx bk = .alt (x.rx bk) (y.rx bk) := by rw [Pt.rx]; rfl
  rw [hrx] at h32 ⊢
  obtain ⟨_, _, hLt, hLl, ak, capk, bb, off, f, g, hgi, q1, q2, q3, q4, hrow, hkid⟩ := hP.open
  obtain ⟨ta, tc, hfi, t1, t2, t3, htr⟩ := hLt.open
  subst hfi
  rw [hgi]
  unfold pv
  simp only [Pt.kind, Pt.text, Pt.kids, Pt.texts, List.length_nil, List.length_cons, Nat.zero_add] at hLt hLl q1 q3 q4 hrow hkid t1 t3 htr hgi ⊢
  obtain ⟨w1, hw1⟩ : ∃ w1, w1 = (w.alloc (.cells #[.int .i64 4, .string ⟨#[]⟩, .slice ta 0 tc, .slice ak 2 capk] 25)).alloc (.cells #[.int .u32 0, .int .u32 0, .bool false] 63) := ⟨_, rfl⟩
  have hz1 : w1.heap.size = w.heap.size + 2 := by rw [hw1]; simp
  have hb1 : Below w.heap.size w w1 := by rw [hw1]; exact ((Below.refl _ _).alloc (Nat.le_refl _) _).alloc (by simp) _
  have hX : Blk w1 w.heap.size [.int .i64 4, .string ⟨#[]⟩, .slice ta 0 tc, .slice ak 2 capk] 25 := by rw [hw1]; exact (Blk.new w _ _).alloc _
  have hR : Blk w1 (w.heap.size + 1) [.int .u32 0, .int .u32 0, .bool false] 63 := by rw [hw1]; exact Blk.new' (by simp) rfl
  have h1 := ((h.more (Z := fun k => Y k ∨ k = w.heap.size ∨ k = w.heap.size + 1) (fun k e => e.elim Or.inl (fun e => Or.inr (by omega)))).keep hb1)
  have hY1 : ∀ k, (Y k ∨ k = w.heap.size ∨ k = w.heap.size + 1) → k < w1.heap.size := fun k e => by rcases e with e | e | e; (have := hY k e; omega); omega; omega
  have hBw : Below W0.heap.size W0 w1 := hB.trans (hb1.mono hB.size)
  obtain ⟨c0, c1, c2, c3⟩ := blk4 hX
  have hr4 := (hrow 0 (by simp)).keep hBw
  have hr5 := (hrow 1 (by simp)).keep hBw
  have hr4' := hrow 0 (by simp)
  have hr5' := hrow 1 (by simp)
  have hkp := hkid 0 (by simp)
  have hkq := hkid 1 (by simp)
  simp only [List.getElem_cons_zero, List.getElem_cons_succ, Nat.zero_mul, Nat.add_zero, Nat.one_mul] at hr4 hr5 hr4' hr5' hkp hkq
  obtain rfl := q4 (by omega)
  obtain ⟨ax, nxx, cx, ax', nxx', cx', hvx, hux⟩ := pv_open hkp
  obtain ⟨ay, nyy, cy, ay', nyy', cy', hvy, huy⟩ := pv_open hkq
  rw [hvx, hux] at hr4 hr4' hkp
  rw [hvy, huy] at hr5 hr5' hkq
  obtain ⟨z0, z1, z2, z3⟩ := hr4
  obtain ⟨y0, y1, y2, y3⟩ := hr5
  rw [Rx.n_alt] at h32
  obtain ⟨ea, hea⟩ : ∃ ea, ea = (x.rx bk).emp := ⟨_, rfl⟩
  obtain ⟨eb, heb⟩ : ∃ eb, eb = (y.rx bk).emp := ⟨_, rfl⟩
  obtain ⟨Z, hZ⟩ : ∃ Z : Nat → Prop, Z = fun k => Y k ∨ k = w.heap.size ∨ k = w.heap.size + 1 := ⟨_, rfl⟩
  have J0 : AltJ W0 w1 Z w.heap.size (w.heap.size + 1) [.int .i64 4, .string ⟨#[]⟩, .slice ta 0 tc, .slice (some ⟨bb, off, none⟩) 2 capk] [] p lb nb ls nx last w1 := {
    post := ⟨lb, cl, nb, cn, lxs, h1.more (fun k e => Or.inl (by rcases e with e | ⟨o, ho, e⟩; (rw [hZ] at e; exact e); cases ho)), Frm.refl _ _, Or.inl rfl, Or.inl rfl⟩
    low := hBw
    base := hBw.size
    zl := by rw [hZ]; exact hY1
    zX := by rw [hZ]; exact Or.inr (Or.inl rfl)
    zR := by rw [hZ]; exact Or.inr (Or.inr rfl)
    bx := hX
    br := hR
    big := fun o ho => by cases ho
    blk := fun o ho => by cases ho }
  have CX := fun (own : List (Nat × List Value)) (W : World) (hJ : AltJ W0 w1 Z w.heap.size (w.heap.size + 1) [.int .i64 4, .string ⟨#[]⟩, .slice ta 0 tc, .slice (some ⟨bb, off, none⟩) 2 capk] own p lb nb ls nx last W) => AltJ.call (bk := bk) IHx hkp hn (by omega) hx hJ
  have hll : (ls ++ (x.rx bk).labs).length = ls.length + (x.rx bk).n := by rw [List.length_append]; rfl
  have CY := fun (own : List (Nat × List Value)) (nx1 : List Nat) (W : World) (hR : Rows (x.rx bk) ls.length nx nx1) (hJ : AltJ W0 w1 Z w.heap.size (w.heap.size + 1) [.int .i64 4, .string ⟨#[]⟩, .slice ta 0 tc, .slice (some ⟨bb, off, none⟩) 2 capk] own p lb nb (ls ++ (x.rx bk).labs) nx1 last W) => AltJ.call (bk := bk) IHy hkq (by rw [hll, hR.len]) (by rw [hll]; omega) hR.lt hJ
  rw [hll] at CY
  unfold pv u32v at CX CY
  rw [← hea] at CX
  rw [← heb] at CY
  have CX := hid CX
  have CY := hid CY
  have HEA := hid hea
  have HEB := hid heb
  have HSJ := hid fun (own : List (Nat × List Value)) (ls' : List Lb) (nx' : List Nat) (W : World) (hJ : AltJ W0 w1 Z w.heap.size (w.heap.size + 1) [.int .i64 4, .string ⟨#[]⟩, .slice ta 0 tc, .slice (some ⟨bb, off, none⟩) 2 capk] own p lb nb ls' nx' last W) => AltJ.s hJ hr4' hr5'
  have HJ0 := hid J0
  have HB1 := hid hb1
  have HZZ := hid hZ
  clear hvx hux hvy huy hz1 hb1 hX h1 hR hY1 h hY hn hx hP hB hLt hgi hrx hLl htr hrow hkid h32 hBw q1 t1 t3 hr4' hr5' hkp hkq IHx IHy hea heb J0 hll hZ q3
  go_enter Tryd.func29, Tryd.ntmps29
  go_upto_region 1 with fail
  rw [← hw1]
  clear hw1
  go_upto_region 11 with fail
  refine wp_region_held_drew (S := AltS w.heap.size bb off capk x y (.slice ax nxx cx) (.slice ax' nxx' cx') (.slice ay nyy cy) (.slice ay' nyy' cy')) (by kernel_rfl) (HSJ.out _ _ _ _ HJ0.out.drew) (fun hHeld => ?_)
  refine wpAnyH_take (i := 0) (oi := ({ dst := some 55, op := Op.move (Operand.tmp 0), type := 27, pos := "auto.go:67", after := #[], guard := none } : Oper)) (v := ?_) rfl (by kernel_rfl) (by kernel_rfl) (by kernel_rfl) (fun _ _ _ h => h) (Or.inl ⟨by rfl, ?_⟩) hHeld ?_
  rotate_left 1
  · intro w9 hw9; obtain ⟨e0, e1, e2, e3, e4, e5, e6, e7, e8⟩ := hw9; go_simp; try with_reducible rfl
  simp only [Act.put, List.setIfInBounds_toArray, List.set_cons_zero, List.set_cons_succ]
  refine wpAnyH_take (i := 1) (oi := ({ dst := some 56, op := Op.fieldAddr 25 (Operand.tmp 4) 3, type := 0, pos := "auto.go:67", after := #[], guard := none } : Oper)) (v := ?_) rfl (by kernel_rfl) (by kernel_rfl) (by kernel_rfl) (fun _ _ _ h => h) (Or.inl ⟨by rfl, ?_⟩) hHeld ?_
  rotate_left 1
  · intro w9 hw9; obtain ⟨e0, e1, e2, e3, e4, e5, e6, e7, e8⟩ := hw9; go_simp; try with_reducible rfl
  simp only [Act.put, List.setIfInBounds_toArray, List.set_cons_zero, List.set_cons_succ]
  refine wpAnyH_take (i := 2) (oi := ({ dst := some 57, op := Op.load 23 (Operand.tmp 56), type := 23, pos := "auto.go:67", after := #[{ on := 1, ground := Ground.data }], guard := none } : Oper)) (v := ?_) rfl (by kernel_rfl) (by kernel_rfl) (by kernel_rfl) (fun _ _ _ h => h) (Or.inl ⟨by rfl, ?_⟩) hHeld ?_
  rotate_left 1
  · intro w9 hw9; obtain ⟨e0, e1, e2, e3, e4, e5, e6, e7, e8⟩ := hw9; go_simp; try with_reducible rfl
  simp only [Act.put, List.setIfInBounds_toArray, List.set_cons_zero, List.set_cons_succ]
  refine wpAnyH_take (i := 3) (oi := ({ dst := some 58, op := Op.indexAddr 23 (Operand.tmp 57) (Operand.const (Value.int IntKind.i64 0)), type := 0, pos := "auto.go:67", after := #[{ on := 2, ground := Ground.data }], guard := none } : Oper)) (v := ?_) rfl (by kernel_rfl) (by kernel_rfl) (by kernel_rfl) (fun _ _ _ h => h) (Or.inl ⟨by rfl, ?_⟩) hHeld ?_
  rotate_left 1
  · intro w9 hw9; obtain ⟨e0, e1, e2, e3, e4, e5, e6, e7, e8⟩ := hw9; go_simp; try with_reducible rfl
  simp only [Act.put, List.setIfInBounds_toArray, List.set_cons_zero, List.set_cons_succ]
  refine wpAnyH_take (i := 4) (oi := ({ dst := some 59, op := Op.load 25 (Operand.tmp 58), type := 25, pos := "auto.go:67", after := #[{ on := 3, ground := Ground.data }], guard := none } : Oper)) (v := ?_) rfl (by kernel_rfl) (by kernel_rfl) (by kernel_rfl) (fun _ _ _ h => h) (Or.inl ⟨by rfl, ?_⟩) hHeld ?_
  rotate_left 1
  · intro w9 hw9; obtain ⟨e0, e1, e2, e3, e4, e5, e6, e7, e8⟩ := hw9; go_simp; try with_reducible rfl
  simp only [Act.put, List.setIfInBounds_toArray, List.set_cons_zero, List.set_cons_succ]
  refine wpAnyH_take (i := 5) (oi := ({ dst := some 60, op := Op.move (Operand.tmp 2), type := 4, pos := "auto.go:67", after := #[], guard := none } : Oper)) (v := ?_) rfl (by kernel_rfl) (by kernel_rfl) (by kernel_rfl) (fun _ _ _ h => h) (Or.inl ⟨by rfl, ?_⟩) hHeld ?_
  rotate_left 1
  · intro w9 hw9; obtain ⟨e0, e1, e2, e3, e4, e5, e6, e7, e8⟩ := hw9; go_simp; try with_reducible rfl
  simp only [Act.put, List.setIfInBounds_toArray, List.set_cons_zero, List.set_cons_succ]
  refine wpAnyH_take (i := 7) (oi := ({ dst := some 62, op := Op.move (Operand.tmp 0), type := 27, pos := "auto.go:67", after := #[], guard := none } : Oper)) (v := ?_) rfl (by kernel_rfl) (by kernel_rfl) (by kernel_rfl) (fun _ _ _ h => h) (Or.inl ⟨by rfl, ?_⟩) hHeld ?_
  rotate_left 1
  · intro w9 hw9; obtain ⟨e0, e1, e2, e3, e4, e5, e6, e7, e8⟩ := hw9; go_simp; try with_reducible rfl
  simp only [Act.put, List.setIfInBounds_toArray, List.set_cons_zero, List.set_cons_succ]
  refine wpAnyH_take (i := 8) (oi := ({ dst := some 63, op := Op.fieldAddr 25 (Operand.tmp 4) 3, type := 0, pos := "auto.go:67", after := #[], guard := none } : Oper)) (v := ?_) rfl (by kernel_rfl) (by kernel_rfl) (by kernel_rfl) (fun _ _ _ h => h) (Or.inl ⟨by rfl, ?_⟩) hHeld ?_
  rotate_left 1
  · intro w9 hw9; obtain ⟨e0, e1, e2, e3, e4, e5, e6, e7, e8⟩ := hw9; go_simp; try with_reducible rfl
  simp only [Act.put, List.setIfInBounds_toArray, List.set_cons_zero, List.set_cons_succ]
  refine wpAnyH_take (i := 9) (oi := ({ dst := some 64, op := Op.load 23 (Operand.tmp 63), type := 23, pos := "auto.go:67", after := #[{ on := 8, ground := Ground.data }], guard := none } : Oper)) (v := ?_) rfl (by kernel_rfl) (by kernel_rfl) (by kernel_rfl) (fun _ _ _ h => h) (Or.inl ⟨by rfl, ?_⟩) hHeld ?_
  rotate_left 1
  · intro w9 hw9; obtain ⟨e0, e1, e2, e3, e4, e5, e6, e7, e8⟩ := hw9; go_simp; try with_reducible rfl
  simp only [Act.put, List.setIfInBounds_toArray, List.set_cons_zero, List.set_cons_succ]
  refine wpAnyH_take (i := 10) (oi := ({ dst := some 65, op := Op.indexAddr 23 (Operand.tmp 64) (Operand.const (Value.int IntKind.i64 1)), type := 0, pos := "auto.go:67", after := #[{ on := 9, ground := Ground.data }], guard := none } : Oper)) (v := ?_) rfl (by kernel_rfl) (by kernel_rfl) (by kernel_rfl) (fun _ _ _ h => h) (Or.inl ⟨by rfl, ?_⟩) hHeld ?_
  rotate_left 1
  · intro w9 hw9; obtain ⟨e0, e1, e2, e3, e4, e5, e6, e7, e8⟩ := hw9; go_simp; try with_reducible rfl
  simp only [Act.put, List.setIfInBounds_toArray, List.set_cons_zero, List.set_cons_succ]
  refine wpAnyH_take (i := 11) (oi := ({ dst := some 66, op := Op.load 25 (Operand.tmp 65), type := 25, pos := "auto.go:67", after := #[{ on := 10, ground := Ground.data }], guard := none } : Oper)) (v := ?_) rfl (by kernel_rfl) (by kernel_rfl) (by kernel_rfl) (fun _ _ _ h => h) (Or.inl ⟨by rfl, ?_⟩) hHeld ?_
  rotate_left 1
  · intro w9 hw9; obtain ⟨e0, e1, e2, e3, e4, e5, e6, e7, e8⟩ := hw9; go_simp; try with_reducible rfl
  simp only [Act.put, List.setIfInBounds_toArray, List.set_cons_zero, List.set_cons_succ]
  refine wpAnyH_take (i := 12) (oi := ({ dst := some 67, op := Op.move (Operand.tmp 2), type := 4, pos := "auto.go:67", after := #[], guard := none } : Oper)) (v := ?_) rfl (by kernel_rfl) (by kernel_rfl) (by kernel_rfl) (fun _ _ _ h => h) (Or.inl ⟨by rfl, ?_⟩) hHeld ?_
  rotate_left 1
  · intro w9 hw9; obtain ⟨e0, e1, e2, e3, e4, e5, e6, e7, e8⟩ := hw9; go_simp; try with_reducible rfl
  simp only [Act.put, List.setIfInBounds_toArray, List.set_cons_zero, List.set_cons_succ]
  refine nameH ?_
  intro O T d hO hT hd
  dsimp only at hT hd
  subst hd
  refine nameQ ?_
  intro QQ SS hQQ hSS
  have HSJ := HSJ.out
  rw [← hSS] at HSJ
  have HSJ := hid HSJ
  clear hHeld
  have g411 : ∀ (W : World) (q7 : Nat) (q8 : Nat) (Fa La : Nat) (nx1 : List Nat) (Fb Lb : Nat) (nx2 : List Nat), q8 ≠ q7 → Set Fa ((x.rx bk).fst ls.length) → Set La ((x.rx bk).lst ls.length) → Rows (x.rx bk) ls.length nx nx1 → Set Fb ((y.rx bk).fst (ls.length + (x.rx bk).n)) → Set Lb ((y.rx bk).lst (ls.length + (x.rx bk).n)) → Rows (y.rx bk) (ls.length + (x.rx bk).n) nx1 nx2 → AltJ W0 w1 Z w.heap.size (w.heap.size + 1) [.int .i64 4, .string ⟨#[]⟩, .slice ta 0 tc, .slice (some ⟨bb, off, none⟩) 2 capk] [(q7, [.int .u32 (Fa : Nat), .int .u32 (La : Nat), .bool ea]), (q8, [.int .u32 (Fb : Nat), .int .u32 (Lb : Nat), .bool eb])] p lb nb (ls ++ (x.rx bk).labs ++ (y.rx bk).labs) nx2 last W → wpAnyH Tryd.prog .any O QQ SS 0 #[true, true, true, true, true, true, true, true, true, true, true, true, true, true, true, true, true, true] ⟨((((T.setIfInBounds 61 (.agg #[.int .u32 (Fa : Nat), .int .u32 (La : Nat), .bool ea])).setIfInBounds 68 (.agg #[.int .u32 (Fb : Nat), .int .u32 (Lb : Nat), .bool eb])).setIfInBounds 7 (.pointer (some ⟨q7, 0, none⟩))).setIfInBounds 8 (.pointer (some ⟨q8, 0, none⟩))), []⟩ W := by
    intro W q7 q8 Fa La nx1 Fb Lb nx2 hne hFa hLa hRa hFb hLb hRb hJ
    have HJ := hid hJ
    have HFa := hid hFa; have HLa := hid hLa; have HRa := hid hRa
    have HFb := hid hFb; have HLb := hid hLb; have HRb := hid hRb
    have hB1 := hid hJ.b1; have hB2 := hid hJ.b2; have hBR := hid hJ.br
    have ho1 := or_u32 Fa Fb hFa.1 hFb.1
    have ho2 := or_u32 La Lb hLa.1 hLb.1
    obtain ⟨u0, u1, u2, u3, u4, u5⟩ := blk3 HJ.out.b1
    obtain ⟨v0, v1, v2, v3, v4, v5⟩ := blk3 HJ.out.b2
    obtain ⟨r0, r1, r2, s0, s1, s2⟩ := blk3 HJ.out.br
    subst hT
    subst hO
    refine wpAnyH_done (by kernel_rfl) ?_ _
    rw [hQQ]
    clear hQQ hJ hFa hLa hRa hFb hLb hRb
    simp only [List.setIfInBounds_toArray, List.set_cons_zero, List.set_cons_succ]
    cases ea <;> cases eb
    all_goals
      go_wp2
      obtain ⟨e1, e2⟩ := add_end (Y := Y) HJ.out.br (Or.inl HJ.out.zR) HB1.out (Or.inr (by omega)) (fun k e => Or.inl (by rw [HZZ.out]; exact Or.inl e)) HJ.out.post (.int .u32 ((Fa ||| Fb : Nat))) (.int .u32 ((La ||| Lb : Nat))) (.bool _)
      have hrr : Rows (.alt (x.rx bk) (y.rx bk)) ls.length nx nx2 := rows_alt HRa.out HRb.out
      rw [List.append_assoc] at e2
      refine bodyPost_ret (part_ret (s := 6) rfl e1 Tryd.results29) rfl ⟨Fa ||| Fb, La ||| Lb, nx2, (by show _ = Ending.returned (.agg #[_, _, .bool ((x.rx bk).emp || (y.rx bk).emp)]); rw [← HEA.out, ← HEB.out]; rfl), HFa.out.or HFb.out, HLa.out.or HLb.out, hrr, e2⟩
  have g311 : ∀ (W : World) (q7 : Nat) (q8 : Nat) (Fa La : Nat) (nx1 : List Nat) (Fb Lb : Nat) (nx2 : List Nat), q8 ≠ q7 → Set Fa ((x.rx bk).fst ls.length) → Set La ((x.rx bk).lst ls.length) → Rows (x.rx bk) ls.length nx nx1 → Set Fb ((y.rx bk).fst (ls.length + (x.rx bk).n)) → Set Lb ((y.rx bk).lst (ls.length + (x.rx bk).n)) → Rows (y.rx bk) (ls.length + (x.rx bk).n) nx1 nx2 → AltJ W0 w1 Z w.heap.size (w.heap.size + 1) [.int .i64 4, .string ⟨#[]⟩, .slice ta 0 tc, .slice (some ⟨bb, off, none⟩) 2 capk] [(q7, [.int .u32 (Fa : Nat), .int .u32 (La : Nat), .bool ea]), (q8, zz3)] p lb nb (ls ++ (x.rx bk).labs ++ (y.rx bk).labs) nx2 last W → wpAnyH Tryd.prog .any O QQ SS 1 #[true, true, true, true, true, true, true, true, true, true, true, true, true, true, true, true, true, false] ⟨((((T.setIfInBounds 61 (.agg #[.int .u32 (Fa : Nat), .int .u32 (La : Nat), .bool ea])).setIfInBounds 68 (.agg #[.int .u32 (Fb : Nat), .int .u32 (Lb : Nat), .bool eb])).setIfInBounds 7 (.pointer (some ⟨q7, 0, none⟩))).setIfInBounds 8 (.pointer (some ⟨q8, 0, none⟩))), []⟩ W := by
    intro W q7 q8 Fa La nx1 Fb Lb nx2 hne hFa hLa hRa hFb hLb hRb hJ
    have HJ := hid hJ
    have HFa := hid hFa; have HLa := hid hLa; have HRa := hid hRa
    have HFb := hid hFb; have HLb := hid hLb; have HRb := hid hRb
    subst hO
    subst hT
    have G411 := hid g411
    clear g411 hJ hFa hLa hRa hFb hLb hRb
    (try simp only [List.setIfInBounds_toArray, List.set_cons_zero, List.set_cons_succ])
    refine wpAnyH_ready (rs := [17]) (by kernel_rfl) (by simp) ?_
    refine AllReadyH.cons (o := ({ dst := none, op := Op.store 63 (Operand.tmp 8) (Operand.tmp 68), type := 0, pos := "auto.go:67", after := #[{ on := 15, ground := Ground.data }, { on := 13, ground := Ground.data }, { on := 16, ground := Ground.chain }, { on := 0, ground := Ground.phase }, { on := 1, ground := Ground.phase }, { on := 2, ground := Ground.phase }, { on := 3, ground := Ground.phase }, { on := 4, ground := Ground.phase }, { on := 5, ground := Ground.phase }, { on := 6, ground := Ground.phase }, { on := 7, ground := Ground.phase }, { on := 8, ground := Ground.phase }, { on := 9, ground := Ground.phase }, { on := 10, ground := Ground.phase }, { on := 11, ground := Ground.phase }, { on := 12, ground := Ground.phase }, { on := 13, ground := Ground.phase }, { on := 14, ground := Ground.phase }, { on := 15, ground := Ground.phase }, { on := 16, ground := Ground.phase }], guard := none } : Oper)) rfl (fun K hK => ?_) ?_
    · obtain ⟨u0, u1, u2, u3, u4, u5⟩ := blk3 HJ.out.b2
      go_simp
      have J9 := ((AltJ.store (x := zz3) (AltJ.perm (own := [(q7, [.int .u32 (Fa : Nat), .int .u32 (La : Nat), .bool ea]), (q8, zz3)]) (own' := [(q8, zz3), (q7, [.int .u32 (Fa : Nat), .int .u32 (La : Nat), .bool ea])]) HJ.out (fun o => mem2 _ _ o)) (fun o ho => by rcases List.mem_singleton.1 ho with rfl; exact hne.symm) (.int .u32 (Fb : Nat)) (.int .u32 (Lb : Nat)) (.bool eb)).perm (fun o => mem2 _ _ o))
      refine hK.out _ _ (HSJ.out _ _ _ _ J9) (fun _ => ?_)
      clear hK K
      (try simp only [Act.put, List.setIfInBounds_toArray, List.set_cons_zero, List.set_cons_succ])
      have G := G411.out _ q7 q8 Fa La nx1 Fb Lb nx2 hne HFa.out HLa.out HRa.out HFb.out HLb.out HRb.out J9

      (try simp only [List.setIfInBounds_toArray, List.set_cons_zero, List.set_cons_succ] at G)
      exact G
    exact AllReadyH.nil
  have g211 : ∀ (W : World) (q7 : Nat) (q8 : Nat) (Fa La : Nat) (nx1 : List Nat) (Fb Lb : Nat) (nx2 : List Nat), q8 ≠ q7 → Set Fa ((x.rx bk).fst ls.length) → Set La ((x.rx bk).lst ls.length) → Rows (x.rx bk) ls.length nx nx1 → Set Fb ((y.rx bk).fst (ls.length + (x.rx bk).n)) → Set Lb ((y.rx bk).lst (ls.length + (x.rx bk).n)) → Rows (y.rx bk) (ls.length + (x.rx bk).n) nx1 nx2 → AltJ W0 w1 Z w.heap.size (w.heap.size + 1) [.int .i64 4, .string ⟨#[]⟩, .slice ta 0 tc, .slice (some ⟨bb, off, none⟩) 2 capk] [(q7, zz3), (q8, zz3)] p lb nb (ls ++ (x.rx bk).labs ++ (y.rx bk).labs) nx2 last W → wpAnyH Tryd.prog .any O QQ SS 2 #[true, true, true, true, true, true, true, true, true, true, true, true, true, true, true, true, false, false] ⟨((((T.setIfInBounds 61 (.agg #[.int .u32 (Fa : Nat), .int .u32 (La : Nat), .bool ea])).setIfInBounds 68 (.agg #[.int .u32 (Fb : Nat), .int .u32 (Lb : Nat), .bool eb])).setIfInBounds 7 (.pointer (some ⟨q7, 0, none⟩))).setIfInBounds 8 (.pointer (some ⟨q8, 0, none⟩))), []⟩ W := by
    intro W q7 q8 Fa La nx1 Fb Lb nx2 hne hFa hLa hRa hFb hLb hRb hJ
    clear g411
    have HJ := hid hJ
    have HFa := hid hFa; have HLa := hid hLa; have HRa := hid hRa
    have HFb := hid hFb; have HLb := hid hLb; have HRb := hid hRb
    subst hO
    subst hT
    have G311 := hid g311
    clear g311 hJ hFa hLa hRa hFb hLb hRb
    (try simp only [List.setIfInBounds_toArray, List.set_cons_zero, List.set_cons_succ])
    refine wpAnyH_ready (rs := [16]) (by kernel_rfl) (by simp) ?_
    refine AllReadyH.cons (o := ({ dst := none, op := Op.store 63 (Operand.tmp 7) (Operand.tmp 61), type := 0, pos := "auto.go:67", after := #[{ on := 14, ground := Ground.data }, { on := 6, ground := Ground.data }, { on := 13, ground := Ground.chain }, { on := 0, ground := Ground.phase }, { on := 1, ground := Ground.phase }, { on := 2, ground := Ground.phase }, { on := 3, ground := Ground.phase }, { on := 4, ground := Ground.phase }, { on := 5, ground := Ground.phase }, { on := 6, ground := Ground.phase }, { on := 7, ground := Ground.textOnly Departure.lateStores }, { on := 8, ground := Ground.textOnly Departure.lateStores }, { on := 9, ground := Ground.textOnly Departure.lateStores }, { on := 10, ground := Ground.textOnly Departure.lateStores }, { on := 11, ground := Ground.textOnly Departure.lateStores }, { on := 12, ground := Ground.textOnly Departure.lateStores }, { on := 13, ground := Ground.textOnly Departure.lateStoresUnsure }, { on := 14, ground := Ground.phase }, { on := 15, ground := Ground.phase }], guard := none } : Oper)) rfl (fun K hK => ?_) ?_
    · obtain ⟨u0, u1, u2, u3, u4, u5⟩ := blk3 HJ.out.b1
      go_simp
      have J9 := (AltJ.store (x := zz3) HJ.out (fun o ho => by rcases List.mem_singleton.1 ho with rfl; exact hne) (.int .u32 (Fa : Nat)) (.int .u32 (La : Nat)) (.bool ea))
      refine hK.out _ _ (HSJ.out _ _ _ _ J9) (fun _ => ?_)
      clear hK K
      (try simp only [Act.put, List.setIfInBounds_toArray, List.set_cons_zero, List.set_cons_succ])
      have G := G311.out _ q7 q8 Fa La nx1 Fb Lb nx2 hne HFa.out HLa.out HRa.out HFb.out HLb.out HRb.out J9

      (try simp only [List.setIfInBounds_toArray, List.set_cons_zero, List.set_cons_succ] at G)
      exact G
    exact AllReadyH.nil
  have g210 : ∀ (W : World) (q7 : Nat) (Fa La : Nat) (nx1 : List Nat) (Fb Lb : Nat) (nx2 : List Nat), Set Fa ((x.rx bk).fst ls.length) → Set La ((x.rx bk).lst ls.length) → Rows (x.rx bk) ls.length nx nx1 → Set Fb ((y.rx bk).fst (ls.length + (x.rx bk).n)) → Set Lb ((y.rx bk).lst (ls.length + (x.rx bk).n)) → Rows (y.rx bk) (ls.length + (x.rx bk).n) nx1 nx2 → AltJ W0 w1 Z w.heap.size (w.heap.size + 1) [.int .i64 4, .string ⟨#[]⟩, .slice ta 0 tc, .slice (some ⟨bb, off, none⟩) 2 capk] [(q7, zz3)] p lb nb (ls ++ (x.rx bk).labs ++ (y.rx bk).labs) nx2 last W → wpAnyH Tryd.prog .any O QQ SS 3 #[true, true, true, true, true, true, true, true, true, true, true, true, true, true, true, false, false, false] ⟨(((T.setIfInBounds 61 (.agg #[.int .u32 (Fa : Nat), .int .u32 (La : Nat), .bool ea])).setIfInBounds 68 (.agg #[.int .u32 (Fb : Nat), .int .u32 (Lb : Nat), .bool eb])).setIfInBounds 7 (.pointer (some ⟨q7, 0, none⟩))), []⟩ W := by
    intro W q7 Fa La nx1 Fb Lb nx2 hFa hLa hRa hFb hLb hRb hJ
    clear g411 g311
    have HJ := hid hJ
    have HFa := hid hFa; have HLa := hid hLa; have HRa := hid hRa
    have HFb := hid hFb; have HLb := hid hLb; have HRb := hid hRb
    subst hO
    subst hT
    have G211 := hid g211
    clear g211 hJ hFa hLa hRa hFb hLb hRb
    (try simp only [List.setIfInBounds_toArray, List.set_cons_zero, List.set_cons_succ])
    refine wpAnyH_ready (rs := [15]) (by kernel_rfl) (by simp) ?_
    refine AllReadyH.cons (o := ({ dst := some 8, op := Op.alloc 63, type := 0, pos := "auto.go:67", after := #[], guard := none } : Oper)) rfl (fun K hK => ?_) ?_
    · go_simp
      refine hK.out _ _ (HSJ.out _ _ _ _ HJ.out.alloc) (fun _ => ?_)
      clear hK K
      (try simp only [Act.put, List.setIfInBounds_toArray, List.set_cons_zero, List.set_cons_succ])
      have G := G211.out _ q7 W.heap.size Fa La nx1 Fb Lb nx2 (Nat.ne_of_gt HJ.out.b1.lt) HFa.out HLa.out HRa.out HFb.out HLb.out HRb.out (HJ.out.alloc.perm (fun o => mem2 _ _ o))
      (try simp only [List.setIfInBounds_toArray, List.set_cons_zero, List.set_cons_succ] at G)
      exact G
    exact AllReadyH.nil
  have g201 : ∀ (W : World) (q8 : Nat) (Fa La : Nat) (nx1 : List Nat) (Fb Lb : Nat) (nx2 : List Nat), Set Fa ((x.rx bk).fst ls.length) → Set La ((x.rx bk).lst ls.length) → Rows (x.rx bk) ls.length nx nx1 → Set Fb ((y.rx bk).fst (ls.length + (x.rx bk).n)) → Set Lb ((y.rx bk).lst (ls.length + (x.rx bk).n)) → Rows (y.rx bk) (ls.length + (x.rx bk).n) nx1 nx2 → AltJ W0 w1 Z w.heap.size (w.heap.size + 1) [.int .i64 4, .string ⟨#[]⟩, .slice ta 0 tc, .slice (some ⟨bb, off, none⟩) 2 capk] [(q8, zz3)] p lb nb (ls ++ (x.rx bk).labs ++ (y.rx bk).labs) nx2 last W → wpAnyH Tryd.prog .any O QQ SS 3 #[true, true, true, true, true, true, true, true, true, true, true, true, true, true, false, true, false, false] ⟨(((T.setIfInBounds 61 (.agg #[.int .u32 (Fa : Nat), .int .u32 (La : Nat), .bool ea])).setIfInBounds 68 (.agg #[.int .u32 (Fb : Nat), .int .u32 (Lb : Nat), .bool eb])).setIfInBounds 8 (.pointer (some ⟨q8, 0, none⟩))), []⟩ W := by
    intro W q8 Fa La nx1 Fb Lb nx2 hFa hLa hRa hFb hLb hRb hJ
    clear g411 g311 g210
    have HJ := hid hJ
    have HFa := hid hFa; have HLa := hid hLa; have HRa := hid hRa
    have HFb := hid hFb; have HLb := hid hLb; have HRb := hid hRb
    subst hO
    subst hT
    have G211 := hid g211
    clear g211 hJ hFa hLa hRa hFb hLb hRb
    (try simp only [List.setIfInBounds_toArray, List.set_cons_zero, List.set_cons_succ])
    refine wpAnyH_ready (rs := [14]) (by kernel_rfl) (by simp) ?_
    refine AllReadyH.cons (o := ({ dst := some 7, op := Op.alloc 63, type := 0, pos := "auto.go:67", after := #[], guard := none } : Oper)) rfl (fun K hK => ?_) ?_
    · go_simp
      refine hK.out _ _ (HSJ.out _ _ _ _ HJ.out.alloc) (fun _ => ?_)
      clear hK K
      (try simp only [Act.put, List.setIfInBounds_toArray, List.set_cons_zero, List.set_cons_succ])
      have G := G211.out _ W.heap.size q8 Fa La nx1 Fb Lb nx2 (Nat.ne_of_lt HJ.out.b1.lt) HFa.out HLa.out HRa.out HFb.out HLb.out HRb.out (HJ.out.alloc)
      (try simp only [List.setIfInBounds_toArray, List.set_cons_zero, List.set_cons_succ] at G)
      exact G
    exact AllReadyH.nil
  have g200 : ∀ (W : World) (Fa La : Nat) (nx1 : List Nat) (Fb Lb : Nat) (nx2 : List Nat), Set Fa ((x.rx bk).fst ls.length) → Set La ((x.rx bk).lst ls.length) → Rows (x.rx bk) ls.length nx nx1 → Set Fb ((y.rx bk).fst (ls.length + (x.rx bk).n)) → Set Lb ((y.rx bk).lst (ls.length + (x.rx bk).n)) → Rows (y.rx bk) (ls.length + (x.rx bk).n) nx1 nx2 → AltJ W0 w1 Z w.heap.size (w.heap.size + 1) [.int .i64 4, .string ⟨#[]⟩, .slice ta 0 tc, .slice (some ⟨bb, off, none⟩) 2 capk] [] p lb nb (ls ++ (x.rx bk).labs ++ (y.rx bk).labs) nx2 last W → wpAnyH Tryd.prog .any O QQ SS 4 #[true, true, true, true, true, true, true, true, true, true, true, true, true, true, false, false, false, false] ⟨((T.setIfInBounds 61 (.agg #[.int .u32 (Fa : Nat), .int .u32 (La : Nat), .bool ea])).setIfInBounds 68 (.agg #[.int .u32 (Fb : Nat), .int .u32 (Lb : Nat), .bool eb])), []⟩ W := by
    intro W Fa La nx1 Fb Lb nx2 hFa hLa hRa hFb hLb hRb hJ
    clear g411 g311 g211
    have HJ := hid hJ
    have HFa := hid hFa; have HLa := hid hLa; have HRa := hid hRa
    have HFb := hid hFb; have HLb := hid hLb; have HRb := hid hRb
    subst hO
    subst hT
    have G210 := hid g210
    have G201 := hid g201
    clear g210 g201 hJ hFa hLa hRa hFb hLb hRb
    (try simp only [List.setIfInBounds_toArray, List.set_cons_zero, List.set_cons_succ])
    refine wpAnyH_ready (rs := [14, 15]) (by kernel_rfl) (by simp) ?_
    refine AllReadyH.cons (o := ({ dst := some 7, op := Op.alloc 63, type := 0, pos := "auto.go:67", after := #[], guard := none } : Oper)) rfl (fun K hK => ?_) ?_
    · go_simp
      refine hK.out _ _ (HSJ.out _ _ _ _ HJ.out.alloc) (fun _ => ?_)
      clear hK K
      (try simp only [Act.put, List.setIfInBounds_toArray, List.set_cons_zero, List.set_cons_succ])
      have G := G210.out _ W.heap.size Fa La nx1 Fb Lb nx2 HFa.out HLa.out HRa.out HFb.out HLb.out HRb.out (HJ.out.alloc)
      (try simp only [List.setIfInBounds_toArray, List.set_cons_zero, List.set_cons_succ] at G)
      exact G
    refine AllReadyH.cons (o := ({ dst := some 8, op := Op.alloc 63, type := 0, pos := "auto.go:67", after := #[], guard := none } : Oper)) rfl (fun K hK => ?_) ?_
    · go_simp
      refine hK.out _ _ (HSJ.out _ _ _ _ HJ.out.alloc) (fun _ => ?_)
      clear hK K
      (try simp only [Act.put, List.setIfInBounds_toArray, List.set_cons_zero, List.set_cons_succ])
      have G := G201.out _ W.heap.size Fa La nx1 Fb Lb nx2 HFa.out HLa.out HRa.out HFb.out HLb.out HRb.out (HJ.out.alloc)
      (try simp only [List.setIfInBounds_toArray, List.set_cons_zero, List.set_cons_succ] at G)
      exact G
    exact AllReadyH.nil
  have g111 : ∀ (W : World) (q7 : Nat) (q8 : Nat) (Fa La : Nat) (nx1 : List Nat), q8 ≠ q7 → Set Fa ((x.rx bk).fst ls.length) → Set La ((x.rx bk).lst ls.length) → Rows (x.rx bk) ls.length nx nx1 → AltJ W0 w1 Z w.heap.size (w.heap.size + 1) [.int .i64 4, .string ⟨#[]⟩, .slice ta 0 tc, .slice (some ⟨bb, off, none⟩) 2 capk] [(q7, zz3), (q8, zz3)] p lb nb (ls ++ (x.rx bk).labs) nx1 last W → wpAnyH Tryd.prog .any O QQ SS 3 #[true, true, true, true, true, true, true, true, true, true, true, true, true, false, true, true, false, false] ⟨(((T.setIfInBounds 61 (.agg #[.int .u32 (Fa : Nat), .int .u32 (La : Nat), .bool ea])).setIfInBounds 7 (.pointer (some ⟨q7, 0, none⟩))).setIfInBounds 8 (.pointer (some ⟨q8, 0, none⟩))), []⟩ W := by
    intro W q7 q8 Fa La nx1 hne hFa hLa hRa hJ
    clear g411 g311 g210 g201 g200
    have HJ := hid hJ
    have HFa := hid hFa; have HLa := hid hLa; have HRa := hid hRa
    subst hO
    subst hT
    have G211 := hid g211
    clear g211 hJ hFa hLa hRa
    (try simp only [List.setIfInBounds_toArray, List.set_cons_zero, List.set_cons_succ])
    refine wpAnyH_ready (rs := [13]) (by kernel_rfl) (by simp) ?_
    refine AllReadyH.cons (o := ({ dst := some 68, op := Op.call { callee := Callee.value (Operand.func 29), args := #[Operand.tmp 62, Operand.tmp 66, Operand.tmp 67], argTypes := #[27, 25, 4] }, type := 63, pos := "auto.go:67", after := #[{ on := 7, ground := Ground.data }, { on := 11, ground := Ground.data }, { on := 12, ground := Ground.data }, { on := 6, ground := Ground.chain }], guard := none } : Oper)) rfl (fun K hK => ?_) ?_
    · go_simp
      go_at_call 29
      refine (CY.out _ _ _ HRa.out HJ.out).mono ?_
      rintro e W3 ⟨Fb, Lb, nx2, rfl, hFb, hLb, hRb, hJ3⟩
      refine hK.out _ _ (HSJ.out _ _ _ _ hJ3) (fun _ => ?_)
      clear hK K
      simp only [Act.put, List.setIfInBounds_toArray, List.set_cons_zero, List.set_cons_succ]
      have G := G211.out W3 q7 q8 Fa La nx1 Fb Lb nx2 hne HFa.out HLa.out HRa.out hFb hLb hRb hJ3
      (try simp only [List.setIfInBounds_toArray, List.set_cons_zero, List.set_cons_succ] at G)
      exact G
    exact AllReadyH.nil
  have g110 : ∀ (W : World) (q7 : Nat) (Fa La : Nat) (nx1 : List Nat), Set Fa ((x.rx bk).fst ls.length) → Set La ((x.rx bk).lst ls.length) → Rows (x.rx bk) ls.length nx nx1 → AltJ W0 w1 Z w.heap.size (w.heap.size + 1) [.int .i64 4, .string ⟨#[]⟩, .slice ta 0 tc, .slice (some ⟨bb, off, none⟩) 2 capk] [(q7, zz3)] p lb nb (ls ++ (x.rx bk).labs) nx1 last W → wpAnyH Tryd.prog .any O QQ SS 4 #[true, true, true, true, true, true, true, true, true, true, true, true, true, false, true, false, false, false] ⟨((T.setIfInBounds 61 (.agg #[.int .u32 (Fa : Nat), .int .u32 (La : Nat), .bool ea])).setIfInBounds 7 (.pointer (some ⟨q7, 0, none⟩))), []⟩ W := by
    intro W q7 Fa La nx1 hFa hLa hRa hJ
    clear g411 g311 g211 g201 g200
    have HJ := hid hJ
    have HFa := hid hFa; have HLa := hid hLa; have HRa := hid hRa
    subst hO
    subst hT
    have G210 := hid g210
    have G111 := hid g111
    clear g210 g111 hJ hFa hLa hRa
    (try simp only [List.setIfInBounds_toArray, List.set_cons_zero, List.set_cons_succ])
    refine wpAnyH_ready (rs := [13, 15]) (by kernel_rfl) (by simp) ?_
    refine AllReadyH.cons (o := ({ dst := some 68, op := Op.call { callee := Callee.value (Operand.func 29), args := #[Operand.tmp 62, Operand.tmp 66, Operand.tmp 67], argTypes := #[27, 25, 4] }, type := 63, pos := "auto.go:67", after := #[{ on := 7, ground := Ground.data }, { on := 11, ground := Ground.data }, { on := 12, ground := Ground.data }, { on := 6, ground := Ground.chain }], guard := none } : Oper)) rfl (fun K hK => ?_) ?_
    · go_simp
      go_at_call 29
      refine (CY.out _ _ _ HRa.out HJ.out).mono ?_
      rintro e W3 ⟨Fb, Lb, nx2, rfl, hFb, hLb, hRb, hJ3⟩
      refine hK.out _ _ (HSJ.out _ _ _ _ hJ3) (fun _ => ?_)
      clear hK K
      simp only [Act.put, List.setIfInBounds_toArray, List.set_cons_zero, List.set_cons_succ]
      have G := G210.out W3 q7 Fa La nx1 Fb Lb nx2 HFa.out HLa.out HRa.out hFb hLb hRb hJ3
      (try simp only [List.setIfInBounds_toArray, List.set_cons_zero, List.set_cons_succ] at G)
      exact G
    refine AllReadyH.cons (o := ({ dst := some 8, op := Op.alloc 63, type := 0, pos := "auto.go:67", after := #[], guard := none } : Oper)) rfl (fun K hK => ?_) ?_
    · go_simp
      refine hK.out _ _ (HSJ.out _ _ _ _ HJ.out.alloc) (fun _ => ?_)
      clear hK K
      (try simp only [Act.put, List.setIfInBounds_toArray, List.set_cons_zero, List.set_cons_succ])
      have G := G111.out _ q7 W.heap.size Fa La nx1 (Nat.ne_of_gt HJ.out.b1.lt) HFa.out HLa.out HRa.out (HJ.out.alloc.perm (fun o => mem2 _ _ o))
      (try simp only [List.setIfInBounds_toArray, List.set_cons_zero, List.set_cons_succ] at G)
      exact G
    exact AllReadyH.nil
  have g101 : ∀ (W : World) (q8 : Nat) (Fa La : Nat) (nx1 : List Nat), Set Fa ((x.rx bk).fst ls.length) → Set La ((x.rx bk).lst ls.length) → Rows (x.rx bk) ls.length nx nx1 → AltJ W0 w1 Z w.heap.size (w.heap.size + 1) [.int .i64 4, .string ⟨#[]⟩, .slice ta 0 tc, .slice (some ⟨bb, off, none⟩) 2 capk] [(q8, zz3)] p lb nb (ls ++ (x.rx bk).labs) nx1 last W → wpAnyH Tryd.prog .any O QQ SS 4 #[true, true, true, true, true, true, true, true, true, true, true, true, true, false, false, true, false, false] ⟨((T.setIfInBounds 61 (.agg #[.int .u32 (Fa : Nat), .int .u32 (La : Nat), .bool ea])).setIfInBounds 8 (.pointer (some ⟨q8, 0, none⟩))), []⟩ W := by
    intro W q8 Fa La nx1 hFa hLa hRa hJ
    clear g411 g311 g211 g210 g200 g110
    have HJ := hid hJ
    have HFa := hid hFa; have HLa := hid hLa; have HRa := hid hRa
    subst hO
    subst hT
    have G201 := hid g201
    have G111 := hid g111
    clear g201 g111 hJ hFa hLa hRa
    (try simp only [List.setIfInBounds_toArray, List.set_cons_zero, List.set_cons_succ])
    refine wpAnyH_ready (rs := [13, 14]) (by kernel_rfl) (by simp) ?_
    refine AllReadyH.cons (o := ({ dst := some 68, op := Op.call { callee := Callee.value (Operand.func 29), args := #[Operand.tmp 62, Operand.tmp 66, Operand.tmp 67], argTypes := #[27, 25, 4] }, type := 63, pos := "auto.go:67", after := #[{ on := 7, ground := Ground.data }, { on := 11, ground := Ground.data }, { on := 12, ground := Ground.data }, { on := 6, ground := Ground.chain }], guard := none } : Oper)) rfl (fun K hK => ?_) ?_
    · go_simp
      go_at_call 29
      refine (CY.out _ _ _ HRa.out HJ.out).mono ?_
      rintro e W3 ⟨Fb, Lb, nx2, rfl, hFb, hLb, hRb, hJ3⟩
      refine hK.out _ _ (HSJ.out _ _ _ _ hJ3) (fun _ => ?_)
      clear hK K
      simp only [Act.put, List.setIfInBounds_toArray, List.set_cons_zero, List.set_cons_succ]
      have G := G201.out W3 q8 Fa La nx1 Fb Lb nx2 HFa.out HLa.out HRa.out hFb hLb hRb hJ3
      (try simp only [List.setIfInBounds_toArray, List.set_cons_zero, List.set_cons_succ] at G)
      exact G
    refine AllReadyH.cons (o := ({ dst := some 7, op := Op.alloc 63, type := 0, pos := "auto.go:67", after := #[], guard := none } : Oper)) rfl (fun K hK => ?_) ?_
    · go_simp
      refine hK.out _ _ (HSJ.out _ _ _ _ HJ.out.alloc) (fun _ => ?_)
      clear hK K
      (try simp only [Act.put, List.setIfInBounds_toArray, List.set_cons_zero, List.set_cons_succ])
      have G := G111.out _ W.heap.size q8 Fa La nx1 (Nat.ne_of_lt HJ.out.b1.lt) HFa.out HLa.out HRa.out (HJ.out.alloc)
      (try simp only [List.setIfInBounds_toArray, List.set_cons_zero, List.set_cons_succ] at G)
      exact G
    exact AllReadyH.nil
  have g100 : ∀ (W : World) (Fa La : Nat) (nx1 : List Nat), Set Fa ((x.rx bk).fst ls.length) → Set La ((x.rx bk).lst ls.length) → Rows (x.rx bk) ls.length nx nx1 → AltJ W0 w1 Z w.heap.size (w.heap.size + 1) [.int .i64 4, .string ⟨#[]⟩, .slice ta 0 tc, .slice (some ⟨bb, off, none⟩) 2 capk] [] p lb nb (ls ++ (x.rx bk).labs) nx1 last W → wpAnyH Tryd.prog .any O QQ SS 5 #[true, true, true, true, true, true, true, true, true, true, true, true, true, false, false, false, false, false] ⟨(T.setIfInBounds 61 (.agg #[.int .u32 (Fa : Nat), .int .u32 (La : Nat), .bool ea])), []⟩ W := by
    intro W Fa La nx1 hFa hLa hRa hJ
    clear g411 g311 g211 g210 g201 g111
    have HJ := hid hJ
    have HFa := hid hFa; have HLa := hid hLa; have HRa := hid hRa
    subst hO
    subst hT
    have G200 := hid g200
    have G110 := hid g110
    have G101 := hid g101
    clear g200 g110 g101 hJ hFa hLa hRa
    (try simp only [List.setIfInBounds_toArray, List.set_cons_zero, List.set_cons_succ])
    refine wpAnyH_ready (rs := [13, 14, 15]) (by kernel_rfl) (by simp) ?_
    refine AllReadyH.cons (o := ({ dst := some 68, op := Op.call { callee := Callee.value (Operand.func 29), args := #[Operand.tmp 62, Operand.tmp 66, Operand.tmp 67], argTypes := #[27, 25, 4] }, type := 63, pos := "auto.go:67", after := #[{ on := 7, ground := Ground.data }, { on := 11, ground := Ground.data }, { on := 12, ground := Ground.data }, { on := 6, ground := Ground.chain }], guard := none } : Oper)) rfl (fun K hK => ?_) ?_
    · go_simp
      go_at_call 29
      refine (CY.out _ _ _ HRa.out HJ.out).mono ?_
      rintro e W3 ⟨Fb, Lb, nx2, rfl, hFb, hLb, hRb, hJ3⟩
      refine hK.out _ _ (HSJ.out _ _ _ _ hJ3) (fun _ => ?_)
      clear hK K
      simp only [Act.put, List.setIfInBounds_toArray, List.set_cons_zero, List.set_cons_succ]
      have G := G200.out W3 Fa La nx1 Fb Lb nx2 HFa.out HLa.out HRa.out hFb hLb hRb hJ3
      (try simp only [List.setIfInBounds_toArray, List.set_cons_zero, List.set_cons_succ] at G)
      exact G
    refine AllReadyH.cons (o := ({ dst := some 7, op := Op.alloc 63, type := 0, pos := "auto.go:67", after := #[], guard := none } : Oper)) rfl (fun K hK => ?_) ?_
    · go_simp
      refine hK.out _ _ (HSJ.out _ _ _ _ HJ.out.alloc) (fun _ => ?_)
      clear hK K
      (try simp only [Act.put, List.setIfInBounds_toArray, List.set_cons_zero, List.set_cons_succ])
      have G := G110.out _ W.heap.size Fa La nx1 HFa.out HLa.out HRa.out (HJ.out.alloc)
      (try simp only [List.setIfInBounds_toArray, List.set_cons_zero, List.set_cons_succ] at G)
      exact G
    refine AllReadyH.cons (o := ({ dst := some 8, op := Op.alloc 63, type := 0, pos := "auto.go:67", after := #[], guard := none } : Oper)) rfl (fun K hK => ?_) ?_
    · go_simp
      refine hK.out _ _ (HSJ.out _ _ _ _ HJ.out.alloc) (fun _ => ?_)
      clear hK K
      (try simp only [Act.put, List.setIfInBounds_toArray, List.set_cons_zero, List.set_cons_succ])
      have G := G101.out _ W.heap.size Fa La nx1 HFa.out HLa.out HRa.out (HJ.out.alloc)
      (try simp only [List.setIfInBounds_toArray, List.set_cons_zero, List.set_cons_succ] at G)
      exact G
    exact AllReadyH.nil
  have g011 : ∀ (W : World) (q7 : Nat) (q8 : Nat), q8 ≠ q7 → AltJ W0 w1 Z w.heap.size (w.heap.size + 1) [.int .i64 4, .string ⟨#[]⟩, .slice ta 0 tc, .slice (some ⟨bb, off, none⟩) 2 capk] [(q7, zz3), (q8, zz3)] p lb nb ls nx last W → wpAnyH Tryd.prog .any O QQ SS 4 #[true, true, true, true, true, true, false, true, true, true, true, true, true, false, true, true, false, false] ⟨((T.setIfInBounds 7 (.pointer (some ⟨q7, 0, none⟩))).setIfInBounds 8 (.pointer (some ⟨q8, 0, none⟩))), []⟩ W := by
    intro W q7 q8 hne hJ
    clear g411 g311 g211 g210 g201 g200 g110 g101 g100
    have HJ := hid hJ
    subst hO
    subst hT
    have G111 := hid g111
    clear g111 hJ
    (try simp only [List.setIfInBounds_toArray, List.set_cons_zero, List.set_cons_succ])
    refine wpAnyH_ready (rs := [6]) (by kernel_rfl) (by simp) ?_
    refine AllReadyH.cons (o := ({ dst := some 61, op := Op.call { callee := Callee.value (Operand.func 29), args := #[Operand.tmp 55, Operand.tmp 59, Operand.tmp 60], argTypes := #[27, 25, 4] }, type := 63, pos := "auto.go:67", after := #[{ on := 0, ground := Ground.data }, { on := 4, ground := Ground.data }, { on := 5, ground := Ground.data }], guard := none } : Oper)) rfl (fun K hK => ?_) ?_
    · go_simp
      go_at_call 29
      refine (CX.out _ _ HJ.out).mono ?_
      rintro e W3 ⟨Fa, La, nx1, rfl, hFa, hLa, hRa, hJ3⟩
      refine hK.out _ _ (HSJ.out _ _ _ _ hJ3) (fun _ => ?_)
      clear hK K
      simp only [Act.put, List.setIfInBounds_toArray, List.set_cons_zero, List.set_cons_succ]
      have G := G111.out W3 q7 q8 Fa La nx1 hne hFa hLa hRa hJ3
      (try simp only [List.setIfInBounds_toArray, List.set_cons_zero, List.set_cons_succ] at G)
      exact G
    exact AllReadyH.nil
  have g010 : ∀ (W : World) (q7 : Nat), AltJ W0 w1 Z w.heap.size (w.heap.size + 1) [.int .i64 4, .string ⟨#[]⟩, .slice ta 0 tc, .slice (some ⟨bb, off, none⟩) 2 capk] [(q7, zz3)] p lb nb ls nx last W → wpAnyH Tryd.prog .any O QQ SS 5 #[true, true, true, true, true, true, false, true, true, true, true, true, true, false, true, false, false, false] ⟨(T.setIfInBounds 7 (.pointer (some ⟨q7, 0, none⟩))), []⟩ W := by
    intro W q7 hJ
    clear g411 g311 g211 g210 g201 g200 g111 g101 g100
    have HJ := hid hJ
    subst hO
    subst hT
    have G110 := hid g110
    have G011 := hid g011
    clear g110 g011 hJ
    (try simp only [List.setIfInBounds_toArray, List.set_cons_zero, List.set_cons_succ])
    refine wpAnyH_ready (rs := [6, 15]) (by kernel_rfl) (by simp) ?_
    refine AllReadyH.cons (o := ({ dst := some 61, op := Op.call { callee := Callee.value (Operand.func 29), args := #[Operand.tmp 55, Operand.tmp 59, Operand.tmp 60], argTypes := #[27, 25, 4] }, type := 63, pos := "auto.go:67", after := #[{ on := 0, ground := Ground.data }, { on := 4, ground := Ground.data }, { on := 5, ground := Ground.data }], guard := none } : Oper)) rfl (fun K hK => ?_) ?_
    · go_simp
      go_at_call 29
      refine (CX.out _ _ HJ.out).mono ?_
      rintro e W3 ⟨Fa, La, nx1, rfl, hFa, hLa, hRa, hJ3⟩
      refine hK.out _ _ (HSJ.out _ _ _ _ hJ3) (fun _ => ?_)
      clear hK K
      simp only [Act.put, List.setIfInBounds_toArray, List.set_cons_zero, List.set_cons_succ]
      have G := G110.out W3 q7 Fa La nx1 hFa hLa hRa hJ3
      (try simp only [List.setIfInBounds_toArray, List.set_cons_zero, List.set_cons_succ] at G)
      exact G
    refine AllReadyH.cons (o := ({ dst := some 8, op := Op.alloc 63, type := 0, pos := "auto.go:67", after := #[], guard := none } : Oper)) rfl (fun K hK => ?_) ?_
    · go_simp
      refine hK.out _ _ (HSJ.out _ _ _ _ HJ.out.alloc) (fun _ => ?_)
      clear hK K
      (try simp only [Act.put, List.setIfInBounds_toArray, List.set_cons_zero, List.set_cons_succ])
      have G := G011.out _ q7 W.heap.size (Nat.ne_of_gt HJ.out.b1.lt) (HJ.out.alloc.perm (fun o => mem2 _ _ o))
      (try simp only [List.setIfInBounds_toArray, List.set_cons_zero, List.set_cons_succ] at G)
      exact G
    exact AllReadyH.nil
  have g001 : ∀ (W : World) (q8 : Nat), AltJ W0 w1 Z w.heap.size (w.heap.size + 1) [.int .i64 4, .string ⟨#[]⟩, .slice ta 0 tc, .slice (some ⟨bb, off, none⟩) 2 capk] [(q8, zz3)] p lb nb ls nx last W → wpAnyH Tryd.prog .any O QQ SS 5 #[true, true, true, true, true, true, false, true, true, true, true, true, true, false, false, true, false, false] ⟨(T.setIfInBounds 8 (.pointer (some ⟨q8, 0, none⟩))), []⟩ W := by
    intro W q8 hJ
    clear g411 g311 g211 g210 g201 g200 g111 g110 g100 g010
    have HJ := hid hJ
    subst hO
    subst hT
    have G101 := hid g101
    have G011 := hid g011
    clear g101 g011 hJ
    (try simp only [List.setIfInBounds_toArray, List.set_cons_zero, List.set_cons_succ])
    refine wpAnyH_ready (rs := [6, 14]) (by kernel_rfl) (by simp) ?_
    refine AllReadyH.cons (o := ({ dst := some 61, op := Op.call { callee := Callee.value (Operand.func 29), args := #[Operand.tmp 55, Operand.tmp 59, Operand.tmp 60], argTypes := #[27, 25, 4] }, type := 63, pos := "auto.go:67", after := #[{ on := 0, ground := Ground.data }, { on := 4, ground := Ground.data }, { on := 5, ground := Ground.data }], guard := none } : Oper)) rfl (fun K hK => ?_) ?_
    · go_simp
      go_at_call 29
      refine (CX.out _ _ HJ.out).mono ?_
      rintro e W3 ⟨Fa, La, nx1, rfl, hFa, hLa, hRa, hJ3⟩
      refine hK.out _ _ (HSJ.out _ _ _ _ hJ3) (fun _ => ?_)
      clear hK K
      simp only [Act.put, List.setIfInBounds_toArray, List.set_cons_zero, List.set_cons_succ]
      have G := G101.out W3 q8 Fa La nx1 hFa hLa hRa hJ3
      (try simp only [List.setIfInBounds_toArray, List.set_cons_zero, List.set_cons_succ] at G)
      exact G
    refine AllReadyH.cons (o := ({ dst := some 7, op := Op.alloc 63, type := 0, pos := "auto.go:67", after := #[], guard := none } : Oper)) rfl (fun K hK => ?_) ?_
    · go_simp
      refine hK.out _ _ (HSJ.out _ _ _ _ HJ.out.alloc) (fun _ => ?_)
      clear hK K
      (try simp only [Act.put, List.setIfInBounds_toArray, List.set_cons_zero, List.set_cons_succ])
      have G := G011.out _ W.heap.size q8 (Nat.ne_of_lt HJ.out.b1.lt) (HJ.out.alloc)
      (try simp only [List.setIfInBounds_toArray, List.set_cons_zero, List.set_cons_succ] at G)
      exact G
    exact AllReadyH.nil
  have g000 : ∀ (W : World), AltJ W0 w1 Z w.heap.size (w.heap.size + 1) [.int .i64 4, .string ⟨#[]⟩, .slice ta 0 tc, .slice (some ⟨bb, off, none⟩) 2 capk] [] p lb nb ls nx last W → wpAnyH Tryd.prog .any O QQ SS 6 #[true, true, true, true, true, true, false, true, true, true, true, true, true, false, false, false, false, false] ⟨T, []⟩ W := by
    intro W hJ
    clear g411 g311 g211 g210 g201 g200 g111 g110 g101 g011
    have HJ := hid hJ
    subst hO
    subst hT
    have G100 := hid g100
    have G010 := hid g010
    have G001 := hid g001
    clear g100 g010 g001 hJ
    (try simp only [List.setIfInBounds_toArray, List.set_cons_zero, List.set_cons_succ])
    refine wpAnyH_ready (rs := [6, 14, 15]) (by kernel_rfl) (by simp) ?_
    refine AllReadyH.cons (o := ({ dst := some 61, op := Op.call { callee := Callee.value (Operand.func 29), args := #[Operand.tmp 55, Operand.tmp 59, Operand.tmp 60], argTypes := #[27, 25, 4] }, type := 63, pos := "auto.go:67", after := #[{ on := 0, ground := Ground.data }, { on := 4, ground := Ground.data }, { on := 5, ground := Ground.data }], guard := none } : Oper)) rfl (fun K hK => ?_) ?_
    · go_simp
      go_at_call 29
      refine (CX.out _ _ HJ.out).mono ?_
      rintro e W3 ⟨Fa, La, nx1, rfl, hFa, hLa, hRa, hJ3⟩
      refine hK.out _ _ (HSJ.out _ _ _ _ hJ3) (fun _ => ?_)
      clear hK K
      simp only [Act.put, List.setIfInBounds_toArray, List.set_cons_zero, List.set_cons_succ]
      have G := G100.out W3 Fa La nx1 hFa hLa hRa hJ3
      (try simp only [List.setIfInBounds_toArray, List.set_cons_zero, List.set_cons_succ] at G)
      exact G
    refine AllReadyH.cons (o := ({ dst := some 7, op := Op.alloc 63, type := 0, pos := "auto.go:67", after := #[], guard := none } : Oper)) rfl (fun K hK => ?_) ?_
    · go_simp
      refine hK.out _ _ (HSJ.out _ _ _ _ HJ.out.alloc) (fun _ => ?_)
      clear hK K
      (try simp only [Act.put, List.setIfInBounds_toArray, List.set_cons_zero, List.set_cons_succ])
      have G := G010.out _ W.heap.size (HJ.out.alloc)
      (try simp only [List.setIfInBounds_toArray, List.set_cons_zero, List.set_cons_succ] at G)
      exact G
    refine AllReadyH.cons (o := ({ dst := some 8, op := Op.alloc 63, type := 0, pos := "auto.go:67", after := #[], guard := none } : Oper)) rfl (fun K hK => ?_) ?_
    · go_simp
      refine hK.out _ _ (HSJ.out _ _ _ _ HJ.out.alloc) (fun _ => ?_)
      clear hK K
      (try simp only [Act.put, List.setIfInBounds_toArray, List.set_cons_zero, List.set_cons_succ])
      have G := G001.out _ W.heap.size (HJ.out.alloc)
      (try simp only [List.setIfInBounds_toArray, List.set_cons_zero, List.set_cons_succ] at G)
      exact G
    exact AllReadyH.nil
  exact g000 _ HJ0.out.drew
theorem wf_open {d : Nat} {k : Int} {t : T} {L : List T} {K : List Pt} (h : (Pt.mk k t L K).wf d = true) : (K.length : Int) = Pt.kidsOf k ∧ Pt.txt k t L = true ∧ ∀ x ∈ K, x.wf (d + 1) = true := by
  simp only [Pt.wf, Bool.and_eq_true, decide_eq_true_eq] at h
  exact ⟨h.1.1.2, h.1.2, (Pt.wfs_all _ _).1 h.2⟩
/-- add lays out each path that may be. -/
theorem add_any (x : Pt) : ∀ d, x.wf d = true → AddOk x := by
  induction x using Pt.ind with
  | h k t L K ih =>
    intro d h
    obtain ⟨h1, h2, h3⟩ := wf_open h
    have hN : k ≠ 1 → k ≠ 8 → t = [] ∧ L = [] := fun n1 n8 => by
      simp only [Pt.txt, if_neg n1, if_neg n8, Bool.and_eq_true, List.isEmpty_iff] at h2
      exact h2
    unfold Pt.kidsOf at h1
    by_cases k1 : k = 1
    · subst k1
      rw [if_pos (Or.inl rfl)] at h1
      obtain rfl : K = [] := List.eq_nil_of_length_eq_zero (by omega)
      simp only [Pt.txt, if_pos, Bool.and_eq_true, List.isEmpty_iff] at h2
      obtain rfl := h2.1
      exact add_iri t
    · by_cases k8 : k = 8
      · subst k8
        rw [if_pos (Or.inr rfl)] at h1
        obtain rfl : K = [] := List.eq_nil_of_length_eq_zero (by omega)
        simp only [Pt.txt, if_neg (show ¬ (8 : Int) = 1 by omega), if_pos, Bool.and_eq_true, List.isEmpty_iff, decide_eq_true_eq] at h2
        obtain rfl := h2.1.1.1
        exact add_not L h2.1.2
      · obtain ⟨rfl, rfl⟩ := hN k1 k8
        rw [if_neg (by omega)] at h1
        by_cases k2 : k = 2 ∨ k = 5 ∨ k = 6 ∨ k = 7
        · rw [if_pos k2] at h1
          obtain ⟨x, rfl⟩ := List.length_eq_one_iff.1 (show K.length = 1 by omega)
          have IH := ih x (by simp) _ (h3 x (by simp))
          rcases k2 with rfl | rfl | rfl | rfl
          · exact add_back x IH
          · exact add_star x IH
          · exact add_plus x IH
          · exact add_maybe x IH
        · rw [if_neg k2] at h1
          by_cases k3 : k = 3 ∨ k = 4
          · rw [if_pos k3] at h1
            obtain ⟨x, y, rfl⟩ : ∃ x y, K = [x, y] := by
              match K, h1 with
              | [a, b], _ => exact ⟨a, b, rfl⟩
              | [], h => simp at h
              | [_], h => simp at h
              | _ :: _ :: _ :: _, h => simp at h; omega
            have IHx := ih x (by simp) _ (h3 x (by simp))
            have IHy := ih y (by simp) _ (h3 y (by simp))
            rcases k3 with rfl | rfl
            · intro W0 w v u bk
              cases bk
              · exact fun Y p lb cl nb cn lxs ls nx last => add_seq_false x y IHx IHy W0 w v u false Y p lb cl nb cn lxs ls nx last rfl
              · exact fun Y p lb cl nb cn lxs ls nx last => add_seq_true x y IHx IHy W0 w v u true Y p lb cl nb cn lxs ls nx last rfl
            · exact add_alt x y IHx IHy
          · rw [if_neg k3] at h1
            omega
end Go.Proofs.YtobcbaeoedpefaaDoor
