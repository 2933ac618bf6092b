/- auto's add: sequences, alternatives. -/
import Derived.Test.YtobcbaeoedpefaaDoorAuSeq
import Derived.Deep.RegionWith
namespace Go.Proofs.YtobcbaeoedpefaaDoor
set_option linter.unusedVariables false
set_option linter.unusedSimpArgs false
set_option maxRecDepth 100000
open Go.ChangeShapes Go.WideShapes Go.ChangeAt Go.RowKit
open Au
set_option maxHeartbeats 8000000 in
theorem add_seq_false (x y : Pt) (IHx : AddOk x) (IHy : AddOk y) : ∀ (W0 w : World) (v u : Value) (bk : Bool) (Y : Nat → Prop) (p lb cl nb cn : Nat) (lxs : List Value) (ls : List Lb) (nx : List Nat) (last : Nat), bk = false →
  PtAt W0 v u (.mk 3 [] [] [x, y]) → Below W0.heap.size W0 w → AuAt W0.heap.size Y w p lb cl nb cn lxs ls nx last → (∀ k, Y k → k < w.heap.size) → nx.length = ls.length → ls.length + ((Pt.mk 3 [] [] [x, y]).rx bk).n ≤ 32 → (∀ j, nx.getD j 0 < 2 ^ 32) →
    Calls Tryd.prog 29 #[.pointer (some ⟨p, 0, none⟩), pv (.mk 3 [] [] [x, y]) v u, .bool bk] w (AddPost W0.heap.size Y w p lb nb ls nx last ((Pt.mk 3 [] [] [x, y]).rx bk)) := by
  intro W0 w v u bk Y p lb cl nb cn lxs ls nx last hbk hP hB h hY hn h32 hx
  subst hbk
  have hrx : (Pt.mk 3 [] [] [x, y]).rx false = .seq (x.rx false) (y.rx false) := by rw [Pt.rx]; rfl
  rw [hrx] at h32 ⊢
  obtain ⟨_, _, hLt, hLl, ak, capk, bb, off, f, g, hgi, q1, q2, q3, q4, hrow, hkid⟩ := hP.open
  obtain ⟨ta, tc, hfi, t1, t2, t3, htr⟩ := hLt.open
  subst hfi
  rw [hgi]
  unfold pv
  simp only [Pt.kind, Pt.text, Pt.kids, Pt.texts, List.length_nil, List.length_cons, Nat.zero_add] at hLt hLl q1 q3 q4 hrow hkid t1 t3 htr hgi ⊢
  obtain ⟨w1, hw1⟩ : ∃ w1, w1 = (w.alloc (.cells #[.int .i64 3, .string ⟨#[]⟩, .slice ta 0 tc, .slice ak 2 capk] 25)).alloc (.cells #[.int .u32 0, .int .u32 0, .bool false] 63) := ⟨_, rfl⟩
  have hz1 : w1.heap.size = w.heap.size + 2 := by rw [hw1]; simp
  have hb1 : Below w.heap.size w w1 := by rw [hw1]; exact ((Below.refl _ _).alloc (Nat.le_refl _) _).alloc (by simp) _
  have hX : Blk w1 w.heap.size [.int .i64 3, .string ⟨#[]⟩, .slice ta 0 tc, .slice ak 2 capk] 25 := by rw [hw1]; exact (Blk.new w _ _).alloc _
  have hR : Blk w1 (w.heap.size + 1) [.int .u32 0, .int .u32 0, .bool false] 63 := by rw [hw1]; exact Blk.new' (by simp) rfl
  have h1 := ((h.more (Z := fun k => Y k ∨ k = w.heap.size ∨ k = w.heap.size + 1) (fun k e => e.elim Or.inl (fun e => Or.inr (by omega)))).keep hb1)
  have hY1 : ∀ k, (Y k ∨ k = w.heap.size ∨ k = w.heap.size + 1) → k < w1.heap.size := fun k e => by rcases e with e | e | e; (have := hY k e; omega); omega; omega
  have hBw : Below W0.heap.size W0 w1 := hB.trans (hb1.mono hB.size)
  obtain ⟨c0, c1, c2, c3⟩ := blk4 hX
  have hr4 := (hrow 0 (by simp)).keep hBw
  have hr5 := (hrow 1 (by simp)).keep hBw
  have hkp := hkid 0 (by simp)
  have hkq := hkid 1 (by simp)
  simp only [List.getElem_cons_zero, List.getElem_cons_succ, Nat.zero_mul, Nat.add_zero, Nat.one_mul] at hr4 hr5 hkp hkq
  obtain rfl := q4 (by omega)
  obtain ⟨ax, nxx, cx, ax', nxx', cx', hvx, hux⟩ := pv_open hkp
  obtain ⟨ay, nyy, cy, ay', nyy', cy', hvy, huy⟩ := pv_open hkq
  rw [hvx, hux] at hr4 hkp
  rw [hvy, huy] at hr5 hkq
  obtain ⟨z0, z1, z2, z3⟩ := hr4
  obtain ⟨y0, y1, y2, y3⟩ := hr5
  have C := hid fun W (hb : Below w1.heap.size w1 W) => seq_false x y IHx IHy W0 W _ _ _ _ _ p lb cl nb cn lxs ls nx last hkp hkq (hBw.trans (hb.mono hBw.size)) (h1.keep hb) (fun k e => Nat.lt_of_lt_of_le (hY1 k e) hb.size) hn h32 hx
  obtain ⟨em, hem⟩ : ∃ em, em = (.seq (x.rx false) (y.rx false) : Rx).emp := ⟨_, rfl⟩
  unfold SeqOk pv AddPost u32v at C
  rw [← hem] at C
  have HEM := hid hem
  have HB1 := hid hb1
  have H1 := hid h1
  have HR := hid hR
  have HXb := hid hX
  have HN := hid hn
  have HX := hid hx
  have HZ := hid hz1
  have H32 := hid h32
  have HY1 := hid hY1
  have HBw := hid hBw
  clear hem hkp hkq IHx IHy hvx hux hvy huy hz1 hb1 hX h1 hR hY1 h hY hn hx hP hB hLt hgi hrx hLl htr hrow hkid h32 hBw q1 t1 t3
  go_enter Tryd.func29, Tryd.ntmps29
  go_upto_region 1 with fail
  rw [← hw1]
  clear hw1
  go_upto_region 9 with fail
  refine wp_region_drawn_tail 10 (by kernel_rfl) (by kernel_rfl) ?_
  simp only [List.take_succ_cons, List.take_zero, List.drop_succ_cons, List.drop_zero]
  repeat (go_big_quiet_step (fail))
  refine wpQuiet_nil ?_
  rintro _ ⟨nq, rfl⟩
  obtain ⟨W, hW⟩ : ∃ W, W = w1.drewN nq := ⟨_, rfl⟩
  rw [← hW]
  have hb : Below w1.heap.size w1 W := by rw [hW]; exact below_drawn (Below.refl _ _) nq
  have C2 := hid (C.out W hb)
  have HBq := hid hb
  have HRq := HR.out.keep hb
  clear hW hb
  go_wp2_with (go_at_call 42; refine C2.out.mono ?_; rintro e w3 ⟨F, L, nx', rfl, hF, hL, hRo, hp⟩; have HP := hid (AuPost.from HBq.out hp (fun _ h => h)); have HF := hid hF; have HL := hid hL; have HRo := hid hRo; clear hF hL hRo hp; have hbl := AuPost.blk H1.out HP.out (Or.inr (Or.inr rfl)) HR.out; have r0 := hbl.cell (i := 0) rfl; have r1 := hbl.cell (i := 1) rfl; have r2 := hbl.cell (i := 2) rfl; have s0 := hbl.free 0; have s1 := hbl.free 1; have s2 := hbl.free 2; have HBL := hid hbl; clear hbl)
  have hz1 := HZ.out
  obtain ⟨e1, e2⟩ := add_end (Y := Y) HBL.out (Or.inr (Or.inr rfl)) HB1.out (Or.inr (by omega)) (fun k e => Or.inl e) HP.out (.int .u32 F) (.int .u32 L) (.bool em)
  refine bodyPost_ret (part_ret (s := 6) rfl e1 Tryd.results29) rfl ⟨F, L, nx', (by rw [← HEM.out]; rfl), HF.out, HL.out, HRo.out, e2⟩
set_option maxHeartbeats 8000000 in
theorem add_seq_true (x y : Pt) (IHx : AddOk x) (IHy : AddOk y) : ∀ (W0 w : World) (v u : Value) (bk : Bool) (Y : Nat → Prop) (p lb cl nb cn : Nat) (lxs : List Value) (ls : List Lb) (nx : List Nat) (last : Nat), bk = true →
  PtAt W0 v u (.mk 3 [] [] [x, y]) → Below W0.heap.size W0 w → AuAt W0.heap.size Y w p lb cl nb cn lxs ls nx last → (∀ k, Y k → k < w.heap.size) → nx.length = ls.length → ls.length + ((Pt.mk 3 [] [] [x, y]).rx bk).n ≤ 32 → (∀ j, nx.getD j 0 < 2 ^ 32) →
    Calls Tryd.prog 29 #[.pointer (some ⟨p, 0, none⟩), pv (.mk 3 [] [] [x, y]) v u, .bool bk] w (AddPost W0.heap.size Y w p lb nb ls nx last ((Pt.mk 3 [] [] [x, y]).rx bk)) := by
  intro W0 w v u bk Y p lb cl nb cn lxs ls nx last hbk hP hB h hY hn h32 hx
  subst hbk
  have hrx : (Pt.mk 3 [] [] [x, y]).rx true = .seq (y.rx true) (x.rx true) := by rw [Pt.rx]; rfl
  rw [hrx] at h32 ⊢
  obtain ⟨_, _, hLt, hLl, ak, capk, bb, off, f, g, hgi, q1, q2, q3, q4, hrow, hkid⟩ := hP.open
  obtain ⟨ta, tc, hfi, t1, t2, t3, htr⟩ := hLt.open
  subst hfi
  rw [hgi]
  unfold pv
  simp only [Pt.kind, Pt.text, Pt.kids, Pt.texts, List.length_nil, List.length_cons, Nat.zero_add] at hLt hLl q1 q3 q4 hrow hkid t1 t3 htr hgi ⊢
  obtain ⟨w1, hw1⟩ : ∃ w1, w1 = (w.alloc (.cells #[.int .i64 3, .string ⟨#[]⟩, .slice ta 0 tc, .slice ak 2 capk] 25)).alloc (.cells #[.int .u32 0, .int .u32 0, .bool false] 63) := ⟨_, rfl⟩
  have hz1 : w1.heap.size = w.heap.size + 2 := by rw [hw1]; simp
  have hb1 : Below w.heap.size w w1 := by rw [hw1]; exact ((Below.refl _ _).alloc (Nat.le_refl _) _).alloc (by simp) _
  have hX : Blk w1 w.heap.size [.int .i64 3, .string ⟨#[]⟩, .slice ta 0 tc, .slice ak 2 capk] 25 := by rw [hw1]; exact (Blk.new w _ _).alloc _
  have hR : Blk w1 (w.heap.size + 1) [.int .u32 0, .int .u32 0, .bool false] 63 := by rw [hw1]; exact Blk.new' (by simp) rfl
  have h1 := ((h.more (Z := fun k => Y k ∨ k = w.heap.size ∨ k = w.heap.size + 1) (fun k e => e.elim Or.inl (fun e => Or.inr (by omega)))).keep hb1)
  have hY1 : ∀ k, (Y k ∨ k = w.heap.size ∨ k = w.heap.size + 1) → k < w1.heap.size := fun k e => by rcases e with e | e | e; (have := hY k e; omega); omega; omega
  have hBw : Below W0.heap.size W0 w1 := hB.trans (hb1.mono hB.size)
  obtain ⟨c0, c1, c2, c3⟩ := blk4 hX
  have hr4 := (hrow 0 (by simp)).keep hBw
  have hr5 := (hrow 1 (by simp)).keep hBw
  have hkp := hkid 0 (by simp)
  have hkq := hkid 1 (by simp)
  simp only [List.getElem_cons_zero, List.getElem_cons_succ, Nat.zero_mul, Nat.add_zero, Nat.one_mul] at hr4 hr5 hkp hkq
  obtain rfl := q4 (by omega)
  obtain ⟨ax, nxx, cx, ax', nxx', cx', hvx, hux⟩ := pv_open hkp
  obtain ⟨ay, nyy, cy, ay', nyy', cy', hvy, huy⟩ := pv_open hkq
  rw [hvx, hux] at hr4 hkp
  rw [hvy, huy] at hr5 hkq
  obtain ⟨z0, z1, z2, z3⟩ := hr4
  obtain ⟨y0, y1, y2, y3⟩ := hr5
  have C := hid fun W (hb : Below w1.heap.size w1 W) => seq_true x y IHx IHy W0 W _ _ _ _ _ p lb cl nb cn lxs ls nx last hkp hkq (hBw.trans (hb.mono hBw.size)) (h1.keep hb) (fun k e => Nat.lt_of_lt_of_le (hY1 k e) hb.size) hn h32 hx
  obtain ⟨em, hem⟩ : ∃ em, em = (.seq (y.rx true) (x.rx true) : Rx).emp := ⟨_, rfl⟩
  unfold SeqOk pv AddPost u32v at C
  rw [← hem] at C
  have HEM := hid hem
  have HB1 := hid hb1
  have H1 := hid h1
  have HR := hid hR
  have HXb := hid hX
  have HN := hid hn
  have HX := hid hx
  have HZ := hid hz1
  have H32 := hid h32
  have HY1 := hid hY1
  have HBw := hid hBw
  clear hem hkp hkq IHx IHy hvx hux hvy huy hz1 hb1 hX h1 hR hY1 h hY hn hx hP hB hLt hgi hrx hLl htr hrow hkid h32 hBw q1 t1 t3
  go_enter Tryd.func29, Tryd.ntmps29
  go_upto_region 1 with fail
  rw [← hw1]
  clear hw1
  go_upto_region 9 with fail
  refine wp_region_drawn_tail 10 (by kernel_rfl) (by kernel_rfl) ?_
  simp only [List.take_succ_cons, List.take_zero, List.drop_succ_cons, List.drop_zero]
  repeat (go_big_quiet_step (fail))
  refine wpQuiet_nil ?_
  rintro _ ⟨nq, rfl⟩
  obtain ⟨W, hW⟩ : ∃ W, W = w1.drewN nq := ⟨_, rfl⟩
  rw [← hW]
  have hb : Below w1.heap.size w1 W := by rw [hW]; exact below_drawn (Below.refl _ _) nq
  have C2 := hid (C.out W hb)
  have HBq := hid hb
  have HRq := HR.out.keep hb
  clear hW hb
  go_wp2_with (go_at_call 42; refine C2.out.mono ?_; rintro e w3 ⟨F, L, nx', rfl, hF, hL, hRo, hp⟩; have HP := hid (AuPost.from HBq.out hp (fun _ h => h)); have HF := hid hF; have HL := hid hL; have HRo := hid hRo; clear hF hL hRo hp; have hbl := AuPost.blk H1.out HP.out (Or.inr (Or.inr rfl)) HR.out; have r0 := hbl.cell (i := 0) rfl; have r1 := hbl.cell (i := 1) rfl; have r2 := hbl.cell (i := 2) rfl; have s0 := hbl.free 0; have s1 := hbl.free 1; have s2 := hbl.free 2; have HBL := hid hbl; clear hbl)
  have hz1 := HZ.out
  obtain ⟨e1, e2⟩ := add_end (Y := Y) HBL.out (Or.inr (Or.inr rfl)) HB1.out (Or.inr (by omega)) (fun k e => Or.inl e) HP.out (.int .u32 F) (.int .u32 L) (.bool em)
  refine bodyPost_ret (part_ret (s := 6) rfl e1 Tryd.results29) rfl ⟨F, L, nx', (by rw [← HEM.out]; rfl), HF.out, HL.out, HRo.out, e2⟩
end Go.Proofs.YtobcbaeoedpefaaDoor
