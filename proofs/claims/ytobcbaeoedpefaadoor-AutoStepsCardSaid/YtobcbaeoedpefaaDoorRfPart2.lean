/- The document's automaton: sequences, alternatives; each path. -/
import Derived.Test.YtobcbaeoedpefaaDoorRfPart
namespace Go.Proofs.YtobcbaeoedpefaaDoor
set_option linter.unusedVariables false
set_option linter.unusedSimpArgs false
set_option maxRecDepth 100000
open Go.ChangeShapes Go.WideShapes Go.ChangeAt Go.RowKit
open Au
set_option maxHeartbeats 16000000 in
theorem part_alt (r s : Rx) (IHr : PartOk r) (IHs : PartOk s) : PartOk (.alt r s) := by
  intro B WB w Y p v u av lv lxs ls ps hP hH h hY hB h30 hln hps
  have htp : (Rx.alt r s).toPt = .mk 4 [] [] [r.toPt, s.toPt] := rfl
  rw [htp] at hP ⊢
  obtain ⟨_, _, hLt, hLl, ak, capk, bb, off, f, g, hgi, q1, q2, q3, q4, hrow, hkid⟩ := hP.open
  obtain ⟨a, c, hfi, _⟩ := hLt.open
  subst hfi
  rw [hgi]
  unfold pv
  simp only [Pt.kind, Pt.text, Pt.kids, Pt.texts, List.length_nil, List.length_cons, Nat.zero_add] at q1 q3 q4 hrow hkid hgi ⊢
  obtain rfl := q4 (by omega)
  obtain ⟨w1, hw1⟩ : ∃ w1, w1 = (w.alloc (.cells #[.int .i64 4, .string ⟨#[]⟩, .slice a 0 c, .slice (some ⟨bb, off, none⟩) 2 capk] 25)).alloc (.cells #[.bool false, .slice none 0 0, .slice none 0 0] 68) := ⟨_, rfl⟩
  have hz1 : w1.heap.size = w.heap.size + 2 := by rw [hw1]; simp
  have hb1 : Below w.heap.size w w1 := by rw [hw1]; exact ((Below.refl _ _).alloc (Nat.le_refl _) _).alloc (by simp) _
  have hX : Blk w1 w.heap.size [.int .i64 4, .string ⟨#[]⟩, .slice a 0 c, .slice (some ⟨bb, off, none⟩) 2 capk] 25 := by rw [hw1]; exact (Blk.new w _ _).alloc _
  have hR : Blk w1 (w.heap.size + 1) [.bool false, .slice none 0 0, .slice none 0 0] 68 := by rw [hw1]; exact Blk.new' (by simp) rfl
  have hm1 : ∀ k, (Y k ∨ k = w.heap.size + 1) → Y k ∨ w.heap.size ≤ k := fun k e => e.elim Or.inl (fun e => Or.inr (by omega))
  have h1 := (h.more hm1).keep hb1
  have hH1 := (hH.more hm1).stpd (Stpd.below p av lv hb1)
  have hY1 : ∀ k, (Y k ∨ k = w.heap.size + 1) → k < w1.heap.size := fun k e => by rcases e with e | e; (have := hY k e; omega); omega
  have hB1 : B ≤ w1.heap.size := by omega
  obtain ⟨c0, c1, c2, c3⟩ := blk4 hX
  obtain ⟨r0, r1, r2, f0, f1, f2⟩ := blk3v hR
  rw [Rx.n_alt] at h30 hln
  simp only [Rx.sz] at hps
  have hr := hH1.row4 (hrow 0 (by simp))
  have hk := hkid 0 (by simp)
  have hr' := hrow 1 (by simp)
  have hk' := hkid 1 (by simp)
  simp only [List.getElem_cons_zero, List.getElem_cons_succ, Nat.zero_mul, Nat.one_mul, Nat.add_zero] at hr hk hr' hk'
  obtain ⟨a1, n1, e1, a2, n2, e2, hv1, hu1⟩ := pv_open hk
  obtain ⟨a3, n3, e3, a4, n4, e4, hv2, hu2⟩ := pv_open hk'
  rw [hv1, hu1] at hr hk
  rw [hv2, hu2] at hr' hk'
  obtain ⟨z0, z1, z2, z3⟩ := hr
  have C := IHr B WB w1 _ p _ _ av lv lxs ls ps hk hH1 h1 hY1 hB1 (by omega) (by omega) (by omega)
  obtain ⟨ea, hea⟩ : ∃ ea, ea = r.emp := ⟨_, rfl⟩
  obtain ⟨eb, heb⟩ : ∃ eb, eb = s.emp := ⟨_, rfl⟩
  unfold PartPost pv at C
  rw [← hea] at C
  have C := hid C
  have HEA := hid hea
  have HEB := hid heb
  have HB1 := hid hb1
  have HR := hid hR
  have HX := hid hX
  have HML := hid h.mv_lt
  have HY1 := hid hY1
  have HB1' := hid hB1
  have HH1 := hid hH1
  have HK' := hid hk'
  have HRO' := hid hr'
  have HZ1 := hid hz1
  have hll : (ls ++ r.labs).length + 1 = ls.length + 1 + r.n := by rw [List.length_append]; show ls.length + r.n + 1 = _; omega
  have hpl := Rx.pairsL_len (N := 30) r (ls.length + 1) (by omega)
  have hpl2 := Rx.pairsL_len (N := 30) s (ls.length + 1 + r.n) (by omega)
  have HLN := hid (show (ls ++ r.labs).length + s.n ≤ 1000 ∧ (ps ++ r.pairsL (ls.length + 1)).length + s.sz * 900 ≤ 100000 from by rw [List.length_append]; constructor; (show ls.length + r.n + s.n ≤ 1000; omega); rw [List.length_append]; omega)
  have HPS := hid (show (ps ++ r.pairsL (ls.length + 1) ++ s.pairsL (ls.length + 1 + r.n)).length + (r.lastL (ls.length + 1)).length * (s.firstL (ls.length + 1 + r.n)).length ≤ 1000000 from by
    have e2 := Rx.lastL_len r (ls.length + 1)
    have e3 := Rx.firstL_len s (ls.length + 1 + r.n)
    have e4 : (r.lastL (ls.length + 1)).length * (s.firstL (ls.length + 1 + r.n)).length ≤ 30 * 30 := Nat.mul_le_mul (by omega) (by omega)
    rw [List.length_append, List.length_append]; omega)
  have HFLL := hid (show (r.firstL (ls.length + 1)).length + (s.firstL (ls.length + 1 + r.n)).length ≤ 1000 ∧ (r.lastL (ls.length + 1)).length + (s.lastL (ls.length + 1 + r.n)).length ≤ 1000 from by
    have e1 := Rx.firstL_len r (ls.length + 1)
    have e2 := Rx.lastL_len r (ls.length + 1)
    have e3 := Rx.firstL_len s (ls.length + 1 + r.n)
    have e4 := Rx.lastL_len s (ls.length + 1 + r.n)
    omega)
  have HLL := hid hll
  have H30 := hid h30
  have IHS := hid IHs
  clear hb1 hX hR hm1 h1 hH1 hY1 hB1 hP hH h hY htp hk hk' hr' hrow hkid hgi hLl hLt q1 q3 hv1 hu1 hv2 hu2 hea heb IHr IHs hps hpl hpl2 hz1 hll h30 hln
  cases ea <;> cases eb
  case false.false =>
    go_enter Tryd.func32, Tryd.ntmps32
    go_upto_region 1 with fail
    rw [← hw1]
    clear hw1
    go_wp2_with fail
    refine C.out.mono ?_
    rintro e w2 ⟨fv, lsv, av2, lv2, lxs2, rfl, hA, hS, hF, hL⟩
    obtain ⟨fa, fc, rfl, _⟩ := NsX.lenx hF
    obtain ⟨la, lc, rfl, _⟩ := NsX.lenx hL
    obtain ⟨FA, hFA⟩ : ∃ FA, FA = r.firstL (ls.length + 1) := ⟨_, rfl⟩
    obtain ⟨LA, hLA⟩ : ∃ LA, LA = r.lastL (ls.length + 1) := ⟨_, rfl⟩
    rw [← hFA] at hF ⊢
    rw [← hLA] at hL ⊢
    have HFA := hid hFA
    have HLA := hid hLA
    obtain ⟨w3, hw3⟩ : ∃ w3, w3 = w2.alloc (.cells #[.bool false, .slice fa FA.length fc, .slice la LA.length lc] 68) := ⟨_, rfl⟩
    have hb3 : Below w2.heap.size w2 w3 := by rw [hw3]; exact (Below.refl _ _).alloc (Nat.le_refl _) _
    have hN3 : Blk w3 w2.heap.size [.bool false, .slice fa FA.length fc, .slice la LA.length lc] 68 := by rw [hw3]; exact Blk.new w2 _ _
    have hR3 := (HR.out.frm hS.1 (fun e => by have := HML.out _ e; omega)).keep hb3
    have hX3 := (HX.out.frm hS.1 (fun e => by have := HML.out _ e; omega)).keep hb3
    have hA3 := hA.keep hb3
    have hSt1 := hS.trans (Stpd.below p av2 lv2 hb3)
    have hS3 := (Stpd.below p av lv HB1.out).trans hSt1
    have hF3 := Asd.stpd hF (Stpd.below p av2 lv2 hb3)
    have hL3 := Asd.stpd hL (Stpd.below p av2 lv2 hb3)
    have hY3 : ∀ k, (Y k ∨ k = w.heap.size + 1) → k < w3.heap.size := fun k e => by have := HY1.out k e; have := hS.1.size; have := hb3.size; omega
    have hnm : ¬ Mv NoY p av2 lv2 w2.heap.size := fun e => by have := hA.mv_lt _ e; omega
    have hH3 := HH1.out.stpd hSt1
    obtain ⟨y0, y1, y2, y3⟩ := hH3.row4 HRO'.out
    have C2 := IHS.out B WB w3 _ p _ _ av2 lv2 lxs2 _ _ HK'.out hH3 hA3 hY3 (by have := HB1'.out; have := hS.1.size; have := hb3.size; omega) (by have := H30.out; omega) HLN.out.1 HLN.out.2
    unfold PartPost pv at C2
    rw [← HEB.out, HLL.out] at C2
    have C2 := hid C2
    obtain ⟨c0, c1, c2, c3⟩ := blk4 hX3
    have hnot : w2.heap.size ≠ w.heap.size + 1 ∧ w.heap.size ≠ w.heap.size + 1 := by
      have := HY1.out (w.heap.size + 1) (Or.inr rfl); have := hS.1.size; omega
    have HNE := hid hnot
    have HMV3 := hid (show ¬ Mv NoY p av2 lv2 w2.heap.size ∧ ¬ Mv NoY p av2 lv2 w.heap.size ∧ ¬ Mv NoY p av2 lv2 (w.heap.size + 1) from ⟨hnm, fun e => by
      have := hS.2 _ (by have := HZ1.out; omega) e
      have := HML.out _ this
      omega, fun e => by
      have := hS.2 _ (by have := HZ1.out; omega) e
      have := HML.out _ this
      omega⟩)
    have HA3 := hid hA3
    have HS3 := hid hS3
    have HF3 := hid hF3
    have HL3 := hid hL3
    have HY3 := hid hY3
    have HR3 := hid hR3
    have HN3 := hid hN3
    have HX3 := hid hX3
    have HSB := hid (show B ≤ w3.heap.size from by have := HB1'.out; have := hS.1.size; have := hb3.size; omega)
    have HW2 := hid (show w2.heap.size < w3.heap.size from hN3.lt)
    clear hA hS hF hL hA3 hS3 hF3 hL3 hY3 hnm hR3 hN3 hX3 hFA hLA z0 z1 z2 z3 hSt1 hH3 hnot
    go_upto_region 8 with fail
    rw [← hw3]
    clear hw3 hb3
    go_wp2_with fail
    refine C2.out.mono ?_
    rintro e w4 ⟨gv, gsv, av4, lv4, lxs4, rfl, hA, hS, hF, hL⟩
    obtain ⟨ga, gc, rfl, _⟩ := NsX.lenx hF
    obtain ⟨ma, mc, rfl, _⟩ := NsX.lenx hL
    obtain ⟨FB, hFB⟩ : ∃ FB, FB = s.firstL (ls.length + 1 + r.n) := ⟨_, rfl⟩
    obtain ⟨LB, hLB⟩ : ∃ LB, LB = s.lastL (ls.length + 1 + r.n) := ⟨_, rfl⟩
    rw [← hFB] at hF ⊢
    rw [← hLB] at hL ⊢
    have HFB := hid hFB
    have HLB := hid hLB
    obtain ⟨w5, hw5⟩ : ∃ w5, w5 = w4.alloc (.cells #[.bool false, .slice ga FB.length gc, .slice ma LB.length mc] 68) := ⟨_, rfl⟩
    have hb5 : Below w4.heap.size w4 w5 := by rw [hw5]; exact (Below.refl _ _).alloc (Nat.le_refl _) _
    have hM5 : Blk w5 w4.heap.size [.bool false, .slice ga FB.length gc, .slice ma LB.length mc] 68 := by rw [hw5]; exact Blk.new w4 _ _
    have hN5 := (HN3.out.frm hS.1 HMV3.out.1).keep hb5
    have hX5 := (HX3.out.frm hS.1 HMV3.out.2.1).keep hb5
    have hR5 := (HR3.out.frm hS.1 HMV3.out.2.2).keep hb5
    have hSt2 := hS.trans (Stpd.below p av4 lv4 hb5)
    have hA5 := hA.keep hb5
    have hS5 := HS3.out.trans hSt2
    have hF5 := Asd.stpd HF3.out hSt2
    have hL5 := Asd.stpd HL3.out hSt2
    have hG5 := Asd.stpd hF (Stpd.below p av4 lv4 hb5)
    have hM5' := Asd.stpd hL (Stpd.below p av4 lv4 hb5)
    have hY5 : ∀ k, (Y k ∨ k = w.heap.size + 1) → k < w5.heap.size := fun k e => by have := HY3.out k e; have := hS.1.size; have := hb5.size; omega
    obtain ⟨c0, c1, c2, c3⟩ := blk4 hX5
    obtain ⟨n0, m1, m2, _, _, _⟩ := blk3v hN5
    obtain ⟨o0, o1, o2, _, _, _⟩ := blk3v hM5
    have hsz2 := hS.1.size
    have hlt4 : w4.heap.size < w5.heap.size := hM5.lt
    have HNO := hid (show ∀ b, b = w2.heap.size ∨ b = w.heap.size ∨ b = w.heap.size + 1 ∨ b = w4.heap.size → ¬ Mv NoY p av4 lv4 b from fun b hb e => by
      have hlt := hA.mv_lt _ e
      rcases hb with rfl | rfl | rfl | rfl
      · exact HMV3.out.1 (hS.2 _ HW2.out e)
      · exact HMV3.out.2.1 (hS.2 _ (by have := HW2.out; have := HB1.out.size; have := HR3.out.lt; omega) e)
      · exact HMV3.out.2.2 (hS.2 _ HR3.out.lt e)
      · omega)
    have HNE4 := hid (show w4.heap.size ≠ w.heap.size + 1 from by have := HR3.out.lt; omega)
    have HA5 := hid hA5
    have HS5 := hid hS5
    have HF5 := hid hF5
    have HL5 := hid hL5
    have HG5 := hid hG5
    have HM5' := hid hM5'
    have HY5 := hid hY5
    have HR5 := hid hR5
    have HN5 := hid hN5
    have HX5 := hid hX5
    have HM5 := hid hM5
    have HSB5 := hid (show B ≤ w5.heap.size from by have := HSB.out; omega)
    have hne := HNE.out.1
    have hne2 := HNE.out.2
    have hne4 := HNE4.out
    clear hA hS hF hL hA5 hS5 hF5 hL5 hG5 hM5' hY5 hR5 hN5 hX5 hM5 hFB hLB y0 y1 y2 y3 hSt2 hsz2 hlt4
    go_upto_region 15 with fail
    rw [← hw5]
    clear hw5 hb5
    have BF := hid fun W (hb : Below w5.heap.size w5 W) => both_any _ _ FA FB W (Asd.here (Asd.stpd HF5.out (Stpd.below p av4 lv4 hb))) (Asd.here (Asd.stpd HG5.out (Stpd.below p av4 lv4 hb))) (by rw [HFA.out, HFB.out]; have := HFLL.out.1; omega)
    have BL := hid fun W (hb : Below w5.heap.size w5 W) => both_any _ _ LA LB W (Asd.here (Asd.stpd HL5.out (Stpd.below p av4 lv4 hb))) (Asd.here (Asd.stpd HM5'.out (Stpd.below p av4 lv4 hb))) (by rw [HLA.out, HLB.out]; have := HFLL.out.2; omega)
    go_upto_region 16 with fail
    have HBD := hid (show Below w5.heap.size w5 w5.drew from below_drawn (Below.refl _ _) 1)
    refine wp_region_held_drew (S := fun w' => Blk w' w2.heap.size [.bool false, .slice fa FA.length fc, .slice la LA.length lc] 68 ∧ Blk w' w4.heap.size [.bool false, .slice ga FB.length gc, .slice ma LB.length mc] 68) (by kernel_rfl) ⟨HN5.out, HM5.out⟩ (fun hHeld => ?_)
    refine wpAnyH_take (i := 0) (oi := ({ dst := some 83, op := Op.fieldAddr 68 (Operand.tmp 8) 0, type := 0, pos := "auto.go:87", after := #[], guard := none } : Oper)) (v := ?_) rfl (by kernel_rfl) (by kernel_rfl) (by kernel_rfl) (fun _ _ _ h => h) (Or.inl ⟨by rfl, ?_⟩) hHeld ?_
    rotate_left 1
    · intro w9 hw9; (try (obtain ⟨k8, k9⟩ := hw9; obtain ⟨g0, g1, g2, _, _, _⟩ := blk3v k8; obtain ⟨h0, h1, h2, _, _, _⟩ := blk3v k9)); go_simp; try with_reducible rfl
    simp only [Act.put, List.setIfInBounds_toArray, List.set_cons_zero, List.set_cons_succ]
    refine wpAnyH_take (i := 1) (oi := ({ dst := some 84, op := Op.load 4 (Operand.tmp 83), type := 4, pos := "auto.go:87", after := #[{ on := 0, ground := Ground.data }], guard := none } : Oper)) (v := ?_) rfl (by kernel_rfl) (by kernel_rfl) (by kernel_rfl) (fun _ _ _ h => h) (Or.inl ⟨by rfl, ?_⟩) hHeld ?_
    rotate_left 1
    · intro w9 hw9; (try (obtain ⟨k8, k9⟩ := hw9; obtain ⟨g0, g1, g2, _, _, _⟩ := blk3v k8; obtain ⟨h0, h1, h2, _, _, _⟩ := blk3v k9)); go_simp; try with_reducible rfl
    simp only [Act.put, List.setIfInBounds_toArray, List.set_cons_zero, List.set_cons_succ]
    refine wpAnyH_take (i := 2) (oi := ({ dst := some 85, op := Op.move (Operand.tmp 84), type := 4, pos := "auto.go:87", after := #[{ on := 1, ground := Ground.data }], guard := none } : Oper)) (v := ?_) rfl (by kernel_rfl) (by kernel_rfl) (by kernel_rfl) (fun _ _ _ h => h) (Or.inl ⟨by rfl, ?_⟩) hHeld ?_
    rotate_left 1
    · intro w9 hw9; (try (obtain ⟨k8, k9⟩ := hw9; obtain ⟨g0, g1, g2, _, _, _⟩ := blk3v k8; obtain ⟨h0, h1, h2, _, _, _⟩ := blk3v k9)); go_simp; try with_reducible rfl
    simp only [Act.put, List.setIfInBounds_toArray, List.set_cons_zero, List.set_cons_succ]
    refine wpAnyH_take (i := 3) (oi := ({ dst := some 86, op := Op.fieldAddr 68 (Operand.tmp 9) 0, type := 0, pos := "auto.go:87", after := #[{ on := 2, ground := Ground.guard }], guard := some (2, false) } : Oper)) (v := ?_) rfl (by kernel_rfl) (by kernel_rfl) (by kernel_rfl) (fun _ _ _ h => h) (Or.inl ⟨by rfl, ?_⟩) hHeld ?_
    rotate_left 1
    · intro w9 hw9; (try (obtain ⟨k8, k9⟩ := hw9; obtain ⟨g0, g1, g2, _, _, _⟩ := blk3v k8; obtain ⟨h0, h1, h2, _, _, _⟩ := blk3v k9)); go_simp; try with_reducible rfl
    simp only [Act.put, List.setIfInBounds_toArray, List.set_cons_zero, List.set_cons_succ]
    refine wpAnyH_take (i := 4) (oi := ({ dst := some 87, op := Op.load 4 (Operand.tmp 86), type := 4, pos := "auto.go:87", after := #[{ on := 3, ground := Ground.data }, { on := 2, ground := Ground.guard }], guard := some (2, false) } : Oper)) (v := ?_) rfl (by kernel_rfl) (by kernel_rfl) (by kernel_rfl) (fun _ _ _ h => h) (Or.inl ⟨by rfl, ?_⟩) hHeld ?_
    rotate_left 1
    · intro w9 hw9; (try (obtain ⟨k8, k9⟩ := hw9; obtain ⟨g0, g1, g2, _, _, _⟩ := blk3v k8; obtain ⟨h0, h1, h2, _, _, _⟩ := blk3v k9)); go_simp; try with_reducible rfl
    simp only [Act.put, List.setIfInBounds_toArray, List.set_cons_zero, List.set_cons_succ]
    refine wpAnyH_take (i := 5) (oi := ({ dst := some 88, op := Op.pick (Operand.tmp 85) (Operand.const (Value.bool true)) (Operand.tmp 87), type := 4, pos := "auto.go:87", after := #[{ on := 2, ground := Ground.data }, { on := 4, ground := Ground.data }], guard := none } : Oper)) (v := ?_) rfl (by kernel_rfl) (by kernel_rfl) (by kernel_rfl) (fun _ _ _ h => h) (Or.inl ⟨by rfl, ?_⟩) hHeld ?_
    rotate_left 1
    · intro w9 hw9; (try (obtain ⟨k8, k9⟩ := hw9; obtain ⟨g0, g1, g2, _, _, _⟩ := blk3v k8; obtain ⟨h0, h1, h2, _, _, _⟩ := blk3v k9)); go_simp; try with_reducible rfl
    simp only [Act.put, List.setIfInBounds_toArray, List.set_cons_zero, List.set_cons_succ]
    refine wpAnyH_take (i := 6) (oi := ({ dst := some 89, op := Op.fieldAddr 68 (Operand.tmp 8) 1, type := 0, pos := "auto.go:87", after := #[], guard := none } : Oper)) (v := ?_) rfl (by kernel_rfl) (by kernel_rfl) (by kernel_rfl) (fun _ _ _ h => h) (Or.inl ⟨by rfl, ?_⟩) hHeld ?_
    rotate_left 1
    · intro w9 hw9; (try (obtain ⟨k8, k9⟩ := hw9; obtain ⟨g0, g1, g2, _, _, _⟩ := blk3v k8; obtain ⟨h0, h1, h2, _, _, _⟩ := blk3v k9)); go_simp; try with_reducible rfl
    simp only [Act.put, List.setIfInBounds_toArray, List.set_cons_zero, List.set_cons_succ]
    refine wpAnyH_take (i := 7) (oi := ({ dst := some 90, op := Op.load 66 (Operand.tmp 89), type := 66, pos := "auto.go:87", after := #[{ on := 6, ground := Ground.data }], guard := none } : Oper)) (v := ?_) rfl (by kernel_rfl) (by kernel_rfl) (by kernel_rfl) (fun _ _ _ h => h) (Or.inl ⟨by rfl, ?_⟩) hHeld ?_
    rotate_left 1
    · intro w9 hw9; (try (obtain ⟨k8, k9⟩ := hw9; obtain ⟨g0, g1, g2, _, _, _⟩ := blk3v k8; obtain ⟨h0, h1, h2, _, _, _⟩ := blk3v k9)); go_simp; try with_reducible rfl
    simp only [Act.put, List.setIfInBounds_toArray, List.set_cons_zero, List.set_cons_succ]
    refine wpAnyH_take (i := 8) (oi := ({ dst := some 91, op := Op.fieldAddr 68 (Operand.tmp 9) 1, type := 0, pos := "auto.go:87", after := #[], guard := none } : Oper)) (v := ?_) rfl (by kernel_rfl) (by kernel_rfl) (by kernel_rfl) (fun _ _ _ h => h) (Or.inl ⟨by rfl, ?_⟩) hHeld ?_
    rotate_left 1
    · intro w9 hw9; (try (obtain ⟨k8, k9⟩ := hw9; obtain ⟨g0, g1, g2, _, _, _⟩ := blk3v k8; obtain ⟨h0, h1, h2, _, _, _⟩ := blk3v k9)); go_simp; try with_reducible rfl
    simp only [Act.put, List.setIfInBounds_toArray, List.set_cons_zero, List.set_cons_succ]
    refine wpAnyH_take (i := 9) (oi := ({ dst := some 92, op := Op.load 66 (Operand.tmp 91), type := 66, pos := "auto.go:87", after := #[{ on := 8, ground := Ground.data }], guard := none } : Oper)) (v := ?_) rfl (by kernel_rfl) (by kernel_rfl) (by kernel_rfl) (fun _ _ _ h => h) (Or.inl ⟨by rfl, ?_⟩) hHeld ?_
    rotate_left 1
    · intro w9 hw9; (try (obtain ⟨k8, k9⟩ := hw9; obtain ⟨g0, g1, g2, _, _, _⟩ := blk3v k8; obtain ⟨h0, h1, h2, _, _, _⟩ := blk3v k9)); go_simp; try with_reducible rfl
    simp only [Act.put, List.setIfInBounds_toArray, List.set_cons_zero, List.set_cons_succ]
    refine wpAnyH_take (i := 11) (oi := ({ dst := some 94, op := Op.fieldAddr 68 (Operand.tmp 8) 2, type := 0, pos := "auto.go:87", after := #[], guard := none } : Oper)) (v := ?_) rfl (by kernel_rfl) (by kernel_rfl) (by kernel_rfl) (fun _ _ _ h => h) (Or.inl ⟨by rfl, ?_⟩) hHeld ?_
    rotate_left 1
    · intro w9 hw9; (try (obtain ⟨k8, k9⟩ := hw9; obtain ⟨g0, g1, g2, _, _, _⟩ := blk3v k8; obtain ⟨h0, h1, h2, _, _, _⟩ := blk3v k9)); go_simp; try with_reducible rfl
    simp only [Act.put, List.setIfInBounds_toArray, List.set_cons_zero, List.set_cons_succ]
    refine wpAnyH_take (i := 12) (oi := ({ dst := some 95, op := Op.load 66 (Operand.tmp 94), type := 66, pos := "auto.go:87", after := #[{ on := 11, ground := Ground.data }], guard := none } : Oper)) (v := ?_) rfl (by kernel_rfl) (by kernel_rfl) (by kernel_rfl) (fun _ _ _ h => h) (Or.inl ⟨by rfl, ?_⟩) hHeld ?_
    rotate_left 1
    · intro w9 hw9; (try (obtain ⟨k8, k9⟩ := hw9; obtain ⟨g0, g1, g2, _, _, _⟩ := blk3v k8; obtain ⟨h0, h1, h2, _, _, _⟩ := blk3v k9)); go_simp; try with_reducible rfl
    simp only [Act.put, List.setIfInBounds_toArray, List.set_cons_zero, List.set_cons_succ]
    refine wpAnyH_take (i := 13) (oi := ({ dst := some 96, op := Op.fieldAddr 68 (Operand.tmp 9) 2, type := 0, pos := "auto.go:87", after := #[], guard := none } : Oper)) (v := ?_) rfl (by kernel_rfl) (by kernel_rfl) (by kernel_rfl) (fun _ _ _ h => h) (Or.inl ⟨by rfl, ?_⟩) hHeld ?_
    rotate_left 1
    · intro w9 hw9; (try (obtain ⟨k8, k9⟩ := hw9; obtain ⟨g0, g1, g2, _, _, _⟩ := blk3v k8; obtain ⟨h0, h1, h2, _, _, _⟩ := blk3v k9)); go_simp; try with_reducible rfl
    simp only [Act.put, List.setIfInBounds_toArray, List.set_cons_zero, List.set_cons_succ]
    refine wpAnyH_take (i := 14) (oi := ({ dst := some 97, op := Op.load 66 (Operand.tmp 96), type := 66, pos := "auto.go:87", after := #[{ on := 13, ground := Ground.data }], guard := none } : Oper)) (v := ?_) rfl (by kernel_rfl) (by kernel_rfl) (by kernel_rfl) (fun _ _ _ h => h) (Or.inl ⟨by rfl, ?_⟩) hHeld ?_
    rotate_left 1
    · intro w9 hw9; (try (obtain ⟨k8, k9⟩ := hw9; obtain ⟨g0, g1, g2, _, _, _⟩ := blk3v k8; obtain ⟨h0, h1, h2, _, _, _⟩ := blk3v k9)); go_simp; try with_reducible rfl
    simp only [Act.put, List.setIfInBounds_toArray, List.set_cons_zero, List.set_cons_succ]
    refine wpAnyH_take (i := 17) (oi := ({ dst := some 100, op := Op.move (Operand.tmp 2), type := 69, pos := "auto.go:87", after := #[{ on := 18, ground := Ground.gcOnly Departure.lateStores }], guard := none } : Oper)) (v := ?_) rfl (by kernel_rfl) (by kernel_rfl) (by kernel_rfl) (fun _ _ _ h => h) (Or.inl ⟨by rfl, ?_⟩) hHeld ?_
    rotate_left 1
    · intro w9 hw9; (try (obtain ⟨k8, k9⟩ := hw9; obtain ⟨g0, g1, g2, _, _, _⟩ := blk3v k8; obtain ⟨h0, h1, h2, _, _, _⟩ := blk3v k9)); go_simp; try with_reducible rfl
    simp only [Act.put, List.setIfInBounds_toArray, List.set_cons_zero, List.set_cons_succ]
    refine wpAnyH_ready (rs := [10]) (by kernel_rfl) (by simp) ?_
    refine AllReadyH.cons (o := ({ dst := some 93, op := Op.call { callee := Callee.value (Operand.func 46), args := #[Operand.tmp 90, Operand.tmp 92], argTypes := #[66, 66] }, type := 66, pos := "auto.go:87", after := #[{ on := 7, ground := Ground.data }, { on := 9, ground := Ground.data }, { on := 2, ground := Ground.chain }], guard := none } : Oper)) rfl (fun K hK => ?_) AllReadyH.nil
    go_simp
    go_at_call 46
    refine (BF.out _ HBD.out).mono ?_
    rintro e w6 ⟨⟨v6, rfl, hO6⟩, hb6⟩
    have HB6 := hid (below_then (show Below w5.heap.size w5 w5.drew from HBD.out) hb6)
    have hml := HA5.out.mv_lt
    have hQ6 : NsX (Mv (fun k => Y k ∨ k = w.heap.size + 1) p av4 lv4) w6 v6 (FA ++ FB) := own_nsx hO6 (fun k e x => by
      have h1 := (hO6.lt k e).1
      have h2 : w5.drew.heap.size = w5.heap.size := rfl
      rcases x with x | x | x | x
      · have := hml k (Or.inl x); omega
      · have := hml k (Or.inr (Or.inl x)); omega
      · have := hml k (Or.inr (Or.inr (Or.inl x))); omega
      · have := HY5.out k x; omega)
    obtain ⟨FF, hFF⟩ : ∃ FF, FF = FA ++ FB := ⟨_, rfl⟩
    rw [← hFF] at hQ6
    have HFF := hid hFF
    obtain ⟨qa, qc, rfl, _⟩ := NsX.lenx hQ6
    have HQ6 := hid hQ6
    have HN6 := hid (HN5.out.keep HB6.out)
    have HM6 := hid (HM5.out.keep HB6.out)
    clear hO6 hb6 hml hQ6 hFF
    refine hK.out _ _ (⟨HN6.out, HM6.out⟩) (fun hHeld => ?_)
    clear hK K
    (try simp only [Act.put, List.setIfInBounds_toArray, List.set_cons_zero, List.set_cons_succ])
    refine wpAnyH_ready (rs := [15]) (by kernel_rfl) (by simp) ?_
    refine AllReadyH.cons (o := ({ dst := some 98, op := Op.call { callee := Callee.value (Operand.func 46), args := #[Operand.tmp 95, Operand.tmp 97], argTypes := #[66, 66] }, type := 66, pos := "auto.go:87", after := #[{ on := 12, ground := Ground.data }, { on := 14, ground := Ground.data }, { on := 10, ground := Ground.chain }], guard := none } : Oper)) rfl (fun K hK => ?_) AllReadyH.nil
    go_simp
    go_at_call 46
    refine (BL.out _ HB6.out).mono ?_
    rintro e w7 ⟨⟨v7, rfl, hO7⟩, hb7⟩
    have HB7 := hid (below_then HB6.out hb7)
    have hml := HA5.out.mv_lt
    have hQ7 : NsX (Mv (fun k => Y k ∨ k = w.heap.size + 1) p av4 lv4) w7 v7 (LA ++ LB) := own_nsx hO7 (fun k e x => by
      have h1 := (hO7.lt k e).1
      have h2 := HB6.out.size
      rcases x with x | x | x | x
      · have := hml k (Or.inl x); omega
      · have := hml k (Or.inr (Or.inl x)); omega
      · have := hml k (Or.inr (Or.inr (Or.inl x))); omega
      · have := HY5.out k x; omega)
    obtain ⟨LF, hLF⟩ : ∃ LF, LF = LA ++ LB := ⟨_, rfl⟩
    rw [← hLF] at hQ7
    have HLF := hid hLF
    obtain ⟨ra, rc, rfl, _⟩ := NsX.lenx hQ7
    have HQ2 := hid hQ7
    have HQ1 := hid (Asd.stpd HQ6.out (Stpd.below p av4 lv4 hb7))
    have HN7 := hid (HN5.out.keep HB7.out)
    have HM7 := hid (HM5.out.keep HB7.out)
    obtain ⟨r0, r1, r2, f0, f1, f2⟩ := blk3v (HR5.out.keep HB7.out)
    clear hO7 hb7 hml hQ7 hLF
    refine hK.out _ _ (⟨HN7.out, HM7.out⟩) (fun hHeld => ?_)
    clear hK K
    (try simp only [Act.put, List.setIfInBounds_toArray, List.set_cons_zero, List.set_cons_succ])
    refine wpAnyH_take (i := 16) (oi := ({ dst := some 99, op := Op.build 68 #[(0, Operand.tmp 88), (1, Operand.tmp 93), (2, Operand.tmp 98)], type := 68, pos := "auto.go:87", after := #[{ on := 5, ground := Ground.data }, { on := 10, ground := Ground.data }, { on := 15, ground := Ground.data }], guard := none } : Oper)) (v := ?_) rfl (by kernel_rfl) (by kernel_rfl) (by kernel_rfl) (fun _ _ _ h => h) (Or.inl ⟨by rfl, ?_⟩) hHeld ?_
    rotate_left 1
    · intro w9 hw9; (try (obtain ⟨k8, k9⟩ := hw9; obtain ⟨g0, g1, g2, _, _, _⟩ := blk3v k8; obtain ⟨h0, h1, h2, _, _, _⟩ := blk3v k9)); go_simp; try with_reducible rfl
    simp only [Act.put, List.setIfInBounds_toArray, List.set_cons_zero, List.set_cons_succ]
    refine wpAnyH_ready (rs := [18]) (by kernel_rfl) (by simp) ?_
    refine AllReadyH.cons (o := ({ dst := none, op := Op.store 68 (Operand.tmp 6) (Operand.tmp 99), type := 0, pos := "auto.go:87", after := #[{ on := 16, ground := Ground.data }, { on := 15, ground := Ground.chain }, { on := 0, ground := Ground.phase }, { on := 1, ground := Ground.phase }, { on := 2, ground := Ground.phase }, { on := 3, ground := Ground.phase }, { on := 4, ground := Ground.phase }, { on := 5, ground := Ground.phase }, { on := 6, ground := Ground.phase }, { on := 7, ground := Ground.phase }, { on := 8, ground := Ground.phase }, { on := 9, ground := Ground.phase }, { on := 10, ground := Ground.phase }, { on := 11, ground := Ground.phase }, { on := 12, ground := Ground.phase }, { on := 13, ground := Ground.phase }, { on := 14, ground := Ground.phase }, { on := 15, ground := Ground.phase }, { on := 16, ground := Ground.phase }, { on := 17, ground := Ground.textOnly Departure.lateStores }], guard := none } : Oper)) rfl (fun K hK => ?_) AllReadyH.nil
    go_simp
    refine hK.out _ _ (⟨HN7.out.other3 hne _ _ _, HM7.out.other3 hne4 _ _ _⟩) (fun hHeld => ?_)
    clear hK K
    (try simp only [Act.put, List.setIfInBounds_toArray, List.set_cons_zero, List.set_cons_succ])
    refine wpAnyH_take (i := 19) (oi := ({ dst := some 7, op := Op.assign (Operand.tmp 100), type := 69, pos := "auto.go:87", after := #[{ on := 17, ground := Ground.data }, { on := 18, ground := Ground.chain }, { on := 0, ground := Ground.phase }, { on := 1, ground := Ground.phase }, { on := 2, ground := Ground.phase }, { on := 3, ground := Ground.phase }, { on := 4, ground := Ground.phase }, { on := 5, ground := Ground.phase }, { on := 6, ground := Ground.phase }, { on := 7, ground := Ground.phase }, { on := 8, ground := Ground.phase }, { on := 9, ground := Ground.phase }, { on := 10, ground := Ground.phase }, { on := 11, ground := Ground.phase }, { on := 12, ground := Ground.phase }, { on := 13, ground := Ground.phase }, { on := 14, ground := Ground.phase }, { on := 15, ground := Ground.phase }, { on := 16, ground := Ground.phase }, { on := 17, ground := Ground.phase }, { on := 18, ground := Ground.phase }], guard := none } : Oper)) (v := ?_) rfl (by kernel_rfl) (by kernel_rfl) (by kernel_rfl) (fun _ _ _ h => h) (Or.inl ⟨by rfl, ?_⟩) hHeld ?_
    rotate_left 1
    · intro w9 hw9; (try (obtain ⟨k8, k9⟩ := hw9; obtain ⟨g0, g1, g2, _, _, _⟩ := blk3v k8; obtain ⟨h0, h1, h2, _, _, _⟩ := blk3v k9)); go_simp; try with_reducible rfl
    simp only [Act.put, List.setIfInBounds_toArray, List.set_cons_zero, List.set_cons_succ]
    refine wpAnyH_done (by kernel_rfl) ?_ _
    have hst := Stpd.below p av4 lv4 HB7.out
    obtain ⟨e1, e2, e3, e4, e5⟩ := part_end (Y := Y) (e := false) (Nat.le_succ w.heap.size) (HA5.out.keep HB7.out) (HS5.out.trans hst) HQ1.out HQ2.out (HR5.out.keep HB7.out)
    have HE1 := hid e1
    have HE2 := hid e2
    have HE3 := hid e3
    have HE4 := hid e4
    have HE5 := hid e5
    clear hst e1 e2 e3 e4 e5
    go_wp2
    refine bodyPost_ret (tup_ret (s := 6) (s2 := 7) rfl HE1.out Tryd.results32) rfl ⟨_, _, _, _, _, (by show _ = Ending.returned (.tuple #[.agg #[.bool (r.emp || s.emp), _, _], _]); rw [← HEA.out, ← HEB.out]; rfl), (by simpa [Rx.pairsL, Rx.labs, List.append_assoc] using HE2.out), HE3.out, (by rw [show (Rx.alt r s).firstL (ls.length + 1) = FF by rw [HFF.out, HFA.out, HFB.out]; rfl]; exact HE4.out), (by rw [show (Rx.alt r s).lastL (ls.length + 1) = LF by rw [HLF.out, HLA.out, HLB.out]; rfl]; exact HE5.out)⟩
  case false.true =>
    go_enter Tryd.func32, Tryd.ntmps32
    go_upto_region 1 with fail
    rw [← hw1]
    clear hw1
    go_wp2_with fail
    refine C.out.mono ?_
    rintro e w2 ⟨fv, lsv, av2, lv2, lxs2, rfl, hA, hS, hF, hL⟩
    obtain ⟨fa, fc, rfl, _⟩ := NsX.lenx hF
    obtain ⟨la, lc, rfl, _⟩ := NsX.lenx hL
    obtain ⟨FA, hFA⟩ : ∃ FA, FA = r.firstL (ls.length + 1) := ⟨_, rfl⟩
    obtain ⟨LA, hLA⟩ : ∃ LA, LA = r.lastL (ls.length + 1) := ⟨_, rfl⟩
    rw [← hFA] at hF ⊢
    rw [← hLA] at hL ⊢
    have HFA := hid hFA
    have HLA := hid hLA
    obtain ⟨w3, hw3⟩ : ∃ w3, w3 = w2.alloc (.cells #[.bool false, .slice fa FA.length fc, .slice la LA.length lc] 68) := ⟨_, rfl⟩
    have hb3 : Below w2.heap.size w2 w3 := by rw [hw3]; exact (Below.refl _ _).alloc (Nat.le_refl _) _
    have hN3 : Blk w3 w2.heap.size [.bool false, .slice fa FA.length fc, .slice la LA.length lc] 68 := by rw [hw3]; exact Blk.new w2 _ _
    have hR3 := (HR.out.frm hS.1 (fun e => by have := HML.out _ e; omega)).keep hb3
    have hX3 := (HX.out.frm hS.1 (fun e => by have := HML.out _ e; omega)).keep hb3
    have hA3 := hA.keep hb3
    have hSt1 := hS.trans (Stpd.below p av2 lv2 hb3)
    have hS3 := (Stpd.below p av lv HB1.out).trans hSt1
    have hF3 := Asd.stpd hF (Stpd.below p av2 lv2 hb3)
    have hL3 := Asd.stpd hL (Stpd.below p av2 lv2 hb3)
    have hY3 : ∀ k, (Y k ∨ k = w.heap.size + 1) → k < w3.heap.size := fun k e => by have := HY1.out k e; have := hS.1.size; have := hb3.size; omega
    have hnm : ¬ Mv NoY p av2 lv2 w2.heap.size := fun e => by have := hA.mv_lt _ e; omega
    have hH3 := HH1.out.stpd hSt1
    obtain ⟨y0, y1, y2, y3⟩ := hH3.row4 HRO'.out
    have C2 := IHS.out B WB w3 _ p _ _ av2 lv2 lxs2 _ _ HK'.out hH3 hA3 hY3 (by have := HB1'.out; have := hS.1.size; have := hb3.size; omega) (by have := H30.out; omega) HLN.out.1 HLN.out.2
    unfold PartPost pv at C2
    rw [← HEB.out, HLL.out] at C2
    have C2 := hid C2
    obtain ⟨c0, c1, c2, c3⟩ := blk4 hX3
    have hnot : w2.heap.size ≠ w.heap.size + 1 ∧ w.heap.size ≠ w.heap.size + 1 := by
      have := HY1.out (w.heap.size + 1) (Or.inr rfl); have := hS.1.size; omega
    have HNE := hid hnot
    have HMV3 := hid (show ¬ Mv NoY p av2 lv2 w2.heap.size ∧ ¬ Mv NoY p av2 lv2 w.heap.size ∧ ¬ Mv NoY p av2 lv2 (w.heap.size + 1) from ⟨hnm, fun e => by
      have := hS.2 _ (by have := HZ1.out; omega) e
      have := HML.out _ this
      omega, fun e => by
      have := hS.2 _ (by have := HZ1.out; omega) e
      have := HML.out _ this
      omega⟩)
    have HA3 := hid hA3
    have HS3 := hid hS3
    have HF3 := hid hF3
    have HL3 := hid hL3
    have HY3 := hid hY3
    have HR3 := hid hR3
    have HN3 := hid hN3
    have HX3 := hid hX3
    have HSB := hid (show B ≤ w3.heap.size from by have := HB1'.out; have := hS.1.size; have := hb3.size; omega)
    have HW2 := hid (show w2.heap.size < w3.heap.size from hN3.lt)
    clear hA hS hF hL hA3 hS3 hF3 hL3 hY3 hnm hR3 hN3 hX3 hFA hLA z0 z1 z2 z3 hSt1 hH3 hnot
    go_upto_region 8 with fail
    rw [← hw3]
    clear hw3 hb3
    go_wp2_with fail
    refine C2.out.mono ?_
    rintro e w4 ⟨gv, gsv, av4, lv4, lxs4, rfl, hA, hS, hF, hL⟩
    obtain ⟨ga, gc, rfl, _⟩ := NsX.lenx hF
    obtain ⟨ma, mc, rfl, _⟩ := NsX.lenx hL
    obtain ⟨FB, hFB⟩ : ∃ FB, FB = s.firstL (ls.length + 1 + r.n) := ⟨_, rfl⟩
    obtain ⟨LB, hLB⟩ : ∃ LB, LB = s.lastL (ls.length + 1 + r.n) := ⟨_, rfl⟩
    rw [← hFB] at hF ⊢
    rw [← hLB] at hL ⊢
    have HFB := hid hFB
    have HLB := hid hLB
    obtain ⟨w5, hw5⟩ : ∃ w5, w5 = w4.alloc (.cells #[.bool true, .slice ga FB.length gc, .slice ma LB.length mc] 68) := ⟨_, rfl⟩
    have hb5 : Below w4.heap.size w4 w5 := by rw [hw5]; exact (Below.refl _ _).alloc (Nat.le_refl _) _
    have hM5 : Blk w5 w4.heap.size [.bool true, .slice ga FB.length gc, .slice ma LB.length mc] 68 := by rw [hw5]; exact Blk.new w4 _ _
    have hN5 := (HN3.out.frm hS.1 HMV3.out.1).keep hb5
    have hX5 := (HX3.out.frm hS.1 HMV3.out.2.1).keep hb5
    have hR5 := (HR3.out.frm hS.1 HMV3.out.2.2).keep hb5
    have hSt2 := hS.trans (Stpd.below p av4 lv4 hb5)
    have hA5 := hA.keep hb5
    have hS5 := HS3.out.trans hSt2
    have hF5 := Asd.stpd HF3.out hSt2
    have hL5 := Asd.stpd HL3.out hSt2
    have hG5 := Asd.stpd hF (Stpd.below p av4 lv4 hb5)
    have hM5' := Asd.stpd hL (Stpd.below p av4 lv4 hb5)
    have hY5 : ∀ k, (Y k ∨ k = w.heap.size + 1) → k < w5.heap.size := fun k e => by have := HY3.out k e; have := hS.1.size; have := hb5.size; omega
    obtain ⟨c0, c1, c2, c3⟩ := blk4 hX5
    obtain ⟨n0, m1, m2, _, _, _⟩ := blk3v hN5
    obtain ⟨o0, o1, o2, _, _, _⟩ := blk3v hM5
    have hsz2 := hS.1.size
    have hlt4 : w4.heap.size < w5.heap.size := hM5.lt
    have HNO := hid (show ∀ b, b = w2.heap.size ∨ b = w.heap.size ∨ b = w.heap.size + 1 ∨ b = w4.heap.size → ¬ Mv NoY p av4 lv4 b from fun b hb e => by
      have hlt := hA.mv_lt _ e
      rcases hb with rfl | rfl | rfl | rfl
      · exact HMV3.out.1 (hS.2 _ HW2.out e)
      · exact HMV3.out.2.1 (hS.2 _ (by have := HW2.out; have := HB1.out.size; have := HR3.out.lt; omega) e)
      · exact HMV3.out.2.2 (hS.2 _ HR3.out.lt e)
      · omega)
    have HNE4 := hid (show w4.heap.size ≠ w.heap.size + 1 from by have := HR3.out.lt; omega)
    have HA5 := hid hA5
    have HS5 := hid hS5
    have HF5 := hid hF5
    have HL5 := hid hL5
    have HG5 := hid hG5
    have HM5' := hid hM5'
    have HY5 := hid hY5
    have HR5 := hid hR5
    have HN5 := hid hN5
    have HX5 := hid hX5
    have HM5 := hid hM5
    have HSB5 := hid (show B ≤ w5.heap.size from by have := HSB.out; omega)
    have hne := HNE.out.1
    have hne2 := HNE.out.2
    have hne4 := HNE4.out
    clear hA hS hF hL hA5 hS5 hF5 hL5 hG5 hM5' hY5 hR5 hN5 hX5 hM5 hFB hLB y0 y1 y2 y3 hSt2 hsz2 hlt4
    go_upto_region 15 with fail
    rw [← hw5]
    clear hw5 hb5
    have BF := hid fun W (hb : Below w5.heap.size w5 W) => both_any _ _ FA FB W (Asd.here (Asd.stpd HF5.out (Stpd.below p av4 lv4 hb))) (Asd.here (Asd.stpd HG5.out (Stpd.below p av4 lv4 hb))) (by rw [HFA.out, HFB.out]; have := HFLL.out.1; omega)
    have BL := hid fun W (hb : Below w5.heap.size w5 W) => both_any _ _ LA LB W (Asd.here (Asd.stpd HL5.out (Stpd.below p av4 lv4 hb))) (Asd.here (Asd.stpd HM5'.out (Stpd.below p av4 lv4 hb))) (by rw [HLA.out, HLB.out]; have := HFLL.out.2; omega)
    go_upto_region 16 with fail
    have HBD := hid (show Below w5.heap.size w5 w5.drew from below_drawn (Below.refl _ _) 1)
    refine wp_region_held_drew (S := fun w' => Blk w' w2.heap.size [.bool false, .slice fa FA.length fc, .slice la LA.length lc] 68 ∧ Blk w' w4.heap.size [.bool true, .slice ga FB.length gc, .slice ma LB.length mc] 68) (by kernel_rfl) ⟨HN5.out, HM5.out⟩ (fun hHeld => ?_)
    refine wpAnyH_take (i := 0) (oi := ({ dst := some 83, op := Op.fieldAddr 68 (Operand.tmp 8) 0, type := 0, pos := "auto.go:87", after := #[], guard := none } : Oper)) (v := ?_) rfl (by kernel_rfl) (by kernel_rfl) (by kernel_rfl) (fun _ _ _ h => h) (Or.inl ⟨by rfl, ?_⟩) hHeld ?_
    rotate_left 1
    · intro w9 hw9; (try (obtain ⟨k8, k9⟩ := hw9; obtain ⟨g0, g1, g2, _, _, _⟩ := blk3v k8; obtain ⟨h0, h1, h2, _, _, _⟩ := blk3v k9)); go_simp; try with_reducible rfl
    simp only [Act.put, List.setIfInBounds_toArray, List.set_cons_zero, List.set_cons_succ]
    refine wpAnyH_take (i := 1) (oi := ({ dst := some 84, op := Op.load 4 (Operand.tmp 83), type := 4, pos := "auto.go:87", after := #[{ on := 0, ground := Ground.data }], guard := none } : Oper)) (v := ?_) rfl (by kernel_rfl) (by kernel_rfl) (by kernel_rfl) (fun _ _ _ h => h) (Or.inl ⟨by rfl, ?_⟩) hHeld ?_
    rotate_left 1
    · intro w9 hw9; (try (obtain ⟨k8, k9⟩ := hw9; obtain ⟨g0, g1, g2, _, _, _⟩ := blk3v k8; obtain ⟨h0, h1, h2, _, _, _⟩ := blk3v k9)); go_simp; try with_reducible rfl
    simp only [Act.put, List.setIfInBounds_toArray, List.set_cons_zero, List.set_cons_succ]
    refine wpAnyH_take (i := 2) (oi := ({ dst := some 85, op := Op.move (Operand.tmp 84), type := 4, pos := "auto.go:87", after := #[{ on := 1, ground := Ground.data }], guard := none } : Oper)) (v := ?_) rfl (by kernel_rfl) (by kernel_rfl) (by kernel_rfl) (fun _ _ _ h => h) (Or.inl ⟨by rfl, ?_⟩) hHeld ?_
    rotate_left 1
    · intro w9 hw9; (try (obtain ⟨k8, k9⟩ := hw9; obtain ⟨g0, g1, g2, _, _, _⟩ := blk3v k8; obtain ⟨h0, h1, h2, _, _, _⟩ := blk3v k9)); go_simp; try with_reducible rfl
    simp only [Act.put, List.setIfInBounds_toArray, List.set_cons_zero, List.set_cons_succ]
    refine wpAnyH_take (i := 3) (oi := ({ dst := some 86, op := Op.fieldAddr 68 (Operand.tmp 9) 0, type := 0, pos := "auto.go:87", after := #[{ on := 2, ground := Ground.guard }], guard := some (2, false) } : Oper)) (v := ?_) rfl (by kernel_rfl) (by kernel_rfl) (by kernel_rfl) (fun _ _ _ h => h) (Or.inl ⟨by rfl, ?_⟩) hHeld ?_
    rotate_left 1
    · intro w9 hw9; (try (obtain ⟨k8, k9⟩ := hw9; obtain ⟨g0, g1, g2, _, _, _⟩ := blk3v k8; obtain ⟨h0, h1, h2, _, _, _⟩ := blk3v k9)); go_simp; try with_reducible rfl
    simp only [Act.put, List.setIfInBounds_toArray, List.set_cons_zero, List.set_cons_succ]
    refine wpAnyH_take (i := 4) (oi := ({ dst := some 87, op := Op.load 4 (Operand.tmp 86), type := 4, pos := "auto.go:87", after := #[{ on := 3, ground := Ground.data }, { on := 2, ground := Ground.guard }], guard := some (2, false) } : Oper)) (v := ?_) rfl (by kernel_rfl) (by kernel_rfl) (by kernel_rfl) (fun _ _ _ h => h) (Or.inl ⟨by rfl, ?_⟩) hHeld ?_
    rotate_left 1
    · intro w9 hw9; (try (obtain ⟨k8, k9⟩ := hw9; obtain ⟨g0, g1, g2, _, _, _⟩ := blk3v k8; obtain ⟨h0, h1, h2, _, _, _⟩ := blk3v k9)); go_simp; try with_reducible rfl
    simp only [Act.put, List.setIfInBounds_toArray, List.set_cons_zero, List.set_cons_succ]
    refine wpAnyH_take (i := 5) (oi := ({ dst := some 88, op := Op.pick (Operand.tmp 85) (Operand.const (Value.bool true)) (Operand.tmp 87), type := 4, pos := "auto.go:87", after := #[{ on := 2, ground := Ground.data }, { on := 4, ground := Ground.data }], guard := none } : Oper)) (v := ?_) rfl (by kernel_rfl) (by kernel_rfl) (by kernel_rfl) (fun _ _ _ h => h) (Or.inl ⟨by rfl, ?_⟩) hHeld ?_
    rotate_left 1
    · intro w9 hw9; (try (obtain ⟨k8, k9⟩ := hw9; obtain ⟨g0, g1, g2, _, _, _⟩ := blk3v k8; obtain ⟨h0, h1, h2, _, _, _⟩ := blk3v k9)); go_simp; try with_reducible rfl
    simp only [Act.put, List.setIfInBounds_toArray, List.set_cons_zero, List.set_cons_succ]
    refine wpAnyH_take (i := 6) (oi := ({ dst := some 89, op := Op.fieldAddr 68 (Operand.tmp 8) 1, type := 0, pos := "auto.go:87", after := #[], guard := none } : Oper)) (v := ?_) rfl (by kernel_rfl) (by kernel_rfl) (by kernel_rfl) (fun _ _ _ h => h) (Or.inl ⟨by rfl, ?_⟩) hHeld ?_
    rotate_left 1
    · intro w9 hw9; (try (obtain ⟨k8, k9⟩ := hw9; obtain ⟨g0, g1, g2, _, _, _⟩ := blk3v k8; obtain ⟨h0, h1, h2, _, _, _⟩ := blk3v k9)); go_simp; try with_reducible rfl
    simp only [Act.put, List.setIfInBounds_toArray, List.set_cons_zero, List.set_cons_succ]
    refine wpAnyH_take (i := 7) (oi := ({ dst := some 90, op := Op.load 66 (Operand.tmp 89), type := 66, pos := "auto.go:87", after := #[{ on := 6, ground := Ground.data }], guard := none } : Oper)) (v := ?_) rfl (by kernel_rfl) (by kernel_rfl) (by kernel_rfl) (fun _ _ _ h => h) (Or.inl ⟨by rfl, ?_⟩) hHeld ?_
    rotate_left 1
    · intro w9 hw9; (try (obtain ⟨k8, k9⟩ := hw9; obtain ⟨g0, g1, g2, _, _, _⟩ := blk3v k8; obtain ⟨h0, h1, h2, _, _, _⟩ := blk3v k9)); go_simp; try with_reducible rfl
    simp only [Act.put, List.setIfInBounds_toArray, List.set_cons_zero, List.set_cons_succ]
    refine wpAnyH_take (i := 8) (oi := ({ dst := some 91, op := Op.fieldAddr 68 (Operand.tmp 9) 1, type := 0, pos := "auto.go:87", after := #[], guard := none } : Oper)) (v := ?_) rfl (by kernel_rfl) (by kernel_rfl) (by kernel_rfl) (fun _ _ _ h => h) (Or.inl ⟨by rfl, ?_⟩) hHeld ?_
    rotate_left 1
    · intro w9 hw9; (try (obtain ⟨k8, k9⟩ := hw9; obtain ⟨g0, g1, g2, _, _, _⟩ := blk3v k8; obtain ⟨h0, h1, h2, _, _, _⟩ := blk3v k9)); go_simp; try with_reducible rfl
    simp only [Act.put, List.setIfInBounds_toArray, List.set_cons_zero, List.set_cons_succ]
    refine wpAnyH_take (i := 9) (oi := ({ dst := some 92, op := Op.load 66 (Operand.tmp 91), type := 66, pos := "auto.go:87", after := #[{ on := 8, ground := Ground.data }], guard := none } : Oper)) (v := ?_) rfl (by kernel_rfl) (by kernel_rfl) (by kernel_rfl) (fun _ _ _ h => h) (Or.inl ⟨by rfl, ?_⟩) hHeld ?_
    rotate_left 1
    · intro w9 hw9; (try (obtain ⟨k8, k9⟩ := hw9; obtain ⟨g0, g1, g2, _, _, _⟩ := blk3v k8; obtain ⟨h0, h1, h2, _, _, _⟩ := blk3v k9)); go_simp; try with_reducible rfl
    simp only [Act.put, List.setIfInBounds_toArray, List.set_cons_zero, List.set_cons_succ]
    refine wpAnyH_take (i := 11) (oi := ({ dst := some 94, op := Op.fieldAddr 68 (Operand.tmp 8) 2, type := 0, pos := "auto.go:87", after := #[], guard := none } : Oper)) (v := ?_) rfl (by kernel_rfl) (by kernel_rfl) (by kernel_rfl) (fun _ _ _ h => h) (Or.inl ⟨by rfl, ?_⟩) hHeld ?_
    rotate_left 1
    · intro w9 hw9; (try (obtain ⟨k8, k9⟩ := hw9; obtain ⟨g0, g1, g2, _, _, _⟩ := blk3v k8; obtain ⟨h0, h1, h2, _, _, _⟩ := blk3v k9)); go_simp; try with_reducible rfl
    simp only [Act.put, List.setIfInBounds_toArray, List.set_cons_zero, List.set_cons_succ]
    refine wpAnyH_take (i := 12) (oi := ({ dst := some 95, op := Op.load 66 (Operand.tmp 94), type := 66, pos := "auto.go:87", after := #[{ on := 11, ground := Ground.data }], guard := none } : Oper)) (v := ?_) rfl (by kernel_rfl) (by kernel_rfl) (by kernel_rfl) (fun _ _ _ h => h) (Or.inl ⟨by rfl, ?_⟩) hHeld ?_
    rotate_left 1
    · intro w9 hw9; (try (obtain ⟨k8, k9⟩ := hw9; obtain ⟨g0, g1, g2, _, _, _⟩ := blk3v k8; obtain ⟨h0, h1, h2, _, _, _⟩ := blk3v k9)); go_simp; try with_reducible rfl
    simp only [Act.put, List.setIfInBounds_toArray, List.set_cons_zero, List.set_cons_succ]
    refine wpAnyH_take (i := 13) (oi := ({ dst := some 96, op := Op.fieldAddr 68 (Operand.tmp 9) 2, type := 0, pos := "auto.go:87", after := #[], guard := none } : Oper)) (v := ?_) rfl (by kernel_rfl) (by kernel_rfl) (by kernel_rfl) (fun _ _ _ h => h) (Or.inl ⟨by rfl, ?_⟩) hHeld ?_
    rotate_left 1
    · intro w9 hw9; (try (obtain ⟨k8, k9⟩ := hw9; obtain ⟨g0, g1, g2, _, _, _⟩ := blk3v k8; obtain ⟨h0, h1, h2, _, _, _⟩ := blk3v k9)); go_simp; try with_reducible rfl
    simp only [Act.put, List.setIfInBounds_toArray, List.set_cons_zero, List.set_cons_succ]
    refine wpAnyH_take (i := 14) (oi := ({ dst := some 97, op := Op.load 66 (Operand.tmp 96), type := 66, pos := "auto.go:87", after := #[{ on := 13, ground := Ground.data }], guard := none } : Oper)) (v := ?_) rfl (by kernel_rfl) (by kernel_rfl) (by kernel_rfl) (fun _ _ _ h => h) (Or.inl ⟨by rfl, ?_⟩) hHeld ?_
    rotate_left 1
    · intro w9 hw9; (try (obtain ⟨k8, k9⟩ := hw9; obtain ⟨g0, g1, g2, _, _, _⟩ := blk3v k8; obtain ⟨h0, h1, h2, _, _, _⟩ := blk3v k9)); go_simp; try with_reducible rfl
    simp only [Act.put, List.setIfInBounds_toArray, List.set_cons_zero, List.set_cons_succ]
    refine wpAnyH_take (i := 17) (oi := ({ dst := some 100, op := Op.move (Operand.tmp 2), type := 69, pos := "auto.go:87", after := #[{ on := 18, ground := Ground.gcOnly Departure.lateStores }], guard := none } : Oper)) (v := ?_) rfl (by kernel_rfl) (by kernel_rfl) (by kernel_rfl) (fun _ _ _ h => h) (Or.inl ⟨by rfl, ?_⟩) hHeld ?_
    rotate_left 1
    · intro w9 hw9; (try (obtain ⟨k8, k9⟩ := hw9; obtain ⟨g0, g1, g2, _, _, _⟩ := blk3v k8; obtain ⟨h0, h1, h2, _, _, _⟩ := blk3v k9)); go_simp; try with_reducible rfl
    simp only [Act.put, List.setIfInBounds_toArray, List.set_cons_zero, List.set_cons_succ]
    refine wpAnyH_ready (rs := [10]) (by kernel_rfl) (by simp) ?_
    refine AllReadyH.cons (o := ({ dst := some 93, op := Op.call { callee := Callee.value (Operand.func 46), args := #[Operand.tmp 90, Operand.tmp 92], argTypes := #[66, 66] }, type := 66, pos := "auto.go:87", after := #[{ on := 7, ground := Ground.data }, { on := 9, ground := Ground.data }, { on := 2, ground := Ground.chain }], guard := none } : Oper)) rfl (fun K hK => ?_) AllReadyH.nil
    go_simp
    go_at_call 46
    refine (BF.out _ HBD.out).mono ?_
    rintro e w6 ⟨⟨v6, rfl, hO6⟩, hb6⟩
    have HB6 := hid (below_then (show Below w5.heap.size w5 w5.drew from HBD.out) hb6)
    have hml := HA5.out.mv_lt
    have hQ6 : NsX (Mv (fun k => Y k ∨ k = w.heap.size + 1) p av4 lv4) w6 v6 (FA ++ FB) := own_nsx hO6 (fun k e x => by
      have h1 := (hO6.lt k e).1
      have h2 : w5.drew.heap.size = w5.heap.size := rfl
      rcases x with x | x | x | x
      · have := hml k (Or.inl x); omega
      · have := hml k (Or.inr (Or.inl x)); omega
      · have := hml k (Or.inr (Or.inr (Or.inl x))); omega
      · have := HY5.out k x; omega)
    obtain ⟨FF, hFF⟩ : ∃ FF, FF = FA ++ FB := ⟨_, rfl⟩
    rw [← hFF] at hQ6
    have HFF := hid hFF
    obtain ⟨qa, qc, rfl, _⟩ := NsX.lenx hQ6
    have HQ6 := hid hQ6
    have HN6 := hid (HN5.out.keep HB6.out)
    have HM6 := hid (HM5.out.keep HB6.out)
    clear hO6 hb6 hml hQ6 hFF
    refine hK.out _ _ (⟨HN6.out, HM6.out⟩) (fun hHeld => ?_)
    clear hK K
    (try simp only [Act.put, List.setIfInBounds_toArray, List.set_cons_zero, List.set_cons_succ])
    refine wpAnyH_ready (rs := [15]) (by kernel_rfl) (by simp) ?_
    refine AllReadyH.cons (o := ({ dst := some 98, op := Op.call { callee := Callee.value (Operand.func 46), args := #[Operand.tmp 95, Operand.tmp 97], argTypes := #[66, 66] }, type := 66, pos := "auto.go:87", after := #[{ on := 12, ground := Ground.data }, { on := 14, ground := Ground.data }, { on := 10, ground := Ground.chain }], guard := none } : Oper)) rfl (fun K hK => ?_) AllReadyH.nil
    go_simp
    go_at_call 46
    refine (BL.out _ HB6.out).mono ?_
    rintro e w7 ⟨⟨v7, rfl, hO7⟩, hb7⟩
    have HB7 := hid (below_then HB6.out hb7)
    have hml := HA5.out.mv_lt
    have hQ7 : NsX (Mv (fun k => Y k ∨ k = w.heap.size + 1) p av4 lv4) w7 v7 (LA ++ LB) := own_nsx hO7 (fun k e x => by
      have h1 := (hO7.lt k e).1
      have h2 := HB6.out.size
      rcases x with x | x | x | x
      · have := hml k (Or.inl x); omega
      · have := hml k (Or.inr (Or.inl x)); omega
      · have := hml k (Or.inr (Or.inr (Or.inl x))); omega
      · have := HY5.out k x; omega)
    obtain ⟨LF, hLF⟩ : ∃ LF, LF = LA ++ LB := ⟨_, rfl⟩
    rw [← hLF] at hQ7
    have HLF := hid hLF
    obtain ⟨ra, rc, rfl, _⟩ := NsX.lenx hQ7
    have HQ2 := hid hQ7
    have HQ1 := hid (Asd.stpd HQ6.out (Stpd.below p av4 lv4 hb7))
    have HN7 := hid (HN5.out.keep HB7.out)
    have HM7 := hid (HM5.out.keep HB7.out)
    obtain ⟨r0, r1, r2, f0, f1, f2⟩ := blk3v (HR5.out.keep HB7.out)
    clear hO7 hb7 hml hQ7 hLF
    refine hK.out _ _ (⟨HN7.out, HM7.out⟩) (fun hHeld => ?_)
    clear hK K
    (try simp only [Act.put, List.setIfInBounds_toArray, List.set_cons_zero, List.set_cons_succ])
    refine wpAnyH_take (i := 16) (oi := ({ dst := some 99, op := Op.build 68 #[(0, Operand.tmp 88), (1, Operand.tmp 93), (2, Operand.tmp 98)], type := 68, pos := "auto.go:87", after := #[{ on := 5, ground := Ground.data }, { on := 10, ground := Ground.data }, { on := 15, ground := Ground.data }], guard := none } : Oper)) (v := ?_) rfl (by kernel_rfl) (by kernel_rfl) (by kernel_rfl) (fun _ _ _ h => h) (Or.inl ⟨by rfl, ?_⟩) hHeld ?_
    rotate_left 1
    · intro w9 hw9; (try (obtain ⟨k8, k9⟩ := hw9; obtain ⟨g0, g1, g2, _, _, _⟩ := blk3v k8; obtain ⟨h0, h1, h2, _, _, _⟩ := blk3v k9)); go_simp; try with_reducible rfl
    simp only [Act.put, List.setIfInBounds_toArray, List.set_cons_zero, List.set_cons_succ]
    refine wpAnyH_ready (rs := [18]) (by kernel_rfl) (by simp) ?_
    refine AllReadyH.cons (o := ({ dst := none, op := Op.store 68 (Operand.tmp 6) (Operand.tmp 99), type := 0, pos := "auto.go:87", after := #[{ on := 16, ground := Ground.data }, { on := 15, ground := Ground.chain }, { on := 0, ground := Ground.phase }, { on := 1, ground := Ground.phase }, { on := 2, ground := Ground.phase }, { on := 3, ground := Ground.phase }, { on := 4, ground := Ground.phase }, { on := 5, ground := Ground.phase }, { on := 6, ground := Ground.phase }, { on := 7, ground := Ground.phase }, { on := 8, ground := Ground.phase }, { on := 9, ground := Ground.phase }, { on := 10, ground := Ground.phase }, { on := 11, ground := Ground.phase }, { on := 12, ground := Ground.phase }, { on := 13, ground := Ground.phase }, { on := 14, ground := Ground.phase }, { on := 15, ground := Ground.phase }, { on := 16, ground := Ground.phase }, { on := 17, ground := Ground.textOnly Departure.lateStores }], guard := none } : Oper)) rfl (fun K hK => ?_) AllReadyH.nil
    go_simp
    refine hK.out _ _ (⟨HN7.out.other3 hne _ _ _, HM7.out.other3 hne4 _ _ _⟩) (fun hHeld => ?_)
    clear hK K
    (try simp only [Act.put, List.setIfInBounds_toArray, List.set_cons_zero, List.set_cons_succ])
    refine wpAnyH_take (i := 19) (oi := ({ dst := some 7, op := Op.assign (Operand.tmp 100), type := 69, pos := "auto.go:87", after := #[{ on := 17, ground := Ground.data }, { on := 18, ground := Ground.chain }, { on := 0, ground := Ground.phase }, { on := 1, ground := Ground.phase }, { on := 2, ground := Ground.phase }, { on := 3, ground := Ground.phase }, { on := 4, ground := Ground.phase }, { on := 5, ground := Ground.phase }, { on := 6, ground := Ground.phase }, { on := 7, ground := Ground.phase }, { on := 8, ground := Ground.phase }, { on := 9, ground := Ground.phase }, { on := 10, ground := Ground.phase }, { on := 11, ground := Ground.phase }, { on := 12, ground := Ground.phase }, { on := 13, ground := Ground.phase }, { on := 14, ground := Ground.phase }, { on := 15, ground := Ground.phase }, { on := 16, ground := Ground.phase }, { on := 17, ground := Ground.phase }, { on := 18, ground := Ground.phase }], guard := none } : Oper)) (v := ?_) rfl (by kernel_rfl) (by kernel_rfl) (by kernel_rfl) (fun _ _ _ h => h) (Or.inl ⟨by rfl, ?_⟩) hHeld ?_
    rotate_left 1
    · intro w9 hw9; (try (obtain ⟨k8, k9⟩ := hw9; obtain ⟨g0, g1, g2, _, _, _⟩ := blk3v k8; obtain ⟨h0, h1, h2, _, _, _⟩ := blk3v k9)); go_simp; try with_reducible rfl
    simp only [Act.put, List.setIfInBounds_toArray, List.set_cons_zero, List.set_cons_succ]
    refine wpAnyH_done (by kernel_rfl) ?_ _
    have hst := Stpd.below p av4 lv4 HB7.out
    obtain ⟨e1, e2, e3, e4, e5⟩ := part_end (Y := Y) (e := true) (Nat.le_succ w.heap.size) (HA5.out.keep HB7.out) (HS5.out.trans hst) HQ1.out HQ2.out (HR5.out.keep HB7.out)
    have HE1 := hid e1
    have HE2 := hid e2
    have HE3 := hid e3
    have HE4 := hid e4
    have HE5 := hid e5
    clear hst e1 e2 e3 e4 e5
    go_wp2
    refine bodyPost_ret (tup_ret (s := 6) (s2 := 7) rfl HE1.out Tryd.results32) rfl ⟨_, _, _, _, _, (by show _ = Ending.returned (.tuple #[.agg #[.bool (r.emp || s.emp), _, _], _]); rw [← HEA.out, ← HEB.out]; rfl), (by simpa [Rx.pairsL, Rx.labs, List.append_assoc] using HE2.out), HE3.out, (by rw [show (Rx.alt r s).firstL (ls.length + 1) = FF by rw [HFF.out, HFA.out, HFB.out]; rfl]; exact HE4.out), (by rw [show (Rx.alt r s).lastL (ls.length + 1) = LF by rw [HLF.out, HLA.out, HLB.out]; rfl]; exact HE5.out)⟩
  case true.false =>
    go_enter Tryd.func32, Tryd.ntmps32
    go_upto_region 1 with fail
    rw [← hw1]
    clear hw1
    go_wp2_with fail
    refine C.out.mono ?_
    rintro e w2 ⟨fv, lsv, av2, lv2, lxs2, rfl, hA, hS, hF, hL⟩
    obtain ⟨fa, fc, rfl, _⟩ := NsX.lenx hF
    obtain ⟨la, lc, rfl, _⟩ := NsX.lenx hL
    obtain ⟨FA, hFA⟩ : ∃ FA, FA = r.firstL (ls.length + 1) := ⟨_, rfl⟩
    obtain ⟨LA, hLA⟩ : ∃ LA, LA = r.lastL (ls.length + 1) := ⟨_, rfl⟩
    rw [← hFA] at hF ⊢
    rw [← hLA] at hL ⊢
    have HFA := hid hFA
    have HLA := hid hLA
    obtain ⟨w3, hw3⟩ : ∃ w3, w3 = w2.alloc (.cells #[.bool true, .slice fa FA.length fc, .slice la LA.length lc] 68) := ⟨_, rfl⟩
    have hb3 : Below w2.heap.size w2 w3 := by rw [hw3]; exact (Below.refl _ _).alloc (Nat.le_refl _) _
    have hN3 : Blk w3 w2.heap.size [.bool true, .slice fa FA.length fc, .slice la LA.length lc] 68 := by rw [hw3]; exact Blk.new w2 _ _
    have hR3 := (HR.out.frm hS.1 (fun e => by have := HML.out _ e; omega)).keep hb3
    have hX3 := (HX.out.frm hS.1 (fun e => by have := HML.out _ e; omega)).keep hb3
    have hA3 := hA.keep hb3
    have hSt1 := hS.trans (Stpd.below p av2 lv2 hb3)
    have hS3 := (Stpd.below p av lv HB1.out).trans hSt1
    have hF3 := Asd.stpd hF (Stpd.below p av2 lv2 hb3)
    have hL3 := Asd.stpd hL (Stpd.below p av2 lv2 hb3)
    have hY3 : ∀ k, (Y k ∨ k = w.heap.size + 1) → k < w3.heap.size := fun k e => by have := HY1.out k e; have := hS.1.size; have := hb3.size; omega
    have hnm : ¬ Mv NoY p av2 lv2 w2.heap.size := fun e => by have := hA.mv_lt _ e; omega
    have hH3 := HH1.out.stpd hSt1
    obtain ⟨y0, y1, y2, y3⟩ := hH3.row4 HRO'.out
    have C2 := IHS.out B WB w3 _ p _ _ av2 lv2 lxs2 _ _ HK'.out hH3 hA3 hY3 (by have := HB1'.out; have := hS.1.size; have := hb3.size; omega) (by have := H30.out; omega) HLN.out.1 HLN.out.2
    unfold PartPost pv at C2
    rw [← HEB.out, HLL.out] at C2
    have C2 := hid C2
    obtain ⟨c0, c1, c2, c3⟩ := blk4 hX3
    have hnot : w2.heap.size ≠ w.heap.size + 1 ∧ w.heap.size ≠ w.heap.size + 1 := by
      have := HY1.out (w.heap.size + 1) (Or.inr rfl); have := hS.1.size; omega
    have HNE := hid hnot
    have HMV3 := hid (show ¬ Mv NoY p av2 lv2 w2.heap.size ∧ ¬ Mv NoY p av2 lv2 w.heap.size ∧ ¬ Mv NoY p av2 lv2 (w.heap.size + 1) from ⟨hnm, fun e => by
      have := hS.2 _ (by have := HZ1.out; omega) e
      have := HML.out _ this
      omega, fun e => by
      have := hS.2 _ (by have := HZ1.out; omega) e
      have := HML.out _ this
      omega⟩)
    have HA3 := hid hA3
    have HS3 := hid hS3
    have HF3 := hid hF3
    have HL3 := hid hL3
    have HY3 := hid hY3
    have HR3 := hid hR3
    have HN3 := hid hN3
    have HX3 := hid hX3
    have HSB := hid (show B ≤ w3.heap.size from by have := HB1'.out; have := hS.1.size; have := hb3.size; omega)
    have HW2 := hid (show w2.heap.size < w3.heap.size from hN3.lt)
    clear hA hS hF hL hA3 hS3 hF3 hL3 hY3 hnm hR3 hN3 hX3 hFA hLA z0 z1 z2 z3 hSt1 hH3 hnot
    go_upto_region 8 with fail
    rw [← hw3]
    clear hw3 hb3
    go_wp2_with fail
    refine C2.out.mono ?_
    rintro e w4 ⟨gv, gsv, av4, lv4, lxs4, rfl, hA, hS, hF, hL⟩
    obtain ⟨ga, gc, rfl, _⟩ := NsX.lenx hF
    obtain ⟨ma, mc, rfl, _⟩ := NsX.lenx hL
    obtain ⟨FB, hFB⟩ : ∃ FB, FB = s.firstL (ls.length + 1 + r.n) := ⟨_, rfl⟩
    obtain ⟨LB, hLB⟩ : ∃ LB, LB = s.lastL (ls.length + 1 + r.n) := ⟨_, rfl⟩
    rw [← hFB] at hF ⊢
    rw [← hLB] at hL ⊢
    have HFB := hid hFB
    have HLB := hid hLB
    obtain ⟨w5, hw5⟩ : ∃ w5, w5 = w4.alloc (.cells #[.bool false, .slice ga FB.length gc, .slice ma LB.length mc] 68) := ⟨_, rfl⟩
    have hb5 : Below w4.heap.size w4 w5 := by rw [hw5]; exact (Below.refl _ _).alloc (Nat.le_refl _) _
    have hM5 : Blk w5 w4.heap.size [.bool false, .slice ga FB.length gc, .slice ma LB.length mc] 68 := by rw [hw5]; exact Blk.new w4 _ _
    have hN5 := (HN3.out.frm hS.1 HMV3.out.1).keep hb5
    have hX5 := (HX3.out.frm hS.1 HMV3.out.2.1).keep hb5
    have hR5 := (HR3.out.frm hS.1 HMV3.out.2.2).keep hb5
    have hSt2 := hS.trans (Stpd.below p av4 lv4 hb5)
    have hA5 := hA.keep hb5
    have hS5 := HS3.out.trans hSt2
    have hF5 := Asd.stpd HF3.out hSt2
    have hL5 := Asd.stpd HL3.out hSt2
    have hG5 := Asd.stpd hF (Stpd.below p av4 lv4 hb5)
    have hM5' := Asd.stpd hL (Stpd.below p av4 lv4 hb5)
    have hY5 : ∀ k, (Y k ∨ k = w.heap.size + 1) → k < w5.heap.size := fun k e => by have := HY3.out k e; have := hS.1.size; have := hb5.size; omega
    obtain ⟨c0, c1, c2, c3⟩ := blk4 hX5
    obtain ⟨n0, m1, m2, _, _, _⟩ := blk3v hN5
    obtain ⟨o0, o1, o2, _, _, _⟩ := blk3v hM5
    have hsz2 := hS.1.size
    have hlt4 : w4.heap.size < w5.heap.size := hM5.lt
    have HNO := hid (show ∀ b, b = w2.heap.size ∨ b = w.heap.size ∨ b = w.heap.size + 1 ∨ b = w4.heap.size → ¬ Mv NoY p av4 lv4 b from fun b hb e => by
      have hlt := hA.mv_lt _ e
      rcases hb with rfl | rfl | rfl | rfl
      · exact HMV3.out.1 (hS.2 _ HW2.out e)
      · exact HMV3.out.2.1 (hS.2 _ (by have := HW2.out; have := HB1.out.size; have := HR3.out.lt; omega) e)
      · exact HMV3.out.2.2 (hS.2 _ HR3.out.lt e)
      · omega)
    have HNE4 := hid (show w4.heap.size ≠ w.heap.size + 1 from by have := HR3.out.lt; omega)
    have HA5 := hid hA5
    have HS5 := hid hS5
    have HF5 := hid hF5
    have HL5 := hid hL5
    have HG5 := hid hG5
    have HM5' := hid hM5'
    have HY5 := hid hY5
    have HR5 := hid hR5
    have HN5 := hid hN5
    have HX5 := hid hX5
    have HM5 := hid hM5
    have HSB5 := hid (show B ≤ w5.heap.size from by have := HSB.out; omega)
    have hne := HNE.out.1
    have hne2 := HNE.out.2
    have hne4 := HNE4.out
    clear hA hS hF hL hA5 hS5 hF5 hL5 hG5 hM5' hY5 hR5 hN5 hX5 hM5 hFB hLB y0 y1 y2 y3 hSt2 hsz2 hlt4
    go_upto_region 15 with fail
    rw [← hw5]
    clear hw5 hb5
    have BF := hid fun W (hb : Below w5.heap.size w5 W) => both_any _ _ FA FB W (Asd.here (Asd.stpd HF5.out (Stpd.below p av4 lv4 hb))) (Asd.here (Asd.stpd HG5.out (Stpd.below p av4 lv4 hb))) (by rw [HFA.out, HFB.out]; have := HFLL.out.1; omega)
    have BL := hid fun W (hb : Below w5.heap.size w5 W) => both_any _ _ LA LB W (Asd.here (Asd.stpd HL5.out (Stpd.below p av4 lv4 hb))) (Asd.here (Asd.stpd HM5'.out (Stpd.below p av4 lv4 hb))) (by rw [HLA.out, HLB.out]; have := HFLL.out.2; omega)
    go_upto_region 16 with fail
    have HBD := hid (show Below w5.heap.size w5 w5.drew from below_drawn (Below.refl _ _) 1)
    refine wp_region_held_drew (S := fun w' => Blk w' w2.heap.size [.bool true, .slice fa FA.length fc, .slice la LA.length lc] 68 ∧ Blk w' w4.heap.size [.bool false, .slice ga FB.length gc, .slice ma LB.length mc] 68) (by kernel_rfl) ⟨HN5.out, HM5.out⟩ (fun hHeld => ?_)
    refine wpAnyH_take (i := 0) (oi := ({ dst := some 83, op := Op.fieldAddr 68 (Operand.tmp 8) 0, type := 0, pos := "auto.go:87", after := #[], guard := none } : Oper)) (v := ?_) rfl (by kernel_rfl) (by kernel_rfl) (by kernel_rfl) (fun _ _ _ h => h) (Or.inl ⟨by rfl, ?_⟩) hHeld ?_
    rotate_left 1
    · intro w9 hw9; (try (obtain ⟨k8, k9⟩ := hw9; obtain ⟨g0, g1, g2, _, _, _⟩ := blk3v k8; obtain ⟨h0, h1, h2, _, _, _⟩ := blk3v k9)); go_simp; try with_reducible rfl
    simp only [Act.put, List.setIfInBounds_toArray, List.set_cons_zero, List.set_cons_succ]
    refine wpAnyH_take (i := 1) (oi := ({ dst := some 84, op := Op.load 4 (Operand.tmp 83), type := 4, pos := "auto.go:87", after := #[{ on := 0, ground := Ground.data }], guard := none } : Oper)) (v := ?_) rfl (by kernel_rfl) (by kernel_rfl) (by kernel_rfl) (fun _ _ _ h => h) (Or.inl ⟨by rfl, ?_⟩) hHeld ?_
    rotate_left 1
    · intro w9 hw9; (try (obtain ⟨k8, k9⟩ := hw9; obtain ⟨g0, g1, g2, _, _, _⟩ := blk3v k8; obtain ⟨h0, h1, h2, _, _, _⟩ := blk3v k9)); go_simp; try with_reducible rfl
    simp only [Act.put, List.setIfInBounds_toArray, List.set_cons_zero, List.set_cons_succ]
    refine wpAnyH_take (i := 2) (oi := ({ dst := some 85, op := Op.move (Operand.tmp 84), type := 4, pos := "auto.go:87", after := #[{ on := 1, ground := Ground.data }], guard := none } : Oper)) (v := ?_) rfl (by kernel_rfl) (by kernel_rfl) (by kernel_rfl) (fun _ _ _ h => h) (Or.inl ⟨by rfl, ?_⟩) hHeld ?_
    rotate_left 1
    · intro w9 hw9; (try (obtain ⟨k8, k9⟩ := hw9; obtain ⟨g0, g1, g2, _, _, _⟩ := blk3v k8; obtain ⟨h0, h1, h2, _, _, _⟩ := blk3v k9)); go_simp; try with_reducible rfl
    simp only [Act.put, List.setIfInBounds_toArray, List.set_cons_zero, List.set_cons_succ]
    refine wpAnyH_take (i := 3) (oi := ({ dst := some 86, op := Op.fieldAddr 68 (Operand.tmp 9) 0, type := 0, pos := "auto.go:87", after := #[{ on := 2, ground := Ground.guard }], guard := some (2, false) } : Oper)) (v := undef) rfl (by kernel_rfl) (by kernel_rfl) (by kernel_rfl) (fun _ _ _ h => h) (Or.inr ⟨by rfl, rfl⟩) hHeld ?_
    simp only [Act.put, List.setIfInBounds_toArray, List.set_cons_zero, List.set_cons_succ]
    refine wpAnyH_take (i := 4) (oi := ({ dst := some 87, op := Op.load 4 (Operand.tmp 86), type := 4, pos := "auto.go:87", after := #[{ on := 3, ground := Ground.data }, { on := 2, ground := Ground.guard }], guard := some (2, false) } : Oper)) (v := undef) rfl (by kernel_rfl) (by kernel_rfl) (by kernel_rfl) (fun _ _ _ h => h) (Or.inr ⟨by rfl, rfl⟩) hHeld ?_
    simp only [Act.put, List.setIfInBounds_toArray, List.set_cons_zero, List.set_cons_succ]
    refine wpAnyH_take (i := 5) (oi := ({ dst := some 88, op := Op.pick (Operand.tmp 85) (Operand.const (Value.bool true)) (Operand.tmp 87), type := 4, pos := "auto.go:87", after := #[{ on := 2, ground := Ground.data }, { on := 4, ground := Ground.data }], guard := none } : Oper)) (v := ?_) rfl (by kernel_rfl) (by kernel_rfl) (by kernel_rfl) (fun _ _ _ h => h) (Or.inl ⟨by rfl, ?_⟩) hHeld ?_
    rotate_left 1
    · intro w9 hw9; (try (obtain ⟨k8, k9⟩ := hw9; obtain ⟨g0, g1, g2, _, _, _⟩ := blk3v k8; obtain ⟨h0, h1, h2, _, _, _⟩ := blk3v k9)); go_simp; try with_reducible rfl
    simp only [Act.put, List.setIfInBounds_toArray, List.set_cons_zero, List.set_cons_succ]
    refine wpAnyH_take (i := 6) (oi := ({ dst := some 89, op := Op.fieldAddr 68 (Operand.tmp 8) 1, type := 0, pos := "auto.go:87", after := #[], guard := none } : Oper)) (v := ?_) rfl (by kernel_rfl) (by kernel_rfl) (by kernel_rfl) (fun _ _ _ h => h) (Or.inl ⟨by rfl, ?_⟩) hHeld ?_
    rotate_left 1
    · intro w9 hw9; (try (obtain ⟨k8, k9⟩ := hw9; obtain ⟨g0, g1, g2, _, _, _⟩ := blk3v k8; obtain ⟨h0, h1, h2, _, _, _⟩ := blk3v k9)); go_simp; try with_reducible rfl
    simp only [Act.put, List.setIfInBounds_toArray, List.set_cons_zero, List.set_cons_succ]
    refine wpAnyH_take (i := 7) (oi := ({ dst := some 90, op := Op.load 66 (Operand.tmp 89), type := 66, pos := "auto.go:87", after := #[{ on := 6, ground := Ground.data }], guard := none } : Oper)) (v := ?_) rfl (by kernel_rfl) (by kernel_rfl) (by kernel_rfl) (fun _ _ _ h => h) (Or.inl ⟨by rfl, ?_⟩) hHeld ?_
    rotate_left 1
    · intro w9 hw9; (try (obtain ⟨k8, k9⟩ := hw9; obtain ⟨g0, g1, g2, _, _, _⟩ := blk3v k8; obtain ⟨h0, h1, h2, _, _, _⟩ := blk3v k9)); go_simp; try with_reducible rfl
    simp only [Act.put, List.setIfInBounds_toArray, List.set_cons_zero, List.set_cons_succ]
    refine wpAnyH_take (i := 8) (oi := ({ dst := some 91, op := Op.fieldAddr 68 (Operand.tmp 9) 1, type := 0, pos := "auto.go:87", after := #[], guard := none } : Oper)) (v := ?_) rfl (by kernel_rfl) (by kernel_rfl) (by kernel_rfl) (fun _ _ _ h => h) (Or.inl ⟨by rfl, ?_⟩) hHeld ?_
    rotate_left 1
    · intro w9 hw9; (try (obtain ⟨k8, k9⟩ := hw9; obtain ⟨g0, g1, g2, _, _, _⟩ := blk3v k8; obtain ⟨h0, h1, h2, _, _, _⟩ := blk3v k9)); go_simp; try with_reducible rfl
    simp only [Act.put, List.setIfInBounds_toArray, List.set_cons_zero, List.set_cons_succ]
    refine wpAnyH_take (i := 9) (oi := ({ dst := some 92, op := Op.load 66 (Operand.tmp 91), type := 66, pos := "auto.go:87", after := #[{ on := 8, ground := Ground.data }], guard := none } : Oper)) (v := ?_) rfl (by kernel_rfl) (by kernel_rfl) (by kernel_rfl) (fun _ _ _ h => h) (Or.inl ⟨by rfl, ?_⟩) hHeld ?_
    rotate_left 1
    · intro w9 hw9; (try (obtain ⟨k8, k9⟩ := hw9; obtain ⟨g0, g1, g2, _, _, _⟩ := blk3v k8; obtain ⟨h0, h1, h2, _, _, _⟩ := blk3v k9)); go_simp; try with_reducible rfl
    simp only [Act.put, List.setIfInBounds_toArray, List.set_cons_zero, List.set_cons_succ]
    refine wpAnyH_take (i := 11) (oi := ({ dst := some 94, op := Op.fieldAddr 68 (Operand.tmp 8) 2, type := 0, pos := "auto.go:87", after := #[], guard := none } : Oper)) (v := ?_) rfl (by kernel_rfl) (by kernel_rfl) (by kernel_rfl) (fun _ _ _ h => h) (Or.inl ⟨by rfl, ?_⟩) hHeld ?_
    rotate_left 1
    · intro w9 hw9; (try (obtain ⟨k8, k9⟩ := hw9; obtain ⟨g0, g1, g2, _, _, _⟩ := blk3v k8; obtain ⟨h0, h1, h2, _, _, _⟩ := blk3v k9)); go_simp; try with_reducible rfl
    simp only [Act.put, List.setIfInBounds_toArray, List.set_cons_zero, List.set_cons_succ]
    refine wpAnyH_take (i := 12) (oi := ({ dst := some 95, op := Op.load 66 (Operand.tmp 94), type := 66, pos := "auto.go:87", after := #[{ on := 11, ground := Ground.data }], guard := none } : Oper)) (v := ?_) rfl (by kernel_rfl) (by kernel_rfl) (by kernel_rfl) (fun _ _ _ h => h) (Or.inl ⟨by rfl, ?_⟩) hHeld ?_
    rotate_left 1
    · intro w9 hw9; (try (obtain ⟨k8, k9⟩ := hw9; obtain ⟨g0, g1, g2, _, _, _⟩ := blk3v k8; obtain ⟨h0, h1, h2, _, _, _⟩ := blk3v k9)); go_simp; try with_reducible rfl
    simp only [Act.put, List.setIfInBounds_toArray, List.set_cons_zero, List.set_cons_succ]
    refine wpAnyH_take (i := 13) (oi := ({ dst := some 96, op := Op.fieldAddr 68 (Operand.tmp 9) 2, type := 0, pos := "auto.go:87", after := #[], guard := none } : Oper)) (v := ?_) rfl (by kernel_rfl) (by kernel_rfl) (by kernel_rfl) (fun _ _ _ h => h) (Or.inl ⟨by rfl, ?_⟩) hHeld ?_
    rotate_left 1
    · intro w9 hw9; (try (obtain ⟨k8, k9⟩ := hw9; obtain ⟨g0, g1, g2, _, _, _⟩ := blk3v k8; obtain ⟨h0, h1, h2, _, _, _⟩ := blk3v k9)); go_simp; try with_reducible rfl
    simp only [Act.put, List.setIfInBounds_toArray, List.set_cons_zero, List.set_cons_succ]
    refine wpAnyH_take (i := 14) (oi := ({ dst := some 97, op := Op.load 66 (Operand.tmp 96), type := 66, pos := "auto.go:87", after := #[{ on := 13, ground := Ground.data }], guard := none } : Oper)) (v := ?_) rfl (by kernel_rfl) (by kernel_rfl) (by kernel_rfl) (fun _ _ _ h => h) (Or.inl ⟨by rfl, ?_⟩) hHeld ?_
    rotate_left 1
    · intro w9 hw9; (try (obtain ⟨k8, k9⟩ := hw9; obtain ⟨g0, g1, g2, _, _, _⟩ := blk3v k8; obtain ⟨h0, h1, h2, _, _, _⟩ := blk3v k9)); go_simp; try with_reducible rfl
    simp only [Act.put, List.setIfInBounds_toArray, List.set_cons_zero, List.set_cons_succ]
    refine wpAnyH_take (i := 17) (oi := ({ dst := some 100, op := Op.move (Operand.tmp 2), type := 69, pos := "auto.go:87", after := #[{ on := 18, ground := Ground.gcOnly Departure.lateStores }], guard := none } : Oper)) (v := ?_) rfl (by kernel_rfl) (by kernel_rfl) (by kernel_rfl) (fun _ _ _ h => h) (Or.inl ⟨by rfl, ?_⟩) hHeld ?_
    rotate_left 1
    · intro w9 hw9; (try (obtain ⟨k8, k9⟩ := hw9; obtain ⟨g0, g1, g2, _, _, _⟩ := blk3v k8; obtain ⟨h0, h1, h2, _, _, _⟩ := blk3v k9)); go_simp; try with_reducible rfl
    simp only [Act.put, List.setIfInBounds_toArray, List.set_cons_zero, List.set_cons_succ]
    refine wpAnyH_ready (rs := [10]) (by kernel_rfl) (by simp) ?_
    refine AllReadyH.cons (o := ({ dst := some 93, op := Op.call { callee := Callee.value (Operand.func 46), args := #[Operand.tmp 90, Operand.tmp 92], argTypes := #[66, 66] }, type := 66, pos := "auto.go:87", after := #[{ on := 7, ground := Ground.data }, { on := 9, ground := Ground.data }, { on := 2, ground := Ground.chain }], guard := none } : Oper)) rfl (fun K hK => ?_) AllReadyH.nil
    go_simp
    go_at_call 46
    refine (BF.out _ HBD.out).mono ?_
    rintro e w6 ⟨⟨v6, rfl, hO6⟩, hb6⟩
    have HB6 := hid (below_then (show Below w5.heap.size w5 w5.drew from HBD.out) hb6)
    have hml := HA5.out.mv_lt
    have hQ6 : NsX (Mv (fun k => Y k ∨ k = w.heap.size + 1) p av4 lv4) w6 v6 (FA ++ FB) := own_nsx hO6 (fun k e x => by
      have h1 := (hO6.lt k e).1
      have h2 : w5.drew.heap.size = w5.heap.size := rfl
      rcases x with x | x | x | x
      · have := hml k (Or.inl x); omega
      · have := hml k (Or.inr (Or.inl x)); omega
      · have := hml k (Or.inr (Or.inr (Or.inl x))); omega
      · have := HY5.out k x; omega)
    obtain ⟨FF, hFF⟩ : ∃ FF, FF = FA ++ FB := ⟨_, rfl⟩
    rw [← hFF] at hQ6
    have HFF := hid hFF
    obtain ⟨qa, qc, rfl, _⟩ := NsX.lenx hQ6
    have HQ6 := hid hQ6
    have HN6 := hid (HN5.out.keep HB6.out)
    have HM6 := hid (HM5.out.keep HB6.out)
    clear hO6 hb6 hml hQ6 hFF
    refine hK.out _ _ (⟨HN6.out, HM6.out⟩) (fun hHeld => ?_)
    clear hK K
    (try simp only [Act.put, List.setIfInBounds_toArray, List.set_cons_zero, List.set_cons_succ])
    refine wpAnyH_ready (rs := [15]) (by kernel_rfl) (by simp) ?_
    refine AllReadyH.cons (o := ({ dst := some 98, op := Op.call { callee := Callee.value (Operand.func 46), args := #[Operand.tmp 95, Operand.tmp 97], argTypes := #[66, 66] }, type := 66, pos := "auto.go:87", after := #[{ on := 12, ground := Ground.data }, { on := 14, ground := Ground.data }, { on := 10, ground := Ground.chain }], guard := none } : Oper)) rfl (fun K hK => ?_) AllReadyH.nil
    go_simp
    go_at_call 46
    refine (BL.out _ HB6.out).mono ?_
    rintro e w7 ⟨⟨v7, rfl, hO7⟩, hb7⟩
    have HB7 := hid (below_then HB6.out hb7)
    have hml := HA5.out.mv_lt
    have hQ7 : NsX (Mv (fun k => Y k ∨ k = w.heap.size + 1) p av4 lv4) w7 v7 (LA ++ LB) := own_nsx hO7 (fun k e x => by
      have h1 := (hO7.lt k e).1
      have h2 := HB6.out.size
      rcases x with x | x | x | x
      · have := hml k (Or.inl x); omega
      · have := hml k (Or.inr (Or.inl x)); omega
      · have := hml k (Or.inr (Or.inr (Or.inl x))); omega
      · have := HY5.out k x; omega)
    obtain ⟨LF, hLF⟩ : ∃ LF, LF = LA ++ LB := ⟨_, rfl⟩
    rw [← hLF] at hQ7
    have HLF := hid hLF
    obtain ⟨ra, rc, rfl, _⟩ := NsX.lenx hQ7
    have HQ2 := hid hQ7
    have HQ1 := hid (Asd.stpd HQ6.out (Stpd.below p av4 lv4 hb7))
    have HN7 := hid (HN5.out.keep HB7.out)
    have HM7 := hid (HM5.out.keep HB7.out)
    obtain ⟨r0, r1, r2, f0, f1, f2⟩ := blk3v (HR5.out.keep HB7.out)
    clear hO7 hb7 hml hQ7 hLF
    refine hK.out _ _ (⟨HN7.out, HM7.out⟩) (fun hHeld => ?_)
    clear hK K
    (try simp only [Act.put, List.setIfInBounds_toArray, List.set_cons_zero, List.set_cons_succ])
    refine wpAnyH_take (i := 16) (oi := ({ dst := some 99, op := Op.build 68 #[(0, Operand.tmp 88), (1, Operand.tmp 93), (2, Operand.tmp 98)], type := 68, pos := "auto.go:87", after := #[{ on := 5, ground := Ground.data }, { on := 10, ground := Ground.data }, { on := 15, ground := Ground.data }], guard := none } : Oper)) (v := ?_) rfl (by kernel_rfl) (by kernel_rfl) (by kernel_rfl) (fun _ _ _ h => h) (Or.inl ⟨by rfl, ?_⟩) hHeld ?_
    rotate_left 1
    · intro w9 hw9; (try (obtain ⟨k8, k9⟩ := hw9; obtain ⟨g0, g1, g2, _, _, _⟩ := blk3v k8; obtain ⟨h0, h1, h2, _, _, _⟩ := blk3v k9)); go_simp; try with_reducible rfl
    simp only [Act.put, List.setIfInBounds_toArray, List.set_cons_zero, List.set_cons_succ]
    refine wpAnyH_ready (rs := [18]) (by kernel_rfl) (by simp) ?_
    refine AllReadyH.cons (o := ({ dst := none, op := Op.store 68 (Operand.tmp 6) (Operand.tmp 99), type := 0, pos := "auto.go:87", after := #[{ on := 16, ground := Ground.data }, { on := 15, ground := Ground.chain }, { on := 0, ground := Ground.phase }, { on := 1, ground := Ground.phase }, { on := 2, ground := Ground.phase }, { on := 3, ground := Ground.phase }, { on := 4, ground := Ground.phase }, { on := 5, ground := Ground.phase }, { on := 6, ground := Ground.phase }, { on := 7, ground := Ground.phase }, { on := 8, ground := Ground.phase }, { on := 9, ground := Ground.phase }, { on := 10, ground := Ground.phase }, { on := 11, ground := Ground.phase }, { on := 12, ground := Ground.phase }, { on := 13, ground := Ground.phase }, { on := 14, ground := Ground.phase }, { on := 15, ground := Ground.phase }, { on := 16, ground := Ground.phase }, { on := 17, ground := Ground.textOnly Departure.lateStores }], guard := none } : Oper)) rfl (fun K hK => ?_) AllReadyH.nil
    go_simp
    refine hK.out _ _ (⟨HN7.out.other3 hne _ _ _, HM7.out.other3 hne4 _ _ _⟩) (fun hHeld => ?_)
    clear hK K
    (try simp only [Act.put, List.setIfInBounds_toArray, List.set_cons_zero, List.set_cons_succ])
    refine wpAnyH_take (i := 19) (oi := ({ dst := some 7, op := Op.assign (Operand.tmp 100), type := 69, pos := "auto.go:87", after := #[{ on := 17, ground := Ground.data }, { on := 18, ground := Ground.chain }, { on := 0, ground := Ground.phase }, { on := 1, ground := Ground.phase }, { on := 2, ground := Ground.phase }, { on := 3, ground := Ground.phase }, { on := 4, ground := Ground.phase }, { on := 5, ground := Ground.phase }, { on := 6, ground := Ground.phase }, { on := 7, ground := Ground.phase }, { on := 8, ground := Ground.phase }, { on := 9, ground := Ground.phase }, { on := 10, ground := Ground.phase }, { on := 11, ground := Ground.phase }, { on := 12, ground := Ground.phase }, { on := 13, ground := Ground.phase }, { on := 14, ground := Ground.phase }, { on := 15, ground := Ground.phase }, { on := 16, ground := Ground.phase }, { on := 17, ground := Ground.phase }, { on := 18, ground := Ground.phase }], guard := none } : Oper)) (v := ?_) rfl (by kernel_rfl) (by kernel_rfl) (by kernel_rfl) (fun _ _ _ h => h) (Or.inl ⟨by rfl, ?_⟩) hHeld ?_
    rotate_left 1
    · intro w9 hw9; (try (obtain ⟨k8, k9⟩ := hw9; obtain ⟨g0, g1, g2, _, _, _⟩ := blk3v k8; obtain ⟨h0, h1, h2, _, _, _⟩ := blk3v k9)); go_simp; try with_reducible rfl
    simp only [Act.put, List.setIfInBounds_toArray, List.set_cons_zero, List.set_cons_succ]
    refine wpAnyH_done (by kernel_rfl) ?_ _
    have hst := Stpd.below p av4 lv4 HB7.out
    obtain ⟨e1, e2, e3, e4, e5⟩ := part_end (Y := Y) (e := true) (Nat.le_succ w.heap.size) (HA5.out.keep HB7.out) (HS5.out.trans hst) HQ1.out HQ2.out (HR5.out.keep HB7.out)
    have HE1 := hid e1
    have HE2 := hid e2
    have HE3 := hid e3
    have HE4 := hid e4
    have HE5 := hid e5
    clear hst e1 e2 e3 e4 e5
    go_wp2
    refine bodyPost_ret (tup_ret (s := 6) (s2 := 7) rfl HE1.out Tryd.results32) rfl ⟨_, _, _, _, _, (by show _ = Ending.returned (.tuple #[.agg #[.bool (r.emp || s.emp), _, _], _]); rw [← HEA.out, ← HEB.out]; rfl), (by simpa [Rx.pairsL, Rx.labs, List.append_assoc] using HE2.out), HE3.out, (by rw [show (Rx.alt r s).firstL (ls.length + 1) = FF by rw [HFF.out, HFA.out, HFB.out]; rfl]; exact HE4.out), (by rw [show (Rx.alt r s).lastL (ls.length + 1) = LF by rw [HLF.out, HLA.out, HLB.out]; rfl]; exact HE5.out)⟩
  case true.true =>
    go_enter Tryd.func32, Tryd.ntmps32
    go_upto_region 1 with fail
    rw [← hw1]
    clear hw1
    go_wp2_with fail
    refine C.out.mono ?_
    rintro e w2 ⟨fv, lsv, av2, lv2, lxs2, rfl, hA, hS, hF, hL⟩
    obtain ⟨fa, fc, rfl, _⟩ := NsX.lenx hF
    obtain ⟨la, lc, rfl, _⟩ := NsX.lenx hL
    obtain ⟨FA, hFA⟩ : ∃ FA, FA = r.firstL (ls.length + 1) := ⟨_, rfl⟩
    obtain ⟨LA, hLA⟩ : ∃ LA, LA = r.lastL (ls.length + 1) := ⟨_, rfl⟩
    rw [← hFA] at hF ⊢
    rw [← hLA] at hL ⊢
    have HFA := hid hFA
    have HLA := hid hLA
    obtain ⟨w3, hw3⟩ : ∃ w3, w3 = w2.alloc (.cells #[.bool true, .slice fa FA.length fc, .slice la LA.length lc] 68) := ⟨_, rfl⟩
    have hb3 : Below w2.heap.size w2 w3 := by rw [hw3]; exact (Below.refl _ _).alloc (Nat.le_refl _) _
    have hN3 : Blk w3 w2.heap.size [.bool true, .slice fa FA.length fc, .slice la LA.length lc] 68 := by rw [hw3]; exact Blk.new w2 _ _
    have hR3 := (HR.out.frm hS.1 (fun e => by have := HML.out _ e; omega)).keep hb3
    have hX3 := (HX.out.frm hS.1 (fun e => by have := HML.out _ e; omega)).keep hb3
    have hA3 := hA.keep hb3
    have hSt1 := hS.trans (Stpd.below p av2 lv2 hb3)
    have hS3 := (Stpd.below p av lv HB1.out).trans hSt1
    have hF3 := Asd.stpd hF (Stpd.below p av2 lv2 hb3)
    have hL3 := Asd.stpd hL (Stpd.below p av2 lv2 hb3)
    have hY3 : ∀ k, (Y k ∨ k = w.heap.size + 1) → k < w3.heap.size := fun k e => by have := HY1.out k e; have := hS.1.size; have := hb3.size; omega
    have hnm : ¬ Mv NoY p av2 lv2 w2.heap.size := fun e => by have := hA.mv_lt _ e; omega
    have hH3 := HH1.out.stpd hSt1
    obtain ⟨y0, y1, y2, y3⟩ := hH3.row4 HRO'.out
    have C2 := IHS.out B WB w3 _ p _ _ av2 lv2 lxs2 _ _ HK'.out hH3 hA3 hY3 (by have := HB1'.out; have := hS.1.size; have := hb3.size; omega) (by have := H30.out; omega) HLN.out.1 HLN.out.2
    unfold PartPost pv at C2
    rw [← HEB.out, HLL.out] at C2
    have C2 := hid C2
    obtain ⟨c0, c1, c2, c3⟩ := blk4 hX3
    have hnot : w2.heap.size ≠ w.heap.size + 1 ∧ w.heap.size ≠ w.heap.size + 1 := by
      have := HY1.out (w.heap.size + 1) (Or.inr rfl); have := hS.1.size; omega
    have HNE := hid hnot
    have HMV3 := hid (show ¬ Mv NoY p av2 lv2 w2.heap.size ∧ ¬ Mv NoY p av2 lv2 w.heap.size ∧ ¬ Mv NoY p av2 lv2 (w.heap.size + 1) from ⟨hnm, fun e => by
      have := hS.2 _ (by have := HZ1.out; omega) e
      have := HML.out _ this
      omega, fun e => by
      have := hS.2 _ (by have := HZ1.out; omega) e
      have := HML.out _ this
      omega⟩)
    have HA3 := hid hA3
    have HS3 := hid hS3
    have HF3 := hid hF3
    have HL3 := hid hL3
    have HY3 := hid hY3
    have HR3 := hid hR3
    have HN3 := hid hN3
    have HX3 := hid hX3
    have HSB := hid (show B ≤ w3.heap.size from by have := HB1'.out; have := hS.1.size; have := hb3.size; omega)
    have HW2 := hid (show w2.heap.size < w3.heap.size from hN3.lt)
    clear hA hS hF hL hA3 hS3 hF3 hL3 hY3 hnm hR3 hN3 hX3 hFA hLA z0 z1 z2 z3 hSt1 hH3 hnot
    go_upto_region 8 with fail
    rw [← hw3]
    clear hw3 hb3
    go_wp2_with fail
    refine C2.out.mono ?_
    rintro e w4 ⟨gv, gsv, av4, lv4, lxs4, rfl, hA, hS, hF, hL⟩
    obtain ⟨ga, gc, rfl, _⟩ := NsX.lenx hF
    obtain ⟨ma, mc, rfl, _⟩ := NsX.lenx hL
    obtain ⟨FB, hFB⟩ : ∃ FB, FB = s.firstL (ls.length + 1 + r.n) := ⟨_, rfl⟩
    obtain ⟨LB, hLB⟩ : ∃ LB, LB = s.lastL (ls.length + 1 + r.n) := ⟨_, rfl⟩
    rw [← hFB] at hF ⊢
    rw [← hLB] at hL ⊢
    have HFB := hid hFB
    have HLB := hid hLB
    obtain ⟨w5, hw5⟩ : ∃ w5, w5 = w4.alloc (.cells #[.bool true, .slice ga FB.length gc, .slice ma LB.length mc] 68) := ⟨_, rfl⟩
    have hb5 : Below w4.heap.size w4 w5 := by rw [hw5]; exact (Below.refl _ _).alloc (Nat.le_refl _) _
    have hM5 : Blk w5 w4.heap.size [.bool true, .slice ga FB.length gc, .slice ma LB.length mc] 68 := by rw [hw5]; exact Blk.new w4 _ _
    have hN5 := (HN3.out.frm hS.1 HMV3.out.1).keep hb5
    have hX5 := (HX3.out.frm hS.1 HMV3.out.2.1).keep hb5
    have hR5 := (HR3.out.frm hS.1 HMV3.out.2.2).keep hb5
    have hSt2 := hS.trans (Stpd.below p av4 lv4 hb5)
    have hA5 := hA.keep hb5
    have hS5 := HS3.out.trans hSt2
    have hF5 := Asd.stpd HF3.out hSt2
    have hL5 := Asd.stpd HL3.out hSt2
    have hG5 := Asd.stpd hF (Stpd.below p av4 lv4 hb5)
    have hM5' := Asd.stpd hL (Stpd.below p av4 lv4 hb5)
    have hY5 : ∀ k, (Y k ∨ k = w.heap.size + 1) → k < w5.heap.size := fun k e => by have := HY3.out k e; have := hS.1.size; have := hb5.size; omega
    obtain ⟨c0, c1, c2, c3⟩ := blk4 hX5
    obtain ⟨n0, m1, m2, _, _, _⟩ := blk3v hN5
    obtain ⟨o0, o1, o2, _, _, _⟩ := blk3v hM5
    have hsz2 := hS.1.size
    have hlt4 : w4.heap.size < w5.heap.size := hM5.lt
    have HNO := hid (show ∀ b, b = w2.heap.size ∨ b = w.heap.size ∨ b = w.heap.size + 1 ∨ b = w4.heap.size → ¬ Mv NoY p av4 lv4 b from fun b hb e => by
      have hlt := hA.mv_lt _ e
      rcases hb with rfl | rfl | rfl | rfl
      · exact HMV3.out.1 (hS.2 _ HW2.out e)
      · exact HMV3.out.2.1 (hS.2 _ (by have := HW2.out; have := HB1.out.size; have := HR3.out.lt; omega) e)
      · exact HMV3.out.2.2 (hS.2 _ HR3.out.lt e)
      · omega)
    have HNE4 := hid (show w4.heap.size ≠ w.heap.size + 1 from by have := HR3.out.lt; omega)
    have HA5 := hid hA5
    have HS5 := hid hS5
    have HF5 := hid hF5
    have HL5 := hid hL5
    have HG5 := hid hG5
    have HM5' := hid hM5'
    have HY5 := hid hY5
    have HR5 := hid hR5
    have HN5 := hid hN5
    have HX5 := hid hX5
    have HM5 := hid hM5
    have HSB5 := hid (show B ≤ w5.heap.size from by have := HSB.out; omega)
    have hne := HNE.out.1
    have hne2 := HNE.out.2
    have hne4 := HNE4.out
    clear hA hS hF hL hA5 hS5 hF5 hL5 hG5 hM5' hY5 hR5 hN5 hX5 hM5 hFB hLB y0 y1 y2 y3 hSt2 hsz2 hlt4
    go_upto_region 15 with fail
    rw [← hw5]
    clear hw5 hb5
    have BF := hid fun W (hb : Below w5.heap.size w5 W) => both_any _ _ FA FB W (Asd.here (Asd.stpd HF5.out (Stpd.below p av4 lv4 hb))) (Asd.here (Asd.stpd HG5.out (Stpd.below p av4 lv4 hb))) (by rw [HFA.out, HFB.out]; have := HFLL.out.1; omega)
    have BL := hid fun W (hb : Below w5.heap.size w5 W) => both_any _ _ LA LB W (Asd.here (Asd.stpd HL5.out (Stpd.below p av4 lv4 hb))) (Asd.here (Asd.stpd HM5'.out (Stpd.below p av4 lv4 hb))) (by rw [HLA.out, HLB.out]; have := HFLL.out.2; omega)
    go_upto_region 16 with fail
    have HBD := hid (show Below w5.heap.size w5 w5.drew from below_drawn (Below.refl _ _) 1)
    refine wp_region_held_drew (S := fun w' => Blk w' w2.heap.size [.bool true, .slice fa FA.length fc, .slice la LA.length lc] 68 ∧ Blk w' w4.heap.size [.bool true, .slice ga FB.length gc, .slice ma LB.length mc] 68) (by kernel_rfl) ⟨HN5.out, HM5.out⟩ (fun hHeld => ?_)
    refine wpAnyH_take (i := 0) (oi := ({ dst := some 83, op := Op.fieldAddr 68 (Operand.tmp 8) 0, type := 0, pos := "auto.go:87", after := #[], guard := none } : Oper)) (v := ?_) rfl (by kernel_rfl) (by kernel_rfl) (by kernel_rfl) (fun _ _ _ h => h) (Or.inl ⟨by rfl, ?_⟩) hHeld ?_
    rotate_left 1
    · intro w9 hw9; (try (obtain ⟨k8, k9⟩ := hw9; obtain ⟨g0, g1, g2, _, _, _⟩ := blk3v k8; obtain ⟨h0, h1, h2, _, _, _⟩ := blk3v k9)); go_simp; try with_reducible rfl
    simp only [Act.put, List.setIfInBounds_toArray, List.set_cons_zero, List.set_cons_succ]
    refine wpAnyH_take (i := 1) (oi := ({ dst := some 84, op := Op.load 4 (Operand.tmp 83), type := 4, pos := "auto.go:87", after := #[{ on := 0, ground := Ground.data }], guard := none } : Oper)) (v := ?_) rfl (by kernel_rfl) (by kernel_rfl) (by kernel_rfl) (fun _ _ _ h => h) (Or.inl ⟨by rfl, ?_⟩) hHeld ?_
    rotate_left 1
    · intro w9 hw9; (try (obtain ⟨k8, k9⟩ := hw9; obtain ⟨g0, g1, g2, _, _, _⟩ := blk3v k8; obtain ⟨h0, h1, h2, _, _, _⟩ := blk3v k9)); go_simp; try with_reducible rfl
    simp only [Act.put, List.setIfInBounds_toArray, List.set_cons_zero, List.set_cons_succ]
    refine wpAnyH_take (i := 2) (oi := ({ dst := some 85, op := Op.move (Operand.tmp 84), type := 4, pos := "auto.go:87", after := #[{ on := 1, ground := Ground.data }], guard := none } : Oper)) (v := ?_) rfl (by kernel_rfl) (by kernel_rfl) (by kernel_rfl) (fun _ _ _ h => h) (Or.inl ⟨by rfl, ?_⟩) hHeld ?_
    rotate_left 1
    · intro w9 hw9; (try (obtain ⟨k8, k9⟩ := hw9; obtain ⟨g0, g1, g2, _, _, _⟩ := blk3v k8; obtain ⟨h0, h1, h2, _, _, _⟩ := blk3v k9)); go_simp; try with_reducible rfl
    simp only [Act.put, List.setIfInBounds_toArray, List.set_cons_zero, List.set_cons_succ]
    refine wpAnyH_take (i := 3) (oi := ({ dst := some 86, op := Op.fieldAddr 68 (Operand.tmp 9) 0, type := 0, pos := "auto.go:87", after := #[{ on := 2, ground := Ground.guard }], guard := some (2, false) } : Oper)) (v := undef) rfl (by kernel_rfl) (by kernel_rfl) (by kernel_rfl) (fun _ _ _ h => h) (Or.inr ⟨by rfl, rfl⟩) hHeld ?_
    simp only [Act.put, List.setIfInBounds_toArray, List.set_cons_zero, List.set_cons_succ]
    refine wpAnyH_take (i := 4) (oi := ({ dst := some 87, op := Op.load 4 (Operand.tmp 86), type := 4, pos := "auto.go:87", after := #[{ on := 3, ground := Ground.data }, { on := 2, ground := Ground.guard }], guard := some (2, false) } : Oper)) (v := undef) rfl (by kernel_rfl) (by kernel_rfl) (by kernel_rfl) (fun _ _ _ h => h) (Or.inr ⟨by rfl, rfl⟩) hHeld ?_
    simp only [Act.put, List.setIfInBounds_toArray, List.set_cons_zero, List.set_cons_succ]
    refine wpAnyH_take (i := 5) (oi := ({ dst := some 88, op := Op.pick (Operand.tmp 85) (Operand.const (Value.bool true)) (Operand.tmp 87), type := 4, pos := "auto.go:87", after := #[{ on := 2, ground := Ground.data }, { on := 4, ground := Ground.data }], guard := none } : Oper)) (v := ?_) rfl (by kernel_rfl) (by kernel_rfl) (by kernel_rfl) (fun _ _ _ h => h) (Or.inl ⟨by rfl, ?_⟩) hHeld ?_
    rotate_left 1
    · intro w9 hw9; (try (obtain ⟨k8, k9⟩ := hw9; obtain ⟨g0, g1, g2, _, _, _⟩ := blk3v k8; obtain ⟨h0, h1, h2, _, _, _⟩ := blk3v k9)); go_simp; try with_reducible rfl
    simp only [Act.put, List.setIfInBounds_toArray, List.set_cons_zero, List.set_cons_succ]
    refine wpAnyH_take (i := 6) (oi := ({ dst := some 89, op := Op.fieldAddr 68 (Operand.tmp 8) 1, type := 0, pos := "auto.go:87", after := #[], guard := none } : Oper)) (v := ?_) rfl (by kernel_rfl) (by kernel_rfl) (by kernel_rfl) (fun _ _ _ h => h) (Or.inl ⟨by rfl, ?_⟩) hHeld ?_
    rotate_left 1
    · intro w9 hw9; (try (obtain ⟨k8, k9⟩ := hw9; obtain ⟨g0, g1, g2, _, _, _⟩ := blk3v k8; obtain ⟨h0, h1, h2, _, _, _⟩ := blk3v k9)); go_simp; try with_reducible rfl
    simp only [Act.put, List.setIfInBounds_toArray, List.set_cons_zero, List.set_cons_succ]
    refine wpAnyH_take (i := 7) (oi := ({ dst := some 90, op := Op.load 66 (Operand.tmp 89), type := 66, pos := "auto.go:87", after := #[{ on := 6, ground := Ground.data }], guard := none } : Oper)) (v := ?_) rfl (by kernel_rfl) (by kernel_rfl) (by kernel_rfl) (fun _ _ _ h => h) (Or.inl ⟨by rfl, ?_⟩) hHeld ?_
    rotate_left 1
    · intro w9 hw9; (try (obtain ⟨k8, k9⟩ := hw9; obtain ⟨g0, g1, g2, _, _, _⟩ := blk3v k8; obtain ⟨h0, h1, h2, _, _, _⟩ := blk3v k9)); go_simp; try with_reducible rfl
    simp only [Act.put, List.setIfInBounds_toArray, List.set_cons_zero, List.set_cons_succ]
    refine wpAnyH_take (i := 8) (oi := ({ dst := some 91, op := Op.fieldAddr 68 (Operand.tmp 9) 1, type := 0, pos := "auto.go:87", after := #[], guard := none } : Oper)) (v := ?_) rfl (by kernel_rfl) (by kernel_rfl) (by kernel_rfl) (fun _ _ _ h => h) (Or.inl ⟨by rfl, ?_⟩) hHeld ?_
    rotate_left 1
    · intro w9 hw9; (try (obtain ⟨k8, k9⟩ := hw9; obtain ⟨g0, g1, g2, _, _, _⟩ := blk3v k8; obtain ⟨h0, h1, h2, _, _, _⟩ := blk3v k9)); go_simp; try with_reducible rfl
    simp only [Act.put, List.setIfInBounds_toArray, List.set_cons_zero, List.set_cons_succ]
    refine wpAnyH_take (i := 9) (oi := ({ dst := some 92, op := Op.load 66 (Operand.tmp 91), type := 66, pos := "auto.go:87", after := #[{ on := 8, ground := Ground.data }], guard := none } : Oper)) (v := ?_) rfl (by kernel_rfl) (by kernel_rfl) (by kernel_rfl) (fun _ _ _ h => h) (Or.inl ⟨by rfl, ?_⟩) hHeld ?_
    rotate_left 1
    · intro w9 hw9; (try (obtain ⟨k8, k9⟩ := hw9; obtain ⟨g0, g1, g2, _, _, _⟩ := blk3v k8; obtain ⟨h0, h1, h2, _, _, _⟩ := blk3v k9)); go_simp; try with_reducible rfl
    simp only [Act.put, List.setIfInBounds_toArray, List.set_cons_zero, List.set_cons_succ]
    refine wpAnyH_take (i := 11) (oi := ({ dst := some 94, op := Op.fieldAddr 68 (Operand.tmp 8) 2, type := 0, pos := "auto.go:87", after := #[], guard := none } : Oper)) (v := ?_) rfl (by kernel_rfl) (by kernel_rfl) (by kernel_rfl) (fun _ _ _ h => h) (Or.inl ⟨by rfl, ?_⟩) hHeld ?_
    rotate_left 1
    · intro w9 hw9; (try (obtain ⟨k8, k9⟩ := hw9; obtain ⟨g0, g1, g2, _, _, _⟩ := blk3v k8; obtain ⟨h0, h1, h2, _, _, _⟩ := blk3v k9)); go_simp; try with_reducible rfl
    simp only [Act.put, List.setIfInBounds_toArray, List.set_cons_zero, List.set_cons_succ]
    refine wpAnyH_take (i := 12) (oi := ({ dst := some 95, op := Op.load 66 (Operand.tmp 94), type := 66, pos := "auto.go:87", after := #[{ on := 11, ground := Ground.data }], guard := none } : Oper)) (v := ?_) rfl (by kernel_rfl) (by kernel_rfl) (by kernel_rfl) (fun _ _ _ h => h) (Or.inl ⟨by rfl, ?_⟩) hHeld ?_
    rotate_left 1
    · intro w9 hw9; (try (obtain ⟨k8, k9⟩ := hw9; obtain ⟨g0, g1, g2, _, _, _⟩ := blk3v k8; obtain ⟨h0, h1, h2, _, _, _⟩ := blk3v k9)); go_simp; try with_reducible rfl
    simp only [Act.put, List.setIfInBounds_toArray, List.set_cons_zero, List.set_cons_succ]
    refine wpAnyH_take (i := 13) (oi := ({ dst := some 96, op := Op.fieldAddr 68 (Operand.tmp 9) 2, type := 0, pos := "auto.go:87", after := #[], guard := none } : Oper)) (v := ?_) rfl (by kernel_rfl) (by kernel_rfl) (by kernel_rfl) (fun _ _ _ h => h) (Or.inl ⟨by rfl, ?_⟩) hHeld ?_
    rotate_left 1
    · intro w9 hw9; (try (obtain ⟨k8, k9⟩ := hw9; obtain ⟨g0, g1, g2, _, _, _⟩ := blk3v k8; obtain ⟨h0, h1, h2, _, _, _⟩ := blk3v k9)); go_simp; try with_reducible rfl
    simp only [Act.put, List.setIfInBounds_toArray, List.set_cons_zero, List.set_cons_succ]
    refine wpAnyH_take (i := 14) (oi := ({ dst := some 97, op := Op.load 66 (Operand.tmp 96), type := 66, pos := "auto.go:87", after := #[{ on := 13, ground := Ground.data }], guard := none } : Oper)) (v := ?_) rfl (by kernel_rfl) (by kernel_rfl) (by kernel_rfl) (fun _ _ _ h => h) (Or.inl ⟨by rfl, ?_⟩) hHeld ?_
    rotate_left 1
    · intro w9 hw9; (try (obtain ⟨k8, k9⟩ := hw9; obtain ⟨g0, g1, g2, _, _, _⟩ := blk3v k8; obtain ⟨h0, h1, h2, _, _, _⟩ := blk3v k9)); go_simp; try with_reducible rfl
    simp only [Act.put, List.setIfInBounds_toArray, List.set_cons_zero, List.set_cons_succ]
    refine wpAnyH_take (i := 17) (oi := ({ dst := some 100, op := Op.move (Operand.tmp 2), type := 69, pos := "auto.go:87", after := #[{ on := 18, ground := Ground.gcOnly Departure.lateStores }], guard := none } : Oper)) (v := ?_) rfl (by kernel_rfl) (by kernel_rfl) (by kernel_rfl) (fun _ _ _ h => h) (Or.inl ⟨by rfl, ?_⟩) hHeld ?_
    rotate_left 1
    · intro w9 hw9; (try (obtain ⟨k8, k9⟩ := hw9; obtain ⟨g0, g1, g2, _, _, _⟩ := blk3v k8; obtain ⟨h0, h1, h2, _, _, _⟩ := blk3v k9)); go_simp; try with_reducible rfl
    simp only [Act.put, List.setIfInBounds_toArray, List.set_cons_zero, List.set_cons_succ]
    refine wpAnyH_ready (rs := [10]) (by kernel_rfl) (by simp) ?_
    refine AllReadyH.cons (o := ({ dst := some 93, op := Op.call { callee := Callee.value (Operand.func 46), args := #[Operand.tmp 90, Operand.tmp 92], argTypes := #[66, 66] }, type := 66, pos := "auto.go:87", after := #[{ on := 7, ground := Ground.data }, { on := 9, ground := Ground.data }, { on := 2, ground := Ground.chain }], guard := none } : Oper)) rfl (fun K hK => ?_) AllReadyH.nil
    go_simp
    go_at_call 46
    refine (BF.out _ HBD.out).mono ?_
    rintro e w6 ⟨⟨v6, rfl, hO6⟩, hb6⟩
    have HB6 := hid (below_then (show Below w5.heap.size w5 w5.drew from HBD.out) hb6)
    have hml := HA5.out.mv_lt
    have hQ6 : NsX (Mv (fun k => Y k ∨ k = w.heap.size + 1) p av4 lv4) w6 v6 (FA ++ FB) := own_nsx hO6 (fun k e x => by
      have h1 := (hO6.lt k e).1
      have h2 : w5.drew.heap.size = w5.heap.size := rfl
      rcases x with x | x | x | x
      · have := hml k (Or.inl x); omega
      · have := hml k (Or.inr (Or.inl x)); omega
      · have := hml k (Or.inr (Or.inr (Or.inl x))); omega
      · have := HY5.out k x; omega)
    obtain ⟨FF, hFF⟩ : ∃ FF, FF = FA ++ FB := ⟨_, rfl⟩
    rw [← hFF] at hQ6
    have HFF := hid hFF
    obtain ⟨qa, qc, rfl, _⟩ := NsX.lenx hQ6
    have HQ6 := hid hQ6
    have HN6 := hid (HN5.out.keep HB6.out)
    have HM6 := hid (HM5.out.keep HB6.out)
    clear hO6 hb6 hml hQ6 hFF
    refine hK.out _ _ (⟨HN6.out, HM6.out⟩) (fun hHeld => ?_)
    clear hK K
    (try simp only [Act.put, List.setIfInBounds_toArray, List.set_cons_zero, List.set_cons_succ])
    refine wpAnyH_ready (rs := [15]) (by kernel_rfl) (by simp) ?_
    refine AllReadyH.cons (o := ({ dst := some 98, op := Op.call { callee := Callee.value (Operand.func 46), args := #[Operand.tmp 95, Operand.tmp 97], argTypes := #[66, 66] }, type := 66, pos := "auto.go:87", after := #[{ on := 12, ground := Ground.data }, { on := 14, ground := Ground.data }, { on := 10, ground := Ground.chain }], guard := none } : Oper)) rfl (fun K hK => ?_) AllReadyH.nil
    go_simp
    go_at_call 46
    refine (BL.out _ HB6.out).mono ?_
    rintro e w7 ⟨⟨v7, rfl, hO7⟩, hb7⟩
    have HB7 := hid (below_then HB6.out hb7)
    have hml := HA5.out.mv_lt
    have hQ7 : NsX (Mv (fun k => Y k ∨ k = w.heap.size + 1) p av4 lv4) w7 v7 (LA ++ LB) := own_nsx hO7 (fun k e x => by
      have h1 := (hO7.lt k e).1
      have h2 := HB6.out.size
      rcases x with x | x | x | x
      · have := hml k (Or.inl x); omega
      · have := hml k (Or.inr (Or.inl x)); omega
      · have := hml k (Or.inr (Or.inr (Or.inl x))); omega
      · have := HY5.out k x; omega)
    obtain ⟨LF, hLF⟩ : ∃ LF, LF = LA ++ LB := ⟨_, rfl⟩
    rw [← hLF] at hQ7
    have HLF := hid hLF
    obtain ⟨ra, rc, rfl, _⟩ := NsX.lenx hQ7
    have HQ2 := hid hQ7
    have HQ1 := hid (Asd.stpd HQ6.out (Stpd.below p av4 lv4 hb7))
    have HN7 := hid (HN5.out.keep HB7.out)
    have HM7 := hid (HM5.out.keep HB7.out)
    obtain ⟨r0, r1, r2, f0, f1, f2⟩ := blk3v (HR5.out.keep HB7.out)
    clear hO7 hb7 hml hQ7 hLF
    refine hK.out _ _ (⟨HN7.out, HM7.out⟩) (fun hHeld => ?_)
    clear hK K
    (try simp only [Act.put, List.setIfInBounds_toArray, List.set_cons_zero, List.set_cons_succ])
    refine wpAnyH_take (i := 16) (oi := ({ dst := some 99, op := Op.build 68 #[(0, Operand.tmp 88), (1, Operand.tmp 93), (2, Operand.tmp 98)], type := 68, pos := "auto.go:87", after := #[{ on := 5, ground := Ground.data }, { on := 10, ground := Ground.data }, { on := 15, ground := Ground.data }], guard := none } : Oper)) (v := ?_) rfl (by kernel_rfl) (by kernel_rfl) (by kernel_rfl) (fun _ _ _ h => h) (Or.inl ⟨by rfl, ?_⟩) hHeld ?_
    rotate_left 1
    · intro w9 hw9; (try (obtain ⟨k8, k9⟩ := hw9; obtain ⟨g0, g1, g2, _, _, _⟩ := blk3v k8; obtain ⟨h0, h1, h2, _, _, _⟩ := blk3v k9)); go_simp; try with_reducible rfl
    simp only [Act.put, List.setIfInBounds_toArray, List.set_cons_zero, List.set_cons_succ]
    refine wpAnyH_ready (rs := [18]) (by kernel_rfl) (by simp) ?_
    refine AllReadyH.cons (o := ({ dst := none, op := Op.store 68 (Operand.tmp 6) (Operand.tmp 99), type := 0, pos := "auto.go:87", after := #[{ on := 16, ground := Ground.data }, { on := 15, ground := Ground.chain }, { on := 0, ground := Ground.phase }, { on := 1, ground := Ground.phase }, { on := 2, ground := Ground.phase }, { on := 3, ground := Ground.phase }, { on := 4, ground := Ground.phase }, { on := 5, ground := Ground.phase }, { on := 6, ground := Ground.phase }, { on := 7, ground := Ground.phase }, { on := 8, ground := Ground.phase }, { on := 9, ground := Ground.phase }, { on := 10, ground := Ground.phase }, { on := 11, ground := Ground.phase }, { on := 12, ground := Ground.phase }, { on := 13, ground := Ground.phase }, { on := 14, ground := Ground.phase }, { on := 15, ground := Ground.phase }, { on := 16, ground := Ground.phase }, { on := 17, ground := Ground.textOnly Departure.lateStores }], guard := none } : Oper)) rfl (fun K hK => ?_) AllReadyH.nil
    go_simp
    refine hK.out _ _ (⟨HN7.out.other3 hne _ _ _, HM7.out.other3 hne4 _ _ _⟩) (fun hHeld => ?_)
    clear hK K
    (try simp only [Act.put, List.setIfInBounds_toArray, List.set_cons_zero, List.set_cons_succ])
    refine wpAnyH_take (i := 19) (oi := ({ dst := some 7, op := Op.assign (Operand.tmp 100), type := 69, pos := "auto.go:87", after := #[{ on := 17, ground := Ground.data }, { on := 18, ground := Ground.chain }, { on := 0, ground := Ground.phase }, { on := 1, ground := Ground.phase }, { on := 2, ground := Ground.phase }, { on := 3, ground := Ground.phase }, { on := 4, ground := Ground.phase }, { on := 5, ground := Ground.phase }, { on := 6, ground := Ground.phase }, { on := 7, ground := Ground.phase }, { on := 8, ground := Ground.phase }, { on := 9, ground := Ground.phase }, { on := 10, ground := Ground.phase }, { on := 11, ground := Ground.phase }, { on := 12, ground := Ground.phase }, { on := 13, ground := Ground.phase }, { on := 14, ground := Ground.phase }, { on := 15, ground := Ground.phase }, { on := 16, ground := Ground.phase }, { on := 17, ground := Ground.phase }, { on := 18, ground := Ground.phase }], guard := none } : Oper)) (v := ?_) rfl (by kernel_rfl) (by kernel_rfl) (by kernel_rfl) (fun _ _ _ h => h) (Or.inl ⟨by rfl, ?_⟩) hHeld ?_
    rotate_left 1
    · intro w9 hw9; (try (obtain ⟨k8, k9⟩ := hw9; obtain ⟨g0, g1, g2, _, _, _⟩ := blk3v k8; obtain ⟨h0, h1, h2, _, _, _⟩ := blk3v k9)); go_simp; try with_reducible rfl
    simp only [Act.put, List.setIfInBounds_toArray, List.set_cons_zero, List.set_cons_succ]
    refine wpAnyH_done (by kernel_rfl) ?_ _
    have hst := Stpd.below p av4 lv4 HB7.out
    obtain ⟨e1, e2, e3, e4, e5⟩ := part_end (Y := Y) (e := true) (Nat.le_succ w.heap.size) (HA5.out.keep HB7.out) (HS5.out.trans hst) HQ1.out HQ2.out (HR5.out.keep HB7.out)
    have HE1 := hid e1
    have HE2 := hid e2
    have HE3 := hid e3
    have HE4 := hid e4
    have HE5 := hid e5
    clear hst e1 e2 e3 e4 e5
    go_wp2
    refine bodyPost_ret (tup_ret (s := 6) (s2 := 7) rfl HE1.out Tryd.results32) rfl ⟨_, _, _, _, _, (by show _ = Ending.returned (.tuple #[.agg #[.bool (r.emp || s.emp), _, _], _]); rw [← HEA.out, ← HEB.out]; rfl), (by simpa [Rx.pairsL, Rx.labs, List.append_assoc] using HE2.out), HE3.out, (by rw [show (Rx.alt r s).firstL (ls.length + 1) = FF by rw [HFF.out, HFA.out, HFB.out]; rfl]; exact HE4.out), (by rw [show (Rx.alt r s).lastL (ls.length + 1) = LF by rw [HLF.out, HLA.out, HLB.out]; rfl]; exact HE5.out)⟩
set_option maxHeartbeats 16000000 in
theorem part_seq (r s : Rx) (IHr : PartOk r) (IHs : PartOk s) : PartOk (.seq r s) := by
  intro B WB w Y p v u av lv lxs ls ps hP hH h hY hB h30 hln hps
  have htp : (Rx.seq r s).toPt = .mk 3 [] [] [r.toPt, s.toPt] := rfl
  rw [htp] at hP ⊢
  obtain ⟨_, _, hLt, hLl, ak, capk, bb, off, f, g, hgi, q1, q2, q3, q4, hrow, hkid⟩ := hP.open
  obtain ⟨a, c, hfi, _⟩ := hLt.open
  subst hfi
  rw [hgi]
  unfold pv
  simp only [Pt.kind, Pt.text, Pt.kids, Pt.texts, List.length_nil, List.length_cons, Nat.zero_add] at q1 q3 q4 hrow hkid hgi ⊢
  obtain rfl := q4 (by omega)
  obtain ⟨w1, hw1⟩ : ∃ w1, w1 = (w.alloc (.cells #[.int .i64 3, .string ⟨#[]⟩, .slice a 0 c, .slice (some ⟨bb, off, none⟩) 2 capk] 25)).alloc (.cells #[.bool false, .slice none 0 0, .slice none 0 0] 68) := ⟨_, rfl⟩
  have hz1 : w1.heap.size = w.heap.size + 2 := by rw [hw1]; simp
  have hb1 : Below w.heap.size w w1 := by rw [hw1]; exact ((Below.refl _ _).alloc (Nat.le_refl _) _).alloc (by simp) _
  have hX : Blk w1 w.heap.size [.int .i64 3, .string ⟨#[]⟩, .slice a 0 c, .slice (some ⟨bb, off, none⟩) 2 capk] 25 := by rw [hw1]; exact (Blk.new w _ _).alloc _
  have hR : Blk w1 (w.heap.size + 1) [.bool false, .slice none 0 0, .slice none 0 0] 68 := by rw [hw1]; exact Blk.new' (by simp) rfl
  have hm1 : ∀ k, (Y k ∨ k = w.heap.size + 1) → Y k ∨ w.heap.size ≤ k := fun k e => e.elim Or.inl (fun e => Or.inr (by omega))
  have h1 := (h.more hm1).keep hb1
  have hH1 := (hH.more hm1).stpd (Stpd.below p av lv hb1)
  have hY1 : ∀ k, (Y k ∨ k = w.heap.size + 1) → k < w1.heap.size := fun k e => by rcases e with e | e; (have := hY k e; omega); omega
  have hB1 : B ≤ w1.heap.size := by omega
  obtain ⟨c0, c1, c2, c3⟩ := blk4 hX
  obtain ⟨r0, r1, r2, f0, f1, f2⟩ := blk3v hR
  rw [Rx.n_seq] at h30 hln
  simp only [Rx.sz] at hps
  have hr := hH1.row4 (hrow 0 (by simp))
  have hk := hkid 0 (by simp)
  have hr' := hrow 1 (by simp)
  have hk' := hkid 1 (by simp)
  simp only [List.getElem_cons_zero, List.getElem_cons_succ, Nat.zero_mul, Nat.one_mul, Nat.add_zero] at hr hk hr' hk'
  obtain ⟨a1, n1, e1, a2, n2, e2, hv1, hu1⟩ := pv_open hk
  obtain ⟨a3, n3, e3, a4, n4, e4, hv2, hu2⟩ := pv_open hk'
  rw [hv1, hu1] at hr hk
  rw [hv2, hu2] at hr' hk'
  obtain ⟨z0, z1, z2, z3⟩ := hr
  have C := IHr B WB w1 _ p _ _ av lv lxs ls ps hk hH1 h1 hY1 hB1 (by omega) (by omega) (by omega)
  obtain ⟨ea, hea⟩ : ∃ ea, ea = r.emp := ⟨_, rfl⟩
  obtain ⟨eb, heb⟩ : ∃ eb, eb = s.emp := ⟨_, rfl⟩
  unfold PartPost pv at C
  rw [← hea] at C
  have C := hid C
  have HEA := hid hea
  have HEB := hid heb
  have HB1 := hid hb1
  have HR := hid hR
  have HX := hid hX
  have HML := hid h.mv_lt
  have HY1 := hid hY1
  have HB1' := hid hB1
  have HH1 := hid hH1
  have HK' := hid hk'
  have HRO' := hid hr'
  have HZ1 := hid hz1
  have hll : (ls ++ r.labs).length + 1 = ls.length + 1 + r.n := by rw [List.length_append]; show ls.length + r.n + 1 = _; omega
  have hpl := Rx.pairsL_len (N := 30) r (ls.length + 1) (by omega)
  have hpl2 := Rx.pairsL_len (N := 30) s (ls.length + 1 + r.n) (by omega)
  have HLN := hid (show (ls ++ r.labs).length + s.n ≤ 1000 ∧ (ps ++ r.pairsL (ls.length + 1)).length + s.sz * 900 ≤ 100000 from by rw [List.length_append]; constructor; (show ls.length + r.n + s.n ≤ 1000; omega); rw [List.length_append]; omega)
  have HPS := hid (show (ps ++ r.pairsL (ls.length + 1) ++ s.pairsL (ls.length + 1 + r.n)).length + (r.lastL (ls.length + 1)).length * (s.firstL (ls.length + 1 + r.n)).length ≤ 1000000 from by
    have e2 := Rx.lastL_len r (ls.length + 1)
    have e3 := Rx.firstL_len s (ls.length + 1 + r.n)
    have e4 : (r.lastL (ls.length + 1)).length * (s.firstL (ls.length + 1 + r.n)).length ≤ 30 * 30 := Nat.mul_le_mul (by omega) (by omega)
    rw [List.length_append, List.length_append]; omega)
  have HFLL := hid (show (r.firstL (ls.length + 1)).length + (s.firstL (ls.length + 1 + r.n)).length ≤ 1000 ∧ (r.lastL (ls.length + 1)).length + (s.lastL (ls.length + 1 + r.n)).length ≤ 1000 from by
    have e1 := Rx.firstL_len r (ls.length + 1)
    have e2 := Rx.lastL_len r (ls.length + 1)
    have e3 := Rx.firstL_len s (ls.length + 1 + r.n)
    have e4 := Rx.lastL_len s (ls.length + 1 + r.n)
    omega)
  have HLL := hid hll
  have H30 := hid h30
  have IHS := hid IHs
  clear hb1 hX hR hm1 h1 hH1 hY1 hB1 hP hH h hY htp hk hk' hr' hrow hkid hgi hLl hLt q1 q3 hv1 hu1 hv2 hu2 hea heb IHr IHs hps hpl hpl2 hz1 hll h30 hln
  cases ea <;> cases eb
  case false.false =>
    go_enter Tryd.func32, Tryd.ntmps32
    go_upto_region 1 with fail
    rw [← hw1]
    clear hw1
    go_wp2_with fail
    refine C.out.mono ?_
    rintro e w2 ⟨fv, lsv, av2, lv2, lxs2, rfl, hA, hS, hF, hL⟩
    obtain ⟨fa, fc, rfl, _⟩ := NsX.lenx hF
    obtain ⟨la, lc, rfl, _⟩ := NsX.lenx hL
    obtain ⟨FA, hFA⟩ : ∃ FA, FA = r.firstL (ls.length + 1) := ⟨_, rfl⟩
    obtain ⟨LA, hLA⟩ : ∃ LA, LA = r.lastL (ls.length + 1) := ⟨_, rfl⟩
    rw [← hFA] at hF ⊢
    rw [← hLA] at hL ⊢
    have HFA := hid hFA
    have HLA := hid hLA
    obtain ⟨w3, hw3⟩ : ∃ w3, w3 = w2.alloc (.cells #[.bool false, .slice fa FA.length fc, .slice la LA.length lc] 68) := ⟨_, rfl⟩
    have hb3 : Below w2.heap.size w2 w3 := by rw [hw3]; exact (Below.refl _ _).alloc (Nat.le_refl _) _
    have hN3 : Blk w3 w2.heap.size [.bool false, .slice fa FA.length fc, .slice la LA.length lc] 68 := by rw [hw3]; exact Blk.new w2 _ _
    have hR3 := (HR.out.frm hS.1 (fun e => by have := HML.out _ e; omega)).keep hb3
    have hX3 := (HX.out.frm hS.1 (fun e => by have := HML.out _ e; omega)).keep hb3
    have hA3 := hA.keep hb3
    have hSt1 := hS.trans (Stpd.below p av2 lv2 hb3)
    have hS3 := (Stpd.below p av lv HB1.out).trans hSt1
    have hF3 := Asd.stpd hF (Stpd.below p av2 lv2 hb3)
    have hL3 := Asd.stpd hL (Stpd.below p av2 lv2 hb3)
    have hY3 : ∀ k, (Y k ∨ k = w.heap.size + 1) → k < w3.heap.size := fun k e => by have := HY1.out k e; have := hS.1.size; have := hb3.size; omega
    have hnm : ¬ Mv NoY p av2 lv2 w2.heap.size := fun e => by have := hA.mv_lt _ e; omega
    have hH3 := HH1.out.stpd hSt1
    obtain ⟨y0, y1, y2, y3⟩ := hH3.row4 HRO'.out
    have C2 := IHS.out B WB w3 _ p _ _ av2 lv2 lxs2 _ _ HK'.out hH3 hA3 hY3 (by have := HB1'.out; have := hS.1.size; have := hb3.size; omega) (by have := H30.out; omega) HLN.out.1 HLN.out.2
    unfold PartPost pv at C2
    rw [← HEB.out, HLL.out] at C2
    have C2 := hid C2
    obtain ⟨c0, c1, c2, c3⟩ := blk4 hX3
    have hnot : w2.heap.size ≠ w.heap.size + 1 ∧ w.heap.size ≠ w.heap.size + 1 := by
      have := HY1.out (w.heap.size + 1) (Or.inr rfl); have := hS.1.size; omega
    have HNE := hid hnot
    have HMV3 := hid (show ¬ Mv NoY p av2 lv2 w2.heap.size ∧ ¬ Mv NoY p av2 lv2 w.heap.size ∧ ¬ Mv NoY p av2 lv2 (w.heap.size + 1) from ⟨hnm, fun e => by
      have := hS.2 _ (by have := HZ1.out; omega) e
      have := HML.out _ this
      omega, fun e => by
      have := hS.2 _ (by have := HZ1.out; omega) e
      have := HML.out _ this
      omega⟩)
    have HA3 := hid hA3
    have HS3 := hid hS3
    have HF3 := hid hF3
    have HL3 := hid hL3
    have HY3 := hid hY3
    have HR3 := hid hR3
    have HN3 := hid hN3
    have HX3 := hid hX3
    have HSB := hid (show B ≤ w3.heap.size from by have := HB1'.out; have := hS.1.size; have := hb3.size; omega)
    have HW2 := hid (show w2.heap.size < w3.heap.size from hN3.lt)
    clear hA hS hF hL hA3 hS3 hF3 hL3 hY3 hnm hR3 hN3 hX3 hFA hLA z0 z1 z2 z3 hSt1 hH3 hnot
    go_upto_region 8 with fail
    rw [← hw3]
    clear hw3 hb3
    go_wp2_with fail
    refine C2.out.mono ?_
    rintro e w4 ⟨gv, gsv, av4, lv4, lxs4, rfl, hA, hS, hF, hL⟩
    obtain ⟨ga, gc, rfl, _⟩ := NsX.lenx hF
    obtain ⟨ma, mc, rfl, _⟩ := NsX.lenx hL
    obtain ⟨FB, hFB⟩ : ∃ FB, FB = s.firstL (ls.length + 1 + r.n) := ⟨_, rfl⟩
    obtain ⟨LB, hLB⟩ : ∃ LB, LB = s.lastL (ls.length + 1 + r.n) := ⟨_, rfl⟩
    rw [← hFB] at hF ⊢
    rw [← hLB] at hL ⊢
    have HFB := hid hFB
    have HLB := hid hLB
    obtain ⟨w5, hw5⟩ : ∃ w5, w5 = w4.alloc (.cells #[.bool false, .slice ga FB.length gc, .slice ma LB.length mc] 68) := ⟨_, rfl⟩
    have hb5 : Below w4.heap.size w4 w5 := by rw [hw5]; exact (Below.refl _ _).alloc (Nat.le_refl _) _
    have hM5 : Blk w5 w4.heap.size [.bool false, .slice ga FB.length gc, .slice ma LB.length mc] 68 := by rw [hw5]; exact Blk.new w4 _ _
    have hN5 := (HN3.out.frm hS.1 HMV3.out.1).keep hb5
    have hX5 := (HX3.out.frm hS.1 HMV3.out.2.1).keep hb5
    have hR5 := (HR3.out.frm hS.1 HMV3.out.2.2).keep hb5
    have hSt2 := hS.trans (Stpd.below p av4 lv4 hb5)
    have hA5 := hA.keep hb5
    have hS5 := HS3.out.trans hSt2
    have hF5 := Asd.stpd HF3.out hSt2
    have hL5 := Asd.stpd HL3.out hSt2
    have hG5 := Asd.stpd hF (Stpd.below p av4 lv4 hb5)
    have hM5' := Asd.stpd hL (Stpd.below p av4 lv4 hb5)
    have hY5 : ∀ k, (Y k ∨ k = w.heap.size + 1) → k < w5.heap.size := fun k e => by have := HY3.out k e; have := hS.1.size; have := hb5.size; omega
    obtain ⟨c0, c1, c2, c3⟩ := blk4 hX5
    obtain ⟨n0, m1, m2, _, _, _⟩ := blk3v hN5
    obtain ⟨o0, o1, o2, _, _, _⟩ := blk3v hM5
    have hsz2 := hS.1.size
    have hlt4 : w4.heap.size < w5.heap.size := hM5.lt
    have HNO := hid (show ∀ b, b = w2.heap.size ∨ b = w.heap.size ∨ b = w.heap.size + 1 ∨ b = w4.heap.size → ¬ Mv NoY p av4 lv4 b from fun b hb e => by
      have hlt := hA.mv_lt _ e
      rcases hb with rfl | rfl | rfl | rfl
      · exact HMV3.out.1 (hS.2 _ HW2.out e)
      · exact HMV3.out.2.1 (hS.2 _ (by have := HW2.out; have := HB1.out.size; have := HR3.out.lt; omega) e)
      · exact HMV3.out.2.2 (hS.2 _ HR3.out.lt e)
      · omega)
    have HNE4 := hid (show w4.heap.size ≠ w.heap.size + 1 from by have := HR3.out.lt; omega)
    have HA5 := hid hA5
    have HS5 := hid hS5
    have HF5 := hid hF5
    have HL5 := hid hL5
    have HG5 := hid hG5
    have HM5' := hid hM5'
    have HY5 := hid hY5
    have HR5 := hid hR5
    have HN5 := hid hN5
    have HX5 := hid hX5
    have HM5 := hid hM5
    have HSB5 := hid (show B ≤ w5.heap.size from by have := HSB.out; omega)
    have hne := HNE.out.1
    have hne2 := HNE.out.2
    have hne4 := HNE4.out
    clear hA hS hF hL hA5 hS5 hF5 hL5 hG5 hM5' hY5 hR5 hN5 hX5 hM5 hFB hLB y0 y1 y2 y3 hSt2 hsz2 hlt4
    go_upto_region 15 with fail
    rw [← hw5]
    clear hw5 hb5
    obtain ⟨w6, hw6⟩ : ∃ w6, w6 = w5.alloc (.cells #[.bool false, .slice fa FA.length fc, .slice ma LB.length mc] 68) := ⟨_, rfl⟩
    have hb6 : Below w5.heap.size w5 w6 := by rw [hw6]; exact (Below.refl _ _).alloc (Nat.le_refl _) _
    have hZ6 : Blk w6 w5.heap.size [.bool false, .slice fa FA.length fc, .slice ma LB.length mc] 68 := by rw [hw6]; exact Blk.new w5 _ _
    obtain ⟨b10, hb10⟩ : ∃ b10, b10 = w5.heap.size := ⟨_, rfl⟩
    have hm6 : ∀ k, ((Y k ∨ k = w.heap.size + 1) ∨ k = b10) → (Y k ∨ k = w.heap.size + 1) ∨ w5.heap.size ≤ k := fun k e => e.elim Or.inl (fun e => Or.inr (by omega))
    have hst6 := Stpd.below p av4 lv4 hb6
    have HA6 := hid ((HA5.out.more hm6).keep hb6)
    have HS6 := hid (HS5.out.trans hst6)
    have HF6 := hid (Asd.stpd (NsX.more HF5.out hm6) hst6)
    have HL6 := hid (Asd.stpd (NsX.more HL5.out hm6) hst6)
    have HG6 := hid (Asd.stpd (NsX.more HG5.out hm6) hst6)
    have HM6' := hid (Asd.stpd (NsX.more HM5'.out hm6) hst6)
    have HY6 := hid (show ∀ k, ((Y k ∨ k = w.heap.size + 1) ∨ k = b10) → k < w6.heap.size from fun k e => by have := hZ6.lt; rcases e with e | e; (have := HY5.out k e; omega); omega)
    have HN6 := hid (HN5.out.keep hb6)
    have HM6 := hid (HM5.out.keep hb6)
    have HR6 := hid (HR5.out.keep hb6)
    have HSB6 := hid (show B ≤ w6.heap.size from Nat.le_trans HSB5.out hb6.size)
    have HNB := hid (show ¬ Mv NoY p av4 lv4 b10 from fun e => by have := HA5.out.mv_lt _ e; omega)
    have HB10 := hid (show w.heap.size + 1 < b10 ∧ w2.heap.size < b10 ∧ w4.heap.size < b10 from by have := HR5.out.lt; have := HN5.out.lt; have := HM5.out.lt; omega)
    rw [← hb10] at hZ6
    have HZ6 := hid hZ6
    obtain ⟨n0, m1, m2, _, _, _⟩ := blk3v HN6.out
    obtain ⟨o0, o1, o2, _, _, _⟩ := blk3v HM6.out
    obtain ⟨s0, s1, s2, t0, t1, t2⟩ := blk3v hZ6
    clear hZ6 hm6 hst6
    go_upto_region 18 with fail
    rw [← hw6, ← hb10]
    clear hw6 hb10 hb6
    obtain ⟨wA, hwA⟩ : ∃ wA, wA = w6 := ⟨_, rfl⟩
    rw [← hwA] at HA6 HS6 HF6 HL6 HG6 HM6' HY6 HN6 HM6 HR6 HSB6 HZ6 n0 m1 m2 o0 o1 o2 s0 s1 s2 t0 t1 t2 ⊢
    clear hwA
    obtain ⟨FF, hFF⟩ : ∃ FF, FF = FA := ⟨_, rfl⟩
    obtain ⟨wC, hwC⟩ : ∃ wC, wC = wA := ⟨_, rfl⟩
    have HFF := hid (show FF = FA from hFF)
    have HAC := HA6
    have HSC := HS6
    have HFC := HF6
    have HLC := HL6
    have HGC := HG6
    have HMC := HM6'
    have HYC := HY6
    have HNC := HN6
    have HMMC := HM6
    have HRC := HR6
    have HSBC := HSB6
    have HZC := HZ6
    rw [← hwC] at HAC HSC HFC HLC HGC HMC HYC HNC HMMC HRC HSBC HZC n0 m1 m2 o0 o1 o2 s0 s1 s2 t0 t1 t2 ⊢
    rw [← hFF] at HFC HZC
    clear hwC hFF
    obtain ⟨u0, u1, u2, v0, v1, v2⟩ := blk3v HZC.out
    clear s0 s1 s2 t0 t1 t2
    obtain ⟨LF, hLF⟩ : ∃ LF, LF = LB := ⟨_, rfl⟩
    obtain ⟨wD, hwD⟩ : ∃ wD, wD = wC := ⟨_, rfl⟩
    have HLF := hid (show LF = LB from hLF)
    have HAD := HAC
    have HSD := HSC
    have HFD := HFC
    have HLD := HLC
    have HGD := HGC
    have HMD := HMC
    have HYD := HYC
    have HND := HNC
    have HMMD := HMMC
    have HRD := HRC
    have HSBD := HSBC
    have HZD := HZC
    rw [← hwD] at HAD HSD HFD HLD HGD HMD HYD HND HMMD HRD HSBD HZD n0 m1 m2 o0 o1 o2 u0 u1 u2 v0 v1 v2 ⊢
    rw [← hLF] at HMD HZD
    clear hwD hLF u0 u1 u2 v0 v1 v2
    go_upto_region 22 with fail
    have J := hid fun W (hb : Below wD.heap.size wD W) => joined_any (Bs := B) lv4 _ _ _ LA FB W (HAD.out.keep hb).lown (Nat.le_trans HSBD.out hb.size) (NsX.lown (Asd.stpd HLD.out (Stpd.below p av4 lv4 hb))) (NsX.lown (Asd.stpd HGD.out (Stpd.below p av4 lv4 hb))) (by rw [HLA.out, HFB.out]; exact HPS.out)
    have HBD := hid (show Below wD.heap.size wD wD.drew from below_drawn (Below.refl _ _) 1)
    have hne10 : b10 ≠ w.heap.size + 1 := by have := HB10.out; omega
    refine wp_region_held_drew (S := fun w' => Blk w' w2.heap.size [.bool false, .slice fa FA.length fc, .slice la LA.length lc] 68 ∧ Blk w' w4.heap.size [.bool false, .slice ga FB.length gc, .slice ma LB.length mc] 68 ∧ Blk w' b10 [.bool false, .slice fa FF.length fc, .slice ma LF.length mc] 68) (by kernel_rfl) ⟨HND.out, HMMD.out, HZD.out⟩ (fun hHeld => ?_)
    refine wpAnyH_take (i := 0) (oi := ({ dst := some 128, op := Op.load 68 (Operand.tmp 10), type := 68, pos := "auto.go:96", after := #[], guard := none } : Oper)) (v := ?_) rfl (by kernel_rfl) (by kernel_rfl) (by kernel_rfl) (fun _ _ _ h => h) (Or.inl ⟨by rfl, ?_⟩) hHeld ?_
    rotate_left 1
    · intro w9 hw9; (try (obtain ⟨k8, k9, k10⟩ := hw9; obtain ⟨g0, g1, g2, _, _, _⟩ := blk3v k8; obtain ⟨h0, h1, h2, _, _, _⟩ := blk3v k9; obtain ⟨i0, i1, i2, _, _, _⟩ := blk3v k10)); go_simp; try with_reducible rfl
    simp only [Act.put, List.setIfInBounds_toArray, List.set_cons_zero, List.set_cons_succ]
    refine wpAnyH_take (i := 1) (oi := ({ dst := some 129, op := Op.move (Operand.tmp 2), type := 69, pos := "auto.go:96", after := #[], guard := none } : Oper)) (v := ?_) rfl (by kernel_rfl) (by kernel_rfl) (by kernel_rfl) (fun _ _ _ h => h) (Or.inl ⟨by rfl, ?_⟩) hHeld ?_
    rotate_left 1
    · intro w9 hw9; (try (obtain ⟨k8, k9, k10⟩ := hw9; obtain ⟨g0, g1, g2, _, _, _⟩ := blk3v k8; obtain ⟨h0, h1, h2, _, _, _⟩ := blk3v k9; obtain ⟨i0, i1, i2, _, _, _⟩ := blk3v k10)); go_simp; try with_reducible rfl
    simp only [Act.put, List.setIfInBounds_toArray, List.set_cons_zero, List.set_cons_succ]
    refine wpAnyH_take (i := 2) (oi := ({ dst := some 130, op := Op.fieldAddr 68 (Operand.tmp 8) 2, type := 0, pos := "auto.go:96", after := #[], guard := none } : Oper)) (v := ?_) rfl (by kernel_rfl) (by kernel_rfl) (by kernel_rfl) (fun _ _ _ h => h) (Or.inl ⟨by rfl, ?_⟩) hHeld ?_
    rotate_left 1
    · intro w9 hw9; (try (obtain ⟨k8, k9, k10⟩ := hw9; obtain ⟨g0, g1, g2, _, _, _⟩ := blk3v k8; obtain ⟨h0, h1, h2, _, _, _⟩ := blk3v k9; obtain ⟨i0, i1, i2, _, _, _⟩ := blk3v k10)); go_simp; try with_reducible rfl
    simp only [Act.put, List.setIfInBounds_toArray, List.set_cons_zero, List.set_cons_succ]
    refine wpAnyH_take (i := 3) (oi := ({ dst := some 131, op := Op.load 66 (Operand.tmp 130), type := 66, pos := "auto.go:96", after := #[{ on := 2, ground := Ground.data }], guard := none } : Oper)) (v := ?_) rfl (by kernel_rfl) (by kernel_rfl) (by kernel_rfl) (fun _ _ _ h => h) (Or.inl ⟨by rfl, ?_⟩) hHeld ?_
    rotate_left 1
    · intro w9 hw9; (try (obtain ⟨k8, k9, k10⟩ := hw9; obtain ⟨g0, g1, g2, _, _, _⟩ := blk3v k8; obtain ⟨h0, h1, h2, _, _, _⟩ := blk3v k9; obtain ⟨i0, i1, i2, _, _, _⟩ := blk3v k10)); go_simp; try with_reducible rfl
    simp only [Act.put, List.setIfInBounds_toArray, List.set_cons_zero, List.set_cons_succ]
    refine wpAnyH_take (i := 4) (oi := ({ dst := some 132, op := Op.fieldAddr 68 (Operand.tmp 9) 1, type := 0, pos := "auto.go:96", after := #[], guard := none } : Oper)) (v := ?_) rfl (by kernel_rfl) (by kernel_rfl) (by kernel_rfl) (fun _ _ _ h => h) (Or.inl ⟨by rfl, ?_⟩) hHeld ?_
    rotate_left 1
    · intro w9 hw9; (try (obtain ⟨k8, k9, k10⟩ := hw9; obtain ⟨g0, g1, g2, _, _, _⟩ := blk3v k8; obtain ⟨h0, h1, h2, _, _, _⟩ := blk3v k9; obtain ⟨i0, i1, i2, _, _, _⟩ := blk3v k10)); go_simp; try with_reducible rfl
    simp only [Act.put, List.setIfInBounds_toArray, List.set_cons_zero, List.set_cons_succ]
    refine wpAnyH_take (i := 5) (oi := ({ dst := some 133, op := Op.load 66 (Operand.tmp 132), type := 66, pos := "auto.go:96", after := #[{ on := 4, ground := Ground.data }], guard := none } : Oper)) (v := ?_) rfl (by kernel_rfl) (by kernel_rfl) (by kernel_rfl) (fun _ _ _ h => h) (Or.inl ⟨by rfl, ?_⟩) hHeld ?_
    rotate_left 1
    · intro w9 hw9; (try (obtain ⟨k8, k9, k10⟩ := hw9; obtain ⟨g0, g1, g2, _, _, _⟩ := blk3v k8; obtain ⟨h0, h1, h2, _, _, _⟩ := blk3v k9; obtain ⟨i0, i1, i2, _, _, _⟩ := blk3v k10)); go_simp; try with_reducible rfl
    simp only [Act.put, List.setIfInBounds_toArray, List.set_cons_zero, List.set_cons_succ]
    refine wpAnyH_ready (rs := [6]) (by kernel_rfl) (by simp) ?_
    refine AllReadyH.cons (o := ({ dst := some 134, op := Op.call { callee := Callee.value (Operand.func 45), args := #[Operand.tmp 129, Operand.tmp 131, Operand.tmp 133], argTypes := #[69, 66, 66] }, type := 69, pos := "auto.go:96", after := #[{ on := 1, ground := Ground.data }, { on := 3, ground := Ground.data }, { on := 5, ground := Ground.data }], guard := none } : Oper)) rfl (fun K hK => ?_) AllReadyH.nil
    go_simp
    go_at_call 45
    refine (J.out _ HBD.out).mono ?_
    rintro e wE ⟨lv5, rfl, hown, hpm, hsz⟩
    have hpm : PrM wD lv4 lv5 wE := PrM.trans ⟨(Frm.refl _ _).drewN 1, Or.inl rfl⟩ hpm
    have hNE := HND.out.frm (hpm.1) (fun e => HNO.out _ (Or.inl rfl) (Or.inr (Or.inr (Or.inl e))))
    have hME := HMMD.out.frm (hpm.1) (fun e => HNO.out _ (Or.inr (Or.inr (Or.inr rfl))) (Or.inr (Or.inr (Or.inl e))))
    have hRE := HRD.out.frm (hpm.1) (fun e => HNO.out _ (Or.inr (Or.inr (Or.inl rfl))) (Or.inr (Or.inr (Or.inl e))))
    have hZE := HZD.out.frm (hpm.1) (fun e => HNB.out (Or.inr (Or.inr (Or.inl e))))
    obtain ⟨r0, r1, r2, f0, f1, f2⟩ := blk3v hRE
    have HOE := hid hown
    have HPM := hid hpm
    have HRE := hid hRE
    have HNEE := hid hNE
    have HMEE := hid hME
    have HZE := hid hZE
    clear hown hpm hNE hME hRE hZE
    refine hK.out _ _ (⟨HNEE.out, HMEE.out, HZE.out⟩) (fun hHeld => ?_)
    clear hK K
    (try simp only [Act.put, List.setIfInBounds_toArray, List.set_cons_zero, List.set_cons_succ])
    refine wpAnyH_ready (rs := [7]) (by kernel_rfl) (by simp) ?_
    refine AllReadyH.cons (o := ({ dst := none, op := Op.store 68 (Operand.tmp 6) (Operand.tmp 128), type := 0, pos := "auto.go:96", after := #[{ on := 0, ground := Ground.data }, { on := 6, ground := Ground.chain }, { on := 0, ground := Ground.phase }, { on := 1, ground := Ground.textOnly Departure.lateStores }, { on := 2, ground := Ground.textOnly Departure.lateStores }, { on := 3, ground := Ground.textOnly Departure.lateStores }, { on := 4, ground := Ground.textOnly Departure.lateStores }, { on := 5, ground := Ground.textOnly Departure.lateStores }, { on := 6, ground := Ground.textOnly Departure.lateStoresUnsure }], guard := none } : Oper)) rfl (fun K hK => ?_) AllReadyH.nil
    go_simp
    refine hK.out _ _ (⟨HNEE.out.other3 hne _ _ _, HMEE.out.other3 hne4 _ _ _, HZE.out.other3 hne10 _ _ _⟩) (fun hHeld => ?_)
    clear hK K
    (try simp only [Act.put, List.setIfInBounds_toArray, List.set_cons_zero, List.set_cons_succ])
    refine wpAnyH_take (i := 8) (oi := ({ dst := some 7, op := Op.assign (Operand.tmp 134), type := 69, pos := "auto.go:96", after := #[{ on := 6, ground := Ground.data }, { on := 7, ground := Ground.chain }, { on := 0, ground := Ground.phase }, { on := 1, ground := Ground.phase }, { on := 2, ground := Ground.phase }, { on := 3, ground := Ground.phase }, { on := 4, ground := Ground.phase }, { on := 5, ground := Ground.phase }, { on := 6, ground := Ground.phase }, { on := 7, ground := Ground.phase }], guard := none } : Oper)) (v := ?_) rfl (by kernel_rfl) (by kernel_rfl) (by kernel_rfl) (fun _ _ _ h => h) (Or.inl ⟨by rfl, ?_⟩) hHeld ?_
    rotate_left 1
    · intro w9 hw9; (try (obtain ⟨k8, k9, k10⟩ := hw9; obtain ⟨g0, g1, g2, _, _, _⟩ := blk3v k8; obtain ⟨h0, h1, h2, _, _, _⟩ := blk3v k9; obtain ⟨i0, i1, i2, _, _, _⟩ := blk3v k10)); go_simp; try with_reducible rfl
    simp only [Act.put, List.setIfInBounds_toArray, List.set_cons_zero, List.set_cons_succ]
    refine wpAnyH_done (by kernel_rfl) ?_ _
    obtain ⟨hAE, hSE⟩ := HAD.out.pairs HOE.out HPM.out HYD.out
    have hmm : ∀ k, (Y k ∨ k = w.heap.size + 1) → ((Y k ∨ k = w.heap.size + 1) ∨ k = b10) ∨ wE.heap.size ≤ k := fun k e => Or.inl (Or.inl e)
    obtain ⟨e1, e2, e3, e4, e5⟩ := part_end (Y := Y) (e := false) (Nat.le_succ w.heap.size) (hAE.more hmm) (HSD.out.trans hSE) (NsX.more (Asd.stpd HFD.out hSE) hmm) (NsX.more (Asd.stpd HMD.out hSE) hmm) HRE.out
    have HE1 := hid e1
    have HE2 := hid e2
    have HE3 := hid e3
    have HE4 := hid e4
    have HE5 := hid e5
    clear hAE hSE hmm e1 e2 e3 e4 e5
    go_wp2
    refine bodyPost_ret (tup_ret (s := 6) (s2 := 7) rfl HE1.out Tryd.results32) rfl ⟨_, _, _, _, _, (by show _ = Ending.returned (.tuple #[.agg #[.bool (r.emp && s.emp), _, _], _]); rw [← HEA.out, ← HEB.out]; rfl), (by have h := HE2.out; rw [HLA.out, HFB.out] at h; simpa [Rx.pairsL, Rx.labs, List.append_assoc] using h), HE3.out, (by rw [show (Rx.seq r s).firstL (ls.length + 1) = FF by rw [HFF.out, HFA.out]; simp only [Rx.firstL]; rw [← HEA.out]; rfl]; exact HE4.out), (by rw [show (Rx.seq r s).lastL (ls.length + 1) = LF by rw [HLF.out, HLB.out]; simp only [Rx.lastL]; rw [← HEB.out]; rfl]; exact HE5.out)⟩
  case false.true =>
    go_enter Tryd.func32, Tryd.ntmps32
    go_upto_region 1 with fail
    rw [← hw1]
    clear hw1
    go_wp2_with fail
    refine C.out.mono ?_
    rintro e w2 ⟨fv, lsv, av2, lv2, lxs2, rfl, hA, hS, hF, hL⟩
    obtain ⟨fa, fc, rfl, _⟩ := NsX.lenx hF
    obtain ⟨la, lc, rfl, _⟩ := NsX.lenx hL
    obtain ⟨FA, hFA⟩ : ∃ FA, FA = r.firstL (ls.length + 1) := ⟨_, rfl⟩
    obtain ⟨LA, hLA⟩ : ∃ LA, LA = r.lastL (ls.length + 1) := ⟨_, rfl⟩
    rw [← hFA] at hF ⊢
    rw [← hLA] at hL ⊢
    have HFA := hid hFA
    have HLA := hid hLA
    obtain ⟨w3, hw3⟩ : ∃ w3, w3 = w2.alloc (.cells #[.bool false, .slice fa FA.length fc, .slice la LA.length lc] 68) := ⟨_, rfl⟩
    have hb3 : Below w2.heap.size w2 w3 := by rw [hw3]; exact (Below.refl _ _).alloc (Nat.le_refl _) _
    have hN3 : Blk w3 w2.heap.size [.bool false, .slice fa FA.length fc, .slice la LA.length lc] 68 := by rw [hw3]; exact Blk.new w2 _ _
    have hR3 := (HR.out.frm hS.1 (fun e => by have := HML.out _ e; omega)).keep hb3
    have hX3 := (HX.out.frm hS.1 (fun e => by have := HML.out _ e; omega)).keep hb3
    have hA3 := hA.keep hb3
    have hSt1 := hS.trans (Stpd.below p av2 lv2 hb3)
    have hS3 := (Stpd.below p av lv HB1.out).trans hSt1
    have hF3 := Asd.stpd hF (Stpd.below p av2 lv2 hb3)
    have hL3 := Asd.stpd hL (Stpd.below p av2 lv2 hb3)
    have hY3 : ∀ k, (Y k ∨ k = w.heap.size + 1) → k < w3.heap.size := fun k e => by have := HY1.out k e; have := hS.1.size; have := hb3.size; omega
    have hnm : ¬ Mv NoY p av2 lv2 w2.heap.size := fun e => by have := hA.mv_lt _ e; omega
    have hH3 := HH1.out.stpd hSt1
    obtain ⟨y0, y1, y2, y3⟩ := hH3.row4 HRO'.out
    have C2 := IHS.out B WB w3 _ p _ _ av2 lv2 lxs2 _ _ HK'.out hH3 hA3 hY3 (by have := HB1'.out; have := hS.1.size; have := hb3.size; omega) (by have := H30.out; omega) HLN.out.1 HLN.out.2
    unfold PartPost pv at C2
    rw [← HEB.out, HLL.out] at C2
    have C2 := hid C2
    obtain ⟨c0, c1, c2, c3⟩ := blk4 hX3
    have hnot : w2.heap.size ≠ w.heap.size + 1 ∧ w.heap.size ≠ w.heap.size + 1 := by
      have := HY1.out (w.heap.size + 1) (Or.inr rfl); have := hS.1.size; omega
    have HNE := hid hnot
    have HMV3 := hid (show ¬ Mv NoY p av2 lv2 w2.heap.size ∧ ¬ Mv NoY p av2 lv2 w.heap.size ∧ ¬ Mv NoY p av2 lv2 (w.heap.size + 1) from ⟨hnm, fun e => by
      have := hS.2 _ (by have := HZ1.out; omega) e
      have := HML.out _ this
      omega, fun e => by
      have := hS.2 _ (by have := HZ1.out; omega) e
      have := HML.out _ this
      omega⟩)
    have HA3 := hid hA3
    have HS3 := hid hS3
    have HF3 := hid hF3
    have HL3 := hid hL3
    have HY3 := hid hY3
    have HR3 := hid hR3
    have HN3 := hid hN3
    have HX3 := hid hX3
    have HSB := hid (show B ≤ w3.heap.size from by have := HB1'.out; have := hS.1.size; have := hb3.size; omega)
    have HW2 := hid (show w2.heap.size < w3.heap.size from hN3.lt)
    clear hA hS hF hL hA3 hS3 hF3 hL3 hY3 hnm hR3 hN3 hX3 hFA hLA z0 z1 z2 z3 hSt1 hH3 hnot
    go_upto_region 8 with fail
    rw [← hw3]
    clear hw3 hb3
    go_wp2_with fail
    refine C2.out.mono ?_
    rintro e w4 ⟨gv, gsv, av4, lv4, lxs4, rfl, hA, hS, hF, hL⟩
    obtain ⟨ga, gc, rfl, _⟩ := NsX.lenx hF
    obtain ⟨ma, mc, rfl, _⟩ := NsX.lenx hL
    obtain ⟨FB, hFB⟩ : ∃ FB, FB = s.firstL (ls.length + 1 + r.n) := ⟨_, rfl⟩
    obtain ⟨LB, hLB⟩ : ∃ LB, LB = s.lastL (ls.length + 1 + r.n) := ⟨_, rfl⟩
    rw [← hFB] at hF ⊢
    rw [← hLB] at hL ⊢
    have HFB := hid hFB
    have HLB := hid hLB
    obtain ⟨w5, hw5⟩ : ∃ w5, w5 = w4.alloc (.cells #[.bool true, .slice ga FB.length gc, .slice ma LB.length mc] 68) := ⟨_, rfl⟩
    have hb5 : Below w4.heap.size w4 w5 := by rw [hw5]; exact (Below.refl _ _).alloc (Nat.le_refl _) _
    have hM5 : Blk w5 w4.heap.size [.bool true, .slice ga FB.length gc, .slice ma LB.length mc] 68 := by rw [hw5]; exact Blk.new w4 _ _
    have hN5 := (HN3.out.frm hS.1 HMV3.out.1).keep hb5
    have hX5 := (HX3.out.frm hS.1 HMV3.out.2.1).keep hb5
    have hR5 := (HR3.out.frm hS.1 HMV3.out.2.2).keep hb5
    have hSt2 := hS.trans (Stpd.below p av4 lv4 hb5)
    have hA5 := hA.keep hb5
    have hS5 := HS3.out.trans hSt2
    have hF5 := Asd.stpd HF3.out hSt2
    have hL5 := Asd.stpd HL3.out hSt2
    have hG5 := Asd.stpd hF (Stpd.below p av4 lv4 hb5)
    have hM5' := Asd.stpd hL (Stpd.below p av4 lv4 hb5)
    have hY5 : ∀ k, (Y k ∨ k = w.heap.size + 1) → k < w5.heap.size := fun k e => by have := HY3.out k e; have := hS.1.size; have := hb5.size; omega
    obtain ⟨c0, c1, c2, c3⟩ := blk4 hX5
    obtain ⟨n0, m1, m2, _, _, _⟩ := blk3v hN5
    obtain ⟨o0, o1, o2, _, _, _⟩ := blk3v hM5
    have hsz2 := hS.1.size
    have hlt4 : w4.heap.size < w5.heap.size := hM5.lt
    have HNO := hid (show ∀ b, b = w2.heap.size ∨ b = w.heap.size ∨ b = w.heap.size + 1 ∨ b = w4.heap.size → ¬ Mv NoY p av4 lv4 b from fun b hb e => by
      have hlt := hA.mv_lt _ e
      rcases hb with rfl | rfl | rfl | rfl
      · exact HMV3.out.1 (hS.2 _ HW2.out e)
      · exact HMV3.out.2.1 (hS.2 _ (by have := HW2.out; have := HB1.out.size; have := HR3.out.lt; omega) e)
      · exact HMV3.out.2.2 (hS.2 _ HR3.out.lt e)
      · omega)
    have HNE4 := hid (show w4.heap.size ≠ w.heap.size + 1 from by have := HR3.out.lt; omega)
    have HA5 := hid hA5
    have HS5 := hid hS5
    have HF5 := hid hF5
    have HL5 := hid hL5
    have HG5 := hid hG5
    have HM5' := hid hM5'
    have HY5 := hid hY5
    have HR5 := hid hR5
    have HN5 := hid hN5
    have HX5 := hid hX5
    have HM5 := hid hM5
    have HSB5 := hid (show B ≤ w5.heap.size from by have := HSB.out; omega)
    have hne := HNE.out.1
    have hne2 := HNE.out.2
    have hne4 := HNE4.out
    clear hA hS hF hL hA5 hS5 hF5 hL5 hG5 hM5' hY5 hR5 hN5 hX5 hM5 hFB hLB y0 y1 y2 y3 hSt2 hsz2 hlt4
    go_upto_region 15 with fail
    rw [← hw5]
    clear hw5 hb5
    obtain ⟨w6, hw6⟩ : ∃ w6, w6 = w5.alloc (.cells #[.bool false, .slice fa FA.length fc, .slice ma LB.length mc] 68) := ⟨_, rfl⟩
    have hb6 : Below w5.heap.size w5 w6 := by rw [hw6]; exact (Below.refl _ _).alloc (Nat.le_refl _) _
    have hZ6 : Blk w6 w5.heap.size [.bool false, .slice fa FA.length fc, .slice ma LB.length mc] 68 := by rw [hw6]; exact Blk.new w5 _ _
    obtain ⟨b10, hb10⟩ : ∃ b10, b10 = w5.heap.size := ⟨_, rfl⟩
    have hm6 : ∀ k, ((Y k ∨ k = w.heap.size + 1) ∨ k = b10) → (Y k ∨ k = w.heap.size + 1) ∨ w5.heap.size ≤ k := fun k e => e.elim Or.inl (fun e => Or.inr (by omega))
    have hst6 := Stpd.below p av4 lv4 hb6
    have HA6 := hid ((HA5.out.more hm6).keep hb6)
    have HS6 := hid (HS5.out.trans hst6)
    have HF6 := hid (Asd.stpd (NsX.more HF5.out hm6) hst6)
    have HL6 := hid (Asd.stpd (NsX.more HL5.out hm6) hst6)
    have HG6 := hid (Asd.stpd (NsX.more HG5.out hm6) hst6)
    have HM6' := hid (Asd.stpd (NsX.more HM5'.out hm6) hst6)
    have HY6 := hid (show ∀ k, ((Y k ∨ k = w.heap.size + 1) ∨ k = b10) → k < w6.heap.size from fun k e => by have := hZ6.lt; rcases e with e | e; (have := HY5.out k e; omega); omega)
    have HN6 := hid (HN5.out.keep hb6)
    have HM6 := hid (HM5.out.keep hb6)
    have HR6 := hid (HR5.out.keep hb6)
    have HSB6 := hid (show B ≤ w6.heap.size from Nat.le_trans HSB5.out hb6.size)
    have HNB := hid (show ¬ Mv NoY p av4 lv4 b10 from fun e => by have := HA5.out.mv_lt _ e; omega)
    have HB10 := hid (show w.heap.size + 1 < b10 ∧ w2.heap.size < b10 ∧ w4.heap.size < b10 from by have := HR5.out.lt; have := HN5.out.lt; have := HM5.out.lt; omega)
    rw [← hb10] at hZ6
    have HZ6 := hid hZ6
    obtain ⟨n0, m1, m2, _, _, _⟩ := blk3v HN6.out
    obtain ⟨o0, o1, o2, _, _, _⟩ := blk3v HM6.out
    obtain ⟨s0, s1, s2, t0, t1, t2⟩ := blk3v hZ6
    clear hZ6 hm6 hst6
    go_upto_region 18 with fail
    rw [← hw6, ← hb10]
    clear hw6 hb10 hb6
    obtain ⟨wA, hwA⟩ : ∃ wA, wA = w6 := ⟨_, rfl⟩
    rw [← hwA] at HA6 HS6 HF6 HL6 HG6 HM6' HY6 HN6 HM6 HR6 HSB6 HZ6 n0 m1 m2 o0 o1 o2 s0 s1 s2 t0 t1 t2 ⊢
    clear hwA
    obtain ⟨FF, hFF⟩ : ∃ FF, FF = FA := ⟨_, rfl⟩
    obtain ⟨wC, hwC⟩ : ∃ wC, wC = wA := ⟨_, rfl⟩
    have HFF := hid (show FF = FA from hFF)
    have HAC := HA6
    have HSC := HS6
    have HFC := HF6
    have HLC := HL6
    have HGC := HG6
    have HMC := HM6'
    have HYC := HY6
    have HNC := HN6
    have HMMC := HM6
    have HRC := HR6
    have HSBC := HSB6
    have HZC := HZ6
    rw [← hwC] at HAC HSC HFC HLC HGC HMC HYC HNC HMMC HRC HSBC HZC n0 m1 m2 o0 o1 o2 s0 s1 s2 t0 t1 t2 ⊢
    rw [← hFF] at HFC HZC
    clear hwC hFF
    obtain ⟨u0, u1, u2, v0, v1, v2⟩ := blk3v HZC.out
    clear s0 s1 s2 t0 t1 t2
    have BL := hid (both_any _ _ LA LB wC (Asd.here HLC.out) (Asd.here HMC.out) (by rw [HLA.out, HLB.out]; have := HFLL.out.2; omega))
    go_wp2_with fail
    refine BL.out.mono ?_
    rintro e w9 ⟨⟨v9, rfl, hO9⟩, hb9⟩
    have hml := HAC.out.mv_lt
    have hQ9 : NsX (Mv (fun k => (Y k ∨ k = w.heap.size + 1) ∨ k = b10) p av4 lv4) w9 v9 (LA ++ LB) := own_nsx hO9 (fun k e x => by
      have h1 := (hO9.lt k e).1
      rcases x with x | x | x | x
      · have := hml k (Or.inl x); omega
      · have := hml k (Or.inr (Or.inl x)); omega
      · have := hml k (Or.inr (Or.inr (Or.inl x))); omega
      · have := HYC.out k x; omega)
    obtain ⟨LF, hLF⟩ : ∃ LF, LF = LA ++ LB := ⟨_, rfl⟩
    rw [← hLF] at hQ9
    have HLF := hid hLF
    obtain ⟨xa, xc, rfl, _⟩ := NsX.lenx hQ9
    have hZ9 := HZC.out.keep hb9
    obtain ⟨s0, s1, s2, t0, t1, t2⟩ := blk3v hZ9
    obtain ⟨wD, hwD⟩ : ∃ wD, wD = w9.setCell ⟨b10, 2, none⟩ (.slice xa LF.length xc) := ⟨_, rfl⟩
    have hfD : Frm (fun k => k = b10) w9 wD := by rw [hwD]; exact Frm.set (X := fun k => k = b10) (Frm.refl _ _) (Or.inl rfl) _ _
    have hst9 := Stpd.below p av4 lv4 hb9
    have keyD : ∀ {P : World → Prop}, Asd (Mv (fun k => (Y k ∨ k = w.heap.size + 1) ∨ k = b10) p av4 lv4) w9 P → Asd (Mv (fun k => (Y k ∨ k = w.heap.size + 1) ∨ k = b10) p av4 lv4) wD P := fun h => h.frm hfD (fun k _ x => Or.inr (Or.inr (Or.inr (Or.inr x)))) (fun _ _ x => x)
    have HAD := hid ((HAC.out.keep hb9).frm hfD (fun k _ e => Or.inr e))
    have HSD := hid ((HSC.out.trans hst9).own hfD (fun k e => by have := HB10.out.1; omega))
    have HFD := hid (keyD (Asd.stpd HFC.out hst9))
    have HLD := hid (keyD (Asd.stpd HLC.out hst9))
    have HGD := hid (keyD (Asd.stpd HGC.out hst9))
    have HMD := hid (keyD hQ9)
    have HYD := hid (show ∀ k, ((Y k ∨ k = w.heap.size + 1) ∨ k = b10) → k < wD.heap.size from fun k e => Nat.lt_of_lt_of_le (HYC.out k e) (Nat.le_trans hb9.size hfD.size))
    have HND := hid ((HNC.out.keep hb9).frm hfD (fun e => by have := HB10.out; omega))
    have HMMD := hid ((HMMC.out.keep hb9).frm hfD (fun e => by have := HB10.out; omega))
    have HRD := hid ((HRC.out.keep hb9).frm hfD (fun e => by have := HB10.out; omega))
    have HSBD := hid (show B ≤ wD.heap.size from Nat.le_trans HSBC.out (Nat.le_trans hb9.size hfD.size))
    have HZD := hid (show Blk wD b10 [.bool false, .slice fa FF.length fc, .slice xa LF.length xc] 68 from by rw [hwD]; exact hZ9.set 2 _)
    have hwD' : w9.setCell ⟨b10, 2, none⟩ (.slice xa LF.length xc) = wD := hwD.symm
    obtain ⟨n0, m1, m2, _, _, _⟩ := blk3v HND.out
    obtain ⟨o0, o1, o2, _, _, _⟩ := blk3v HMMD.out
    clear hO9 hml hQ9 hZ9 hfD hst9 keyD hwD hLF BL
    go_upto_region 22 with fail
    try rw [hwD']
    clear hwD' hb9 s0 s1 s2 t0 t1 t2 u0 u1 u2 v0 v1 v2
    have J := hid fun W (hb : Below wD.heap.size wD W) => joined_any (Bs := B) lv4 _ _ _ LA FB W (HAD.out.keep hb).lown (Nat.le_trans HSBD.out hb.size) (NsX.lown (Asd.stpd HLD.out (Stpd.below p av4 lv4 hb))) (NsX.lown (Asd.stpd HGD.out (Stpd.below p av4 lv4 hb))) (by rw [HLA.out, HFB.out]; exact HPS.out)
    have HBD := hid (show Below wD.heap.size wD wD.drew from below_drawn (Below.refl _ _) 1)
    have hne10 : b10 ≠ w.heap.size + 1 := by have := HB10.out; omega
    refine wp_region_held_drew (S := fun w' => Blk w' w2.heap.size [.bool false, .slice fa FA.length fc, .slice la LA.length lc] 68 ∧ Blk w' w4.heap.size [.bool true, .slice ga FB.length gc, .slice ma LB.length mc] 68 ∧ Blk w' b10 [.bool false, .slice fa FF.length fc, .slice xa LF.length xc] 68) (by kernel_rfl) ⟨HND.out, HMMD.out, HZD.out⟩ (fun hHeld => ?_)
    refine wpAnyH_take (i := 0) (oi := ({ dst := some 128, op := Op.load 68 (Operand.tmp 10), type := 68, pos := "auto.go:96", after := #[], guard := none } : Oper)) (v := ?_) rfl (by kernel_rfl) (by kernel_rfl) (by kernel_rfl) (fun _ _ _ h => h) (Or.inl ⟨by rfl, ?_⟩) hHeld ?_
    rotate_left 1
    · intro w9 hw9; (try (obtain ⟨k8, k9, k10⟩ := hw9; obtain ⟨g0, g1, g2, _, _, _⟩ := blk3v k8; obtain ⟨h0, h1, h2, _, _, _⟩ := blk3v k9; obtain ⟨i0, i1, i2, _, _, _⟩ := blk3v k10)); go_simp; try with_reducible rfl
    simp only [Act.put, List.setIfInBounds_toArray, List.set_cons_zero, List.set_cons_succ]
    refine wpAnyH_take (i := 1) (oi := ({ dst := some 129, op := Op.move (Operand.tmp 2), type := 69, pos := "auto.go:96", after := #[], guard := none } : Oper)) (v := ?_) rfl (by kernel_rfl) (by kernel_rfl) (by kernel_rfl) (fun _ _ _ h => h) (Or.inl ⟨by rfl, ?_⟩) hHeld ?_
    rotate_left 1
    · intro w9 hw9; (try (obtain ⟨k8, k9, k10⟩ := hw9; obtain ⟨g0, g1, g2, _, _, _⟩ := blk3v k8; obtain ⟨h0, h1, h2, _, _, _⟩ := blk3v k9; obtain ⟨i0, i1, i2, _, _, _⟩ := blk3v k10)); go_simp; try with_reducible rfl
    simp only [Act.put, List.setIfInBounds_toArray, List.set_cons_zero, List.set_cons_succ]
    refine wpAnyH_take (i := 2) (oi := ({ dst := some 130, op := Op.fieldAddr 68 (Operand.tmp 8) 2, type := 0, pos := "auto.go:96", after := #[], guard := none } : Oper)) (v := ?_) rfl (by kernel_rfl) (by kernel_rfl) (by kernel_rfl) (fun _ _ _ h => h) (Or.inl ⟨by rfl, ?_⟩) hHeld ?_
    rotate_left 1
    · intro w9 hw9; (try (obtain ⟨k8, k9, k10⟩ := hw9; obtain ⟨g0, g1, g2, _, _, _⟩ := blk3v k8; obtain ⟨h0, h1, h2, _, _, _⟩ := blk3v k9; obtain ⟨i0, i1, i2, _, _, _⟩ := blk3v k10)); go_simp; try with_reducible rfl
    simp only [Act.put, List.setIfInBounds_toArray, List.set_cons_zero, List.set_cons_succ]
    refine wpAnyH_take (i := 3) (oi := ({ dst := some 131, op := Op.load 66 (Operand.tmp 130), type := 66, pos := "auto.go:96", after := #[{ on := 2, ground := Ground.data }], guard := none } : Oper)) (v := ?_) rfl (by kernel_rfl) (by kernel_rfl) (by kernel_rfl) (fun _ _ _ h => h) (Or.inl ⟨by rfl, ?_⟩) hHeld ?_
    rotate_left 1
    · intro w9 hw9; (try (obtain ⟨k8, k9, k10⟩ := hw9; obtain ⟨g0, g1, g2, _, _, _⟩ := blk3v k8; obtain ⟨h0, h1, h2, _, _, _⟩ := blk3v k9; obtain ⟨i0, i1, i2, _, _, _⟩ := blk3v k10)); go_simp; try with_reducible rfl
    simp only [Act.put, List.setIfInBounds_toArray, List.set_cons_zero, List.set_cons_succ]
    refine wpAnyH_take (i := 4) (oi := ({ dst := some 132, op := Op.fieldAddr 68 (Operand.tmp 9) 1, type := 0, pos := "auto.go:96", after := #[], guard := none } : Oper)) (v := ?_) rfl (by kernel_rfl) (by kernel_rfl) (by kernel_rfl) (fun _ _ _ h => h) (Or.inl ⟨by rfl, ?_⟩) hHeld ?_
    rotate_left 1
    · intro w9 hw9; (try (obtain ⟨k8, k9, k10⟩ := hw9; obtain ⟨g0, g1, g2, _, _, _⟩ := blk3v k8; obtain ⟨h0, h1, h2, _, _, _⟩ := blk3v k9; obtain ⟨i0, i1, i2, _, _, _⟩ := blk3v k10)); go_simp; try with_reducible rfl
    simp only [Act.put, List.setIfInBounds_toArray, List.set_cons_zero, List.set_cons_succ]
    refine wpAnyH_take (i := 5) (oi := ({ dst := some 133, op := Op.load 66 (Operand.tmp 132), type := 66, pos := "auto.go:96", after := #[{ on := 4, ground := Ground.data }], guard := none } : Oper)) (v := ?_) rfl (by kernel_rfl) (by kernel_rfl) (by kernel_rfl) (fun _ _ _ h => h) (Or.inl ⟨by rfl, ?_⟩) hHeld ?_
    rotate_left 1
    · intro w9 hw9; (try (obtain ⟨k8, k9, k10⟩ := hw9; obtain ⟨g0, g1, g2, _, _, _⟩ := blk3v k8; obtain ⟨h0, h1, h2, _, _, _⟩ := blk3v k9; obtain ⟨i0, i1, i2, _, _, _⟩ := blk3v k10)); go_simp; try with_reducible rfl
    simp only [Act.put, List.setIfInBounds_toArray, List.set_cons_zero, List.set_cons_succ]
    refine wpAnyH_ready (rs := [6]) (by kernel_rfl) (by simp) ?_
    refine AllReadyH.cons (o := ({ dst := some 134, op := Op.call { callee := Callee.value (Operand.func 45), args := #[Operand.tmp 129, Operand.tmp 131, Operand.tmp 133], argTypes := #[69, 66, 66] }, type := 69, pos := "auto.go:96", after := #[{ on := 1, ground := Ground.data }, { on := 3, ground := Ground.data }, { on := 5, ground := Ground.data }], guard := none } : Oper)) rfl (fun K hK => ?_) AllReadyH.nil
    go_simp
    go_at_call 45
    refine (J.out _ HBD.out).mono ?_
    rintro e wE ⟨lv5, rfl, hown, hpm, hsz⟩
    have hpm : PrM wD lv4 lv5 wE := PrM.trans ⟨(Frm.refl _ _).drewN 1, Or.inl rfl⟩ hpm
    have hNE := HND.out.frm (hpm.1) (fun e => HNO.out _ (Or.inl rfl) (Or.inr (Or.inr (Or.inl e))))
    have hME := HMMD.out.frm (hpm.1) (fun e => HNO.out _ (Or.inr (Or.inr (Or.inr rfl))) (Or.inr (Or.inr (Or.inl e))))
    have hRE := HRD.out.frm (hpm.1) (fun e => HNO.out _ (Or.inr (Or.inr (Or.inl rfl))) (Or.inr (Or.inr (Or.inl e))))
    have hZE := HZD.out.frm (hpm.1) (fun e => HNB.out (Or.inr (Or.inr (Or.inl e))))
    obtain ⟨r0, r1, r2, f0, f1, f2⟩ := blk3v hRE
    have HOE := hid hown
    have HPM := hid hpm
    have HRE := hid hRE
    have HNEE := hid hNE
    have HMEE := hid hME
    have HZE := hid hZE
    clear hown hpm hNE hME hRE hZE
    refine hK.out _ _ (⟨HNEE.out, HMEE.out, HZE.out⟩) (fun hHeld => ?_)
    clear hK K
    (try simp only [Act.put, List.setIfInBounds_toArray, List.set_cons_zero, List.set_cons_succ])
    refine wpAnyH_ready (rs := [7]) (by kernel_rfl) (by simp) ?_
    refine AllReadyH.cons (o := ({ dst := none, op := Op.store 68 (Operand.tmp 6) (Operand.tmp 128), type := 0, pos := "auto.go:96", after := #[{ on := 0, ground := Ground.data }, { on := 6, ground := Ground.chain }, { on := 0, ground := Ground.phase }, { on := 1, ground := Ground.textOnly Departure.lateStores }, { on := 2, ground := Ground.textOnly Departure.lateStores }, { on := 3, ground := Ground.textOnly Departure.lateStores }, { on := 4, ground := Ground.textOnly Departure.lateStores }, { on := 5, ground := Ground.textOnly Departure.lateStores }, { on := 6, ground := Ground.textOnly Departure.lateStoresUnsure }], guard := none } : Oper)) rfl (fun K hK => ?_) AllReadyH.nil
    go_simp
    refine hK.out _ _ (⟨HNEE.out.other3 hne _ _ _, HMEE.out.other3 hne4 _ _ _, HZE.out.other3 hne10 _ _ _⟩) (fun hHeld => ?_)
    clear hK K
    (try simp only [Act.put, List.setIfInBounds_toArray, List.set_cons_zero, List.set_cons_succ])
    refine wpAnyH_take (i := 8) (oi := ({ dst := some 7, op := Op.assign (Operand.tmp 134), type := 69, pos := "auto.go:96", after := #[{ on := 6, ground := Ground.data }, { on := 7, ground := Ground.chain }, { on := 0, ground := Ground.phase }, { on := 1, ground := Ground.phase }, { on := 2, ground := Ground.phase }, { on := 3, ground := Ground.phase }, { on := 4, ground := Ground.phase }, { on := 5, ground := Ground.phase }, { on := 6, ground := Ground.phase }, { on := 7, ground := Ground.phase }], guard := none } : Oper)) (v := ?_) rfl (by kernel_rfl) (by kernel_rfl) (by kernel_rfl) (fun _ _ _ h => h) (Or.inl ⟨by rfl, ?_⟩) hHeld ?_
    rotate_left 1
    · intro w9 hw9; (try (obtain ⟨k8, k9, k10⟩ := hw9; obtain ⟨g0, g1, g2, _, _, _⟩ := blk3v k8; obtain ⟨h0, h1, h2, _, _, _⟩ := blk3v k9; obtain ⟨i0, i1, i2, _, _, _⟩ := blk3v k10)); go_simp; try with_reducible rfl
    simp only [Act.put, List.setIfInBounds_toArray, List.set_cons_zero, List.set_cons_succ]
    refine wpAnyH_done (by kernel_rfl) ?_ _
    obtain ⟨hAE, hSE⟩ := HAD.out.pairs HOE.out HPM.out HYD.out
    have hmm : ∀ k, (Y k ∨ k = w.heap.size + 1) → ((Y k ∨ k = w.heap.size + 1) ∨ k = b10) ∨ wE.heap.size ≤ k := fun k e => Or.inl (Or.inl e)
    obtain ⟨e1, e2, e3, e4, e5⟩ := part_end (Y := Y) (e := false) (Nat.le_succ w.heap.size) (hAE.more hmm) (HSD.out.trans hSE) (NsX.more (Asd.stpd HFD.out hSE) hmm) (NsX.more (Asd.stpd HMD.out hSE) hmm) HRE.out
    have HE1 := hid e1
    have HE2 := hid e2
    have HE3 := hid e3
    have HE4 := hid e4
    have HE5 := hid e5
    clear hAE hSE hmm e1 e2 e3 e4 e5
    go_wp2
    refine bodyPost_ret (tup_ret (s := 6) (s2 := 7) rfl HE1.out Tryd.results32) rfl ⟨_, _, _, _, _, (by show _ = Ending.returned (.tuple #[.agg #[.bool (r.emp && s.emp), _, _], _]); rw [← HEA.out, ← HEB.out]; rfl), (by have h := HE2.out; rw [HLA.out, HFB.out] at h; simpa [Rx.pairsL, Rx.labs, List.append_assoc] using h), HE3.out, (by rw [show (Rx.seq r s).firstL (ls.length + 1) = FF by rw [HFF.out, HFA.out]; simp only [Rx.firstL]; rw [← HEA.out]; rfl]; exact HE4.out), (by rw [show (Rx.seq r s).lastL (ls.length + 1) = LF by rw [HLF.out, HLA.out, HLB.out]; simp only [Rx.lastL]; rw [← HEB.out]; rfl]; exact HE5.out)⟩
  case true.false =>
    go_enter Tryd.func32, Tryd.ntmps32
    go_upto_region 1 with fail
    rw [← hw1]
    clear hw1
    go_wp2_with fail
    refine C.out.mono ?_
    rintro e w2 ⟨fv, lsv, av2, lv2, lxs2, rfl, hA, hS, hF, hL⟩
    obtain ⟨fa, fc, rfl, _⟩ := NsX.lenx hF
    obtain ⟨la, lc, rfl, _⟩ := NsX.lenx hL
    obtain ⟨FA, hFA⟩ : ∃ FA, FA = r.firstL (ls.length + 1) := ⟨_, rfl⟩
    obtain ⟨LA, hLA⟩ : ∃ LA, LA = r.lastL (ls.length + 1) := ⟨_, rfl⟩
    rw [← hFA] at hF ⊢
    rw [← hLA] at hL ⊢
    have HFA := hid hFA
    have HLA := hid hLA
    obtain ⟨w3, hw3⟩ : ∃ w3, w3 = w2.alloc (.cells #[.bool true, .slice fa FA.length fc, .slice la LA.length lc] 68) := ⟨_, rfl⟩
    have hb3 : Below w2.heap.size w2 w3 := by rw [hw3]; exact (Below.refl _ _).alloc (Nat.le_refl _) _
    have hN3 : Blk w3 w2.heap.size [.bool true, .slice fa FA.length fc, .slice la LA.length lc] 68 := by rw [hw3]; exact Blk.new w2 _ _
    have hR3 := (HR.out.frm hS.1 (fun e => by have := HML.out _ e; omega)).keep hb3
    have hX3 := (HX.out.frm hS.1 (fun e => by have := HML.out _ e; omega)).keep hb3
    have hA3 := hA.keep hb3
    have hSt1 := hS.trans (Stpd.below p av2 lv2 hb3)
    have hS3 := (Stpd.below p av lv HB1.out).trans hSt1
    have hF3 := Asd.stpd hF (Stpd.below p av2 lv2 hb3)
    have hL3 := Asd.stpd hL (Stpd.below p av2 lv2 hb3)
    have hY3 : ∀ k, (Y k ∨ k = w.heap.size + 1) → k < w3.heap.size := fun k e => by have := HY1.out k e; have := hS.1.size; have := hb3.size; omega
    have hnm : ¬ Mv NoY p av2 lv2 w2.heap.size := fun e => by have := hA.mv_lt _ e; omega
    have hH3 := HH1.out.stpd hSt1
    obtain ⟨y0, y1, y2, y3⟩ := hH3.row4 HRO'.out
    have C2 := IHS.out B WB w3 _ p _ _ av2 lv2 lxs2 _ _ HK'.out hH3 hA3 hY3 (by have := HB1'.out; have := hS.1.size; have := hb3.size; omega) (by have := H30.out; omega) HLN.out.1 HLN.out.2
    unfold PartPost pv at C2
    rw [← HEB.out, HLL.out] at C2
    have C2 := hid C2
    obtain ⟨c0, c1, c2, c3⟩ := blk4 hX3
    have hnot : w2.heap.size ≠ w.heap.size + 1 ∧ w.heap.size ≠ w.heap.size + 1 := by
      have := HY1.out (w.heap.size + 1) (Or.inr rfl); have := hS.1.size; omega
    have HNE := hid hnot
    have HMV3 := hid (show ¬ Mv NoY p av2 lv2 w2.heap.size ∧ ¬ Mv NoY p av2 lv2 w.heap.size ∧ ¬ Mv NoY p av2 lv2 (w.heap.size + 1) from ⟨hnm, fun e => by
      have := hS.2 _ (by have := HZ1.out; omega) e
      have := HML.out _ this
      omega, fun e => by
      have := hS.2 _ (by have := HZ1.out; omega) e
      have := HML.out _ this
      omega⟩)
    have HA3 := hid hA3
    have HS3 := hid hS3
    have HF3 := hid hF3
    have HL3 := hid hL3
    have HY3 := hid hY3
    have HR3 := hid hR3
    have HN3 := hid hN3
    have HX3 := hid hX3
    have HSB := hid (show B ≤ w3.heap.size from by have := HB1'.out; have := hS.1.size; have := hb3.size; omega)
    have HW2 := hid (show w2.heap.size < w3.heap.size from hN3.lt)
    clear hA hS hF hL hA3 hS3 hF3 hL3 hY3 hnm hR3 hN3 hX3 hFA hLA z0 z1 z2 z3 hSt1 hH3 hnot
    go_upto_region 8 with fail
    rw [← hw3]
    clear hw3 hb3
    go_wp2_with fail
    refine C2.out.mono ?_
    rintro e w4 ⟨gv, gsv, av4, lv4, lxs4, rfl, hA, hS, hF, hL⟩
    obtain ⟨ga, gc, rfl, _⟩ := NsX.lenx hF
    obtain ⟨ma, mc, rfl, _⟩ := NsX.lenx hL
    obtain ⟨FB, hFB⟩ : ∃ FB, FB = s.firstL (ls.length + 1 + r.n) := ⟨_, rfl⟩
    obtain ⟨LB, hLB⟩ : ∃ LB, LB = s.lastL (ls.length + 1 + r.n) := ⟨_, rfl⟩
    rw [← hFB] at hF ⊢
    rw [← hLB] at hL ⊢
    have HFB := hid hFB
    have HLB := hid hLB
    obtain ⟨w5, hw5⟩ : ∃ w5, w5 = w4.alloc (.cells #[.bool false, .slice ga FB.length gc, .slice ma LB.length mc] 68) := ⟨_, rfl⟩
    have hb5 : Below w4.heap.size w4 w5 := by rw [hw5]; exact (Below.refl _ _).alloc (Nat.le_refl _) _
    have hM5 : Blk w5 w4.heap.size [.bool false, .slice ga FB.length gc, .slice ma LB.length mc] 68 := by rw [hw5]; exact Blk.new w4 _ _
    have hN5 := (HN3.out.frm hS.1 HMV3.out.1).keep hb5
    have hX5 := (HX3.out.frm hS.1 HMV3.out.2.1).keep hb5
    have hR5 := (HR3.out.frm hS.1 HMV3.out.2.2).keep hb5
    have hSt2 := hS.trans (Stpd.below p av4 lv4 hb5)
    have hA5 := hA.keep hb5
    have hS5 := HS3.out.trans hSt2
    have hF5 := Asd.stpd HF3.out hSt2
    have hL5 := Asd.stpd HL3.out hSt2
    have hG5 := Asd.stpd hF (Stpd.below p av4 lv4 hb5)
    have hM5' := Asd.stpd hL (Stpd.below p av4 lv4 hb5)
    have hY5 : ∀ k, (Y k ∨ k = w.heap.size + 1) → k < w5.heap.size := fun k e => by have := HY3.out k e; have := hS.1.size; have := hb5.size; omega
    obtain ⟨c0, c1, c2, c3⟩ := blk4 hX5
    obtain ⟨n0, m1, m2, _, _, _⟩ := blk3v hN5
    obtain ⟨o0, o1, o2, _, _, _⟩ := blk3v hM5
    have hsz2 := hS.1.size
    have hlt4 : w4.heap.size < w5.heap.size := hM5.lt
    have HNO := hid (show ∀ b, b = w2.heap.size ∨ b = w.heap.size ∨ b = w.heap.size + 1 ∨ b = w4.heap.size → ¬ Mv NoY p av4 lv4 b from fun b hb e => by
      have hlt := hA.mv_lt _ e
      rcases hb with rfl | rfl | rfl | rfl
      · exact HMV3.out.1 (hS.2 _ HW2.out e)
      · exact HMV3.out.2.1 (hS.2 _ (by have := HW2.out; have := HB1.out.size; have := HR3.out.lt; omega) e)
      · exact HMV3.out.2.2 (hS.2 _ HR3.out.lt e)
      · omega)
    have HNE4 := hid (show w4.heap.size ≠ w.heap.size + 1 from by have := HR3.out.lt; omega)
    have HA5 := hid hA5
    have HS5 := hid hS5
    have HF5 := hid hF5
    have HL5 := hid hL5
    have HG5 := hid hG5
    have HM5' := hid hM5'
    have HY5 := hid hY5
    have HR5 := hid hR5
    have HN5 := hid hN5
    have HX5 := hid hX5
    have HM5 := hid hM5
    have HSB5 := hid (show B ≤ w5.heap.size from by have := HSB.out; omega)
    have hne := HNE.out.1
    have hne2 := HNE.out.2
    have hne4 := HNE4.out
    clear hA hS hF hL hA5 hS5 hF5 hL5 hG5 hM5' hY5 hR5 hN5 hX5 hM5 hFB hLB y0 y1 y2 y3 hSt2 hsz2 hlt4
    go_upto_region 15 with fail
    rw [← hw5]
    clear hw5 hb5
    obtain ⟨w6, hw6⟩ : ∃ w6, w6 = w5.alloc (.cells #[.bool false, .slice fa FA.length fc, .slice ma LB.length mc] 68) := ⟨_, rfl⟩
    have hb6 : Below w5.heap.size w5 w6 := by rw [hw6]; exact (Below.refl _ _).alloc (Nat.le_refl _) _
    have hZ6 : Blk w6 w5.heap.size [.bool false, .slice fa FA.length fc, .slice ma LB.length mc] 68 := by rw [hw6]; exact Blk.new w5 _ _
    obtain ⟨b10, hb10⟩ : ∃ b10, b10 = w5.heap.size := ⟨_, rfl⟩
    have hm6 : ∀ k, ((Y k ∨ k = w.heap.size + 1) ∨ k = b10) → (Y k ∨ k = w.heap.size + 1) ∨ w5.heap.size ≤ k := fun k e => e.elim Or.inl (fun e => Or.inr (by omega))
    have hst6 := Stpd.below p av4 lv4 hb6
    have HA6 := hid ((HA5.out.more hm6).keep hb6)
    have HS6 := hid (HS5.out.trans hst6)
    have HF6 := hid (Asd.stpd (NsX.more HF5.out hm6) hst6)
    have HL6 := hid (Asd.stpd (NsX.more HL5.out hm6) hst6)
    have HG6 := hid (Asd.stpd (NsX.more HG5.out hm6) hst6)
    have HM6' := hid (Asd.stpd (NsX.more HM5'.out hm6) hst6)
    have HY6 := hid (show ∀ k, ((Y k ∨ k = w.heap.size + 1) ∨ k = b10) → k < w6.heap.size from fun k e => by have := hZ6.lt; rcases e with e | e; (have := HY5.out k e; omega); omega)
    have HN6 := hid (HN5.out.keep hb6)
    have HM6 := hid (HM5.out.keep hb6)
    have HR6 := hid (HR5.out.keep hb6)
    have HSB6 := hid (show B ≤ w6.heap.size from Nat.le_trans HSB5.out hb6.size)
    have HNB := hid (show ¬ Mv NoY p av4 lv4 b10 from fun e => by have := HA5.out.mv_lt _ e; omega)
    have HB10 := hid (show w.heap.size + 1 < b10 ∧ w2.heap.size < b10 ∧ w4.heap.size < b10 from by have := HR5.out.lt; have := HN5.out.lt; have := HM5.out.lt; omega)
    rw [← hb10] at hZ6
    have HZ6 := hid hZ6
    obtain ⟨n0, m1, m2, _, _, _⟩ := blk3v HN6.out
    obtain ⟨o0, o1, o2, _, _, _⟩ := blk3v HM6.out
    obtain ⟨s0, s1, s2, t0, t1, t2⟩ := blk3v hZ6
    clear hZ6 hm6 hst6
    go_upto_region 18 with fail
    rw [← hw6, ← hb10]
    clear hw6 hb10 hb6
    obtain ⟨wA, hwA⟩ : ∃ wA, wA = w6 := ⟨_, rfl⟩
    rw [← hwA] at HA6 HS6 HF6 HL6 HG6 HM6' HY6 HN6 HM6 HR6 HSB6 HZ6 n0 m1 m2 o0 o1 o2 s0 s1 s2 t0 t1 t2 ⊢
    clear hwA
    have BF := hid (both_any _ _ FA FB wA (Asd.here HF6.out) (Asd.here HG6.out) (by rw [HFA.out, HFB.out]; have := HFLL.out.1; omega))
    go_wp2_with fail
    refine BF.out.mono ?_
    rintro e w7 ⟨⟨v7, rfl, hO7⟩, hb7⟩
    have hml := HA6.out.mv_lt
    have hQ7 : NsX (Mv (fun k => (Y k ∨ k = w.heap.size + 1) ∨ k = b10) p av4 lv4) w7 v7 (FA ++ FB) := own_nsx hO7 (fun k e x => by
      have h1 := (hO7.lt k e).1
      rcases x with x | x | x | x
      · have := hml k (Or.inl x); omega
      · have := hml k (Or.inr (Or.inl x)); omega
      · have := hml k (Or.inr (Or.inr (Or.inl x))); omega
      · have := HY6.out k x; omega)
    obtain ⟨FF, hFF⟩ : ∃ FF, FF = FA ++ FB := ⟨_, rfl⟩
    rw [← hFF] at hQ7
    have HFF := hid hFF
    obtain ⟨qa, qc, rfl, _⟩ := NsX.lenx hQ7
    have hZ7 := HZ6.out.keep hb7
    obtain ⟨s0, s1, s2, t0, t1, t2⟩ := blk3v hZ7
    obtain ⟨wC, hwC⟩ : ∃ wC, wC = w7.setCell ⟨b10, 1, none⟩ (.slice qa FF.length qc) := ⟨_, rfl⟩
    have hfC : Frm (fun k => k = b10) w7 wC := by rw [hwC]; exact Frm.set (X := fun k => k = b10) (Frm.refl _ _) (Or.inl rfl) _ _
    have hst7 := Stpd.below p av4 lv4 hb7
    have keyC : ∀ {P : World → Prop}, Asd (Mv (fun k => (Y k ∨ k = w.heap.size + 1) ∨ k = b10) p av4 lv4) w7 P → Asd (Mv (fun k => (Y k ∨ k = w.heap.size + 1) ∨ k = b10) p av4 lv4) wC P := fun h => h.frm hfC (fun k _ x => Or.inr (Or.inr (Or.inr (Or.inr x)))) (fun _ _ x => x)
    have HAC := hid ((HA6.out.keep hb7).frm hfC (fun k _ e => Or.inr e))
    have HSC := hid ((HS6.out.trans hst7).own hfC (fun k e => by have := HB10.out.1; omega))
    have HFC := hid (keyC hQ7)
    have HLC := hid (keyC (Asd.stpd HL6.out hst7))
    have HGC := hid (keyC (Asd.stpd HG6.out hst7))
    have HMC := hid (keyC (Asd.stpd HM6'.out hst7))
    have HYC := hid (show ∀ k, ((Y k ∨ k = w.heap.size + 1) ∨ k = b10) → k < wC.heap.size from fun k e => Nat.lt_of_lt_of_le (HY6.out k e) (Nat.le_trans hb7.size hfC.size))
    have HNC := hid ((HN6.out.keep hb7).frm hfC (fun e => by have := HB10.out; omega))
    have HMMC := hid ((HM6.out.keep hb7).frm hfC (fun e => by have := HB10.out; omega))
    have HRC := hid ((HR6.out.keep hb7).frm hfC (fun e => by have := HB10.out; omega))
    have HSBC := hid (show B ≤ wC.heap.size from Nat.le_trans HSB6.out (Nat.le_trans hb7.size hfC.size))
    have HZC := hid (show Blk wC b10 [.bool false, .slice qa FF.length qc, .slice ma LB.length mc] 68 from by rw [hwC]; exact hZ7.set 1 _)
    have hwC' : w7.setCell ⟨b10, 1, none⟩ (.slice qa FF.length qc) = wC := hwC.symm
    obtain ⟨n0, m1, m2, _, _, _⟩ := blk3v HNC.out
    obtain ⟨o0, o1, o2, _, _, _⟩ := blk3v HMMC.out
    obtain ⟨u0, u1, u2, v0, v1, v2⟩ := blk3v HZC.out
    clear hO7 hml hQ7 hZ7 hfC hst7 keyC hwC hFF BF
    go_upto_region 20 with fail
    try rw [hwC']
    clear hwC' hb7 s0 s1 s2 t0 t1 t2
    obtain ⟨LF, hLF⟩ : ∃ LF, LF = LB := ⟨_, rfl⟩
    obtain ⟨wD, hwD⟩ : ∃ wD, wD = wC := ⟨_, rfl⟩
    have HLF := hid (show LF = LB from hLF)
    have HAD := HAC
    have HSD := HSC
    have HFD := HFC
    have HLD := HLC
    have HGD := HGC
    have HMD := HMC
    have HYD := HYC
    have HND := HNC
    have HMMD := HMMC
    have HRD := HRC
    have HSBD := HSBC
    have HZD := HZC
    rw [← hwD] at HAD HSD HFD HLD HGD HMD HYD HND HMMD HRD HSBD HZD n0 m1 m2 o0 o1 o2 u0 u1 u2 v0 v1 v2 ⊢
    rw [← hLF] at HMD HZD
    clear hwD hLF u0 u1 u2 v0 v1 v2
    go_upto_region 22 with fail
    have J := hid fun W (hb : Below wD.heap.size wD W) => joined_any (Bs := B) lv4 _ _ _ LA FB W (HAD.out.keep hb).lown (Nat.le_trans HSBD.out hb.size) (NsX.lown (Asd.stpd HLD.out (Stpd.below p av4 lv4 hb))) (NsX.lown (Asd.stpd HGD.out (Stpd.below p av4 lv4 hb))) (by rw [HLA.out, HFB.out]; exact HPS.out)
    have HBD := hid (show Below wD.heap.size wD wD.drew from below_drawn (Below.refl _ _) 1)
    have hne10 : b10 ≠ w.heap.size + 1 := by have := HB10.out; omega
    refine wp_region_held_drew (S := fun w' => Blk w' w2.heap.size [.bool true, .slice fa FA.length fc, .slice la LA.length lc] 68 ∧ Blk w' w4.heap.size [.bool false, .slice ga FB.length gc, .slice ma LB.length mc] 68 ∧ Blk w' b10 [.bool false, .slice qa FF.length qc, .slice ma LF.length mc] 68) (by kernel_rfl) ⟨HND.out, HMMD.out, HZD.out⟩ (fun hHeld => ?_)
    refine wpAnyH_take (i := 0) (oi := ({ dst := some 128, op := Op.load 68 (Operand.tmp 10), type := 68, pos := "auto.go:96", after := #[], guard := none } : Oper)) (v := ?_) rfl (by kernel_rfl) (by kernel_rfl) (by kernel_rfl) (fun _ _ _ h => h) (Or.inl ⟨by rfl, ?_⟩) hHeld ?_
    rotate_left 1
    · intro w9 hw9; (try (obtain ⟨k8, k9, k10⟩ := hw9; obtain ⟨g0, g1, g2, _, _, _⟩ := blk3v k8; obtain ⟨h0, h1, h2, _, _, _⟩ := blk3v k9; obtain ⟨i0, i1, i2, _, _, _⟩ := blk3v k10)); go_simp; try with_reducible rfl
    simp only [Act.put, List.setIfInBounds_toArray, List.set_cons_zero, List.set_cons_succ]
    refine wpAnyH_take (i := 1) (oi := ({ dst := some 129, op := Op.move (Operand.tmp 2), type := 69, pos := "auto.go:96", after := #[], guard := none } : Oper)) (v := ?_) rfl (by kernel_rfl) (by kernel_rfl) (by kernel_rfl) (fun _ _ _ h => h) (Or.inl ⟨by rfl, ?_⟩) hHeld ?_
    rotate_left 1
    · intro w9 hw9; (try (obtain ⟨k8, k9, k10⟩ := hw9; obtain ⟨g0, g1, g2, _, _, _⟩ := blk3v k8; obtain ⟨h0, h1, h2, _, _, _⟩ := blk3v k9; obtain ⟨i0, i1, i2, _, _, _⟩ := blk3v k10)); go_simp; try with_reducible rfl
    simp only [Act.put, List.setIfInBounds_toArray, List.set_cons_zero, List.set_cons_succ]
    refine wpAnyH_take (i := 2) (oi := ({ dst := some 130, op := Op.fieldAddr 68 (Operand.tmp 8) 2, type := 0, pos := "auto.go:96", after := #[], guard := none } : Oper)) (v := ?_) rfl (by kernel_rfl) (by kernel_rfl) (by kernel_rfl) (fun _ _ _ h => h) (Or.inl ⟨by rfl, ?_⟩) hHeld ?_
    rotate_left 1
    · intro w9 hw9; (try (obtain ⟨k8, k9, k10⟩ := hw9; obtain ⟨g0, g1, g2, _, _, _⟩ := blk3v k8; obtain ⟨h0, h1, h2, _, _, _⟩ := blk3v k9; obtain ⟨i0, i1, i2, _, _, _⟩ := blk3v k10)); go_simp; try with_reducible rfl
    simp only [Act.put, List.setIfInBounds_toArray, List.set_cons_zero, List.set_cons_succ]
    refine wpAnyH_take (i := 3) (oi := ({ dst := some 131, op := Op.load 66 (Operand.tmp 130), type := 66, pos := "auto.go:96", after := #[{ on := 2, ground := Ground.data }], guard := none } : Oper)) (v := ?_) rfl (by kernel_rfl) (by kernel_rfl) (by kernel_rfl) (fun _ _ _ h => h) (Or.inl ⟨by rfl, ?_⟩) hHeld ?_
    rotate_left 1
    · intro w9 hw9; (try (obtain ⟨k8, k9, k10⟩ := hw9; obtain ⟨g0, g1, g2, _, _, _⟩ := blk3v k8; obtain ⟨h0, h1, h2, _, _, _⟩ := blk3v k9; obtain ⟨i0, i1, i2, _, _, _⟩ := blk3v k10)); go_simp; try with_reducible rfl
    simp only [Act.put, List.setIfInBounds_toArray, List.set_cons_zero, List.set_cons_succ]
    refine wpAnyH_take (i := 4) (oi := ({ dst := some 132, op := Op.fieldAddr 68 (Operand.tmp 9) 1, type := 0, pos := "auto.go:96", after := #[], guard := none } : Oper)) (v := ?_) rfl (by kernel_rfl) (by kernel_rfl) (by kernel_rfl) (fun _ _ _ h => h) (Or.inl ⟨by rfl, ?_⟩) hHeld ?_
    rotate_left 1
    · intro w9 hw9; (try (obtain ⟨k8, k9, k10⟩ := hw9; obtain ⟨g0, g1, g2, _, _, _⟩ := blk3v k8; obtain ⟨h0, h1, h2, _, _, _⟩ := blk3v k9; obtain ⟨i0, i1, i2, _, _, _⟩ := blk3v k10)); go_simp; try with_reducible rfl
    simp only [Act.put, List.setIfInBounds_toArray, List.set_cons_zero, List.set_cons_succ]
    refine wpAnyH_take (i := 5) (oi := ({ dst := some 133, op := Op.load 66 (Operand.tmp 132), type := 66, pos := "auto.go:96", after := #[{ on := 4, ground := Ground.data }], guard := none } : Oper)) (v := ?_) rfl (by kernel_rfl) (by kernel_rfl) (by kernel_rfl) (fun _ _ _ h => h) (Or.inl ⟨by rfl, ?_⟩) hHeld ?_
    rotate_left 1
    · intro w9 hw9; (try (obtain ⟨k8, k9, k10⟩ := hw9; obtain ⟨g0, g1, g2, _, _, _⟩ := blk3v k8; obtain ⟨h0, h1, h2, _, _, _⟩ := blk3v k9; obtain ⟨i0, i1, i2, _, _, _⟩ := blk3v k10)); go_simp; try with_reducible rfl
    simp only [Act.put, List.setIfInBounds_toArray, List.set_cons_zero, List.set_cons_succ]
    refine wpAnyH_ready (rs := [6]) (by kernel_rfl) (by simp) ?_
    refine AllReadyH.cons (o := ({ dst := some 134, op := Op.call { callee := Callee.value (Operand.func 45), args := #[Operand.tmp 129, Operand.tmp 131, Operand.tmp 133], argTypes := #[69, 66, 66] }, type := 69, pos := "auto.go:96", after := #[{ on := 1, ground := Ground.data }, { on := 3, ground := Ground.data }, { on := 5, ground := Ground.data }], guard := none } : Oper)) rfl (fun K hK => ?_) AllReadyH.nil
    go_simp
    go_at_call 45
    refine (J.out _ HBD.out).mono ?_
    rintro e wE ⟨lv5, rfl, hown, hpm, hsz⟩
    have hpm : PrM wD lv4 lv5 wE := PrM.trans ⟨(Frm.refl _ _).drewN 1, Or.inl rfl⟩ hpm
    have hNE := HND.out.frm (hpm.1) (fun e => HNO.out _ (Or.inl rfl) (Or.inr (Or.inr (Or.inl e))))
    have hME := HMMD.out.frm (hpm.1) (fun e => HNO.out _ (Or.inr (Or.inr (Or.inr rfl))) (Or.inr (Or.inr (Or.inl e))))
    have hRE := HRD.out.frm (hpm.1) (fun e => HNO.out _ (Or.inr (Or.inr (Or.inl rfl))) (Or.inr (Or.inr (Or.inl e))))
    have hZE := HZD.out.frm (hpm.1) (fun e => HNB.out (Or.inr (Or.inr (Or.inl e))))
    obtain ⟨r0, r1, r2, f0, f1, f2⟩ := blk3v hRE
    have HOE := hid hown
    have HPM := hid hpm
    have HRE := hid hRE
    have HNEE := hid hNE
    have HMEE := hid hME
    have HZE := hid hZE
    clear hown hpm hNE hME hRE hZE
    refine hK.out _ _ (⟨HNEE.out, HMEE.out, HZE.out⟩) (fun hHeld => ?_)
    clear hK K
    (try simp only [Act.put, List.setIfInBounds_toArray, List.set_cons_zero, List.set_cons_succ])
    refine wpAnyH_ready (rs := [7]) (by kernel_rfl) (by simp) ?_
    refine AllReadyH.cons (o := ({ dst := none, op := Op.store 68 (Operand.tmp 6) (Operand.tmp 128), type := 0, pos := "auto.go:96", after := #[{ on := 0, ground := Ground.data }, { on := 6, ground := Ground.chain }, { on := 0, ground := Ground.phase }, { on := 1, ground := Ground.textOnly Departure.lateStores }, { on := 2, ground := Ground.textOnly Departure.lateStores }, { on := 3, ground := Ground.textOnly Departure.lateStores }, { on := 4, ground := Ground.textOnly Departure.lateStores }, { on := 5, ground := Ground.textOnly Departure.lateStores }, { on := 6, ground := Ground.textOnly Departure.lateStoresUnsure }], guard := none } : Oper)) rfl (fun K hK => ?_) AllReadyH.nil
    go_simp
    refine hK.out _ _ (⟨HNEE.out.other3 hne _ _ _, HMEE.out.other3 hne4 _ _ _, HZE.out.other3 hne10 _ _ _⟩) (fun hHeld => ?_)
    clear hK K
    (try simp only [Act.put, List.setIfInBounds_toArray, List.set_cons_zero, List.set_cons_succ])
    refine wpAnyH_take (i := 8) (oi := ({ dst := some 7, op := Op.assign (Operand.tmp 134), type := 69, pos := "auto.go:96", after := #[{ on := 6, ground := Ground.data }, { on := 7, ground := Ground.chain }, { on := 0, ground := Ground.phase }, { on := 1, ground := Ground.phase }, { on := 2, ground := Ground.phase }, { on := 3, ground := Ground.phase }, { on := 4, ground := Ground.phase }, { on := 5, ground := Ground.phase }, { on := 6, ground := Ground.phase }, { on := 7, ground := Ground.phase }], guard := none } : Oper)) (v := ?_) rfl (by kernel_rfl) (by kernel_rfl) (by kernel_rfl) (fun _ _ _ h => h) (Or.inl ⟨by rfl, ?_⟩) hHeld ?_
    rotate_left 1
    · intro w9 hw9; (try (obtain ⟨k8, k9, k10⟩ := hw9; obtain ⟨g0, g1, g2, _, _, _⟩ := blk3v k8; obtain ⟨h0, h1, h2, _, _, _⟩ := blk3v k9; obtain ⟨i0, i1, i2, _, _, _⟩ := blk3v k10)); go_simp; try with_reducible rfl
    simp only [Act.put, List.setIfInBounds_toArray, List.set_cons_zero, List.set_cons_succ]
    refine wpAnyH_done (by kernel_rfl) ?_ _
    obtain ⟨hAE, hSE⟩ := HAD.out.pairs HOE.out HPM.out HYD.out
    have hmm : ∀ k, (Y k ∨ k = w.heap.size + 1) → ((Y k ∨ k = w.heap.size + 1) ∨ k = b10) ∨ wE.heap.size ≤ k := fun k e => Or.inl (Or.inl e)
    obtain ⟨e1, e2, e3, e4, e5⟩ := part_end (Y := Y) (e := false) (Nat.le_succ w.heap.size) (hAE.more hmm) (HSD.out.trans hSE) (NsX.more (Asd.stpd HFD.out hSE) hmm) (NsX.more (Asd.stpd HMD.out hSE) hmm) HRE.out
    have HE1 := hid e1
    have HE2 := hid e2
    have HE3 := hid e3
    have HE4 := hid e4
    have HE5 := hid e5
    clear hAE hSE hmm e1 e2 e3 e4 e5
    go_wp2
    refine bodyPost_ret (tup_ret (s := 6) (s2 := 7) rfl HE1.out Tryd.results32) rfl ⟨_, _, _, _, _, (by show _ = Ending.returned (.tuple #[.agg #[.bool (r.emp && s.emp), _, _], _]); rw [← HEA.out, ← HEB.out]; rfl), (by have h := HE2.out; rw [HLA.out, HFB.out] at h; simpa [Rx.pairsL, Rx.labs, List.append_assoc] using h), HE3.out, (by rw [show (Rx.seq r s).firstL (ls.length + 1) = FF by rw [HFF.out, HFA.out, HFB.out]; simp only [Rx.firstL]; rw [← HEA.out]; rfl]; exact HE4.out), (by rw [show (Rx.seq r s).lastL (ls.length + 1) = LF by rw [HLF.out, HLB.out]; simp only [Rx.lastL]; rw [← HEB.out]; rfl]; exact HE5.out)⟩
  case true.true =>
    go_enter Tryd.func32, Tryd.ntmps32
    go_upto_region 1 with fail
    rw [← hw1]
    clear hw1
    go_wp2_with fail
    refine C.out.mono ?_
    rintro e w2 ⟨fv, lsv, av2, lv2, lxs2, rfl, hA, hS, hF, hL⟩
    obtain ⟨fa, fc, rfl, _⟩ := NsX.lenx hF
    obtain ⟨la, lc, rfl, _⟩ := NsX.lenx hL
    obtain ⟨FA, hFA⟩ : ∃ FA, FA = r.firstL (ls.length + 1) := ⟨_, rfl⟩
    obtain ⟨LA, hLA⟩ : ∃ LA, LA = r.lastL (ls.length + 1) := ⟨_, rfl⟩
    rw [← hFA] at hF ⊢
    rw [← hLA] at hL ⊢
    have HFA := hid hFA
    have HLA := hid hLA
    obtain ⟨w3, hw3⟩ : ∃ w3, w3 = w2.alloc (.cells #[.bool true, .slice fa FA.length fc, .slice la LA.length lc] 68) := ⟨_, rfl⟩
    have hb3 : Below w2.heap.size w2 w3 := by rw [hw3]; exact (Below.refl _ _).alloc (Nat.le_refl _) _
    have hN3 : Blk w3 w2.heap.size [.bool true, .slice fa FA.length fc, .slice la LA.length lc] 68 := by rw [hw3]; exact Blk.new w2 _ _
    have hR3 := (HR.out.frm hS.1 (fun e => by have := HML.out _ e; omega)).keep hb3
    have hX3 := (HX.out.frm hS.1 (fun e => by have := HML.out _ e; omega)).keep hb3
    have hA3 := hA.keep hb3
    have hSt1 := hS.trans (Stpd.below p av2 lv2 hb3)
    have hS3 := (Stpd.below p av lv HB1.out).trans hSt1
    have hF3 := Asd.stpd hF (Stpd.below p av2 lv2 hb3)
    have hL3 := Asd.stpd hL (Stpd.below p av2 lv2 hb3)
    have hY3 : ∀ k, (Y k ∨ k = w.heap.size + 1) → k < w3.heap.size := fun k e => by have := HY1.out k e; have := hS.1.size; have := hb3.size; omega
    have hnm : ¬ Mv NoY p av2 lv2 w2.heap.size := fun e => by have := hA.mv_lt _ e; omega
    have hH3 := HH1.out.stpd hSt1
    obtain ⟨y0, y1, y2, y3⟩ := hH3.row4 HRO'.out
    have C2 := IHS.out B WB w3 _ p _ _ av2 lv2 lxs2 _ _ HK'.out hH3 hA3 hY3 (by have := HB1'.out; have := hS.1.size; have := hb3.size; omega) (by have := H30.out; omega) HLN.out.1 HLN.out.2
    unfold PartPost pv at C2
    rw [← HEB.out, HLL.out] at C2
    have C2 := hid C2
    obtain ⟨c0, c1, c2, c3⟩ := blk4 hX3
    have hnot : w2.heap.size ≠ w.heap.size + 1 ∧ w.heap.size ≠ w.heap.size + 1 := by
      have := HY1.out (w.heap.size + 1) (Or.inr rfl); have := hS.1.size; omega
    have HNE := hid hnot
    have HMV3 := hid (show ¬ Mv NoY p av2 lv2 w2.heap.size ∧ ¬ Mv NoY p av2 lv2 w.heap.size ∧ ¬ Mv NoY p av2 lv2 (w.heap.size + 1) from ⟨hnm, fun e => by
      have := hS.2 _ (by have := HZ1.out; omega) e
      have := HML.out _ this
      omega, fun e => by
      have := hS.2 _ (by have := HZ1.out; omega) e
      have := HML.out _ this
      omega⟩)
    have HA3 := hid hA3
    have HS3 := hid hS3
    have HF3 := hid hF3
    have HL3 := hid hL3
    have HY3 := hid hY3
    have HR3 := hid hR3
    have HN3 := hid hN3
    have HX3 := hid hX3
    have HSB := hid (show B ≤ w3.heap.size from by have := HB1'.out; have := hS.1.size; have := hb3.size; omega)
    have HW2 := hid (show w2.heap.size < w3.heap.size from hN3.lt)
    clear hA hS hF hL hA3 hS3 hF3 hL3 hY3 hnm hR3 hN3 hX3 hFA hLA z0 z1 z2 z3 hSt1 hH3 hnot
    go_upto_region 8 with fail
    rw [← hw3]
    clear hw3 hb3
    go_wp2_with fail
    refine C2.out.mono ?_
    rintro e w4 ⟨gv, gsv, av4, lv4, lxs4, rfl, hA, hS, hF, hL⟩
    obtain ⟨ga, gc, rfl, _⟩ := NsX.lenx hF
    obtain ⟨ma, mc, rfl, _⟩ := NsX.lenx hL
    obtain ⟨FB, hFB⟩ : ∃ FB, FB = s.firstL (ls.length + 1 + r.n) := ⟨_, rfl⟩
    obtain ⟨LB, hLB⟩ : ∃ LB, LB = s.lastL (ls.length + 1 + r.n) := ⟨_, rfl⟩
    rw [← hFB] at hF ⊢
    rw [← hLB] at hL ⊢
    have HFB := hid hFB
    have HLB := hid hLB
    obtain ⟨w5, hw5⟩ : ∃ w5, w5 = w4.alloc (.cells #[.bool true, .slice ga FB.length gc, .slice ma LB.length mc] 68) := ⟨_, rfl⟩
    have hb5 : Below w4.heap.size w4 w5 := by rw [hw5]; exact (Below.refl _ _).alloc (Nat.le_refl _) _
    have hM5 : Blk w5 w4.heap.size [.bool true, .slice ga FB.length gc, .slice ma LB.length mc] 68 := by rw [hw5]; exact Blk.new w4 _ _
    have hN5 := (HN3.out.frm hS.1 HMV3.out.1).keep hb5
    have hX5 := (HX3.out.frm hS.1 HMV3.out.2.1).keep hb5
    have hR5 := (HR3.out.frm hS.1 HMV3.out.2.2).keep hb5
    have hSt2 := hS.trans (Stpd.below p av4 lv4 hb5)
    have hA5 := hA.keep hb5
    have hS5 := HS3.out.trans hSt2
    have hF5 := Asd.stpd HF3.out hSt2
    have hL5 := Asd.stpd HL3.out hSt2
    have hG5 := Asd.stpd hF (Stpd.below p av4 lv4 hb5)
    have hM5' := Asd.stpd hL (Stpd.below p av4 lv4 hb5)
    have hY5 : ∀ k, (Y k ∨ k = w.heap.size + 1) → k < w5.heap.size := fun k e => by have := HY3.out k e; have := hS.1.size; have := hb5.size; omega
    obtain ⟨c0, c1, c2, c3⟩ := blk4 hX5
    obtain ⟨n0, m1, m2, _, _, _⟩ := blk3v hN5
    obtain ⟨o0, o1, o2, _, _, _⟩ := blk3v hM5
    have hsz2 := hS.1.size
    have hlt4 : w4.heap.size < w5.heap.size := hM5.lt
    have HNO := hid (show ∀ b, b = w2.heap.size ∨ b = w.heap.size ∨ b = w.heap.size + 1 ∨ b = w4.heap.size → ¬ Mv NoY p av4 lv4 b from fun b hb e => by
      have hlt := hA.mv_lt _ e
      rcases hb with rfl | rfl | rfl | rfl
      · exact HMV3.out.1 (hS.2 _ HW2.out e)
      · exact HMV3.out.2.1 (hS.2 _ (by have := HW2.out; have := HB1.out.size; have := HR3.out.lt; omega) e)
      · exact HMV3.out.2.2 (hS.2 _ HR3.out.lt e)
      · omega)
    have HNE4 := hid (show w4.heap.size ≠ w.heap.size + 1 from by have := HR3.out.lt; omega)
    have HA5 := hid hA5
    have HS5 := hid hS5
    have HF5 := hid hF5
    have HL5 := hid hL5
    have HG5 := hid hG5
    have HM5' := hid hM5'
    have HY5 := hid hY5
    have HR5 := hid hR5
    have HN5 := hid hN5
    have HX5 := hid hX5
    have HM5 := hid hM5
    have HSB5 := hid (show B ≤ w5.heap.size from by have := HSB.out; omega)
    have hne := HNE.out.1
    have hne2 := HNE.out.2
    have hne4 := HNE4.out
    clear hA hS hF hL hA5 hS5 hF5 hL5 hG5 hM5' hY5 hR5 hN5 hX5 hM5 hFB hLB y0 y1 y2 y3 hSt2 hsz2 hlt4
    go_upto_region 15 with fail
    rw [← hw5]
    clear hw5 hb5
    obtain ⟨w6, hw6⟩ : ∃ w6, w6 = w5.alloc (.cells #[.bool true, .slice fa FA.length fc, .slice ma LB.length mc] 68) := ⟨_, rfl⟩
    have hb6 : Below w5.heap.size w5 w6 := by rw [hw6]; exact (Below.refl _ _).alloc (Nat.le_refl _) _
    have hZ6 : Blk w6 w5.heap.size [.bool true, .slice fa FA.length fc, .slice ma LB.length mc] 68 := by rw [hw6]; exact Blk.new w5 _ _
    obtain ⟨b10, hb10⟩ : ∃ b10, b10 = w5.heap.size := ⟨_, rfl⟩
    have hm6 : ∀ k, ((Y k ∨ k = w.heap.size + 1) ∨ k = b10) → (Y k ∨ k = w.heap.size + 1) ∨ w5.heap.size ≤ k := fun k e => e.elim Or.inl (fun e => Or.inr (by omega))
    have hst6 := Stpd.below p av4 lv4 hb6
    have HA6 := hid ((HA5.out.more hm6).keep hb6)
    have HS6 := hid (HS5.out.trans hst6)
    have HF6 := hid (Asd.stpd (NsX.more HF5.out hm6) hst6)
    have HL6 := hid (Asd.stpd (NsX.more HL5.out hm6) hst6)
    have HG6 := hid (Asd.stpd (NsX.more HG5.out hm6) hst6)
    have HM6' := hid (Asd.stpd (NsX.more HM5'.out hm6) hst6)
    have HY6 := hid (show ∀ k, ((Y k ∨ k = w.heap.size + 1) ∨ k = b10) → k < w6.heap.size from fun k e => by have := hZ6.lt; rcases e with e | e; (have := HY5.out k e; omega); omega)
    have HN6 := hid (HN5.out.keep hb6)
    have HM6 := hid (HM5.out.keep hb6)
    have HR6 := hid (HR5.out.keep hb6)
    have HSB6 := hid (show B ≤ w6.heap.size from Nat.le_trans HSB5.out hb6.size)
    have HNB := hid (show ¬ Mv NoY p av4 lv4 b10 from fun e => by have := HA5.out.mv_lt _ e; omega)
    have HB10 := hid (show w.heap.size + 1 < b10 ∧ w2.heap.size < b10 ∧ w4.heap.size < b10 from by have := HR5.out.lt; have := HN5.out.lt; have := HM5.out.lt; omega)
    rw [← hb10] at hZ6
    have HZ6 := hid hZ6
    obtain ⟨n0, m1, m2, _, _, _⟩ := blk3v HN6.out
    obtain ⟨o0, o1, o2, _, _, _⟩ := blk3v HM6.out
    obtain ⟨s0, s1, s2, t0, t1, t2⟩ := blk3v hZ6
    clear hZ6 hm6 hst6
    go_upto_region 18 with fail
    rw [← hw6, ← hb10]
    clear hw6 hb10 hb6
    obtain ⟨wA, hwA⟩ : ∃ wA, wA = w6 := ⟨_, rfl⟩
    rw [← hwA] at HA6 HS6 HF6 HL6 HG6 HM6' HY6 HN6 HM6 HR6 HSB6 HZ6 n0 m1 m2 o0 o1 o2 s0 s1 s2 t0 t1 t2 ⊢
    clear hwA
    have BF := hid (both_any _ _ FA FB wA (Asd.here HF6.out) (Asd.here HG6.out) (by rw [HFA.out, HFB.out]; have := HFLL.out.1; omega))
    go_wp2_with fail
    refine BF.out.mono ?_
    rintro e w7 ⟨⟨v7, rfl, hO7⟩, hb7⟩
    have hml := HA6.out.mv_lt
    have hQ7 : NsX (Mv (fun k => (Y k ∨ k = w.heap.size + 1) ∨ k = b10) p av4 lv4) w7 v7 (FA ++ FB) := own_nsx hO7 (fun k e x => by
      have h1 := (hO7.lt k e).1
      rcases x with x | x | x | x
      · have := hml k (Or.inl x); omega
      · have := hml k (Or.inr (Or.inl x)); omega
      · have := hml k (Or.inr (Or.inr (Or.inl x))); omega
      · have := HY6.out k x; omega)
    obtain ⟨FF, hFF⟩ : ∃ FF, FF = FA ++ FB := ⟨_, rfl⟩
    rw [← hFF] at hQ7
    have HFF := hid hFF
    obtain ⟨qa, qc, rfl, _⟩ := NsX.lenx hQ7
    have hZ7 := HZ6.out.keep hb7
    obtain ⟨s0, s1, s2, t0, t1, t2⟩ := blk3v hZ7
    obtain ⟨wC, hwC⟩ : ∃ wC, wC = w7.setCell ⟨b10, 1, none⟩ (.slice qa FF.length qc) := ⟨_, rfl⟩
    have hfC : Frm (fun k => k = b10) w7 wC := by rw [hwC]; exact Frm.set (X := fun k => k = b10) (Frm.refl _ _) (Or.inl rfl) _ _
    have hst7 := Stpd.below p av4 lv4 hb7
    have keyC : ∀ {P : World → Prop}, Asd (Mv (fun k => (Y k ∨ k = w.heap.size + 1) ∨ k = b10) p av4 lv4) w7 P → Asd (Mv (fun k => (Y k ∨ k = w.heap.size + 1) ∨ k = b10) p av4 lv4) wC P := fun h => h.frm hfC (fun k _ x => Or.inr (Or.inr (Or.inr (Or.inr x)))) (fun _ _ x => x)
    have HAC := hid ((HA6.out.keep hb7).frm hfC (fun k _ e => Or.inr e))
    have HSC := hid ((HS6.out.trans hst7).own hfC (fun k e => by have := HB10.out.1; omega))
    have HFC := hid (keyC hQ7)
    have HLC := hid (keyC (Asd.stpd HL6.out hst7))
    have HGC := hid (keyC (Asd.stpd HG6.out hst7))
    have HMC := hid (keyC (Asd.stpd HM6'.out hst7))
    have HYC := hid (show ∀ k, ((Y k ∨ k = w.heap.size + 1) ∨ k = b10) → k < wC.heap.size from fun k e => Nat.lt_of_lt_of_le (HY6.out k e) (Nat.le_trans hb7.size hfC.size))
    have HNC := hid ((HN6.out.keep hb7).frm hfC (fun e => by have := HB10.out; omega))
    have HMMC := hid ((HM6.out.keep hb7).frm hfC (fun e => by have := HB10.out; omega))
    have HRC := hid ((HR6.out.keep hb7).frm hfC (fun e => by have := HB10.out; omega))
    have HSBC := hid (show B ≤ wC.heap.size from Nat.le_trans HSB6.out (Nat.le_trans hb7.size hfC.size))
    have HZC := hid (show Blk wC b10 [.bool true, .slice qa FF.length qc, .slice ma LB.length mc] 68 from by rw [hwC]; exact hZ7.set 1 _)
    have hwC' : w7.setCell ⟨b10, 1, none⟩ (.slice qa FF.length qc) = wC := hwC.symm
    obtain ⟨n0, m1, m2, _, _, _⟩ := blk3v HNC.out
    obtain ⟨o0, o1, o2, _, _, _⟩ := blk3v HMMC.out
    obtain ⟨u0, u1, u2, v0, v1, v2⟩ := blk3v HZC.out
    clear hO7 hml hQ7 hZ7 hfC hst7 keyC hwC hFF BF
    go_upto_region 20 with fail
    try rw [hwC']
    clear hwC' hb7 s0 s1 s2 t0 t1 t2
    have BL := hid (both_any _ _ LA LB wC (Asd.here HLC.out) (Asd.here HMC.out) (by rw [HLA.out, HLB.out]; have := HFLL.out.2; omega))
    go_wp2_with fail
    refine BL.out.mono ?_
    rintro e w9 ⟨⟨v9, rfl, hO9⟩, hb9⟩
    have hml := HAC.out.mv_lt
    have hQ9 : NsX (Mv (fun k => (Y k ∨ k = w.heap.size + 1) ∨ k = b10) p av4 lv4) w9 v9 (LA ++ LB) := own_nsx hO9 (fun k e x => by
      have h1 := (hO9.lt k e).1
      rcases x with x | x | x | x
      · have := hml k (Or.inl x); omega
      · have := hml k (Or.inr (Or.inl x)); omega
      · have := hml k (Or.inr (Or.inr (Or.inl x))); omega
      · have := HYC.out k x; omega)
    obtain ⟨LF, hLF⟩ : ∃ LF, LF = LA ++ LB := ⟨_, rfl⟩
    rw [← hLF] at hQ9
    have HLF := hid hLF
    obtain ⟨xa, xc, rfl, _⟩ := NsX.lenx hQ9
    have hZ9 := HZC.out.keep hb9
    obtain ⟨s0, s1, s2, t0, t1, t2⟩ := blk3v hZ9
    obtain ⟨wD, hwD⟩ : ∃ wD, wD = w9.setCell ⟨b10, 2, none⟩ (.slice xa LF.length xc) := ⟨_, rfl⟩
    have hfD : Frm (fun k => k = b10) w9 wD := by rw [hwD]; exact Frm.set (X := fun k => k = b10) (Frm.refl _ _) (Or.inl rfl) _ _
    have hst9 := Stpd.below p av4 lv4 hb9
    have keyD : ∀ {P : World → Prop}, Asd (Mv (fun k => (Y k ∨ k = w.heap.size + 1) ∨ k = b10) p av4 lv4) w9 P → Asd (Mv (fun k => (Y k ∨ k = w.heap.size + 1) ∨ k = b10) p av4 lv4) wD P := fun h => h.frm hfD (fun k _ x => Or.inr (Or.inr (Or.inr (Or.inr x)))) (fun _ _ x => x)
    have HAD := hid ((HAC.out.keep hb9).frm hfD (fun k _ e => Or.inr e))
    have HSD := hid ((HSC.out.trans hst9).own hfD (fun k e => by have := HB10.out.1; omega))
    have HFD := hid (keyD (Asd.stpd HFC.out hst9))
    have HLD := hid (keyD (Asd.stpd HLC.out hst9))
    have HGD := hid (keyD (Asd.stpd HGC.out hst9))
    have HMD := hid (keyD hQ9)
    have HYD := hid (show ∀ k, ((Y k ∨ k = w.heap.size + 1) ∨ k = b10) → k < wD.heap.size from fun k e => Nat.lt_of_lt_of_le (HYC.out k e) (Nat.le_trans hb9.size hfD.size))
    have HND := hid ((HNC.out.keep hb9).frm hfD (fun e => by have := HB10.out; omega))
    have HMMD := hid ((HMMC.out.keep hb9).frm hfD (fun e => by have := HB10.out; omega))
    have HRD := hid ((HRC.out.keep hb9).frm hfD (fun e => by have := HB10.out; omega))
    have HSBD := hid (show B ≤ wD.heap.size from Nat.le_trans HSBC.out (Nat.le_trans hb9.size hfD.size))
    have HZD := hid (show Blk wD b10 [.bool true, .slice qa FF.length qc, .slice xa LF.length xc] 68 from by rw [hwD]; exact hZ9.set 2 _)
    have hwD' : w9.setCell ⟨b10, 2, none⟩ (.slice xa LF.length xc) = wD := hwD.symm
    obtain ⟨n0, m1, m2, _, _, _⟩ := blk3v HND.out
    obtain ⟨o0, o1, o2, _, _, _⟩ := blk3v HMMD.out
    clear hO9 hml hQ9 hZ9 hfD hst9 keyD hwD hLF BL
    go_upto_region 22 with fail
    try rw [hwD']
    clear hwD' hb9 s0 s1 s2 t0 t1 t2 u0 u1 u2 v0 v1 v2
    have J := hid fun W (hb : Below wD.heap.size wD W) => joined_any (Bs := B) lv4 _ _ _ LA FB W (HAD.out.keep hb).lown (Nat.le_trans HSBD.out hb.size) (NsX.lown (Asd.stpd HLD.out (Stpd.below p av4 lv4 hb))) (NsX.lown (Asd.stpd HGD.out (Stpd.below p av4 lv4 hb))) (by rw [HLA.out, HFB.out]; exact HPS.out)
    have HBD := hid (show Below wD.heap.size wD wD.drew from below_drawn (Below.refl _ _) 1)
    have hne10 : b10 ≠ w.heap.size + 1 := by have := HB10.out; omega
    refine wp_region_held_drew (S := fun w' => Blk w' w2.heap.size [.bool true, .slice fa FA.length fc, .slice la LA.length lc] 68 ∧ Blk w' w4.heap.size [.bool true, .slice ga FB.length gc, .slice ma LB.length mc] 68 ∧ Blk w' b10 [.bool true, .slice qa FF.length qc, .slice xa LF.length xc] 68) (by kernel_rfl) ⟨HND.out, HMMD.out, HZD.out⟩ (fun hHeld => ?_)
    refine wpAnyH_take (i := 0) (oi := ({ dst := some 128, op := Op.load 68 (Operand.tmp 10), type := 68, pos := "auto.go:96", after := #[], guard := none } : Oper)) (v := ?_) rfl (by kernel_rfl) (by kernel_rfl) (by kernel_rfl) (fun _ _ _ h => h) (Or.inl ⟨by rfl, ?_⟩) hHeld ?_
    rotate_left 1
    · intro w9 hw9; (try (obtain ⟨k8, k9, k10⟩ := hw9; obtain ⟨g0, g1, g2, _, _, _⟩ := blk3v k8; obtain ⟨h0, h1, h2, _, _, _⟩ := blk3v k9; obtain ⟨i0, i1, i2, _, _, _⟩ := blk3v k10)); go_simp; try with_reducible rfl
    simp only [Act.put, List.setIfInBounds_toArray, List.set_cons_zero, List.set_cons_succ]
    refine wpAnyH_take (i := 1) (oi := ({ dst := some 129, op := Op.move (Operand.tmp 2), type := 69, pos := "auto.go:96", after := #[], guard := none } : Oper)) (v := ?_) rfl (by kernel_rfl) (by kernel_rfl) (by kernel_rfl) (fun _ _ _ h => h) (Or.inl ⟨by rfl, ?_⟩) hHeld ?_
    rotate_left 1
    · intro w9 hw9; (try (obtain ⟨k8, k9, k10⟩ := hw9; obtain ⟨g0, g1, g2, _, _, _⟩ := blk3v k8; obtain ⟨h0, h1, h2, _, _, _⟩ := blk3v k9; obtain ⟨i0, i1, i2, _, _, _⟩ := blk3v k10)); go_simp; try with_reducible rfl
    simp only [Act.put, List.setIfInBounds_toArray, List.set_cons_zero, List.set_cons_succ]
    refine wpAnyH_take (i := 2) (oi := ({ dst := some 130, op := Op.fieldAddr 68 (Operand.tmp 8) 2, type := 0, pos := "auto.go:96", after := #[], guard := none } : Oper)) (v := ?_) rfl (by kernel_rfl) (by kernel_rfl) (by kernel_rfl) (fun _ _ _ h => h) (Or.inl ⟨by rfl, ?_⟩) hHeld ?_
    rotate_left 1
    · intro w9 hw9; (try (obtain ⟨k8, k9, k10⟩ := hw9; obtain ⟨g0, g1, g2, _, _, _⟩ := blk3v k8; obtain ⟨h0, h1, h2, _, _, _⟩ := blk3v k9; obtain ⟨i0, i1, i2, _, _, _⟩ := blk3v k10)); go_simp; try with_reducible rfl
    simp only [Act.put, List.setIfInBounds_toArray, List.set_cons_zero, List.set_cons_succ]
    refine wpAnyH_take (i := 3) (oi := ({ dst := some 131, op := Op.load 66 (Operand.tmp 130), type := 66, pos := "auto.go:96", after := #[{ on := 2, ground := Ground.data }], guard := none } : Oper)) (v := ?_) rfl (by kernel_rfl) (by kernel_rfl) (by kernel_rfl) (fun _ _ _ h => h) (Or.inl ⟨by rfl, ?_⟩) hHeld ?_
    rotate_left 1
    · intro w9 hw9; (try (obtain ⟨k8, k9, k10⟩ := hw9; obtain ⟨g0, g1, g2, _, _, _⟩ := blk3v k8; obtain ⟨h0, h1, h2, _, _, _⟩ := blk3v k9; obtain ⟨i0, i1, i2, _, _, _⟩ := blk3v k10)); go_simp; try with_reducible rfl
    simp only [Act.put, List.setIfInBounds_toArray, List.set_cons_zero, List.set_cons_succ]
    refine wpAnyH_take (i := 4) (oi := ({ dst := some 132, op := Op.fieldAddr 68 (Operand.tmp 9) 1, type := 0, pos := "auto.go:96", after := #[], guard := none } : Oper)) (v := ?_) rfl (by kernel_rfl) (by kernel_rfl) (by kernel_rfl) (fun _ _ _ h => h) (Or.inl ⟨by rfl, ?_⟩) hHeld ?_
    rotate_left 1
    · intro w9 hw9; (try (obtain ⟨k8, k9, k10⟩ := hw9; obtain ⟨g0, g1, g2, _, _, _⟩ := blk3v k8; obtain ⟨h0, h1, h2, _, _, _⟩ := blk3v k9; obtain ⟨i0, i1, i2, _, _, _⟩ := blk3v k10)); go_simp; try with_reducible rfl
    simp only [Act.put, List.setIfInBounds_toArray, List.set_cons_zero, List.set_cons_succ]
    refine wpAnyH_take (i := 5) (oi := ({ dst := some 133, op := Op.load 66 (Operand.tmp 132), type := 66, pos := "auto.go:96", after := #[{ on := 4, ground := Ground.data }], guard := none } : Oper)) (v := ?_) rfl (by kernel_rfl) (by kernel_rfl) (by kernel_rfl) (fun _ _ _ h => h) (Or.inl ⟨by rfl, ?_⟩) hHeld ?_
    rotate_left 1
    · intro w9 hw9; (try (obtain ⟨k8, k9, k10⟩ := hw9; obtain ⟨g0, g1, g2, _, _, _⟩ := blk3v k8; obtain ⟨h0, h1, h2, _, _, _⟩ := blk3v k9; obtain ⟨i0, i1, i2, _, _, _⟩ := blk3v k10)); go_simp; try with_reducible rfl
    simp only [Act.put, List.setIfInBounds_toArray, List.set_cons_zero, List.set_cons_succ]
    refine wpAnyH_ready (rs := [6]) (by kernel_rfl) (by simp) ?_
    refine AllReadyH.cons (o := ({ dst := some 134, op := Op.call { callee := Callee.value (Operand.func 45), args := #[Operand.tmp 129, Operand.tmp 131, Operand.tmp 133], argTypes := #[69, 66, 66] }, type := 69, pos := "auto.go:96", after := #[{ on := 1, ground := Ground.data }, { on := 3, ground := Ground.data }, { on := 5, ground := Ground.data }], guard := none } : Oper)) rfl (fun K hK => ?_) AllReadyH.nil
    go_simp
    go_at_call 45
    refine (J.out _ HBD.out).mono ?_
    rintro e wE ⟨lv5, rfl, hown, hpm, hsz⟩
    have hpm : PrM wD lv4 lv5 wE := PrM.trans ⟨(Frm.refl _ _).drewN 1, Or.inl rfl⟩ hpm
    have hNE := HND.out.frm (hpm.1) (fun e => HNO.out _ (Or.inl rfl) (Or.inr (Or.inr (Or.inl e))))
    have hME := HMMD.out.frm (hpm.1) (fun e => HNO.out _ (Or.inr (Or.inr (Or.inr rfl))) (Or.inr (Or.inr (Or.inl e))))
    have hRE := HRD.out.frm (hpm.1) (fun e => HNO.out _ (Or.inr (Or.inr (Or.inl rfl))) (Or.inr (Or.inr (Or.inl e))))
    have hZE := HZD.out.frm (hpm.1) (fun e => HNB.out (Or.inr (Or.inr (Or.inl e))))
    obtain ⟨r0, r1, r2, f0, f1, f2⟩ := blk3v hRE
    have HOE := hid hown
    have HPM := hid hpm
    have HRE := hid hRE
    have HNEE := hid hNE
    have HMEE := hid hME
    have HZE := hid hZE
    clear hown hpm hNE hME hRE hZE
    refine hK.out _ _ (⟨HNEE.out, HMEE.out, HZE.out⟩) (fun hHeld => ?_)
    clear hK K
    (try simp only [Act.put, List.setIfInBounds_toArray, List.set_cons_zero, List.set_cons_succ])
    refine wpAnyH_ready (rs := [7]) (by kernel_rfl) (by simp) ?_
    refine AllReadyH.cons (o := ({ dst := none, op := Op.store 68 (Operand.tmp 6) (Operand.tmp 128), type := 0, pos := "auto.go:96", after := #[{ on := 0, ground := Ground.data }, { on := 6, ground := Ground.chain }, { on := 0, ground := Ground.phase }, { on := 1, ground := Ground.textOnly Departure.lateStores }, { on := 2, ground := Ground.textOnly Departure.lateStores }, { on := 3, ground := Ground.textOnly Departure.lateStores }, { on := 4, ground := Ground.textOnly Departure.lateStores }, { on := 5, ground := Ground.textOnly Departure.lateStores }, { on := 6, ground := Ground.textOnly Departure.lateStoresUnsure }], guard := none } : Oper)) rfl (fun K hK => ?_) AllReadyH.nil
    go_simp
    refine hK.out _ _ (⟨HNEE.out.other3 hne _ _ _, HMEE.out.other3 hne4 _ _ _, HZE.out.other3 hne10 _ _ _⟩) (fun hHeld => ?_)
    clear hK K
    (try simp only [Act.put, List.setIfInBounds_toArray, List.set_cons_zero, List.set_cons_succ])
    refine wpAnyH_take (i := 8) (oi := ({ dst := some 7, op := Op.assign (Operand.tmp 134), type := 69, pos := "auto.go:96", after := #[{ on := 6, ground := Ground.data }, { on := 7, ground := Ground.chain }, { on := 0, ground := Ground.phase }, { on := 1, ground := Ground.phase }, { on := 2, ground := Ground.phase }, { on := 3, ground := Ground.phase }, { on := 4, ground := Ground.phase }, { on := 5, ground := Ground.phase }, { on := 6, ground := Ground.phase }, { on := 7, ground := Ground.phase }], guard := none } : Oper)) (v := ?_) rfl (by kernel_rfl) (by kernel_rfl) (by kernel_rfl) (fun _ _ _ h => h) (Or.inl ⟨by rfl, ?_⟩) hHeld ?_
    rotate_left 1
    · intro w9 hw9; (try (obtain ⟨k8, k9, k10⟩ := hw9; obtain ⟨g0, g1, g2, _, _, _⟩ := blk3v k8; obtain ⟨h0, h1, h2, _, _, _⟩ := blk3v k9; obtain ⟨i0, i1, i2, _, _, _⟩ := blk3v k10)); go_simp; try with_reducible rfl
    simp only [Act.put, List.setIfInBounds_toArray, List.set_cons_zero, List.set_cons_succ]
    refine wpAnyH_done (by kernel_rfl) ?_ _
    obtain ⟨hAE, hSE⟩ := HAD.out.pairs HOE.out HPM.out HYD.out
    have hmm : ∀ k, (Y k ∨ k = w.heap.size + 1) → ((Y k ∨ k = w.heap.size + 1) ∨ k = b10) ∨ wE.heap.size ≤ k := fun k e => Or.inl (Or.inl e)
    obtain ⟨e1, e2, e3, e4, e5⟩ := part_end (Y := Y) (e := true) (Nat.le_succ w.heap.size) (hAE.more hmm) (HSD.out.trans hSE) (NsX.more (Asd.stpd HFD.out hSE) hmm) (NsX.more (Asd.stpd HMD.out hSE) hmm) HRE.out
    have HE1 := hid e1
    have HE2 := hid e2
    have HE3 := hid e3
    have HE4 := hid e4
    have HE5 := hid e5
    clear hAE hSE hmm e1 e2 e3 e4 e5
    go_wp2
    refine bodyPost_ret (tup_ret (s := 6) (s2 := 7) rfl HE1.out Tryd.results32) rfl ⟨_, _, _, _, _, (by show _ = Ending.returned (.tuple #[.agg #[.bool (r.emp && s.emp), _, _], _]); rw [← HEA.out, ← HEB.out]; rfl), (by have h := HE2.out; rw [HLA.out, HFB.out] at h; simpa [Rx.pairsL, Rx.labs, List.append_assoc] using h), HE3.out, (by rw [show (Rx.seq r s).firstL (ls.length + 1) = FF by rw [HFF.out, HFA.out, HFB.out]; simp only [Rx.firstL]; rw [← HEA.out]; rfl]; exact HE4.out), (by rw [show (Rx.seq r s).lastL (ls.length + 1) = LF by rw [HLF.out, HLA.out, HLB.out]; simp only [Rx.lastL]; rw [← HEB.out]; rfl]; exact HE5.out)⟩
/-- part lays out each path whose Backs are laid on its steps. -/
theorem part_any : ∀ r : Rx, r.fine → PartOk r
  | .leaf ⟨b, n, L⟩, h => by
    cases n
    · obtain ⟨t, rfl⟩ := List.length_eq_one_iff.1 (h rfl)
      cases b
      · exact part_iri_false t
      · exact part_iri_true t
    · cases b
      · exact part_not_false L
      · exact part_not_true L
  | .seq a b, h => part_seq a b (part_any a h.1) (part_any b h.2)
  | .alt a b, h => part_alt a b (part_any a h.1) (part_any b h.2)
  | .star a, h => part_star a (part_any a h)
  | .plus a, h => part_plus a (part_any a h)
  | .maybe a, h => part_maybe a (part_any a h)
end Go.Proofs.YtobcbaeoedpefaaDoor
