/- The document's One, all cases. -/
import Derived.Test.YtemkbmhcohijnaaGreatDoorLnOne2
namespace Go.Proofs.YtemkbmhcohijnaaGreatDoor
set_option linter.unusedVariables false
set_option linter.unusedSimpArgs false
set_option maxRecDepth 100000
open Go.ChangeShapes Go.WideShapes Go.ChangeAt Go.RowKit
theorem point_none {v : List UInt8} (h : Tm.point v = none) : v.take 1 ≠ [46] := by
  cases v with
  | nil => simp
  | cons c r =>
    unfold Tm.point at h
    simp only at h
    split at h
    · cases h
    · rename_i hc; simpa using hc
set_option maxHeartbeats 4000000 in
theorem rone_point (s : List UInt8) (w : World) (hV : Vars w) (hl : s.length ≤ 1000000) (h1 : Lib.validD s = true) (d : UInt8) (u : List UInt8) (hu : s.dropWhile blankC = d :: u) (hd : d ≠ 35) (a b c : Tm.T3) (r1 r2 v : List UInt8) (hA : rtO (some (d :: u)) = some (a.1, a.2.1, a.2.2, r1)) (hB : rtO (some r1) = some (b.1, b.2.1, b.2.2, r2)) (hC : rtO (some r2) = some (c.1, c.2.1, c.2.2, v)) (ht : Tm.rtri (d :: u) = (Tm.point v).map fun z => ((a, b, c), z)) (hp : Tm.point v = none) :
    Calls Tryz.prog 7 #[str s] w fun e w' => e = .returned (oneV (Tm.one s)) ∧ Below w.heap.size w w' := by
  have HN := hid (show Tm.one s = none by unfold Tm.one; rw [if_neg (by rw [h1]; decide), if_neg (by rw [show Tm.endd (s.dropWhile blankC) = false by rw [hu]; unfold Tm.endd; simp [hd]]; decide), hu, ht]; rw [hp]; rfl)
  have VA := hid (fun w h => valid_any s w (by omega) h)
  have HB1 := hid (show Below w.heap.size w (w.alloc (.cells z9.toArray 25)) from (Below.refl _ _).alloc (Nat.le_refl _) _)
  have HT1 := hid (Blk.new w z9 25)
  have HV := hid hV
  rw [h1] at VA
  have HU := hid hu
  have hul : u.length + 1 ≤ s.length := by have := dw_len blankC s; rw [hu] at this; simpa using this
  have LA := rtermB_le (s := d :: u) hA
  have LB := rtermB_le (s := r1) hB
  have LC := rtermB_le (s := r2) hC
  simp only [List.length_cons] at LA LB LC
  have HAo := hid hA
  have HBo := hid hB
  have HCo := hid hC
  have PTt := hid (fun (q : Nat) (w0 : World) (h : Rd w0 q v false) => rhas_any q v [46] false w0 h (by omega) (by simp))
  rw [show decide ((v : List UInt8).take ([46] : List UInt8).length = [46]) = false from decide_eq_false (point_none hp)] at PTt
  clear hV h1 hu hA hB hC ht hp
  go_enter Tryz.func7, Tryz.ntmps7
  go_wp2_with fail
  refine (VA.out _ (HV.out.keep HB1.out).1).mono ?_
  rintro e w2 ⟨rfl, hb2⟩
  have HB2 := hid (below_then HB1.out hb2)
  have HT2 := hid (HT1.out.keep hb2)
  clear hb2
  have hlt2 : w.heap.size < w2.heap.size := HT2.out.lt
  obtain ⟨q, hq⟩ : ∃ q, q = w2.heap.size := ⟨_, rfl⟩
  have HR3 := hid (show Rd (w2.alloc (.cells #[str s, .bool false] 43)) q s false from Blk.new' hq.symm rfl)
  have HB3 := hid (HB2.out.alloc HB2.out.size (.cells #[str s, .bool false] 43))
  have HT3 := hid (HT2.out.alloc (.cells #[str s, .bool false] 43))
  have hqw : w.heap.size < q := by omega
  have BL := hid (rblanks_any q s false _ HR3.out (by omega))
  rw [hq, HU.out] at BL
  go_wp2_with fail
  refine BL.out.mono ?_
  rintro e w4 ⟨rfl, hr4, hb4⟩
  rw [← hq] at hr4 hb4
  have HB4 := hid (hb4.into HB3.out (by omega))
  have HT4 := hid (But.blk HT3.out hb4 (by omega))
  have HR4 := hid hr4
  clear hr4 hb4 BL HR3 HB3 HT3
  subst hq
  obtain ⟨c0, c1, f0, f1⟩ := HR4.out.cells
  have hem : ((d :: u : List UInt8) == []) = false := rfl
  have HA4 := hid (rhas_any w2.heap.size (d :: u) [35] false w4 HR4.out (by simp only [List.length_cons]; omega) (by simp))
  rw [show decide (((d :: u) : List UInt8).take ([35] : List UInt8).length = [35]) = false from by exact decide_eq_false (by simpa using hd)] at HA4
  go_wp2_with fail
  refine HA4.out.mono ?_
  rintro e w5 ⟨rfl, rfl⟩
  obtain ⟨o1, ho1⟩ : ∃ o, o = rest (rtO (some (d :: u))) := ⟨_, rfl⟩
  obtain ⟨o2, ho2⟩ : ∃ o, o = rest (rtO o1) := ⟨_, rfl⟩
  obtain ⟨o3, ho3⟩ : ∃ o, o = rest (rtO o2) := ⟨_, rfl⟩
  have hl0 : ∀ z, some (d :: u) = some z → z.length ≤ 10000000 := by intro z hz; cases hz; simp only [List.length_cons]; omega
  have hl1 : ∀ z, o1 = some z → z.length ≤ 10000000 := by rw [ho1]; exact rest_len hl0
  have hl2 : ∀ z, o2 = some z → z.length ≤ 10000000 := by rw [ho2]; exact rest_len hl1
  have T1 := hid (fun (W : World) (hb : Below w.heap.size w W) (hr : RdO W w2.heap.size (some (d :: u))) => rtO_any w2.heap.size (some (d :: u)) W w (Base0.mk' HV.out hb (by omega)) hl0 hr)
  have T2 := hid (fun (W : World) (hb : Below w.heap.size w W) (hr : RdO W w2.heap.size o1) => rtO_any w2.heap.size o1 W w (Base0.mk' HV.out hb (by omega)) hl1 hr)
  have T3 := hid (fun (W : World) (hb : Below w.heap.size w W) (hr : RdO W w2.heap.size o2) => rtO_any w2.heap.size o2 W w (Base0.mk' HV.out hb (by omega)) hl2 hr)
  rw [← ho1] at T1
  rw [← ho2] at T2
  rw [← ho3] at T3
  have HO1 := hid ho1
  have HO2 := hid ho2
  have HO3 := hid ho3
  clear ho1 ho2 ho3 hl0 hl1 hl2 c0 c1 f0 f1
  go_wp2_with fail
  refine (T1.out _ HB4.out HR4.out).mono ?_
  rintro _ w6 ⟨⟨k1, t1, x1, rfl, hx1⟩, hr6, hb6⟩
  have HX1 := hid hx1
  have HB6 := hid (show Below w.heap.size w (new9 w6 k1 t1 x1 0 [] [] 0 [] []) from (hb6.into HB4.out (by omega)).alloc (hb6.into HB4.out (by omega)).size _)
  have HT6 := hid (show Blk (new9 w6 k1 t1 x1 0 [] [] 0 [] []) w.heap.size z9 25 from (But.blk HT4.out hb6 (by omega)).alloc _)
  have HU6 := hid (new9_new w6 k1 t1 x1 0 [] [] 0 [] [])
  have HR6 := hid (show RdO (new9 w6 k1 t1 x1 0 [] [] 0 [] []) w2.heap.size o1 from hr6.keep ((Below.refl _ _).alloc (Nat.le_refl _) _))
  have hz6 := hb6.size
  have hq4 : w2.heap.size < w4.heap.size := HR4.out.lt
  clear hb6 hr6 hx1
  go_wp2_with fail
  refine (T2.out _ HB6.out HR6.out).mono ?_
  rintro _ w7 ⟨⟨k2, t2, x2, rfl, hx2⟩, hr7, hb7⟩
  have HX2 := hid hx2
  have HB7 := hid (hb7.into HB6.out (by omega))
  have HT7 := hid (But.blk HT6.out hb7 (by omega))
  have HU7 := hid (But.blk HU6.out hb7 (by omega))
  have HR7 := hid hr7
  clear hb7 hr7 hx2
  have j3 := HU7.out.cell (i := 3) rfl
  have j4 := HU7.out.cell (i := 4) rfl
  have j5 := HU7.out.cell (i := 5) rfl
  have m3 := HU7.out.free 3
  have m4 := HU7.out.free 4
  have m5 := HU7.out.free 5
  have hpw : w.heap.size ≤ w6.heap.size := by omega
  have hqp : w2.heap.size ≠ w6.heap.size := by omega
  have hwp : w.heap.size ≠ w6.heap.size := by omega
  have HB8 := hid (below_set (below_set (below_set HB7.out hpw 3 (.int .i64 k2)) hpw 4 (str t2)) hpw 5 (str x2))
  have HT8 := hid (((HT7.out.other hwp 3 (.int .i64 k2)).other hwp 4 (str t2)).other hwp 5 (str x2))
  have HU8 := hid (show Blk (((w7.setCell ⟨w6.heap.size, 3, none⟩ (.int .i64 k2)).setCell ⟨w6.heap.size, 4, none⟩ (str t2)).setCell ⟨w6.heap.size, 5, none⟩ (str x2)) w6.heap.size [.int .i64 k1, str t1, str x1, .int .i64 k2, str t2, str x2, .int .i64 0, str [], str []] 25 from ((HU7.out.set 3 (.int .i64 k2)).set 4 (str t2)).set 5 (str x2))
  have HR8 := hid (((HR7.out.other hqp 3 (.int .i64 k2)).other hqp 4 (str t2)).other hqp 5 (str x2))
  go_wp2_with fail
  refine (T3.out _ HB8.out HR8.out).mono ?_
  rintro _ w9 ⟨⟨k3, t3, x3, rfl, hx3⟩, hr9, hb9⟩
  have HX3 := hid hx3
  have HB9 := hid (hb9.into HB8.out (by omega))
  have HT9 := hid (But.blk HT8.out hb9 (by omega))
  have HU9 := hid (But.blk HU8.out hb9 (by omega))
  have HR9 := hid hr9
  clear hb9 hr9 hx3 j3 j4 j5 m3 m4 m5
  have j6 := HU9.out.cell (i := 6) rfl
  have j7 := HU9.out.cell (i := 7) rfl
  have j8 := HU9.out.cell (i := 8) rfl
  have m6 := HU9.out.free 6
  have m7 := HU9.out.free 7
  have m8 := HU9.out.free 8
  have HB0 := hid (below_set (below_set (below_set HB9.out hpw 6 (.int .i64 k3)) hpw 7 (str t3)) hpw 8 (str x3))
  have HT0 := hid (((HT9.out.other hwp 6 (.int .i64 k3)).other hwp 7 (str t3)).other hwp 8 (str x3))
  have HU0 := hid (show Blk (((w9.setCell ⟨w6.heap.size, 6, none⟩ (.int .i64 k3)).setCell ⟨w6.heap.size, 7, none⟩ (str t3)).setCell ⟨w6.heap.size, 8, none⟩ (str x3)) w6.heap.size [.int .i64 k1, str t1, str x1, .int .i64 k2, str t2, str x2, .int .i64 k3, str t3, str x3] 25 from ((HU9.out.set 6 (.int .i64 k3)).set 7 (str t3)).set 8 (str x3))
  have HR0 := hid (((HR9.out.other hqp 6 (.int .i64 k3)).other hqp 7 (str t3)).other hqp 8 (str x3))
  have e1 : o1 = some r1 := by rw [HO1.out, HAo.out]; rfl
  have e2 : o2 = some r2 := by rw [HO2.out, e1, HBo.out]; rfl
  have e3 : o3 = some v := by rw [HO3.out, e2, HCo.out]; rfl
  obtain ⟨rfl, rfl, rfl⟩ : k1 = (a.1 : Int) ∧ t1 = a.2.1 ∧ x1 = a.2.2 := HX1.out _ HAo.out
  obtain ⟨rfl, rfl, rfl⟩ : k2 = (b.1 : Int) ∧ t2 = b.2.1 ∧ x2 = b.2.2 := HX2.out _ (e1 ▸ HBo.out)
  obtain ⟨rfl, rfl, rfl⟩ : k3 = (c.1 : Int) ∧ t3 = c.2.1 ∧ x3 = c.2.2 := HX3.out _ (e2 ▸ HCo.out)
  have HR0 := hid (show Rd (((w9.setCell ⟨w6.heap.size, 6, none⟩ (.int .i64 (c.1 : Nat))).setCell ⟨w6.heap.size, 7, none⟩ (str c.2.1)).setCell ⟨w6.heap.size, 8, none⟩ (str c.2.2)) w2.heap.size v false by have := HR0.out; rw [e3] at this; exact this)
  clear e1 e2 e3 HX1 HX2 HX3
  go_wp2_with (show wpList _ _ _ (_ :: _ :: _ :: _ :: _ :: _ :: _ :: _ :: _) _ (((w9.setCell ⟨w6.heap.size, 6, none⟩ (.int .i64 (c.1 : Nat))).setCell ⟨w6.heap.size, 7, none⟩ (str c.2.1)).setCell ⟨w6.heap.size, 8, none⟩ (str c.2.2)); obtain ⟨w0, hw0⟩ : ∃ w0, w0 = (((w9.setCell ⟨w6.heap.size, 6, none⟩ (.int .i64 (c.1 : Nat))).setCell ⟨w6.heap.size, 7, none⟩ (str c.2.1)).setCell ⟨w6.heap.size, 8, none⟩ (str c.2.2)) := ⟨_, rfl⟩; rw [← hw0] at HB0 HT0 HU0 HR0 ⊢; clear hw0; have s1 := HR0.out.cell (i := 1) rfl)
  refine (PTt.out _ _ HR0.out).mono ?_
  rintro e w11 ⟨rfl, rfl⟩
  have g0 := HT0.out.cell (i := 0) rfl
  have g1 := HT0.out.cell (i := 1) rfl
  have g2 := HT0.out.cell (i := 2) rfl
  have g3 := HT0.out.cell (i := 3) rfl
  have g4 := HT0.out.cell (i := 4) rfl
  have g5 := HT0.out.cell (i := 5) rfl
  have g6 := HT0.out.cell (i := 6) rfl
  have g7 := HT0.out.cell (i := 7) rfl
  have g8 := HT0.out.cell (i := 8) rfl
  have k0 := HT0.out.free 0
  have k1 := HT0.out.free 1
  have k2 := HT0.out.free 2
  have k3 := HT0.out.free 3
  have k4 := HT0.out.free 4
  have k5 := HT0.out.free 5
  have k6 := HT0.out.free 6
  have k7 := HT0.out.free 7
  have k8 := HT0.out.free 8
  go_wp2
  exact bodyPost_ret (v := oneV none) (one_ret rfl rfl rfl (((((((((HT0.out.set 0 (.int .i64 0)).set 1 (.string ⟨#[]⟩)).set 2 (.string ⟨#[]⟩)).set 3 (.int .i64 0)).set 4 (.string ⟨#[]⟩)).set 5 (.string ⟨#[]⟩)).set 6 (.int .i64 0)).set 7 (.string ⟨#[]⟩)).set 8 (.string ⟨#[]⟩)) Tryz.results7) rfl ⟨by rw [HN.out], (below_set (below_set (below_set (below_set (below_set (below_set (below_set (below_set (below_set HB0.out (Nat.le_refl _) 0 (.int .i64 0)) (Nat.le_refl _) 1 (.string ⟨#[]⟩)) (Nat.le_refl _) 2 (.string ⟨#[]⟩)) (Nat.le_refl _) 3 (.int .i64 0)) (Nat.le_refl _) 4 (.string ⟨#[]⟩)) (Nat.le_refl _) 5 (.string ⟨#[]⟩)) (Nat.le_refl _) 6 (.int .i64 0)) (Nat.le_refl _) 7 (.string ⟨#[]⟩)) (Nat.le_refl _) 8 (.string ⟨#[]⟩))⟩
set_option maxHeartbeats 4000000 in
theorem rone_isno (s : List UInt8) (w : World) (hV : Vars w) (hl : s.length ≤ 1000000) (h1 : Lib.validD s = true) (d : UInt8) (u : List UInt8) (hu : s.dropWhile blankC = d :: u) (hd : d ≠ 35) (a b c : Tm.T3) (r1 r2 v : List UInt8) (hA : rtO (some (d :: u)) = some (a.1, a.2.1, a.2.2, r1)) (hB : rtO (some r1) = some (b.1, b.2.1, b.2.2, r2)) (hC : rtO (some r2) = some (c.1, c.2.1, c.2.2, v)) (ht : Tm.rtri (d :: u) = (Tm.point v).map fun z => ((a, b, c), z)) (z : List UInt8) (hv : v = 46 :: z) (h5 : Tm.isTri (a, b, c) = false) :
    Calls Tryz.prog 7 #[str s] w fun e w' => e = .returned (oneV (Tm.one s)) ∧ Below w.heap.size w w' := by
  have HN := hid (show Tm.one s = none by unfold Tm.one; rw [if_neg (by rw [h1]; decide), if_neg (by rw [show Tm.endd (s.dropWhile blankC) = false by rw [hu]; unfold Tm.endd; simp [hd]]; decide), hu, ht]; rw [(by rw [hv]; unfold Tm.point; simp : Tm.point v = some (z.dropWhile blankC))]; simp only [Option.map_some]; rw [if_neg (by rw [h5]; simp)])
  have VA := hid (fun w h => valid_any s w (by omega) h)
  have HB1 := hid (show Below w.heap.size w (w.alloc (.cells z9.toArray 25)) from (Below.refl _ _).alloc (Nat.le_refl _) _)
  have HT1 := hid (Blk.new w z9 25)
  have HV := hid hV
  rw [h1] at VA
  have HU := hid hu
  have hul : u.length + 1 ≤ s.length := by have := dw_len blankC s; rw [hu] at this; simpa using this
  have LA := rtermB_le (s := d :: u) hA
  have LB := rtermB_le (s := r1) hB
  have LC := rtermB_le (s := r2) hC
  simp only [List.length_cons] at LA LB LC
  have HAo := hid hA
  have HBo := hid hB
  have HCo := hid hC
  have PTt := hid (fun (q : Nat) (w0 : World) (h : Rd w0 q v false) => rhas_any q v [46] false w0 h (by omega) (by simp))
  rw [show decide ((v : List UInt8).take ([46] : List UInt8).length = [46]) = true from by rw [hv]; rfl] at PTt
  have LI := hid (fun W h => lis_any (a.1 : Nat) a.2.1 a.2.2 (b.1 : Nat) b.2.1 b.2.2 (c.1 : Nat) c.2.1 c.2.2 W (by omega) (by omega) (by omega) (by omega) (by omega) (by omega) h)
  rw [isTri_I, h5] at LI
  clear hV h1 hu hA hB hC ht hv h5
  go_enter Tryz.func7, Tryz.ntmps7
  go_wp2_with fail
  refine (VA.out _ (HV.out.keep HB1.out).1).mono ?_
  rintro e w2 ⟨rfl, hb2⟩
  have HB2 := hid (below_then HB1.out hb2)
  have HT2 := hid (HT1.out.keep hb2)
  clear hb2
  have hlt2 : w.heap.size < w2.heap.size := HT2.out.lt
  obtain ⟨q, hq⟩ : ∃ q, q = w2.heap.size := ⟨_, rfl⟩
  have HR3 := hid (show Rd (w2.alloc (.cells #[str s, .bool false] 43)) q s false from Blk.new' hq.symm rfl)
  have HB3 := hid (HB2.out.alloc HB2.out.size (.cells #[str s, .bool false] 43))
  have HT3 := hid (HT2.out.alloc (.cells #[str s, .bool false] 43))
  have hqw : w.heap.size < q := by omega
  have BL := hid (rblanks_any q s false _ HR3.out (by omega))
  rw [hq, HU.out] at BL
  go_wp2_with fail
  refine BL.out.mono ?_
  rintro e w4 ⟨rfl, hr4, hb4⟩
  rw [← hq] at hr4 hb4
  have HB4 := hid (hb4.into HB3.out (by omega))
  have HT4 := hid (But.blk HT3.out hb4 (by omega))
  have HR4 := hid hr4
  clear hr4 hb4 BL HR3 HB3 HT3
  subst hq
  obtain ⟨c0, c1, f0, f1⟩ := HR4.out.cells
  have hem : ((d :: u : List UInt8) == []) = false := rfl
  have HA4 := hid (rhas_any w2.heap.size (d :: u) [35] false w4 HR4.out (by simp only [List.length_cons]; omega) (by simp))
  rw [show decide (((d :: u) : List UInt8).take ([35] : List UInt8).length = [35]) = false from by exact decide_eq_false (by simpa using hd)] at HA4
  go_wp2_with fail
  refine HA4.out.mono ?_
  rintro e w5 ⟨rfl, rfl⟩
  obtain ⟨o1, ho1⟩ : ∃ o, o = rest (rtO (some (d :: u))) := ⟨_, rfl⟩
  obtain ⟨o2, ho2⟩ : ∃ o, o = rest (rtO o1) := ⟨_, rfl⟩
  obtain ⟨o3, ho3⟩ : ∃ o, o = rest (rtO o2) := ⟨_, rfl⟩
  have hl0 : ∀ z, some (d :: u) = some z → z.length ≤ 10000000 := by intro z hz; cases hz; simp only [List.length_cons]; omega
  have hl1 : ∀ z, o1 = some z → z.length ≤ 10000000 := by rw [ho1]; exact rest_len hl0
  have hl2 : ∀ z, o2 = some z → z.length ≤ 10000000 := by rw [ho2]; exact rest_len hl1
  have T1 := hid (fun (W : World) (hb : Below w.heap.size w W) (hr : RdO W w2.heap.size (some (d :: u))) => rtO_any w2.heap.size (some (d :: u)) W w (Base0.mk' HV.out hb (by omega)) hl0 hr)
  have T2 := hid (fun (W : World) (hb : Below w.heap.size w W) (hr : RdO W w2.heap.size o1) => rtO_any w2.heap.size o1 W w (Base0.mk' HV.out hb (by omega)) hl1 hr)
  have T3 := hid (fun (W : World) (hb : Below w.heap.size w W) (hr : RdO W w2.heap.size o2) => rtO_any w2.heap.size o2 W w (Base0.mk' HV.out hb (by omega)) hl2 hr)
  rw [← ho1] at T1
  rw [← ho2] at T2
  rw [← ho3] at T3
  have HO1 := hid ho1
  have HO2 := hid ho2
  have HO3 := hid ho3
  clear ho1 ho2 ho3 hl0 hl1 hl2 c0 c1 f0 f1
  go_wp2_with fail
  refine (T1.out _ HB4.out HR4.out).mono ?_
  rintro _ w6 ⟨⟨k1, t1, x1, rfl, hx1⟩, hr6, hb6⟩
  have HX1 := hid hx1
  have HB6 := hid (show Below w.heap.size w (new9 w6 k1 t1 x1 0 [] [] 0 [] []) from (hb6.into HB4.out (by omega)).alloc (hb6.into HB4.out (by omega)).size _)
  have HT6 := hid (show Blk (new9 w6 k1 t1 x1 0 [] [] 0 [] []) w.heap.size z9 25 from (But.blk HT4.out hb6 (by omega)).alloc _)
  have HU6 := hid (new9_new w6 k1 t1 x1 0 [] [] 0 [] [])
  have HR6 := hid (show RdO (new9 w6 k1 t1 x1 0 [] [] 0 [] []) w2.heap.size o1 from hr6.keep ((Below.refl _ _).alloc (Nat.le_refl _) _))
  have hz6 := hb6.size
  have hq4 : w2.heap.size < w4.heap.size := HR4.out.lt
  clear hb6 hr6 hx1
  go_wp2_with fail
  refine (T2.out _ HB6.out HR6.out).mono ?_
  rintro _ w7 ⟨⟨k2, t2, x2, rfl, hx2⟩, hr7, hb7⟩
  have HX2 := hid hx2
  have HB7 := hid (hb7.into HB6.out (by omega))
  have HT7 := hid (But.blk HT6.out hb7 (by omega))
  have HU7 := hid (But.blk HU6.out hb7 (by omega))
  have HR7 := hid hr7
  clear hb7 hr7 hx2
  have j3 := HU7.out.cell (i := 3) rfl
  have j4 := HU7.out.cell (i := 4) rfl
  have j5 := HU7.out.cell (i := 5) rfl
  have m3 := HU7.out.free 3
  have m4 := HU7.out.free 4
  have m5 := HU7.out.free 5
  have hpw : w.heap.size ≤ w6.heap.size := by omega
  have hqp : w2.heap.size ≠ w6.heap.size := by omega
  have hwp : w.heap.size ≠ w6.heap.size := by omega
  have HB8 := hid (below_set (below_set (below_set HB7.out hpw 3 (.int .i64 k2)) hpw 4 (str t2)) hpw 5 (str x2))
  have HT8 := hid (((HT7.out.other hwp 3 (.int .i64 k2)).other hwp 4 (str t2)).other hwp 5 (str x2))
  have HU8 := hid (show Blk (((w7.setCell ⟨w6.heap.size, 3, none⟩ (.int .i64 k2)).setCell ⟨w6.heap.size, 4, none⟩ (str t2)).setCell ⟨w6.heap.size, 5, none⟩ (str x2)) w6.heap.size [.int .i64 k1, str t1, str x1, .int .i64 k2, str t2, str x2, .int .i64 0, str [], str []] 25 from ((HU7.out.set 3 (.int .i64 k2)).set 4 (str t2)).set 5 (str x2))
  have HR8 := hid (((HR7.out.other hqp 3 (.int .i64 k2)).other hqp 4 (str t2)).other hqp 5 (str x2))
  go_wp2_with fail
  refine (T3.out _ HB8.out HR8.out).mono ?_
  rintro _ w9 ⟨⟨k3, t3, x3, rfl, hx3⟩, hr9, hb9⟩
  have HX3 := hid hx3
  have HB9 := hid (hb9.into HB8.out (by omega))
  have HT9 := hid (But.blk HT8.out hb9 (by omega))
  have HU9 := hid (But.blk HU8.out hb9 (by omega))
  have HR9 := hid hr9
  clear hb9 hr9 hx3 j3 j4 j5 m3 m4 m5
  have j6 := HU9.out.cell (i := 6) rfl
  have j7 := HU9.out.cell (i := 7) rfl
  have j8 := HU9.out.cell (i := 8) rfl
  have m6 := HU9.out.free 6
  have m7 := HU9.out.free 7
  have m8 := HU9.out.free 8
  have HB0 := hid (below_set (below_set (below_set HB9.out hpw 6 (.int .i64 k3)) hpw 7 (str t3)) hpw 8 (str x3))
  have HT0 := hid (((HT9.out.other hwp 6 (.int .i64 k3)).other hwp 7 (str t3)).other hwp 8 (str x3))
  have HU0 := hid (show Blk (((w9.setCell ⟨w6.heap.size, 6, none⟩ (.int .i64 k3)).setCell ⟨w6.heap.size, 7, none⟩ (str t3)).setCell ⟨w6.heap.size, 8, none⟩ (str x3)) w6.heap.size [.int .i64 k1, str t1, str x1, .int .i64 k2, str t2, str x2, .int .i64 k3, str t3, str x3] 25 from ((HU9.out.set 6 (.int .i64 k3)).set 7 (str t3)).set 8 (str x3))
  have HR0 := hid (((HR9.out.other hqp 6 (.int .i64 k3)).other hqp 7 (str t3)).other hqp 8 (str x3))
  have e1 : o1 = some r1 := by rw [HO1.out, HAo.out]; rfl
  have e2 : o2 = some r2 := by rw [HO2.out, e1, HBo.out]; rfl
  have e3 : o3 = some v := by rw [HO3.out, e2, HCo.out]; rfl
  obtain ⟨rfl, rfl, rfl⟩ : k1 = (a.1 : Int) ∧ t1 = a.2.1 ∧ x1 = a.2.2 := HX1.out _ HAo.out
  obtain ⟨rfl, rfl, rfl⟩ : k2 = (b.1 : Int) ∧ t2 = b.2.1 ∧ x2 = b.2.2 := HX2.out _ (e1 ▸ HBo.out)
  obtain ⟨rfl, rfl, rfl⟩ : k3 = (c.1 : Int) ∧ t3 = c.2.1 ∧ x3 = c.2.2 := HX3.out _ (e2 ▸ HCo.out)
  have HR0 := hid (show Rd (((w9.setCell ⟨w6.heap.size, 6, none⟩ (.int .i64 (c.1 : Nat))).setCell ⟨w6.heap.size, 7, none⟩ (str c.2.1)).setCell ⟨w6.heap.size, 8, none⟩ (str c.2.2)) w2.heap.size v false by have := HR0.out; rw [e3] at this; exact this)
  clear e1 e2 e3 HX1 HX2 HX3
  go_wp2_with (show wpList _ _ _ (_ :: _ :: _ :: _ :: _ :: _ :: _ :: _ :: _) _ (((w9.setCell ⟨w6.heap.size, 6, none⟩ (.int .i64 (c.1 : Nat))).setCell ⟨w6.heap.size, 7, none⟩ (str c.2.1)).setCell ⟨w6.heap.size, 8, none⟩ (str c.2.2)); obtain ⟨w0, hw0⟩ : ∃ w0, w0 = (((w9.setCell ⟨w6.heap.size, 6, none⟩ (.int .i64 (c.1 : Nat))).setCell ⟨w6.heap.size, 7, none⟩ (str c.2.1)).setCell ⟨w6.heap.size, 8, none⟩ (str c.2.2)) := ⟨_, rfl⟩; rw [← hw0] at HB0 HT0 HU0 HR0 ⊢; clear hw0; have s1 := HR0.out.cell (i := 1) rfl)
  refine (PTt.out _ _ HR0.out).mono ?_
  rintro e w11 ⟨rfl, rfl⟩
  have y0 := HU0.out.cell (i := 0) rfl
  have y1 := HU0.out.cell (i := 1) rfl
  have y2 := HU0.out.cell (i := 2) rfl
  have y3 := HU0.out.cell (i := 3) rfl
  have y4 := HU0.out.cell (i := 4) rfl
  have y5 := HU0.out.cell (i := 5) rfl
  have y6 := HU0.out.cell (i := 6) rfl
  have y7 := HU0.out.cell (i := 7) rfl
  have y8 := HU0.out.cell (i := 8) rfl
  go_wp2_with fail
  refine (LI.out _ (HV.out.keep HB0.out)).mono ?_
  rintro e w12 ⟨rfl, hb⟩
  have HB12 := hid (below_then HB0.out hb)
  have HT12 := hid (HT0.out.keep hb)
  have HU12 := hid (HU0.out.keep hb)
  have HR12 := hid (HR0.out.keep hb)
  clear hb y0 y1 y2 y3 y4 y5 y6 y7 y8
  have g0 := HT12.out.cell (i := 0) rfl
  have g1 := HT12.out.cell (i := 1) rfl
  have g2 := HT12.out.cell (i := 2) rfl
  have g3 := HT12.out.cell (i := 3) rfl
  have g4 := HT12.out.cell (i := 4) rfl
  have g5 := HT12.out.cell (i := 5) rfl
  have g6 := HT12.out.cell (i := 6) rfl
  have g7 := HT12.out.cell (i := 7) rfl
  have g8 := HT12.out.cell (i := 8) rfl
  have k0 := HT12.out.free 0
  have k1 := HT12.out.free 1
  have k2 := HT12.out.free 2
  have k3 := HT12.out.free 3
  have k4 := HT12.out.free 4
  have k5 := HT12.out.free 5
  have k6 := HT12.out.free 6
  have k7 := HT12.out.free 7
  have k8 := HT12.out.free 8
  go_wp2
  exact bodyPost_ret (v := oneV none) (one_ret rfl rfl rfl (((((((((HT12.out.set 0 (.int .i64 0)).set 1 (.string ⟨#[]⟩)).set 2 (.string ⟨#[]⟩)).set 3 (.int .i64 0)).set 4 (.string ⟨#[]⟩)).set 5 (.string ⟨#[]⟩)).set 6 (.int .i64 0)).set 7 (.string ⟨#[]⟩)).set 8 (.string ⟨#[]⟩)) Tryz.results7) rfl ⟨by rw [HN.out], (below_set (below_set (below_set (below_set (below_set (below_set (below_set (below_set (below_set HB12.out (Nat.le_refl _) 0 (.int .i64 0)) (Nat.le_refl _) 1 (.string ⟨#[]⟩)) (Nat.le_refl _) 2 (.string ⟨#[]⟩)) (Nat.le_refl _) 3 (.int .i64 0)) (Nat.le_refl _) 4 (.string ⟨#[]⟩)) (Nat.le_refl _) 5 (.string ⟨#[]⟩)) (Nat.le_refl _) 6 (.int .i64 0)) (Nat.le_refl _) 7 (.string ⟨#[]⟩)) (Nat.le_refl _) 8 (.string ⟨#[]⟩))⟩
set_option maxHeartbeats 4000000 in
theorem rone_ok_nil (s : List UInt8) (w : World) (hV : Vars w) (hl : s.length ≤ 1000000) (h1 : Lib.validD s = true) (d : UInt8) (u : List UInt8) (hu : s.dropWhile blankC = d :: u) (hd : d ≠ 35) (a b c : Tm.T3) (r1 r2 z : List UInt8) (hA : rtO (some (d :: u)) = some (a.1, a.2.1, a.2.2, r1)) (hB : rtO (some r1) = some (b.1, b.2.1, b.2.2, r2)) (hC : rtO (some r2) = some (c.1, c.2.1, c.2.2, 46 :: z)) (ht : Tm.rtri (d :: u) = (Tm.point (46 :: z)).map fun z => ((a, b, c), z)) (h5 : Tm.isTri (a, b, c) = true) (hz : z.dropWhile blankC = []) :
    Calls Tryz.prog 7 #[str s] w fun e w' => e = .returned (oneV (Tm.one s)) ∧ Below w.heap.size w w' := by
  have HN := hid (show Tm.one s = (some (some (a, b, c))) by unfold Tm.one; rw [if_neg (by rw [h1]; decide), if_neg (by rw [show Tm.endd (s.dropWhile blankC) = false by rw [hu]; unfold Tm.endd; simp [hd]]; decide), hu, ht]; rw [(by unfold Tm.point; simp : Tm.point (46 :: z) = some (z.dropWhile blankC))]; simp only [Option.map_some]; rw [if_pos ⟨by rw [hz]; rfl, h5⟩])
  have VA := hid (fun w h => valid_any s w (by omega) h)
  have HB1 := hid (show Below w.heap.size w (w.alloc (.cells z9.toArray 25)) from (Below.refl _ _).alloc (Nat.le_refl _) _)
  have HT1 := hid (Blk.new w z9 25)
  have HV := hid hV
  rw [h1] at VA
  have HU := hid hu
  have hul : u.length + 1 ≤ s.length := by have := dw_len blankC s; rw [hu] at this; simpa using this
  have LA := rtermB_le (s := d :: u) hA
  have LB := rtermB_le (s := r1) hB
  have LC := rtermB_le (s := r2) hC
  simp only [List.length_cons] at LA LB LC
  have HAo := hid hA
  have HBo := hid hB
  have HCo := hid hC
  have PTt := hid (fun (q : Nat) (w0 : World) (h : Rd w0 q (46 :: z) false) => rhas_any q (46 :: z) [46] false w0 h (by simp only [List.length_cons]; omega) (by simp))
  rw [show decide (((46 :: z) : List UInt8).take ([46] : List UInt8).length = [46]) = true from rfl] at PTt
  have LI := hid (fun W h => lis_any (a.1 : Nat) a.2.1 a.2.2 (b.1 : Nat) b.2.1 b.2.2 (c.1 : Nat) c.2.1 c.2.2 W (by omega) (by omega) (by omega) (by omega) (by omega) (by omega) h)
  rw [isTri_I, h5] at LI
  have HZ := hid hz
  clear hV h1 hu hA hB hC ht hz h5
  go_enter Tryz.func7, Tryz.ntmps7
  go_wp2_with fail
  refine (VA.out _ (HV.out.keep HB1.out).1).mono ?_
  rintro e w2 ⟨rfl, hb2⟩
  have HB2 := hid (below_then HB1.out hb2)
  have HT2 := hid (HT1.out.keep hb2)
  clear hb2
  have hlt2 : w.heap.size < w2.heap.size := HT2.out.lt
  obtain ⟨q, hq⟩ : ∃ q, q = w2.heap.size := ⟨_, rfl⟩
  have HR3 := hid (show Rd (w2.alloc (.cells #[str s, .bool false] 43)) q s false from Blk.new' hq.symm rfl)
  have HB3 := hid (HB2.out.alloc HB2.out.size (.cells #[str s, .bool false] 43))
  have HT3 := hid (HT2.out.alloc (.cells #[str s, .bool false] 43))
  have hqw : w.heap.size < q := by omega
  have BL := hid (rblanks_any q s false _ HR3.out (by omega))
  rw [hq, HU.out] at BL
  go_wp2_with fail
  refine BL.out.mono ?_
  rintro e w4 ⟨rfl, hr4, hb4⟩
  rw [← hq] at hr4 hb4
  have HB4 := hid (hb4.into HB3.out (by omega))
  have HT4 := hid (But.blk HT3.out hb4 (by omega))
  have HR4 := hid hr4
  clear hr4 hb4 BL HR3 HB3 HT3
  subst hq
  obtain ⟨c0, c1, f0, f1⟩ := HR4.out.cells
  have hem : ((d :: u : List UInt8) == []) = false := rfl
  have HA4 := hid (rhas_any w2.heap.size (d :: u) [35] false w4 HR4.out (by simp only [List.length_cons]; omega) (by simp))
  rw [show decide (((d :: u) : List UInt8).take ([35] : List UInt8).length = [35]) = false from by exact decide_eq_false (by simpa using hd)] at HA4
  go_wp2_with fail
  refine HA4.out.mono ?_
  rintro e w5 ⟨rfl, rfl⟩
  obtain ⟨o1, ho1⟩ : ∃ o, o = rest (rtO (some (d :: u))) := ⟨_, rfl⟩
  obtain ⟨o2, ho2⟩ : ∃ o, o = rest (rtO o1) := ⟨_, rfl⟩
  obtain ⟨o3, ho3⟩ : ∃ o, o = rest (rtO o2) := ⟨_, rfl⟩
  have hl0 : ∀ z, some (d :: u) = some z → z.length ≤ 10000000 := by intro z hz; cases hz; simp only [List.length_cons]; omega
  have hl1 : ∀ z, o1 = some z → z.length ≤ 10000000 := by rw [ho1]; exact rest_len hl0
  have hl2 : ∀ z, o2 = some z → z.length ≤ 10000000 := by rw [ho2]; exact rest_len hl1
  have T1 := hid (fun (W : World) (hb : Below w.heap.size w W) (hr : RdO W w2.heap.size (some (d :: u))) => rtO_any w2.heap.size (some (d :: u)) W w (Base0.mk' HV.out hb (by omega)) hl0 hr)
  have T2 := hid (fun (W : World) (hb : Below w.heap.size w W) (hr : RdO W w2.heap.size o1) => rtO_any w2.heap.size o1 W w (Base0.mk' HV.out hb (by omega)) hl1 hr)
  have T3 := hid (fun (W : World) (hb : Below w.heap.size w W) (hr : RdO W w2.heap.size o2) => rtO_any w2.heap.size o2 W w (Base0.mk' HV.out hb (by omega)) hl2 hr)
  rw [← ho1] at T1
  rw [← ho2] at T2
  rw [← ho3] at T3
  have HO1 := hid ho1
  have HO2 := hid ho2
  have HO3 := hid ho3
  clear ho1 ho2 ho3 hl0 hl1 hl2 c0 c1 f0 f1
  go_wp2_with fail
  refine (T1.out _ HB4.out HR4.out).mono ?_
  rintro _ w6 ⟨⟨k1, t1, x1, rfl, hx1⟩, hr6, hb6⟩
  have HX1 := hid hx1
  have HB6 := hid (show Below w.heap.size w (new9 w6 k1 t1 x1 0 [] [] 0 [] []) from (hb6.into HB4.out (by omega)).alloc (hb6.into HB4.out (by omega)).size _)
  have HT6 := hid (show Blk (new9 w6 k1 t1 x1 0 [] [] 0 [] []) w.heap.size z9 25 from (But.blk HT4.out hb6 (by omega)).alloc _)
  have HU6 := hid (new9_new w6 k1 t1 x1 0 [] [] 0 [] [])
  have HR6 := hid (show RdO (new9 w6 k1 t1 x1 0 [] [] 0 [] []) w2.heap.size o1 from hr6.keep ((Below.refl _ _).alloc (Nat.le_refl _) _))
  have hz6 := hb6.size
  have hq4 : w2.heap.size < w4.heap.size := HR4.out.lt
  clear hb6 hr6 hx1
  go_wp2_with fail
  refine (T2.out _ HB6.out HR6.out).mono ?_
  rintro _ w7 ⟨⟨k2, t2, x2, rfl, hx2⟩, hr7, hb7⟩
  have HX2 := hid hx2
  have HB7 := hid (hb7.into HB6.out (by omega))
  have HT7 := hid (But.blk HT6.out hb7 (by omega))
  have HU7 := hid (But.blk HU6.out hb7 (by omega))
  have HR7 := hid hr7
  clear hb7 hr7 hx2
  have j3 := HU7.out.cell (i := 3) rfl
  have j4 := HU7.out.cell (i := 4) rfl
  have j5 := HU7.out.cell (i := 5) rfl
  have m3 := HU7.out.free 3
  have m4 := HU7.out.free 4
  have m5 := HU7.out.free 5
  have hpw : w.heap.size ≤ w6.heap.size := by omega
  have hqp : w2.heap.size ≠ w6.heap.size := by omega
  have hwp : w.heap.size ≠ w6.heap.size := by omega
  have HB8 := hid (below_set (below_set (below_set HB7.out hpw 3 (.int .i64 k2)) hpw 4 (str t2)) hpw 5 (str x2))
  have HT8 := hid (((HT7.out.other hwp 3 (.int .i64 k2)).other hwp 4 (str t2)).other hwp 5 (str x2))
  have HU8 := hid (show Blk (((w7.setCell ⟨w6.heap.size, 3, none⟩ (.int .i64 k2)).setCell ⟨w6.heap.size, 4, none⟩ (str t2)).setCell ⟨w6.heap.size, 5, none⟩ (str x2)) w6.heap.size [.int .i64 k1, str t1, str x1, .int .i64 k2, str t2, str x2, .int .i64 0, str [], str []] 25 from ((HU7.out.set 3 (.int .i64 k2)).set 4 (str t2)).set 5 (str x2))
  have HR8 := hid (((HR7.out.other hqp 3 (.int .i64 k2)).other hqp 4 (str t2)).other hqp 5 (str x2))
  go_wp2_with fail
  refine (T3.out _ HB8.out HR8.out).mono ?_
  rintro _ w9 ⟨⟨k3, t3, x3, rfl, hx3⟩, hr9, hb9⟩
  have HX3 := hid hx3
  have HB9 := hid (hb9.into HB8.out (by omega))
  have HT9 := hid (But.blk HT8.out hb9 (by omega))
  have HU9 := hid (But.blk HU8.out hb9 (by omega))
  have HR9 := hid hr9
  clear hb9 hr9 hx3 j3 j4 j5 m3 m4 m5
  have j6 := HU9.out.cell (i := 6) rfl
  have j7 := HU9.out.cell (i := 7) rfl
  have j8 := HU9.out.cell (i := 8) rfl
  have m6 := HU9.out.free 6
  have m7 := HU9.out.free 7
  have m8 := HU9.out.free 8
  have HB0 := hid (below_set (below_set (below_set HB9.out hpw 6 (.int .i64 k3)) hpw 7 (str t3)) hpw 8 (str x3))
  have HT0 := hid (((HT9.out.other hwp 6 (.int .i64 k3)).other hwp 7 (str t3)).other hwp 8 (str x3))
  have HU0 := hid (show Blk (((w9.setCell ⟨w6.heap.size, 6, none⟩ (.int .i64 k3)).setCell ⟨w6.heap.size, 7, none⟩ (str t3)).setCell ⟨w6.heap.size, 8, none⟩ (str x3)) w6.heap.size [.int .i64 k1, str t1, str x1, .int .i64 k2, str t2, str x2, .int .i64 k3, str t3, str x3] 25 from ((HU9.out.set 6 (.int .i64 k3)).set 7 (str t3)).set 8 (str x3))
  have HR0 := hid (((HR9.out.other hqp 6 (.int .i64 k3)).other hqp 7 (str t3)).other hqp 8 (str x3))
  have e1 : o1 = some r1 := by rw [HO1.out, HAo.out]; rfl
  have e2 : o2 = some r2 := by rw [HO2.out, e1, HBo.out]; rfl
  have e3 : o3 = some (46 :: z) := by rw [HO3.out, e2, HCo.out]; rfl
  obtain ⟨rfl, rfl, rfl⟩ : k1 = (a.1 : Int) ∧ t1 = a.2.1 ∧ x1 = a.2.2 := HX1.out _ HAo.out
  obtain ⟨rfl, rfl, rfl⟩ : k2 = (b.1 : Int) ∧ t2 = b.2.1 ∧ x2 = b.2.2 := HX2.out _ (e1 ▸ HBo.out)
  obtain ⟨rfl, rfl, rfl⟩ : k3 = (c.1 : Int) ∧ t3 = c.2.1 ∧ x3 = c.2.2 := HX3.out _ (e2 ▸ HCo.out)
  have HR0 := hid (show Rd (((w9.setCell ⟨w6.heap.size, 6, none⟩ (.int .i64 (c.1 : Nat))).setCell ⟨w6.heap.size, 7, none⟩ (str c.2.1)).setCell ⟨w6.heap.size, 8, none⟩ (str c.2.2)) w2.heap.size (46 :: z) false by have := HR0.out; rw [e3] at this; exact this)
  clear e1 e2 e3 HX1 HX2 HX3
  go_wp2_with (show wpList _ _ _ (_ :: _ :: _ :: _ :: _ :: _ :: _ :: _ :: _) _ (((w9.setCell ⟨w6.heap.size, 6, none⟩ (.int .i64 (c.1 : Nat))).setCell ⟨w6.heap.size, 7, none⟩ (str c.2.1)).setCell ⟨w6.heap.size, 8, none⟩ (str c.2.2)); obtain ⟨w0, hw0⟩ : ∃ w0, w0 = (((w9.setCell ⟨w6.heap.size, 6, none⟩ (.int .i64 (c.1 : Nat))).setCell ⟨w6.heap.size, 7, none⟩ (str c.2.1)).setCell ⟨w6.heap.size, 8, none⟩ (str c.2.2)) := ⟨_, rfl⟩; rw [← hw0] at HB0 HT0 HU0 HR0 ⊢; clear hw0; have s1 := HR0.out.cell (i := 1) rfl)
  refine (PTt.out _ _ HR0.out).mono ?_
  rintro e w11 ⟨rfl, rfl⟩
  have y0 := HU0.out.cell (i := 0) rfl
  have y1 := HU0.out.cell (i := 1) rfl
  have y2 := HU0.out.cell (i := 2) rfl
  have y3 := HU0.out.cell (i := 3) rfl
  have y4 := HU0.out.cell (i := 4) rfl
  have y5 := HU0.out.cell (i := 5) rfl
  have y6 := HU0.out.cell (i := 6) rfl
  have y7 := HU0.out.cell (i := 7) rfl
  have y8 := HU0.out.cell (i := 8) rfl
  go_wp2_with fail
  refine (LI.out _ (HV.out.keep HB0.out)).mono ?_
  rintro e w12 ⟨rfl, hb⟩
  have HB12 := hid (below_then HB0.out hb)
  have HT12 := hid (HT0.out.keep hb)
  have HU12 := hid (HU0.out.keep hb)
  have HR12 := hid (HR0.out.keep hb)
  clear hb y0 y1 y2 y3 y4 y5 y6 y7 y8
  have hex : (⟨(46 :: z).toArray⟩ : ByteArray).extract 1 (z.length + 1) = ⟨z.toArray⟩ := by
    have := ba_drop (46 :: z) 1
    simpa using this
  have hul2 : z.length + 1 ≤ 9223372036854775807 := by omega
  have hu1 : (1 : Int) ≤ (z.length : Int) + 1 := by omega
  obtain ⟨s0, s1, f0, f1⟩ := HR12.out.cells
  have HR13 := hid (HR12.out.set0 (t := z))
  have hwq : w.heap.size ≠ w2.heap.size := by omega
  have hpq : w6.heap.size ≠ w2.heap.size := by omega
  have HB13 := hid (below_set HB12.out (b := w2.heap.size) (by omega) 0 (str z))
  have HT13 := hid (HT12.out.other hwq 0 (str z))
  have HU13 := hid (HU12.out.other hpq 0 (str z))
  have BZ := hid (rblanks_any w2.heap.size z false _ HR13.out (by omega))
  rw [HZ.out] at BZ
  go_wp2_with fail
  refine BZ.out.mono ?_
  rintro e w14 ⟨rfl, hr14, hb14⟩
  have HB14 := hid (hb14.into HB13.out (by omega))
  have HT14 := hid (But.blk HT13.out hb14 (by omega))
  have HU14 := hid (But.blk HU13.out hb14 (by omega))
  have HR14 := hid hr14
  clear hr14 hb14 s0 s1 f0 f1
  obtain ⟨s0, s1, f0, f1⟩ := HR14.out.cells
  have y0 := HU14.out.cell (i := 0) rfl
  have y1 := HU14.out.cell (i := 1) rfl
  have y2 := HU14.out.cell (i := 2) rfl
  have y3 := HU14.out.cell (i := 3) rfl
  have y4 := HU14.out.cell (i := 4) rfl
  have y5 := HU14.out.cell (i := 5) rfl
  have y6 := HU14.out.cell (i := 6) rfl
  have y7 := HU14.out.cell (i := 7) rfl
  have y8 := HU14.out.cell (i := 8) rfl
  have g0 := HT14.out.cell (i := 0) rfl
  have g1 := HT14.out.cell (i := 1) rfl
  have g2 := HT14.out.cell (i := 2) rfl
  have g3 := HT14.out.cell (i := 3) rfl
  have g4 := HT14.out.cell (i := 4) rfl
  have g5 := HT14.out.cell (i := 5) rfl
  have g6 := HT14.out.cell (i := 6) rfl
  have g7 := HT14.out.cell (i := 7) rfl
  have g8 := HT14.out.cell (i := 8) rfl
  have k0 := HT14.out.free 0
  have k1 := HT14.out.free 1
  have k2 := HT14.out.free 2
  have k3 := HT14.out.free 3
  have k4 := HT14.out.free 4
  have k5 := HT14.out.free 5
  have k6 := HT14.out.free 6
  have k7 := HT14.out.free 7
  have k8 := HT14.out.free 8
  go_wp2
  exact bodyPost_ret (v := oneV (some (some (a, b, c)))) (one_ret rfl rfl rfl (((((((((HT14.out.set 0 (.int .i64 (a.1 : Nat))).set 1 (str a.2.1)).set 2 (str a.2.2)).set 3 (.int .i64 (b.1 : Nat))).set 4 (str b.2.1)).set 5 (str b.2.2)).set 6 (.int .i64 (c.1 : Nat))).set 7 (str c.2.1)).set 8 (str c.2.2)) Tryz.results7) rfl ⟨by rw [HN.out], (below_set (below_set (below_set (below_set (below_set (below_set (below_set (below_set (below_set HB14.out (Nat.le_refl _) 0 (.int .i64 (a.1 : Nat))) (Nat.le_refl _) 1 (str a.2.1)) (Nat.le_refl _) 2 (str a.2.2)) (Nat.le_refl _) 3 (.int .i64 (b.1 : Nat))) (Nat.le_refl _) 4 (str b.2.1)) (Nat.le_refl _) 5 (str b.2.2)) (Nat.le_refl _) 6 (.int .i64 (c.1 : Nat))) (Nat.le_refl _) 7 (str c.2.1)) (Nat.le_refl _) 8 (str c.2.2))⟩
set_option maxHeartbeats 4000000 in
theorem rone_ok_rem (s : List UInt8) (w : World) (hV : Vars w) (hl : s.length ≤ 1000000) (h1 : Lib.validD s = true) (d : UInt8) (u : List UInt8) (hu : s.dropWhile blankC = d :: u) (hd : d ≠ 35) (a b c : Tm.T3) (r1 r2 z : List UInt8) (hA : rtO (some (d :: u)) = some (a.1, a.2.1, a.2.2, r1)) (hB : rtO (some r1) = some (b.1, b.2.1, b.2.2, r2)) (hC : rtO (some r2) = some (c.1, c.2.1, c.2.2, 46 :: z)) (ht : Tm.rtri (d :: u) = (Tm.point (46 :: z)).map fun z => ((a, b, c), z)) (h5 : Tm.isTri (a, b, c) = true) (g : UInt8) (y : List UInt8) (hz : z.dropWhile blankC = g :: y) (hg : g = 35) :
    Calls Tryz.prog 7 #[str s] w fun e w' => e = .returned (oneV (Tm.one s)) ∧ Below w.heap.size w w' := by
  have HN := hid (show Tm.one s = (some (some (a, b, c))) by unfold Tm.one; rw [if_neg (by rw [h1]; decide), if_neg (by rw [show Tm.endd (s.dropWhile blankC) = false by rw [hu]; unfold Tm.endd; simp [hd]]; decide), hu, ht]; rw [(by unfold Tm.point; simp : Tm.point (46 :: z) = some (z.dropWhile blankC))]; simp only [Option.map_some]; rw [if_pos ⟨by rw [hz, hg]; rfl, h5⟩])
  have VA := hid (fun w h => valid_any s w (by omega) h)
  have HB1 := hid (show Below w.heap.size w (w.alloc (.cells z9.toArray 25)) from (Below.refl _ _).alloc (Nat.le_refl _) _)
  have HT1 := hid (Blk.new w z9 25)
  have HV := hid hV
  rw [h1] at VA
  have HU := hid hu
  have hul : u.length + 1 ≤ s.length := by have := dw_len blankC s; rw [hu] at this; simpa using this
  have LA := rtermB_le (s := d :: u) hA
  have LB := rtermB_le (s := r1) hB
  have LC := rtermB_le (s := r2) hC
  simp only [List.length_cons] at LA LB LC
  have HAo := hid hA
  have HBo := hid hB
  have HCo := hid hC
  have PTt := hid (fun (q : Nat) (w0 : World) (h : Rd w0 q (46 :: z) false) => rhas_any q (46 :: z) [46] false w0 h (by simp only [List.length_cons]; omega) (by simp))
  rw [show decide (((46 :: z) : List UInt8).take ([46] : List UInt8).length = [46]) = true from rfl] at PTt
  have LI := hid (fun W h => lis_any (a.1 : Nat) a.2.1 a.2.2 (b.1 : Nat) b.2.1 b.2.2 (c.1 : Nat) c.2.1 c.2.2 W (by omega) (by omega) (by omega) (by omega) (by omega) (by omega) h)
  rw [isTri_I, h5] at LI
  have HZ := hid hz
  have hyl : y.length + 1 ≤ z.length := by have := dw_len blankC z; rw [hz] at this; simpa using this
  clear hV h1 hu hA hB hC ht hz h5
  go_enter Tryz.func7, Tryz.ntmps7
  go_wp2_with fail
  refine (VA.out _ (HV.out.keep HB1.out).1).mono ?_
  rintro e w2 ⟨rfl, hb2⟩
  have HB2 := hid (below_then HB1.out hb2)
  have HT2 := hid (HT1.out.keep hb2)
  clear hb2
  have hlt2 : w.heap.size < w2.heap.size := HT2.out.lt
  obtain ⟨q, hq⟩ : ∃ q, q = w2.heap.size := ⟨_, rfl⟩
  have HR3 := hid (show Rd (w2.alloc (.cells #[str s, .bool false] 43)) q s false from Blk.new' hq.symm rfl)
  have HB3 := hid (HB2.out.alloc HB2.out.size (.cells #[str s, .bool false] 43))
  have HT3 := hid (HT2.out.alloc (.cells #[str s, .bool false] 43))
  have hqw : w.heap.size < q := by omega
  have BL := hid (rblanks_any q s false _ HR3.out (by omega))
  rw [hq, HU.out] at BL
  go_wp2_with fail
  refine BL.out.mono ?_
  rintro e w4 ⟨rfl, hr4, hb4⟩
  rw [← hq] at hr4 hb4
  have HB4 := hid (hb4.into HB3.out (by omega))
  have HT4 := hid (But.blk HT3.out hb4 (by omega))
  have HR4 := hid hr4
  clear hr4 hb4 BL HR3 HB3 HT3
  subst hq
  obtain ⟨c0, c1, f0, f1⟩ := HR4.out.cells
  have hem : ((d :: u : List UInt8) == []) = false := rfl
  have HA4 := hid (rhas_any w2.heap.size (d :: u) [35] false w4 HR4.out (by simp only [List.length_cons]; omega) (by simp))
  rw [show decide (((d :: u) : List UInt8).take ([35] : List UInt8).length = [35]) = false from by exact decide_eq_false (by simpa using hd)] at HA4
  go_wp2_with fail
  refine HA4.out.mono ?_
  rintro e w5 ⟨rfl, rfl⟩
  obtain ⟨o1, ho1⟩ : ∃ o, o = rest (rtO (some (d :: u))) := ⟨_, rfl⟩
  obtain ⟨o2, ho2⟩ : ∃ o, o = rest (rtO o1) := ⟨_, rfl⟩
  obtain ⟨o3, ho3⟩ : ∃ o, o = rest (rtO o2) := ⟨_, rfl⟩
  have hl0 : ∀ z, some (d :: u) = some z → z.length ≤ 10000000 := by intro z hz; cases hz; simp only [List.length_cons]; omega
  have hl1 : ∀ z, o1 = some z → z.length ≤ 10000000 := by rw [ho1]; exact rest_len hl0
  have hl2 : ∀ z, o2 = some z → z.length ≤ 10000000 := by rw [ho2]; exact rest_len hl1
  have T1 := hid (fun (W : World) (hb : Below w.heap.size w W) (hr : RdO W w2.heap.size (some (d :: u))) => rtO_any w2.heap.size (some (d :: u)) W w (Base0.mk' HV.out hb (by omega)) hl0 hr)
  have T2 := hid (fun (W : World) (hb : Below w.heap.size w W) (hr : RdO W w2.heap.size o1) => rtO_any w2.heap.size o1 W w (Base0.mk' HV.out hb (by omega)) hl1 hr)
  have T3 := hid (fun (W : World) (hb : Below w.heap.size w W) (hr : RdO W w2.heap.size o2) => rtO_any w2.heap.size o2 W w (Base0.mk' HV.out hb (by omega)) hl2 hr)
  rw [← ho1] at T1
  rw [← ho2] at T2
  rw [← ho3] at T3
  have HO1 := hid ho1
  have HO2 := hid ho2
  have HO3 := hid ho3
  clear ho1 ho2 ho3 hl0 hl1 hl2 c0 c1 f0 f1
  go_wp2_with fail
  refine (T1.out _ HB4.out HR4.out).mono ?_
  rintro _ w6 ⟨⟨k1, t1, x1, rfl, hx1⟩, hr6, hb6⟩
  have HX1 := hid hx1
  have HB6 := hid (show Below w.heap.size w (new9 w6 k1 t1 x1 0 [] [] 0 [] []) from (hb6.into HB4.out (by omega)).alloc (hb6.into HB4.out (by omega)).size _)
  have HT6 := hid (show Blk (new9 w6 k1 t1 x1 0 [] [] 0 [] []) w.heap.size z9 25 from (But.blk HT4.out hb6 (by omega)).alloc _)
  have HU6 := hid (new9_new w6 k1 t1 x1 0 [] [] 0 [] [])
  have HR6 := hid (show RdO (new9 w6 k1 t1 x1 0 [] [] 0 [] []) w2.heap.size o1 from hr6.keep ((Below.refl _ _).alloc (Nat.le_refl _) _))
  have hz6 := hb6.size
  have hq4 : w2.heap.size < w4.heap.size := HR4.out.lt
  clear hb6 hr6 hx1
  go_wp2_with fail
  refine (T2.out _ HB6.out HR6.out).mono ?_
  rintro _ w7 ⟨⟨k2, t2, x2, rfl, hx2⟩, hr7, hb7⟩
  have HX2 := hid hx2
  have HB7 := hid (hb7.into HB6.out (by omega))
  have HT7 := hid (But.blk HT6.out hb7 (by omega))
  have HU7 := hid (But.blk HU6.out hb7 (by omega))
  have HR7 := hid hr7
  clear hb7 hr7 hx2
  have j3 := HU7.out.cell (i := 3) rfl
  have j4 := HU7.out.cell (i := 4) rfl
  have j5 := HU7.out.cell (i := 5) rfl
  have m3 := HU7.out.free 3
  have m4 := HU7.out.free 4
  have m5 := HU7.out.free 5
  have hpw : w.heap.size ≤ w6.heap.size := by omega
  have hqp : w2.heap.size ≠ w6.heap.size := by omega
  have hwp : w.heap.size ≠ w6.heap.size := by omega
  have HB8 := hid (below_set (below_set (below_set HB7.out hpw 3 (.int .i64 k2)) hpw 4 (str t2)) hpw 5 (str x2))
  have HT8 := hid (((HT7.out.other hwp 3 (.int .i64 k2)).other hwp 4 (str t2)).other hwp 5 (str x2))
  have HU8 := hid (show Blk (((w7.setCell ⟨w6.heap.size, 3, none⟩ (.int .i64 k2)).setCell ⟨w6.heap.size, 4, none⟩ (str t2)).setCell ⟨w6.heap.size, 5, none⟩ (str x2)) w6.heap.size [.int .i64 k1, str t1, str x1, .int .i64 k2, str t2, str x2, .int .i64 0, str [], str []] 25 from ((HU7.out.set 3 (.int .i64 k2)).set 4 (str t2)).set 5 (str x2))
  have HR8 := hid (((HR7.out.other hqp 3 (.int .i64 k2)).other hqp 4 (str t2)).other hqp 5 (str x2))
  go_wp2_with fail
  refine (T3.out _ HB8.out HR8.out).mono ?_
  rintro _ w9 ⟨⟨k3, t3, x3, rfl, hx3⟩, hr9, hb9⟩
  have HX3 := hid hx3
  have HB9 := hid (hb9.into HB8.out (by omega))
  have HT9 := hid (But.blk HT8.out hb9 (by omega))
  have HU9 := hid (But.blk HU8.out hb9 (by omega))
  have HR9 := hid hr9
  clear hb9 hr9 hx3 j3 j4 j5 m3 m4 m5
  have j6 := HU9.out.cell (i := 6) rfl
  have j7 := HU9.out.cell (i := 7) rfl
  have j8 := HU9.out.cell (i := 8) rfl
  have m6 := HU9.out.free 6
  have m7 := HU9.out.free 7
  have m8 := HU9.out.free 8
  have HB0 := hid (below_set (below_set (below_set HB9.out hpw 6 (.int .i64 k3)) hpw 7 (str t3)) hpw 8 (str x3))
  have HT0 := hid (((HT9.out.other hwp 6 (.int .i64 k3)).other hwp 7 (str t3)).other hwp 8 (str x3))
  have HU0 := hid (show Blk (((w9.setCell ⟨w6.heap.size, 6, none⟩ (.int .i64 k3)).setCell ⟨w6.heap.size, 7, none⟩ (str t3)).setCell ⟨w6.heap.size, 8, none⟩ (str x3)) w6.heap.size [.int .i64 k1, str t1, str x1, .int .i64 k2, str t2, str x2, .int .i64 k3, str t3, str x3] 25 from ((HU9.out.set 6 (.int .i64 k3)).set 7 (str t3)).set 8 (str x3))
  have HR0 := hid (((HR9.out.other hqp 6 (.int .i64 k3)).other hqp 7 (str t3)).other hqp 8 (str x3))
  have e1 : o1 = some r1 := by rw [HO1.out, HAo.out]; rfl
  have e2 : o2 = some r2 := by rw [HO2.out, e1, HBo.out]; rfl
  have e3 : o3 = some (46 :: z) := by rw [HO3.out, e2, HCo.out]; rfl
  obtain ⟨rfl, rfl, rfl⟩ : k1 = (a.1 : Int) ∧ t1 = a.2.1 ∧ x1 = a.2.2 := HX1.out _ HAo.out
  obtain ⟨rfl, rfl, rfl⟩ : k2 = (b.1 : Int) ∧ t2 = b.2.1 ∧ x2 = b.2.2 := HX2.out _ (e1 ▸ HBo.out)
  obtain ⟨rfl, rfl, rfl⟩ : k3 = (c.1 : Int) ∧ t3 = c.2.1 ∧ x3 = c.2.2 := HX3.out _ (e2 ▸ HCo.out)
  have HR0 := hid (show Rd (((w9.setCell ⟨w6.heap.size, 6, none⟩ (.int .i64 (c.1 : Nat))).setCell ⟨w6.heap.size, 7, none⟩ (str c.2.1)).setCell ⟨w6.heap.size, 8, none⟩ (str c.2.2)) w2.heap.size (46 :: z) false by have := HR0.out; rw [e3] at this; exact this)
  clear e1 e2 e3 HX1 HX2 HX3
  go_wp2_with (show wpList _ _ _ (_ :: _ :: _ :: _ :: _ :: _ :: _ :: _ :: _) _ (((w9.setCell ⟨w6.heap.size, 6, none⟩ (.int .i64 (c.1 : Nat))).setCell ⟨w6.heap.size, 7, none⟩ (str c.2.1)).setCell ⟨w6.heap.size, 8, none⟩ (str c.2.2)); obtain ⟨w0, hw0⟩ : ∃ w0, w0 = (((w9.setCell ⟨w6.heap.size, 6, none⟩ (.int .i64 (c.1 : Nat))).setCell ⟨w6.heap.size, 7, none⟩ (str c.2.1)).setCell ⟨w6.heap.size, 8, none⟩ (str c.2.2)) := ⟨_, rfl⟩; rw [← hw0] at HB0 HT0 HU0 HR0 ⊢; clear hw0; have s1 := HR0.out.cell (i := 1) rfl)
  refine (PTt.out _ _ HR0.out).mono ?_
  rintro e w11 ⟨rfl, rfl⟩
  have y0 := HU0.out.cell (i := 0) rfl
  have y1 := HU0.out.cell (i := 1) rfl
  have y2 := HU0.out.cell (i := 2) rfl
  have y3 := HU0.out.cell (i := 3) rfl
  have y4 := HU0.out.cell (i := 4) rfl
  have y5 := HU0.out.cell (i := 5) rfl
  have y6 := HU0.out.cell (i := 6) rfl
  have y7 := HU0.out.cell (i := 7) rfl
  have y8 := HU0.out.cell (i := 8) rfl
  go_wp2_with fail
  refine (LI.out _ (HV.out.keep HB0.out)).mono ?_
  rintro e w12 ⟨rfl, hb⟩
  have HB12 := hid (below_then HB0.out hb)
  have HT12 := hid (HT0.out.keep hb)
  have HU12 := hid (HU0.out.keep hb)
  have HR12 := hid (HR0.out.keep hb)
  clear hb y0 y1 y2 y3 y4 y5 y6 y7 y8
  have hex : (⟨(46 :: z).toArray⟩ : ByteArray).extract 1 (z.length + 1) = ⟨z.toArray⟩ := by
    have := ba_drop (46 :: z) 1
    simpa using this
  have hul2 : z.length + 1 ≤ 9223372036854775807 := by omega
  have hu1 : (1 : Int) ≤ (z.length : Int) + 1 := by omega
  obtain ⟨s0, s1, f0, f1⟩ := HR12.out.cells
  have HR13 := hid (HR12.out.set0 (t := z))
  have hwq : w.heap.size ≠ w2.heap.size := by omega
  have hpq : w6.heap.size ≠ w2.heap.size := by omega
  have HB13 := hid (below_set HB12.out (b := w2.heap.size) (by omega) 0 (str z))
  have HT13 := hid (HT12.out.other hwq 0 (str z))
  have HU13 := hid (HU12.out.other hpq 0 (str z))
  have BZ := hid (rblanks_any w2.heap.size z false _ HR13.out (by omega))
  rw [HZ.out] at BZ
  go_wp2_with fail
  refine BZ.out.mono ?_
  rintro e w14 ⟨rfl, hr14, hb14⟩
  have HB14 := hid (hb14.into HB13.out (by omega))
  have HT14 := hid (But.blk HT13.out hb14 (by omega))
  have HU14 := hid (But.blk HU13.out hb14 (by omega))
  have HR14 := hid hr14
  clear hr14 hb14 s0 s1 f0 f1
  obtain ⟨s0, s1, f0, f1⟩ := HR14.out.cells
  have hemz : ((g :: y : List UInt8) == []) = false := rfl
  have hemz2 : ((g :: y : List UInt8) != []) = true := rfl
  have HAz := hid (rhas_any w2.heap.size (g :: y) [35] false w14 HR14.out (by simp only [List.length_cons]; omega) (by simp))
  rw [show decide (((g :: y) : List UInt8).take ([35] : List UInt8).length = [35]) = true from by subst hg; rfl] at HAz
  go_wp2_with fail
  refine HAz.out.mono ?_
  rintro e w15 ⟨rfl, rfl⟩
  have y0 := HU14.out.cell (i := 0) rfl
  have y1 := HU14.out.cell (i := 1) rfl
  have y2 := HU14.out.cell (i := 2) rfl
  have y3 := HU14.out.cell (i := 3) rfl
  have y4 := HU14.out.cell (i := 4) rfl
  have y5 := HU14.out.cell (i := 5) rfl
  have y6 := HU14.out.cell (i := 6) rfl
  have y7 := HU14.out.cell (i := 7) rfl
  have y8 := HU14.out.cell (i := 8) rfl
  have g0 := HT14.out.cell (i := 0) rfl
  have g1 := HT14.out.cell (i := 1) rfl
  have g2 := HT14.out.cell (i := 2) rfl
  have g3 := HT14.out.cell (i := 3) rfl
  have g4 := HT14.out.cell (i := 4) rfl
  have g5 := HT14.out.cell (i := 5) rfl
  have g6 := HT14.out.cell (i := 6) rfl
  have g7 := HT14.out.cell (i := 7) rfl
  have g8 := HT14.out.cell (i := 8) rfl
  have k0 := HT14.out.free 0
  have k1 := HT14.out.free 1
  have k2 := HT14.out.free 2
  have k3 := HT14.out.free 3
  have k4 := HT14.out.free 4
  have k5 := HT14.out.free 5
  have k6 := HT14.out.free 6
  have k7 := HT14.out.free 7
  have k8 := HT14.out.free 8
  go_wp2
  exact bodyPost_ret (v := oneV (some (some (a, b, c)))) (one_ret rfl rfl rfl (((((((((HT14.out.set 0 (.int .i64 (a.1 : Nat))).set 1 (str a.2.1)).set 2 (str a.2.2)).set 3 (.int .i64 (b.1 : Nat))).set 4 (str b.2.1)).set 5 (str b.2.2)).set 6 (.int .i64 (c.1 : Nat))).set 7 (str c.2.1)).set 8 (str c.2.2)) Tryz.results7) rfl ⟨by rw [HN.out], (below_set (below_set (below_set (below_set (below_set (below_set (below_set (below_set (below_set HB14.out (Nat.le_refl _) 0 (.int .i64 (a.1 : Nat))) (Nat.le_refl _) 1 (str a.2.1)) (Nat.le_refl _) 2 (str a.2.2)) (Nat.le_refl _) 3 (.int .i64 (b.1 : Nat))) (Nat.le_refl _) 4 (str b.2.1)) (Nat.le_refl _) 5 (str b.2.2)) (Nat.le_refl _) 6 (.int .i64 (c.1 : Nat))) (Nat.le_refl _) 7 (str c.2.1)) (Nat.le_refl _) 8 (str c.2.2))⟩
set_option maxHeartbeats 4000000 in
theorem rone_more (s : List UInt8) (w : World) (hV : Vars w) (hl : s.length ≤ 1000000) (h1 : Lib.validD s = true) (d : UInt8) (u : List UInt8) (hu : s.dropWhile blankC = d :: u) (hd : d ≠ 35) (a b c : Tm.T3) (r1 r2 z : List UInt8) (hA : rtO (some (d :: u)) = some (a.1, a.2.1, a.2.2, r1)) (hB : rtO (some r1) = some (b.1, b.2.1, b.2.2, r2)) (hC : rtO (some r2) = some (c.1, c.2.1, c.2.2, 46 :: z)) (ht : Tm.rtri (d :: u) = (Tm.point (46 :: z)).map fun z => ((a, b, c), z)) (h5 : Tm.isTri (a, b, c) = true) (g : UInt8) (y : List UInt8) (hz : z.dropWhile blankC = g :: y) (hg : g ≠ 35) :
    Calls Tryz.prog 7 #[str s] w fun e w' => e = .returned (oneV (Tm.one s)) ∧ Below w.heap.size w w' := by
  have HN := hid (show Tm.one s = none by unfold Tm.one; rw [if_neg (by rw [h1]; decide), if_neg (by rw [show Tm.endd (s.dropWhile blankC) = false by rw [hu]; unfold Tm.endd; simp [hd]]; decide), hu, ht]; rw [(by unfold Tm.point; simp : Tm.point (46 :: z) = some (z.dropWhile blankC))]; simp only [Option.map_some]; rw [if_neg (by rw [hz]; unfold Tm.endd; simp [hg])])
  have VA := hid (fun w h => valid_any s w (by omega) h)
  have HB1 := hid (show Below w.heap.size w (w.alloc (.cells z9.toArray 25)) from (Below.refl _ _).alloc (Nat.le_refl _) _)
  have HT1 := hid (Blk.new w z9 25)
  have HV := hid hV
  rw [h1] at VA
  have HU := hid hu
  have hul : u.length + 1 ≤ s.length := by have := dw_len blankC s; rw [hu] at this; simpa using this
  have LA := rtermB_le (s := d :: u) hA
  have LB := rtermB_le (s := r1) hB
  have LC := rtermB_le (s := r2) hC
  simp only [List.length_cons] at LA LB LC
  have HAo := hid hA
  have HBo := hid hB
  have HCo := hid hC
  have PTt := hid (fun (q : Nat) (w0 : World) (h : Rd w0 q (46 :: z) false) => rhas_any q (46 :: z) [46] false w0 h (by simp only [List.length_cons]; omega) (by simp))
  rw [show decide (((46 :: z) : List UInt8).take ([46] : List UInt8).length = [46]) = true from rfl] at PTt
  have LI := hid (fun W h => lis_any (a.1 : Nat) a.2.1 a.2.2 (b.1 : Nat) b.2.1 b.2.2 (c.1 : Nat) c.2.1 c.2.2 W (by omega) (by omega) (by omega) (by omega) (by omega) (by omega) h)
  rw [isTri_I, h5] at LI
  have HZ := hid hz
  have hyl : y.length + 1 ≤ z.length := by have := dw_len blankC z; rw [hz] at this; simpa using this
  clear hV h1 hu hA hB hC ht hz h5
  go_enter Tryz.func7, Tryz.ntmps7
  go_wp2_with fail
  refine (VA.out _ (HV.out.keep HB1.out).1).mono ?_
  rintro e w2 ⟨rfl, hb2⟩
  have HB2 := hid (below_then HB1.out hb2)
  have HT2 := hid (HT1.out.keep hb2)
  clear hb2
  have hlt2 : w.heap.size < w2.heap.size := HT2.out.lt
  obtain ⟨q, hq⟩ : ∃ q, q = w2.heap.size := ⟨_, rfl⟩
  have HR3 := hid (show Rd (w2.alloc (.cells #[str s, .bool false] 43)) q s false from Blk.new' hq.symm rfl)
  have HB3 := hid (HB2.out.alloc HB2.out.size (.cells #[str s, .bool false] 43))
  have HT3 := hid (HT2.out.alloc (.cells #[str s, .bool false] 43))
  have hqw : w.heap.size < q := by omega
  have BL := hid (rblanks_any q s false _ HR3.out (by omega))
  rw [hq, HU.out] at BL
  go_wp2_with fail
  refine BL.out.mono ?_
  rintro e w4 ⟨rfl, hr4, hb4⟩
  rw [← hq] at hr4 hb4
  have HB4 := hid (hb4.into HB3.out (by omega))
  have HT4 := hid (But.blk HT3.out hb4 (by omega))
  have HR4 := hid hr4
  clear hr4 hb4 BL HR3 HB3 HT3
  subst hq
  obtain ⟨c0, c1, f0, f1⟩ := HR4.out.cells
  have hem : ((d :: u : List UInt8) == []) = false := rfl
  have HA4 := hid (rhas_any w2.heap.size (d :: u) [35] false w4 HR4.out (by simp only [List.length_cons]; omega) (by simp))
  rw [show decide (((d :: u) : List UInt8).take ([35] : List UInt8).length = [35]) = false from by exact decide_eq_false (by simpa using hd)] at HA4
  go_wp2_with fail
  refine HA4.out.mono ?_
  rintro e w5 ⟨rfl, rfl⟩
  obtain ⟨o1, ho1⟩ : ∃ o, o = rest (rtO (some (d :: u))) := ⟨_, rfl⟩
  obtain ⟨o2, ho2⟩ : ∃ o, o = rest (rtO o1) := ⟨_, rfl⟩
  obtain ⟨o3, ho3⟩ : ∃ o, o = rest (rtO o2) := ⟨_, rfl⟩
  have hl0 : ∀ z, some (d :: u) = some z → z.length ≤ 10000000 := by intro z hz; cases hz; simp only [List.length_cons]; omega
  have hl1 : ∀ z, o1 = some z → z.length ≤ 10000000 := by rw [ho1]; exact rest_len hl0
  have hl2 : ∀ z, o2 = some z → z.length ≤ 10000000 := by rw [ho2]; exact rest_len hl1
  have T1 := hid (fun (W : World) (hb : Below w.heap.size w W) (hr : RdO W w2.heap.size (some (d :: u))) => rtO_any w2.heap.size (some (d :: u)) W w (Base0.mk' HV.out hb (by omega)) hl0 hr)
  have T2 := hid (fun (W : World) (hb : Below w.heap.size w W) (hr : RdO W w2.heap.size o1) => rtO_any w2.heap.size o1 W w (Base0.mk' HV.out hb (by omega)) hl1 hr)
  have T3 := hid (fun (W : World) (hb : Below w.heap.size w W) (hr : RdO W w2.heap.size o2) => rtO_any w2.heap.size o2 W w (Base0.mk' HV.out hb (by omega)) hl2 hr)
  rw [← ho1] at T1
  rw [← ho2] at T2
  rw [← ho3] at T3
  have HO1 := hid ho1
  have HO2 := hid ho2
  have HO3 := hid ho3
  clear ho1 ho2 ho3 hl0 hl1 hl2 c0 c1 f0 f1
  go_wp2_with fail
  refine (T1.out _ HB4.out HR4.out).mono ?_
  rintro _ w6 ⟨⟨k1, t1, x1, rfl, hx1⟩, hr6, hb6⟩
  have HX1 := hid hx1
  have HB6 := hid (show Below w.heap.size w (new9 w6 k1 t1 x1 0 [] [] 0 [] []) from (hb6.into HB4.out (by omega)).alloc (hb6.into HB4.out (by omega)).size _)
  have HT6 := hid (show Blk (new9 w6 k1 t1 x1 0 [] [] 0 [] []) w.heap.size z9 25 from (But.blk HT4.out hb6 (by omega)).alloc _)
  have HU6 := hid (new9_new w6 k1 t1 x1 0 [] [] 0 [] [])
  have HR6 := hid (show RdO (new9 w6 k1 t1 x1 0 [] [] 0 [] []) w2.heap.size o1 from hr6.keep ((Below.refl _ _).alloc (Nat.le_refl _) _))
  have hz6 := hb6.size
  have hq4 : w2.heap.size < w4.heap.size := HR4.out.lt
  clear hb6 hr6 hx1
  go_wp2_with fail
  refine (T2.out _ HB6.out HR6.out).mono ?_
  rintro _ w7 ⟨⟨k2, t2, x2, rfl, hx2⟩, hr7, hb7⟩
  have HX2 := hid hx2
  have HB7 := hid (hb7.into HB6.out (by omega))
  have HT7 := hid (But.blk HT6.out hb7 (by omega))
  have HU7 := hid (But.blk HU6.out hb7 (by omega))
  have HR7 := hid hr7
  clear hb7 hr7 hx2
  have j3 := HU7.out.cell (i := 3) rfl
  have j4 := HU7.out.cell (i := 4) rfl
  have j5 := HU7.out.cell (i := 5) rfl
  have m3 := HU7.out.free 3
  have m4 := HU7.out.free 4
  have m5 := HU7.out.free 5
  have hpw : w.heap.size ≤ w6.heap.size := by omega
  have hqp : w2.heap.size ≠ w6.heap.size := by omega
  have hwp : w.heap.size ≠ w6.heap.size := by omega
  have HB8 := hid (below_set (below_set (below_set HB7.out hpw 3 (.int .i64 k2)) hpw 4 (str t2)) hpw 5 (str x2))
  have HT8 := hid (((HT7.out.other hwp 3 (.int .i64 k2)).other hwp 4 (str t2)).other hwp 5 (str x2))
  have HU8 := hid (show Blk (((w7.setCell ⟨w6.heap.size, 3, none⟩ (.int .i64 k2)).setCell ⟨w6.heap.size, 4, none⟩ (str t2)).setCell ⟨w6.heap.size, 5, none⟩ (str x2)) w6.heap.size [.int .i64 k1, str t1, str x1, .int .i64 k2, str t2, str x2, .int .i64 0, str [], str []] 25 from ((HU7.out.set 3 (.int .i64 k2)).set 4 (str t2)).set 5 (str x2))
  have HR8 := hid (((HR7.out.other hqp 3 (.int .i64 k2)).other hqp 4 (str t2)).other hqp 5 (str x2))
  go_wp2_with fail
  refine (T3.out _ HB8.out HR8.out).mono ?_
  rintro _ w9 ⟨⟨k3, t3, x3, rfl, hx3⟩, hr9, hb9⟩
  have HX3 := hid hx3
  have HB9 := hid (hb9.into HB8.out (by omega))
  have HT9 := hid (But.blk HT8.out hb9 (by omega))
  have HU9 := hid (But.blk HU8.out hb9 (by omega))
  have HR9 := hid hr9
  clear hb9 hr9 hx3 j3 j4 j5 m3 m4 m5
  have j6 := HU9.out.cell (i := 6) rfl
  have j7 := HU9.out.cell (i := 7) rfl
  have j8 := HU9.out.cell (i := 8) rfl
  have m6 := HU9.out.free 6
  have m7 := HU9.out.free 7
  have m8 := HU9.out.free 8
  have HB0 := hid (below_set (below_set (below_set HB9.out hpw 6 (.int .i64 k3)) hpw 7 (str t3)) hpw 8 (str x3))
  have HT0 := hid (((HT9.out.other hwp 6 (.int .i64 k3)).other hwp 7 (str t3)).other hwp 8 (str x3))
  have HU0 := hid (show Blk (((w9.setCell ⟨w6.heap.size, 6, none⟩ (.int .i64 k3)).setCell ⟨w6.heap.size, 7, none⟩ (str t3)).setCell ⟨w6.heap.size, 8, none⟩ (str x3)) w6.heap.size [.int .i64 k1, str t1, str x1, .int .i64 k2, str t2, str x2, .int .i64 k3, str t3, str x3] 25 from ((HU9.out.set 6 (.int .i64 k3)).set 7 (str t3)).set 8 (str x3))
  have HR0 := hid (((HR9.out.other hqp 6 (.int .i64 k3)).other hqp 7 (str t3)).other hqp 8 (str x3))
  have e1 : o1 = some r1 := by rw [HO1.out, HAo.out]; rfl
  have e2 : o2 = some r2 := by rw [HO2.out, e1, HBo.out]; rfl
  have e3 : o3 = some (46 :: z) := by rw [HO3.out, e2, HCo.out]; rfl
  obtain ⟨rfl, rfl, rfl⟩ : k1 = (a.1 : Int) ∧ t1 = a.2.1 ∧ x1 = a.2.2 := HX1.out _ HAo.out
  obtain ⟨rfl, rfl, rfl⟩ : k2 = (b.1 : Int) ∧ t2 = b.2.1 ∧ x2 = b.2.2 := HX2.out _ (e1 ▸ HBo.out)
  obtain ⟨rfl, rfl, rfl⟩ : k3 = (c.1 : Int) ∧ t3 = c.2.1 ∧ x3 = c.2.2 := HX3.out _ (e2 ▸ HCo.out)
  have HR0 := hid (show Rd (((w9.setCell ⟨w6.heap.size, 6, none⟩ (.int .i64 (c.1 : Nat))).setCell ⟨w6.heap.size, 7, none⟩ (str c.2.1)).setCell ⟨w6.heap.size, 8, none⟩ (str c.2.2)) w2.heap.size (46 :: z) false by have := HR0.out; rw [e3] at this; exact this)
  clear e1 e2 e3 HX1 HX2 HX3
  go_wp2_with (show wpList _ _ _ (_ :: _ :: _ :: _ :: _ :: _ :: _ :: _ :: _) _ (((w9.setCell ⟨w6.heap.size, 6, none⟩ (.int .i64 (c.1 : Nat))).setCell ⟨w6.heap.size, 7, none⟩ (str c.2.1)).setCell ⟨w6.heap.size, 8, none⟩ (str c.2.2)); obtain ⟨w0, hw0⟩ : ∃ w0, w0 = (((w9.setCell ⟨w6.heap.size, 6, none⟩ (.int .i64 (c.1 : Nat))).setCell ⟨w6.heap.size, 7, none⟩ (str c.2.1)).setCell ⟨w6.heap.size, 8, none⟩ (str c.2.2)) := ⟨_, rfl⟩; rw [← hw0] at HB0 HT0 HU0 HR0 ⊢; clear hw0; have s1 := HR0.out.cell (i := 1) rfl)
  refine (PTt.out _ _ HR0.out).mono ?_
  rintro e w11 ⟨rfl, rfl⟩
  have y0 := HU0.out.cell (i := 0) rfl
  have y1 := HU0.out.cell (i := 1) rfl
  have y2 := HU0.out.cell (i := 2) rfl
  have y3 := HU0.out.cell (i := 3) rfl
  have y4 := HU0.out.cell (i := 4) rfl
  have y5 := HU0.out.cell (i := 5) rfl
  have y6 := HU0.out.cell (i := 6) rfl
  have y7 := HU0.out.cell (i := 7) rfl
  have y8 := HU0.out.cell (i := 8) rfl
  go_wp2_with fail
  refine (LI.out _ (HV.out.keep HB0.out)).mono ?_
  rintro e w12 ⟨rfl, hb⟩
  have HB12 := hid (below_then HB0.out hb)
  have HT12 := hid (HT0.out.keep hb)
  have HU12 := hid (HU0.out.keep hb)
  have HR12 := hid (HR0.out.keep hb)
  clear hb y0 y1 y2 y3 y4 y5 y6 y7 y8
  have hex : (⟨(46 :: z).toArray⟩ : ByteArray).extract 1 (z.length + 1) = ⟨z.toArray⟩ := by
    have := ba_drop (46 :: z) 1
    simpa using this
  have hul2 : z.length + 1 ≤ 9223372036854775807 := by omega
  have hu1 : (1 : Int) ≤ (z.length : Int) + 1 := by omega
  obtain ⟨s0, s1, f0, f1⟩ := HR12.out.cells
  have HR13 := hid (HR12.out.set0 (t := z))
  have hwq : w.heap.size ≠ w2.heap.size := by omega
  have hpq : w6.heap.size ≠ w2.heap.size := by omega
  have HB13 := hid (below_set HB12.out (b := w2.heap.size) (by omega) 0 (str z))
  have HT13 := hid (HT12.out.other hwq 0 (str z))
  have HU13 := hid (HU12.out.other hpq 0 (str z))
  have BZ := hid (rblanks_any w2.heap.size z false _ HR13.out (by omega))
  rw [HZ.out] at BZ
  go_wp2_with fail
  refine BZ.out.mono ?_
  rintro e w14 ⟨rfl, hr14, hb14⟩
  have HB14 := hid (hb14.into HB13.out (by omega))
  have HT14 := hid (But.blk HT13.out hb14 (by omega))
  have HU14 := hid (But.blk HU13.out hb14 (by omega))
  have HR14 := hid hr14
  clear hr14 hb14 s0 s1 f0 f1
  obtain ⟨s0, s1, f0, f1⟩ := HR14.out.cells
  have hemz : ((g :: y : List UInt8) == []) = false := rfl
  have hemz2 : ((g :: y : List UInt8) != []) = true := rfl
  have HAz := hid (rhas_any w2.heap.size (g :: y) [35] false w14 HR14.out (by simp only [List.length_cons]; omega) (by simp))
  rw [show decide (((g :: y) : List UInt8).take ([35] : List UInt8).length = [35]) = false from by exact decide_eq_false (by simpa using hg)] at HAz
  go_wp2_with fail
  refine HAz.out.mono ?_
  rintro e w15 ⟨rfl, rfl⟩
  have g0 := HT14.out.cell (i := 0) rfl
  have g1 := HT14.out.cell (i := 1) rfl
  have g2 := HT14.out.cell (i := 2) rfl
  have g3 := HT14.out.cell (i := 3) rfl
  have g4 := HT14.out.cell (i := 4) rfl
  have g5 := HT14.out.cell (i := 5) rfl
  have g6 := HT14.out.cell (i := 6) rfl
  have g7 := HT14.out.cell (i := 7) rfl
  have g8 := HT14.out.cell (i := 8) rfl
  have k0 := HT14.out.free 0
  have k1 := HT14.out.free 1
  have k2 := HT14.out.free 2
  have k3 := HT14.out.free 3
  have k4 := HT14.out.free 4
  have k5 := HT14.out.free 5
  have k6 := HT14.out.free 6
  have k7 := HT14.out.free 7
  have k8 := HT14.out.free 8
  go_wp2
  exact bodyPost_ret (v := oneV none) (one_ret rfl rfl rfl (((((((((HT14.out.set 0 (.int .i64 0)).set 1 (.string ⟨#[]⟩)).set 2 (.string ⟨#[]⟩)).set 3 (.int .i64 0)).set 4 (.string ⟨#[]⟩)).set 5 (.string ⟨#[]⟩)).set 6 (.int .i64 0)).set 7 (.string ⟨#[]⟩)).set 8 (.string ⟨#[]⟩)) Tryz.results7) rfl ⟨by rw [HN.out], (below_set (below_set (below_set (below_set (below_set (below_set (below_set (below_set (below_set HB14.out (Nat.le_refl _) 0 (.int .i64 0)) (Nat.le_refl _) 1 (.string ⟨#[]⟩)) (Nat.le_refl _) 2 (.string ⟨#[]⟩)) (Nat.le_refl _) 3 (.int .i64 0)) (Nat.le_refl _) 4 (.string ⟨#[]⟩)) (Nat.le_refl _) 5 (.string ⟨#[]⟩)) (Nat.le_refl _) 6 (.int .i64 0)) (Nat.le_refl _) 7 (.string ⟨#[]⟩)) (Nat.le_refl _) 8 (.string ⟨#[]⟩))⟩
theorem rone_any (s : List UInt8) (w : World) (hV : Vars w) (hl : s.length ≤ 1000000) :
    Calls Tryz.prog 7 #[str s] w fun e w' => e = .returned (oneV (Tm.one s)) ∧ Below w.heap.size w w' := by
  cases h1 : Lib.validD s
  · exact rone_bad s w hV hl h1
  · cases hu : s.dropWhile blankC with
    | nil => exact rone_empty s w hV hl h1 hu
    | cons d u =>
      by_cases hd : d = 35
      · exact rone_remark s w hV hl h1 d u hu hd
      · cases h3 : rest (rtO (rest (rtO (rest (rtO (some (d :: u))))))) with
        | none => exact rone_err s w hV hl h1 d u hu hd h3
        | some v =>
          obtain ⟨r2, c, e2, hc1, hc2, hc3⟩ := rest_some h3
          obtain ⟨r1, b, e1, hb1, hb2, hb3⟩ := rest_some e2
          obtain ⟨r0, a, e0, ha1, ha2, ha3⟩ := rest_some e1
          cases e0
          rw [e1] at hb3
          rw [e2] at hc3
          have ht : Tm.rtri (d :: u) = (Tm.point v).map fun z => ((a, b, c), z) := by
            unfold Tm.rtri
            rw [ha1]; simp only
            rw [hb1]; simp only
            rw [hc1]; simp only
            cases Tm.point v <;> rfl
          cases hp : Tm.point v with
          | none => exact rone_point s w hV hl h1 d u hu hd a b c r1 r2 v ha3 hb3 hc3 ht hp
          | some x =>
            obtain ⟨z, rfl⟩ : ∃ z, v = 46 :: z := by
              cases v with
              | nil => cases hp
              | cons g y =>
                unfold Tm.point at hp
                simp only at hp
                split at hp
                · rename_i hg; exact ⟨y, by rw [hg]⟩
                · cases hp
            cases h5 : Tm.isTri (a, b, c)
            · exact rone_isno s w hV hl h1 d u hu hd a b c r1 r2 _ ha3 hb3 hc3 ht z rfl h5
            · cases hz : z.dropWhile blankC with
              | nil => exact rone_ok_nil s w hV hl h1 d u hu hd a b c r1 r2 z ha3 hb3 hc3 ht h5 hz
              | cons g y =>
                by_cases hg : g = 35
                · exact rone_ok_rem s w hV hl h1 d u hu hd a b c r1 r2 z ha3 hb3 hc3 ht h5 g y hz hg
                · exact rone_more s w hV hl h1 d u hu hd a b c r1 r2 z ha3 hb3 hc3 ht h5 g y hz hg
end Go.Proofs.YtemkbmhcohijnaaGreatDoor
