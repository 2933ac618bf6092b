/- The document's Is of a triple. -/
import Derived.Test.YtjaebndajhppgaaGreatDoorGTri
namespace Go.Proofs.YtjaebndajhppgaaGreatDoor
set_option linter.unusedVariables false
set_option linter.unusedSimpArgs false
set_option maxRecDepth 100000
open Go.ChangeShapes Go.WideShapes Go.ChangeAt Go.RowKit
set_option maxHeartbeats 2000000 in
theorem wis_1 (k1 : Int) (t1 x1 : List UInt8) (k2 : Int) (t2 x2 : List UInt8) (k3 : Int) (t3 x3 : List UInt8) (w : World) (ht1 : t1.length ≤ 1000000000000000) (hx1 : x1.length ≤ 1000000000000000) (ht2 : t2.length ≤ 1000000000000000) (hx2 : x2.length ≤ 1000000000000000) (ht3 : t3.length ≤ 1000000000000000) (hx3 : x3.length ≤ 1000000000000000) (hV : Vars w) (h1 : Tm.is k1 t1 x1 = false) :
    Calls Tryz.prog 62 #[triV k1 t1 x1 k2 t2 x2 k3 t3 x3] w fun e w' => e = .returned (.bool (isTriI k1 t1 x1 k2 t2 x2 k3 t3 x3)) ∧ Below w.heap.size w w' := by
  have HB := hid (show Below w.heap.size w (new9 w k1 t1 x1 k2 t2 x2 k3 t3 x3) from (Below.refl _ _).alloc (Nat.le_refl _) _)
  have HV := hid (hV.keep HB.out)
  have HU := hid (new9_new w k1 t1 x1 k2 t2 x2 k3 t3 x3)
  have HF := hid (show isTriI k1 t1 x1 k2 t2 x2 k3 t3 x3 = false by unfold isTriI; rw [h1]; simp)
  have I1 := hid (fun W h => ris_any k1 t1 x1 W (by omega) (by omega) h)
  rw [h1] at I1
  clear hV h1
  go_enter Tryz.func62, Tryz.ntmps62
  go_wp2_with (show wpList _ _ _ _ _ (new9 w k1 t1 x1 k2 t2 x2 k3 t3 x3); obtain ⟨w1, hw1⟩ : ∃ w1, w1 = new9 w k1 t1 x1 k2 t2 x2 k3 t3 x3 := ⟨_, rfl⟩; rw [← hw1] at HB HV HU ⊢; clear hw1; have c0 := HU.out.cell (i := 0) rfl; have c1 := HU.out.cell (i := 1) rfl; have c2 := HU.out.cell (i := 2) rfl)
  refine (I1.out _ HV.out).mono ?_
  rintro e w2 ⟨rfl, hb2⟩
  have HB2 := hid (below_then HB.out hb2)
  have HV2 := hid (HV.out.keep hb2)
  have HU2 := hid (HU.out.keep hb2)
  clear hb2
  go_wp2
  go_ret
  exact ⟨by rw [HF.out]; rfl, HB2.out⟩
set_option maxHeartbeats 2000000 in
theorem wis_2 (k1 : Int) (t1 x1 : List UInt8) (k2 : Int) (t2 x2 : List UInt8) (k3 : Int) (t3 x3 : List UInt8) (w : World) (ht1 : t1.length ≤ 1000000000000000) (hx1 : x1.length ≤ 1000000000000000) (ht2 : t2.length ≤ 1000000000000000) (hx2 : x2.length ≤ 1000000000000000) (ht3 : t3.length ≤ 1000000000000000) (hx3 : x3.length ≤ 1000000000000000) (hV : Vars w) (h1 : Tm.is k1 t1 x1 = true) (h2 : Tm.is k2 t2 x2 = false) :
    Calls Tryz.prog 62 #[triV k1 t1 x1 k2 t2 x2 k3 t3 x3] w fun e w' => e = .returned (.bool (isTriI k1 t1 x1 k2 t2 x2 k3 t3 x3)) ∧ Below w.heap.size w w' := by
  have HB := hid (show Below w.heap.size w (new9 w k1 t1 x1 k2 t2 x2 k3 t3 x3) from (Below.refl _ _).alloc (Nat.le_refl _) _)
  have HV := hid (hV.keep HB.out)
  have HU := hid (new9_new w k1 t1 x1 k2 t2 x2 k3 t3 x3)
  have HF := hid (show isTriI k1 t1 x1 k2 t2 x2 k3 t3 x3 = false by unfold isTriI; rw [h2]; simp)
  have I1 := hid (fun W h => ris_any k1 t1 x1 W (by omega) (by omega) h)
  rw [h1] at I1
  have I2 := hid (fun W h => ris_any k2 t2 x2 W (by omega) (by omega) h)
  rw [h2] at I2
  clear hV h1 h2
  go_enter Tryz.func62, Tryz.ntmps62
  go_wp2_with (show wpList _ _ _ _ _ (new9 w k1 t1 x1 k2 t2 x2 k3 t3 x3); obtain ⟨w1, hw1⟩ : ∃ w1, w1 = new9 w k1 t1 x1 k2 t2 x2 k3 t3 x3 := ⟨_, rfl⟩; rw [← hw1] at HB HV HU ⊢; clear hw1; have c0 := HU.out.cell (i := 0) rfl; have c1 := HU.out.cell (i := 1) rfl; have c2 := HU.out.cell (i := 2) rfl)
  refine (I1.out _ HV.out).mono ?_
  rintro e w2 ⟨rfl, hb2⟩
  have HB2 := hid (below_then HB.out hb2)
  have HV2 := hid (HV.out.keep hb2)
  have HU2 := hid (HU.out.keep hb2)
  clear hb2
  have c3 := HU2.out.cell (i := 3) rfl
  have c4 := HU2.out.cell (i := 4) rfl
  have c5 := HU2.out.cell (i := 5) rfl
  go_wp2_with fail
  refine (I2.out _ HV2.out).mono ?_
  rintro e w3 ⟨rfl, hb3⟩
  have HB3 := hid (below_then HB2.out hb3)
  have HV3 := hid (HV2.out.keep hb3)
  have HU3 := hid (HU2.out.keep hb3)
  clear hb3
  go_wp2
  go_ret
  exact ⟨by rw [HF.out]; rfl, HB3.out⟩
set_option maxHeartbeats 2000000 in
theorem wis_3 (k1 : Int) (t1 x1 : List UInt8) (k2 : Int) (t2 x2 : List UInt8) (k3 : Int) (t3 x3 : List UInt8) (w : World) (ht1 : t1.length ≤ 1000000000000000) (hx1 : x1.length ≤ 1000000000000000) (ht2 : t2.length ≤ 1000000000000000) (hx2 : x2.length ≤ 1000000000000000) (ht3 : t3.length ≤ 1000000000000000) (hx3 : x3.length ≤ 1000000000000000) (hV : Vars w) (h1 : Tm.is k1 t1 x1 = true) (h2 : Tm.is k2 t2 x2 = true) (h3 : Tm.is k3 t3 x3 = false) :
    Calls Tryz.prog 62 #[triV k1 t1 x1 k2 t2 x2 k3 t3 x3] w fun e w' => e = .returned (.bool (isTriI k1 t1 x1 k2 t2 x2 k3 t3 x3)) ∧ Below w.heap.size w w' := by
  have HB := hid (show Below w.heap.size w (new9 w k1 t1 x1 k2 t2 x2 k3 t3 x3) from (Below.refl _ _).alloc (Nat.le_refl _) _)
  have HV := hid (hV.keep HB.out)
  have HU := hid (new9_new w k1 t1 x1 k2 t2 x2 k3 t3 x3)
  have HF := hid (show isTriI k1 t1 x1 k2 t2 x2 k3 t3 x3 = false by unfold isTriI; rw [h3]; simp)
  have I1 := hid (fun W h => ris_any k1 t1 x1 W (by omega) (by omega) h)
  rw [h1] at I1
  have I2 := hid (fun W h => ris_any k2 t2 x2 W (by omega) (by omega) h)
  rw [h2] at I2
  have I3 := hid (fun W h => ris_any k3 t3 x3 W (by omega) (by omega) h)
  rw [h3] at I3
  clear hV h1 h2 h3
  go_enter Tryz.func62, Tryz.ntmps62
  go_wp2_with (show wpList _ _ _ _ _ (new9 w k1 t1 x1 k2 t2 x2 k3 t3 x3); obtain ⟨w1, hw1⟩ : ∃ w1, w1 = new9 w k1 t1 x1 k2 t2 x2 k3 t3 x3 := ⟨_, rfl⟩; rw [← hw1] at HB HV HU ⊢; clear hw1; have c0 := HU.out.cell (i := 0) rfl; have c1 := HU.out.cell (i := 1) rfl; have c2 := HU.out.cell (i := 2) rfl)
  refine (I1.out _ HV.out).mono ?_
  rintro e w2 ⟨rfl, hb2⟩
  have HB2 := hid (below_then HB.out hb2)
  have HV2 := hid (HV.out.keep hb2)
  have HU2 := hid (HU.out.keep hb2)
  clear hb2
  have c3 := HU2.out.cell (i := 3) rfl
  have c4 := HU2.out.cell (i := 4) rfl
  have c5 := HU2.out.cell (i := 5) rfl
  go_wp2_with fail
  refine (I2.out _ HV2.out).mono ?_
  rintro e w3 ⟨rfl, hb3⟩
  have HB3 := hid (below_then HB2.out hb3)
  have HV3 := hid (HV2.out.keep hb3)
  have HU3 := hid (HU2.out.keep hb3)
  clear hb3
  have c6 := HU3.out.cell (i := 6) rfl
  have c7 := HU3.out.cell (i := 7) rfl
  have c8 := HU3.out.cell (i := 8) rfl
  go_wp2_with fail
  refine (I3.out _ HV3.out).mono ?_
  rintro e w4 ⟨rfl, hb4⟩
  have HB4 := hid (below_then HB3.out hb4)
  have HV4 := hid (HV3.out.keep hb4)
  have HU4 := hid (HU3.out.keep hb4)
  clear hb4
  go_wp2
  go_ret
  exact ⟨by rw [HF.out]; rfl, HB4.out⟩
set_option maxHeartbeats 2000000 in
theorem wis_k1 (k1 : Int) (t1 x1 : List UInt8) (k2 : Int) (t2 x2 : List UInt8) (k3 : Int) (t3 x3 : List UInt8) (w : World) (ht1 : t1.length ≤ 1000000000000000) (hx1 : x1.length ≤ 1000000000000000) (ht2 : t2.length ≤ 1000000000000000) (hx2 : x2.length ≤ 1000000000000000) (ht3 : t3.length ≤ 1000000000000000) (hx3 : x3.length ≤ 1000000000000000) (hV : Vars w) (h1 : Tm.is k1 t1 x1 = true) (h2 : Tm.is k2 t2 x2 = true) (h3 : Tm.is k3 t3 x3 = true) (hk : 2 < k1) :
    Calls Tryz.prog 62 #[triV k1 t1 x1 k2 t2 x2 k3 t3 x3] w fun e w' => e = .returned (.bool (isTriI k1 t1 x1 k2 t2 x2 k3 t3 x3)) ∧ Below w.heap.size w w' := by
  have HB := hid (show Below w.heap.size w (new9 w k1 t1 x1 k2 t2 x2 k3 t3 x3) from (Below.refl _ _).alloc (Nat.le_refl _) _)
  have HV := hid (hV.keep HB.out)
  have HU := hid (new9_new w k1 t1 x1 k2 t2 x2 k3 t3 x3)
  have HF := hid (show isTriI k1 t1 x1 k2 t2 x2 k3 t3 x3 = false by unfold isTriI; rw [decide_eq_false (by omega)]; rfl)
  have I1 := hid (fun W h => ris_any k1 t1 x1 W (by omega) (by omega) h)
  rw [h1] at I1
  have I2 := hid (fun W h => ris_any k2 t2 x2 W (by omega) (by omega) h)
  rw [h2] at I2
  have I3 := hid (fun W h => ris_any k3 t3 x3 W (by omega) (by omega) h)
  rw [h3] at I3
  clear hV h1 h2 h3
  go_enter Tryz.func62, Tryz.ntmps62
  go_wp2_with (show wpList _ _ _ _ _ (new9 w k1 t1 x1 k2 t2 x2 k3 t3 x3); obtain ⟨w1, hw1⟩ : ∃ w1, w1 = new9 w k1 t1 x1 k2 t2 x2 k3 t3 x3 := ⟨_, rfl⟩; rw [← hw1] at HB HV HU ⊢; clear hw1; have c0 := HU.out.cell (i := 0) rfl; have c1 := HU.out.cell (i := 1) rfl; have c2 := HU.out.cell (i := 2) rfl)
  refine (I1.out _ HV.out).mono ?_
  rintro e w2 ⟨rfl, hb2⟩
  have HB2 := hid (below_then HB.out hb2)
  have HV2 := hid (HV.out.keep hb2)
  have HU2 := hid (HU.out.keep hb2)
  clear hb2
  have c3 := HU2.out.cell (i := 3) rfl
  have c4 := HU2.out.cell (i := 4) rfl
  have c5 := HU2.out.cell (i := 5) rfl
  go_wp2_with fail
  refine (I2.out _ HV2.out).mono ?_
  rintro e w3 ⟨rfl, hb3⟩
  have HB3 := hid (below_then HB2.out hb3)
  have HV3 := hid (HV2.out.keep hb3)
  have HU3 := hid (HU2.out.keep hb3)
  clear hb3
  have c6 := HU3.out.cell (i := 6) rfl
  have c7 := HU3.out.cell (i := 7) rfl
  have c8 := HU3.out.cell (i := 8) rfl
  go_wp2_with fail
  refine (I3.out _ HV3.out).mono ?_
  rintro e w4 ⟨rfl, hb4⟩
  have HB4 := hid (below_then HB3.out hb4)
  have HV4 := hid (HV3.out.keep hb4)
  have HU4 := hid (HU3.out.keep hb4)
  clear hb4
  have c0 := HU4.out.cell (i := 0) rfl
  have c3 := HU4.out.cell (i := 3) rfl
  go_wp2
  go_ret
  exact ⟨by rw [HF.out]; rfl, HB4.out⟩
set_option maxHeartbeats 2000000 in
theorem wis_k2 (k1 : Int) (t1 x1 : List UInt8) (k2 : Int) (t2 x2 : List UInt8) (k3 : Int) (t3 x3 : List UInt8) (w : World) (ht1 : t1.length ≤ 1000000000000000) (hx1 : x1.length ≤ 1000000000000000) (ht2 : t2.length ≤ 1000000000000000) (hx2 : x2.length ≤ 1000000000000000) (ht3 : t3.length ≤ 1000000000000000) (hx3 : x3.length ≤ 1000000000000000) (hV : Vars w) (h1 : Tm.is k1 t1 x1 = true) (h2 : Tm.is k2 t2 x2 = true) (h3 : Tm.is k3 t3 x3 = true) (hk : k1 ≤ 2) (hk2 : k2 ≠ 1) :
    Calls Tryz.prog 62 #[triV k1 t1 x1 k2 t2 x2 k3 t3 x3] w fun e w' => e = .returned (.bool (isTriI k1 t1 x1 k2 t2 x2 k3 t3 x3)) ∧ Below w.heap.size w w' := by
  have HB := hid (show Below w.heap.size w (new9 w k1 t1 x1 k2 t2 x2 k3 t3 x3) from (Below.refl _ _).alloc (Nat.le_refl _) _)
  have HV := hid (hV.keep HB.out)
  have HU := hid (new9_new w k1 t1 x1 k2 t2 x2 k3 t3 x3)
  have HF := hid (show isTriI k1 t1 x1 k2 t2 x2 k3 t3 x3 = false by unfold isTriI; rw [decide_eq_false hk2, Bool.and_false]; rfl)
  have I1 := hid (fun W h => ris_any k1 t1 x1 W (by omega) (by omega) h)
  rw [h1] at I1
  have I2 := hid (fun W h => ris_any k2 t2 x2 W (by omega) (by omega) h)
  rw [h2] at I2
  have I3 := hid (fun W h => ris_any k3 t3 x3 W (by omega) (by omega) h)
  rw [h3] at I3
  have e1 : (k2 == 1) = false := beq_eq_false_iff_ne.2 hk2
  clear hV h1 h2 h3
  go_enter Tryz.func62, Tryz.ntmps62
  go_wp2_with (show wpList _ _ _ _ _ (new9 w k1 t1 x1 k2 t2 x2 k3 t3 x3); obtain ⟨w1, hw1⟩ : ∃ w1, w1 = new9 w k1 t1 x1 k2 t2 x2 k3 t3 x3 := ⟨_, rfl⟩; rw [← hw1] at HB HV HU ⊢; clear hw1; have c0 := HU.out.cell (i := 0) rfl; have c1 := HU.out.cell (i := 1) rfl; have c2 := HU.out.cell (i := 2) rfl)
  refine (I1.out _ HV.out).mono ?_
  rintro e w2 ⟨rfl, hb2⟩
  have HB2 := hid (below_then HB.out hb2)
  have HV2 := hid (HV.out.keep hb2)
  have HU2 := hid (HU.out.keep hb2)
  clear hb2
  have c3 := HU2.out.cell (i := 3) rfl
  have c4 := HU2.out.cell (i := 4) rfl
  have c5 := HU2.out.cell (i := 5) rfl
  go_wp2_with fail
  refine (I2.out _ HV2.out).mono ?_
  rintro e w3 ⟨rfl, hb3⟩
  have HB3 := hid (below_then HB2.out hb3)
  have HV3 := hid (HV2.out.keep hb3)
  have HU3 := hid (HU2.out.keep hb3)
  clear hb3
  have c6 := HU3.out.cell (i := 6) rfl
  have c7 := HU3.out.cell (i := 7) rfl
  have c8 := HU3.out.cell (i := 8) rfl
  go_wp2_with fail
  refine (I3.out _ HV3.out).mono ?_
  rintro e w4 ⟨rfl, hb4⟩
  have HB4 := hid (below_then HB3.out hb4)
  have HV4 := hid (HV3.out.keep hb4)
  have HU4 := hid (HU3.out.keep hb4)
  clear hb4
  have c0 := HU4.out.cell (i := 0) rfl
  have c3 := HU4.out.cell (i := 3) rfl
  go_wp2
  go_ret
  exact ⟨by rw [HF.out]; rfl, HB4.out⟩
set_option maxHeartbeats 2000000 in
theorem wis_ok (k1 : Int) (t1 x1 : List UInt8) (k2 : Int) (t2 x2 : List UInt8) (k3 : Int) (t3 x3 : List UInt8) (w : World) (ht1 : t1.length ≤ 1000000000000000) (hx1 : x1.length ≤ 1000000000000000) (ht2 : t2.length ≤ 1000000000000000) (hx2 : x2.length ≤ 1000000000000000) (ht3 : t3.length ≤ 1000000000000000) (hx3 : x3.length ≤ 1000000000000000) (hV : Vars w) (h1 : Tm.is k1 t1 x1 = true) (h2 : Tm.is k2 t2 x2 = true) (h3 : Tm.is k3 t3 x3 = true) (hk : k1 ≤ 2) (hk2 : k2 = 1) :
    Calls Tryz.prog 62 #[triV k1 t1 x1 k2 t2 x2 k3 t3 x3] w fun e w' => e = .returned (.bool (isTriI k1 t1 x1 k2 t2 x2 k3 t3 x3)) ∧ Below w.heap.size w w' := by
  have HB := hid (show Below w.heap.size w (new9 w k1 t1 x1 k2 t2 x2 k3 t3 x3) from (Below.refl _ _).alloc (Nat.le_refl _) _)
  have HV := hid (hV.keep HB.out)
  have HU := hid (new9_new w k1 t1 x1 k2 t2 x2 k3 t3 x3)
  have HF := hid (show isTriI k1 t1 x1 k2 t2 x2 k3 t3 x3 = true by have := is_low h1; unfold isTriI; rw [h1, h2, h3, decide_eq_true (show k1 = 1 ∨ k1 = 2 by omega), decide_eq_true hk2]; rfl)
  have I1 := hid (fun W h => ris_any k1 t1 x1 W (by omega) (by omega) h)
  rw [h1] at I1
  have I2 := hid (fun W h => ris_any k2 t2 x2 W (by omega) (by omega) h)
  rw [h2] at I2
  have I3 := hid (fun W h => ris_any k3 t3 x3 W (by omega) (by omega) h)
  rw [h3] at I3
  subst hk2
  clear hV h1 h2 h3
  go_enter Tryz.func62, Tryz.ntmps62
  go_wp2_with (show wpList _ _ _ _ _ (new9 w k1 t1 x1 1 t2 x2 k3 t3 x3); obtain ⟨w1, hw1⟩ : ∃ w1, w1 = new9 w k1 t1 x1 1 t2 x2 k3 t3 x3 := ⟨_, rfl⟩; rw [← hw1] at HB HV HU ⊢; clear hw1; have c0 := HU.out.cell (i := 0) rfl; have c1 := HU.out.cell (i := 1) rfl; have c2 := HU.out.cell (i := 2) rfl)
  refine (I1.out _ HV.out).mono ?_
  rintro e w2 ⟨rfl, hb2⟩
  have HB2 := hid (below_then HB.out hb2)
  have HV2 := hid (HV.out.keep hb2)
  have HU2 := hid (HU.out.keep hb2)
  clear hb2
  have c3 := HU2.out.cell (i := 3) rfl
  have c4 := HU2.out.cell (i := 4) rfl
  have c5 := HU2.out.cell (i := 5) rfl
  go_wp2_with fail
  refine (I2.out _ HV2.out).mono ?_
  rintro e w3 ⟨rfl, hb3⟩
  have HB3 := hid (below_then HB2.out hb3)
  have HV3 := hid (HV2.out.keep hb3)
  have HU3 := hid (HU2.out.keep hb3)
  clear hb3
  have c6 := HU3.out.cell (i := 6) rfl
  have c7 := HU3.out.cell (i := 7) rfl
  have c8 := HU3.out.cell (i := 8) rfl
  go_wp2_with fail
  refine (I3.out _ HV3.out).mono ?_
  rintro e w4 ⟨rfl, hb4⟩
  have HB4 := hid (below_then HB3.out hb4)
  have HV4 := hid (HV3.out.keep hb4)
  have HU4 := hid (HU3.out.keep hb4)
  clear hb4
  have c0 := HU4.out.cell (i := 0) rfl
  have c3 := HU4.out.cell (i := 3) rfl
  go_wp2
  go_ret
  exact ⟨by rw [HF.out]; rfl, HB4.out⟩
theorem wis_any (k1 : Int) (t1 x1 : List UInt8) (k2 : Int) (t2 x2 : List UInt8) (k3 : Int) (t3 x3 : List UInt8) (w : World) (ht1 : t1.length ≤ 1000000000000000) (hx1 : x1.length ≤ 1000000000000000) (ht2 : t2.length ≤ 1000000000000000) (hx2 : x2.length ≤ 1000000000000000) (ht3 : t3.length ≤ 1000000000000000) (hx3 : x3.length ≤ 1000000000000000) (hV : Vars w) :
    Calls Tryz.prog 62 #[triV k1 t1 x1 k2 t2 x2 k3 t3 x3] w fun e w' => e = .returned (.bool (isTriI k1 t1 x1 k2 t2 x2 k3 t3 x3)) ∧ Below w.heap.size w w' := by
  cases h1 : Tm.is k1 t1 x1
  · exact wis_1 k1 t1 x1 k2 t2 x2 k3 t3 x3 w ht1 hx1 ht2 hx2 ht3 hx3 hV h1
  · cases h2 : Tm.is k2 t2 x2
    · exact wis_2 k1 t1 x1 k2 t2 x2 k3 t3 x3 w ht1 hx1 ht2 hx2 ht3 hx3 hV h1 h2
    · cases h3 : Tm.is k3 t3 x3
      · exact wis_3 k1 t1 x1 k2 t2 x2 k3 t3 x3 w ht1 hx1 ht2 hx2 ht3 hx3 hV h1 h2 h3
      · by_cases hk : k1 ≤ 2
        · by_cases hk2 : k2 = 1
          · exact wis_ok k1 t1 x1 k2 t2 x2 k3 t3 x3 w ht1 hx1 ht2 hx2 ht3 hx3 hV h1 h2 h3 hk hk2
          · exact wis_k2 k1 t1 x1 k2 t2 x2 k3 t3 x3 w ht1 hx1 ht2 hx2 ht3 hx3 hV h1 h2 h3 hk hk2
        · exact wis_k1 k1 t1 x1 k2 t2 x2 k3 t3 x3 w ht1 hx1 ht2 hx2 ht3 hx3 hV h1 h2 h3 (by omega)
end Go.Proofs.YtjaebndajhppgaaGreatDoor
