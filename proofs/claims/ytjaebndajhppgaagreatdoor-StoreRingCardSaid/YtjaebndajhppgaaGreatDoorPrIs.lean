/- lines.Is: whether a triple may be. -/
import Derived.Test.YtjaebndajhppgaaGreatDoorTmRIs
import Derived.Test.YtjaebndajhppgaaGreatDoorGTm3
namespace Go.Proofs.YtjaebndajhppgaaGreatDoor
set_option linter.unusedVariables false
set_option linter.unusedSimpArgs false
set_option maxRecDepth 100000
open Go.ChangeShapes Go.WideShapes Go.ChangeAt Go.RowKit
def isTriI (k1 : Int) (t1 x1 : List UInt8) (k2 : Int) (t2 x2 : List UInt8) (k3 : Int) (t3 x3 : List UInt8) : Bool :=
  decide (k1 = 1 ∨ k1 = 2) && decide (k2 = 1) && (Tm.is k1 t1 x1 && Tm.is k2 t2 x2 && Tm.is k3 t3 x3)
abbrev triV (k1 : Int) (t1 x1 : List UInt8) (k2 : Int) (t2 x2 : List UInt8) (k3 : Int) (t3 x3 : List UInt8) : Value :=
  .agg #[.int .i64 k1, str t1, str x1, .int .i64 k2, str t2, str x2, .int .i64 k3, str t3, str x3]
def new9 (w : World) (k1 : Int) (t1 x1 : List UInt8) (k2 : Int) (t2 x2 : List UInt8) (k3 : Int) (t3 x3 : List UInt8) : World :=
  w.alloc (.cells #[.int .i64 k1, str t1, str x1, .int .i64 k2, str t2, str x2, .int .i64 k3, str t3, str x3] 67)
theorem new9_new (w : World) (k1 : Int) (t1 x1 : List UInt8) (k2 : Int) (t2 x2 : List UInt8) (k3 : Int) (t3 x3 : List UInt8) : Blk (new9 w k1 t1 x1 k2 t2 x2 k3 t3 x3) w.heap.size [.int .i64 k1, str t1, str x1, .int .i64 k2, str t2, str x2, .int .i64 k3, str t3, str x3] 67 := Blk.new' rfl rfl
set_option maxHeartbeats 2000000 in
theorem pis_subj (k1 : Int) (t1 x1 : List UInt8) (k2 : Int) (t2 x2 : List UInt8) (k3 : Int) (t3 x3 : List UInt8) (w : World) (ht1 : t1.length ≤ 1000000000) (hx1 : x1.length ≤ 1000000000) (ht2 : t2.length ≤ 1000000000) (hx2 : x2.length ≤ 1000000000) (ht3 : t3.length ≤ 1000000000) (hx3 : x3.length ≤ 1000000000) (hV : Vars w) (hk : k1 ≠ 1 ∧ k1 ≠ 2) :
    Calls Tryz.prog 126 #[triV k1 t1 x1 k2 t2 x2 k3 t3 x3] w fun e w' => e = .returned (.bool (isTriI k1 t1 x1 k2 t2 x2 k3 t3 x3)) ∧ Below w.heap.size w w' := by
  have HB := hid (show Below w.heap.size w (new9 w k1 t1 x1 k2 t2 x2 k3 t3 x3) from (Below.refl _ _).alloc (Nat.le_refl _) _)
  have HV := hid (hV.keep HB.out)
  have HU := hid (new9_new w k1 t1 x1 k2 t2 x2 k3 t3 x3)
  have HF := hid (show isTriI k1 t1 x1 k2 t2 x2 k3 t3 x3 = false by unfold isTriI; rw [decide_eq_false (by omega)]; rfl)
  have e1 : (k1 == 1) = false := beq_eq_false_iff_ne.2 hk.1
  have e2 : (k1 == 2) = false := beq_eq_false_iff_ne.2 hk.2
  have n1 : (k1 != 1) = true := by simp [bne, e1]
  have n2 : (k1 != 2) = true := by simp [bne, e2]
  clear hV hk
  go_enter Tryz.func126, Tryz.ntmps126
  go_wp2_with (show wpList _ _ _ _ _ (new9 w k1 t1 x1 k2 t2 x2 k3 t3 x3); obtain ⟨w1, hw1⟩ : ∃ w1, w1 = new9 w k1 t1 x1 k2 t2 x2 k3 t3 x3 := ⟨_, rfl⟩; rw [← hw1] at HB HV HU ⊢; clear hw1; have c0 := HU.out.cell (i := 0) rfl; have c3 := HU.out.cell (i := 3) rfl)
  go_ret
  exact ⟨by rw [HF.out]; rfl, HB.out⟩
set_option maxHeartbeats 2000000 in
theorem pis_pred (k1 : Int) (t1 x1 : List UInt8) (k2 : Int) (t2 x2 : List UInt8) (k3 : Int) (t3 x3 : List UInt8) (w : World) (ht1 : t1.length ≤ 1000000000) (hx1 : x1.length ≤ 1000000000) (ht2 : t2.length ≤ 1000000000) (hx2 : x2.length ≤ 1000000000) (ht3 : t3.length ≤ 1000000000) (hx3 : x3.length ≤ 1000000000) (hV : Vars w) (hk : k1 = 1 ∨ k1 = 2) (hk2 : k2 ≠ 1) :
    Calls Tryz.prog 126 #[triV k1 t1 x1 k2 t2 x2 k3 t3 x3] w fun e w' => e = .returned (.bool (isTriI k1 t1 x1 k2 t2 x2 k3 t3 x3)) ∧ Below w.heap.size w w' := by
  have HB := hid (show Below w.heap.size w (new9 w k1 t1 x1 k2 t2 x2 k3 t3 x3) from (Below.refl _ _).alloc (Nat.le_refl _) _)
  have HV := hid (hV.keep HB.out)
  have HU := hid (new9_new w k1 t1 x1 k2 t2 x2 k3 t3 x3)
  have HF := hid (show isTriI k1 t1 x1 k2 t2 x2 k3 t3 x3 = false by unfold isTriI; rw [decide_eq_false hk2, Bool.and_false]; rfl)
  have e1 : (k2 == 1) = false := beq_eq_false_iff_ne.2 hk2
  have n1 : (k2 != 1) = true := by simp [bne, e1]
  clear hV hk2
  rcases hk with rfl | rfl
  all_goals
    go_enter Tryz.func126, Tryz.ntmps126
    go_wp2_with (show wpList _ _ _ _ _ (new9 w k1 t1 x1 k2 t2 x2 k3 t3 x3); obtain ⟨w1, hw1⟩ : ∃ w1, w1 = new9 w k1 t1 x1 k2 t2 x2 k3 t3 x3 := ⟨_, rfl⟩; rw [← hw1] at HB HV HU ⊢; clear hw1; have c0 := HU.out.cell (i := 0) rfl; have c3 := HU.out.cell (i := 3) rfl)
    go_ret
    exact ⟨by rw [HF.out]; rfl, HB.out⟩
set_option maxHeartbeats 2000000 in
theorem pis_terms (k1 : Int) (t1 x1 : List UInt8) (k2 : Int) (t2 x2 : List UInt8) (k3 : Int) (t3 x3 : List UInt8) (w : World) (ht1 : t1.length ≤ 1000000000) (hx1 : x1.length ≤ 1000000000) (ht2 : t2.length ≤ 1000000000) (hx2 : x2.length ≤ 1000000000) (ht3 : t3.length ≤ 1000000000) (hx3 : x3.length ≤ 1000000000) (hV : Vars w) (hk : k1 = 1 ∨ k1 = 2) (hk2 : k2 = 1) :
    Calls Tryz.prog 126 #[triV k1 t1 x1 k2 t2 x2 k3 t3 x3] w fun e w' => e = .returned (.bool (isTriI k1 t1 x1 k2 t2 x2 k3 t3 x3)) ∧ Below w.heap.size w w' := by
  have HB := hid (show Below w.heap.size w (new9 w k1 t1 x1 k2 t2 x2 k3 t3 x3) from (Below.refl _ _).alloc (Nat.le_refl _) _)
  have HV := hid (hV.keep HB.out)
  have HU := hid (new9_new w k1 t1 x1 k2 t2 x2 k3 t3 x3)
  have HF := hid (show isTriI k1 t1 x1 k2 t2 x2 k3 t3 x3 = (Tm.is k1 t1 x1 && Tm.is k2 t2 x2 && Tm.is k3 t3 x3) by unfold isTriI; rw [decide_eq_true hk, decide_eq_true hk2]; rfl)
  have I1 := hid (fun W h => tis_any k1 t1 x1 W (by omega) (by omega) h)
  have I2 := hid (fun W h => tis_any k2 t2 x2 W (by omega) (by omega) h)
  have I3 := hid (fun W h => tis_any k3 t3 x3 W (by omega) (by omega) h)
  obtain ⟨b1, h1⟩ : ∃ b, b = Tm.is k1 t1 x1 := ⟨_, rfl⟩
  obtain ⟨b2, h2⟩ : ∃ b, b = Tm.is k2 t2 x2 := ⟨_, rfl⟩
  obtain ⟨b3, h3⟩ : ∃ b, b = Tm.is k3 t3 x3 := ⟨_, rfl⟩
  rw [← h1, ← h2, ← h3] at HF
  rw [← h1] at I1
  rw [← h2] at I2
  rw [← h3] at I3
  clear h1 h2 h3 hV
  subst hk2
  rcases hk with rfl | rfl
  all_goals
    cases b1
    · go_enter Tryz.func126, Tryz.ntmps126
      go_wp2_with (show wpList _ _ _ _ _ (new9 w k1 t1 x1 k2 t2 x2 k3 t3 x3); obtain ⟨w1, hw1⟩ : ∃ w1, w1 = new9 w k1 t1 x1 k2 t2 x2 k3 t3 x3 := ⟨_, rfl⟩; rw [← hw1] at HB HV HU ⊢; clear hw1; have c0 := HU.out.cell (i := 0) rfl; have c3 := HU.out.cell (i := 3) rfl; have c1 := HU.out.cell (i := 1) rfl; have c2 := HU.out.cell (i := 2) rfl)
      refine (I1.out _ HV.out).mono ?_
      rintro e w2 ⟨rfl, hb2⟩
      have HB2 := hid (below_then HB.out hb2)
      go_wp2
      go_ret
      exact ⟨by rw [HF.out]; rfl, HB2.out⟩
    · cases b2
      · go_enter Tryz.func126, Tryz.ntmps126
        go_wp2_with (show wpList _ _ _ _ _ (new9 w k1 t1 x1 k2 t2 x2 k3 t3 x3); obtain ⟨w1, hw1⟩ : ∃ w1, w1 = new9 w k1 t1 x1 k2 t2 x2 k3 t3 x3 := ⟨_, rfl⟩; rw [← hw1] at HB HV HU ⊢; clear hw1; have c0 := HU.out.cell (i := 0) rfl; have c3 := HU.out.cell (i := 3) rfl; have c1 := HU.out.cell (i := 1) rfl; have c2 := HU.out.cell (i := 2) rfl)
        refine (I1.out _ HV.out).mono ?_
        rintro e w2 ⟨rfl, hb2⟩
        have HB2 := hid (below_then HB.out hb2)
        have HV2 := hid (HV.out.keep hb2)
        have HU2 := hid (HU.out.keep hb2)
        clear hb2
        have c3 := HU2.out.cell (i := 3) rfl; have c4 := HU2.out.cell (i := 4) rfl; have c5 := HU2.out.cell (i := 5) rfl
        go_wp2_with fail
        refine (I2.out _ HV2.out).mono ?_
        rintro e w3 ⟨rfl, hb3⟩
        have HB3 := hid (below_then HB2.out hb3)
        go_wp2
        go_ret
        exact ⟨by rw [HF.out]; rfl, HB3.out⟩
      · go_enter Tryz.func126, Tryz.ntmps126
        go_wp2_with (show wpList _ _ _ _ _ (new9 w k1 t1 x1 k2 t2 x2 k3 t3 x3); obtain ⟨w1, hw1⟩ : ∃ w1, w1 = new9 w k1 t1 x1 k2 t2 x2 k3 t3 x3 := ⟨_, rfl⟩; rw [← hw1] at HB HV HU ⊢; clear hw1; have c0 := HU.out.cell (i := 0) rfl; have c3 := HU.out.cell (i := 3) rfl; have c1 := HU.out.cell (i := 1) rfl; have c2 := HU.out.cell (i := 2) rfl)
        refine (I1.out _ HV.out).mono ?_
        rintro e w2 ⟨rfl, hb2⟩
        have HB2 := hid (below_then HB.out hb2)
        have HV2 := hid (HV.out.keep hb2)
        have HU2 := hid (HU.out.keep hb2)
        clear hb2
        have c3 := HU2.out.cell (i := 3) rfl; have c4 := HU2.out.cell (i := 4) rfl; have c5 := HU2.out.cell (i := 5) rfl
        go_wp2_with fail
        refine (I2.out _ HV2.out).mono ?_
        rintro e w3 ⟨rfl, hb3⟩
        have HB3 := hid (below_then HB2.out hb3)
        have HV3 := hid (HV2.out.keep hb3)
        have HU3 := hid (HU2.out.keep hb3)
        clear hb3
        have c6 := HU3.out.cell (i := 6) rfl; have c7 := HU3.out.cell (i := 7) rfl; have c8 := HU3.out.cell (i := 8) rfl
        go_wp2_with fail
        refine (I3.out _ HV3.out).mono ?_
        rintro e w4 ⟨rfl, hb4⟩
        have HB4 := hid (below_then HB3.out hb4)
        go_wp2
        go_ret
        exact ⟨by rw [HF.out]; rfl, HB4.out⟩
theorem pis_any (k1 : Int) (t1 x1 : List UInt8) (k2 : Int) (t2 x2 : List UInt8) (k3 : Int) (t3 x3 : List UInt8) (w : World) (ht1 : t1.length ≤ 1000000000) (hx1 : x1.length ≤ 1000000000) (ht2 : t2.length ≤ 1000000000) (hx2 : x2.length ≤ 1000000000) (ht3 : t3.length ≤ 1000000000) (hx3 : x3.length ≤ 1000000000) (hV : Vars w) :
    Calls Tryz.prog 126 #[triV k1 t1 x1 k2 t2 x2 k3 t3 x3] w fun e w' => e = .returned (.bool (isTriI k1 t1 x1 k2 t2 x2 k3 t3 x3)) ∧ Below w.heap.size w w' := by
  by_cases hk : k1 = 1 ∨ k1 = 2
  · by_cases hk2 : k2 = 1
    · exact pis_terms k1 t1 x1 k2 t2 x2 k3 t3 x3 w ht1 hx1 ht2 hx2 ht3 hx3 hV hk hk2
    · exact pis_pred k1 t1 x1 k2 t2 x2 k3 t3 x3 w ht1 hx1 ht2 hx2 ht3 hx3 hV hk hk2
  · exact pis_subj k1 t1 x1 k2 t2 x2 k3 t3 x3 w ht1 hx1 ht2 hx2 ht3 hx3 hV (by omega)
end Go.Proofs.YtjaebndajhppgaaGreatDoor
