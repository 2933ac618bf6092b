/- The document's Is. -/
import Derived.Test.YtjaebndajhppgaaGreatDoorGTm3
import Derived.Test.YtjaebndajhppgaaGreatDoorGTm1
namespace Go.Proofs.YtjaebndajhppgaaGreatDoor
set_option linter.unusedVariables false
set_option linter.unusedSimpArgs false
set_option maxRecDepth 100000
open Go.ChangeShapes Go.WideShapes Go.ChangeAt Go.RowKit


set_option maxHeartbeats 8000000 in
theorem ris_kind (k : Int) (t x : List UInt8) (w : World) (ht : t.length ≤ 9223372036854775807) (hx : x.length ≤ 9223372036854775807) (hV : Vars w) (T : Bool) (hT : T = Tm.text t) :
    Calls Tryz.prog 106 #[tmV k t x] w fun e w' => e = .returned (.bool (Tm.is k t x)) ∧ Below w.heap.size w w' := by
  have HW := hid (show Below w.heap.size w (w.alloc (.cells #[.int .i64 k, str t, str x] 61)) from (Below.refl _ _).alloc (Nat.le_refl _) _)
  have HV := hid (hV.keep HW.out)
  have VA := hid (fun w h => valid_any t w ht h)
  have RI := hid (fun w h => riri_any t w ht h)
  have RX := hid (fun w h => riri_any x w hx h)
  have LB := hid (fun w => rlabel_any t w ht)
  have LG := hid (fun w => rlang_any x w hx)
  unfold Tm.is
  rw [← hT]
  obtain ⟨V, hv⟩ : ∃ b, b = Lib.validD t := ⟨_, rfl⟩
  obtain ⟨I, hi⟩ : ∃ b, b = Tm.isIRI t := ⟨_, rfl⟩
  obtain ⟨J, hj⟩ : ∃ b, b = Tm.isIRI x := ⟨_, rfl⟩
  obtain ⟨B, hb⟩ : ∃ b, b = Tm.label t := ⟨_, rfl⟩
  obtain ⟨G, hg⟩ : ∃ b, b = Tm.lang x := ⟨_, rfl⟩
  unfold Tm.text at hT
  rw [← hv] at hT VA
  rw [← hi] at RI ⊢
  rw [← hj] at RX ⊢
  rw [← hb] at LB ⊢
  rw [← hg] at LG ⊢
  clear hv hi hj hb hg hV
  have HL : (t.length ≤ 30 ∧ T = V) ∨ (30 < t.length ∧ T = false) := by
    by_cases h : t.length ≤ 30
    · exact .inl ⟨h, by rw [hT, decide_eq_true h, Bool.true_and]⟩
    · exact .inr ⟨by omega, by rw [hT, decide_eq_false h, Bool.false_and]⟩
  clear hT
  have HX : (x = [] ∧ x.isEmpty = true) ∨ (x ≠ [] ∧ x.isEmpty = false) := by cases x <;> simp
  rcases (show k = 1 ∨ k = 2 ∨ k = 3 ∨ k = 4 ∨ k = 5 ∨ (k ≠ 1 ∧ k ≠ 2 ∧ k ≠ 3 ∧ k ≠ 4 ∧ k ≠ 5) by omega) with h | h | h | h | h | h
  · subst h
    rw [if_pos rfl]
    rcases HL with ⟨hl, rfl⟩ | ⟨hl, rfl⟩
    · rcases HX with ⟨rfl, hx0⟩ | ⟨_, hx0⟩
      · rw [hx0]
        clear hx0
        cases T <;> cases I
        · go_enter Tryz.func106, Tryz.ntmps106
          go_wp2_with fail
          refine (VA.out _ HV.out.1).mono ?_
          rintro e w1 ⟨rfl, hb⟩
          obtain ⟨k0, k1, k2, hB⟩ := tm_cells hb
          have HV1 := hid (HV.out.keep hb)
          have HB := hid hB
          clear hb hB
          go_wp2_with fail
          refine (RI.out _ HV1.out.1).mono ?_
          rintro e w2 ⟨rfl, hb⟩
          have k3 := below_keep hb k2
          have HB2 := hid (below_then HB.out hb)
          clear hb
          go_wp2
          go_ret
          exact ⟨by first | rfl | simp, HB2.out⟩
        · go_enter Tryz.func106, Tryz.ntmps106
          go_wp2_with fail
          refine (VA.out _ HV.out.1).mono ?_
          rintro e w1 ⟨rfl, hb⟩
          obtain ⟨k0, k1, k2, hB⟩ := tm_cells hb
          have HV1 := hid (HV.out.keep hb)
          have HB := hid hB
          clear hb hB
          go_wp2_with fail
          refine (RI.out _ HV1.out.1).mono ?_
          rintro e w2 ⟨rfl, hb⟩
          have k3 := below_keep hb k2
          have HB2 := hid (below_then HB.out hb)
          clear hb
          go_wp2
          go_ret
          exact ⟨by first | rfl | simp, HB2.out⟩
        · go_enter Tryz.func106, Tryz.ntmps106
          go_wp2_with fail
          refine (VA.out _ HV.out.1).mono ?_
          rintro e w1 ⟨rfl, hb⟩
          obtain ⟨k0, k1, k2, hB⟩ := tm_cells hb
          have HV1 := hid (HV.out.keep hb)
          have HB := hid hB
          clear hb hB
          go_wp2_with fail
          refine (RI.out _ HV1.out.1).mono ?_
          rintro e w2 ⟨rfl, hb⟩
          have k3 := below_keep hb k2
          have HB2 := hid (below_then HB.out hb)
          clear hb
          go_wp2
          go_ret
          exact ⟨by first | rfl | simp, HB2.out⟩
        · go_enter Tryz.func106, Tryz.ntmps106
          go_wp2_with fail
          refine (VA.out _ HV.out.1).mono ?_
          rintro e w1 ⟨rfl, hb⟩
          obtain ⟨k0, k1, k2, hB⟩ := tm_cells hb
          have HV1 := hid (HV.out.keep hb)
          have HB := hid hB
          clear hb hB
          go_wp2_with fail
          refine (RI.out _ HV1.out.1).mono ?_
          rintro e w2 ⟨rfl, hb⟩
          have k3 := below_keep hb k2
          have HB2 := hid (below_then HB.out hb)
          clear hb
          go_wp2
          go_ret
          exact ⟨by first | rfl | simp, HB2.out⟩
      · rw [hx0]
        cases T <;> cases I
        · go_enter Tryz.func106, Tryz.ntmps106
          go_wp2_with fail
          refine (VA.out _ HV.out.1).mono ?_
          rintro e w1 ⟨rfl, hb⟩
          obtain ⟨k0, k1, k2, hB⟩ := tm_cells hb
          have HV1 := hid (HV.out.keep hb)
          have HB := hid hB
          clear hb hB
          go_wp2_with fail
          refine (RI.out _ HV1.out.1).mono ?_
          rintro e w2 ⟨rfl, hb⟩
          have k3 := below_keep hb k2
          have HB2 := hid (below_then HB.out hb)
          clear hb
          go_wp2
          go_ret
          exact ⟨by first | rfl | simp, HB2.out⟩
        · go_enter Tryz.func106, Tryz.ntmps106
          go_wp2_with fail
          refine (VA.out _ HV.out.1).mono ?_
          rintro e w1 ⟨rfl, hb⟩
          obtain ⟨k0, k1, k2, hB⟩ := tm_cells hb
          have HV1 := hid (HV.out.keep hb)
          have HB := hid hB
          clear hb hB
          go_wp2_with fail
          refine (RI.out _ HV1.out.1).mono ?_
          rintro e w2 ⟨rfl, hb⟩
          have k3 := below_keep hb k2
          have HB2 := hid (below_then HB.out hb)
          clear hb
          go_wp2
          go_ret
          exact ⟨by first | rfl | simp, HB2.out⟩
        · go_enter Tryz.func106, Tryz.ntmps106
          go_wp2_with fail
          refine (VA.out _ HV.out.1).mono ?_
          rintro e w1 ⟨rfl, hb⟩
          obtain ⟨k0, k1, k2, hB⟩ := tm_cells hb
          have HV1 := hid (HV.out.keep hb)
          have HB := hid hB
          clear hb hB
          go_wp2_with fail
          refine (RI.out _ HV1.out.1).mono ?_
          rintro e w2 ⟨rfl, hb⟩
          have k3 := below_keep hb k2
          have HB2 := hid (below_then HB.out hb)
          clear hb
          go_wp2
          go_ret
          exact ⟨by first | rfl | simp, HB2.out⟩
        · go_enter Tryz.func106, Tryz.ntmps106
          go_wp2_with fail
          refine (VA.out _ HV.out.1).mono ?_
          rintro e w1 ⟨rfl, hb⟩
          obtain ⟨k0, k1, k2, hB⟩ := tm_cells hb
          have HV1 := hid (HV.out.keep hb)
          have HB := hid hB
          clear hb hB
          go_wp2_with fail
          refine (RI.out _ HV1.out.1).mono ?_
          rintro e w2 ⟨rfl, hb⟩
          have k3 := below_keep hb k2
          have HB2 := hid (below_then HB.out hb)
          clear hb
          go_wp2
          go_ret
          exact ⟨by first | rfl | simp, HB2.out⟩
    · rcases HX with ⟨rfl, hx0⟩ | ⟨_, hx0⟩
      · rw [hx0]
        clear hx0
        cases V <;> cases I
        · go_enter Tryz.func106, Tryz.ntmps106
          go_wp2_with fail
          refine (VA.out _ HV.out.1).mono ?_
          rintro e w1 ⟨rfl, hb⟩
          obtain ⟨k0, k1, k2, hB⟩ := tm_cells hb
          have HV1 := hid (HV.out.keep hb)
          have HB := hid hB
          clear hb hB
          go_wp2_with fail
          refine (RI.out _ HV1.out.1).mono ?_
          rintro e w2 ⟨rfl, hb⟩
          have k3 := below_keep hb k2
          have HB2 := hid (below_then HB.out hb)
          clear hb
          go_wp2
          go_ret
          exact ⟨by first | rfl | simp, HB2.out⟩
        · go_enter Tryz.func106, Tryz.ntmps106
          go_wp2_with fail
          refine (VA.out _ HV.out.1).mono ?_
          rintro e w1 ⟨rfl, hb⟩
          obtain ⟨k0, k1, k2, hB⟩ := tm_cells hb
          have HV1 := hid (HV.out.keep hb)
          have HB := hid hB
          clear hb hB
          go_wp2_with fail
          refine (RI.out _ HV1.out.1).mono ?_
          rintro e w2 ⟨rfl, hb⟩
          have k3 := below_keep hb k2
          have HB2 := hid (below_then HB.out hb)
          clear hb
          go_wp2
          go_ret
          exact ⟨by first | rfl | simp, HB2.out⟩
        · go_enter Tryz.func106, Tryz.ntmps106
          go_wp2_with fail
          refine (VA.out _ HV.out.1).mono ?_
          rintro e w1 ⟨rfl, hb⟩
          obtain ⟨k0, k1, k2, hB⟩ := tm_cells hb
          have HV1 := hid (HV.out.keep hb)
          have HB := hid hB
          clear hb hB
          go_wp2_with fail
          refine (RI.out _ HV1.out.1).mono ?_
          rintro e w2 ⟨rfl, hb⟩
          have k3 := below_keep hb k2
          have HB2 := hid (below_then HB.out hb)
          clear hb
          go_wp2
          go_ret
          exact ⟨by first | rfl | simp, HB2.out⟩
        · go_enter Tryz.func106, Tryz.ntmps106
          go_wp2_with fail
          refine (VA.out _ HV.out.1).mono ?_
          rintro e w1 ⟨rfl, hb⟩
          obtain ⟨k0, k1, k2, hB⟩ := tm_cells hb
          have HV1 := hid (HV.out.keep hb)
          have HB := hid hB
          clear hb hB
          go_wp2_with fail
          refine (RI.out _ HV1.out.1).mono ?_
          rintro e w2 ⟨rfl, hb⟩
          have k3 := below_keep hb k2
          have HB2 := hid (below_then HB.out hb)
          clear hb
          go_wp2
          go_ret
          exact ⟨by first | rfl | simp, HB2.out⟩
      · rw [hx0]
        cases V <;> cases I
        · go_enter Tryz.func106, Tryz.ntmps106
          go_wp2_with fail
          refine (VA.out _ HV.out.1).mono ?_
          rintro e w1 ⟨rfl, hb⟩
          obtain ⟨k0, k1, k2, hB⟩ := tm_cells hb
          have HV1 := hid (HV.out.keep hb)
          have HB := hid hB
          clear hb hB
          go_wp2_with fail
          refine (RI.out _ HV1.out.1).mono ?_
          rintro e w2 ⟨rfl, hb⟩
          have k3 := below_keep hb k2
          have HB2 := hid (below_then HB.out hb)
          clear hb
          go_wp2
          go_ret
          exact ⟨by first | rfl | simp, HB2.out⟩
        · go_enter Tryz.func106, Tryz.ntmps106
          go_wp2_with fail
          refine (VA.out _ HV.out.1).mono ?_
          rintro e w1 ⟨rfl, hb⟩
          obtain ⟨k0, k1, k2, hB⟩ := tm_cells hb
          have HV1 := hid (HV.out.keep hb)
          have HB := hid hB
          clear hb hB
          go_wp2_with fail
          refine (RI.out _ HV1.out.1).mono ?_
          rintro e w2 ⟨rfl, hb⟩
          have k3 := below_keep hb k2
          have HB2 := hid (below_then HB.out hb)
          clear hb
          go_wp2
          go_ret
          exact ⟨by first | rfl | simp, HB2.out⟩
        · go_enter Tryz.func106, Tryz.ntmps106
          go_wp2_with fail
          refine (VA.out _ HV.out.1).mono ?_
          rintro e w1 ⟨rfl, hb⟩
          obtain ⟨k0, k1, k2, hB⟩ := tm_cells hb
          have HV1 := hid (HV.out.keep hb)
          have HB := hid hB
          clear hb hB
          go_wp2_with fail
          refine (RI.out _ HV1.out.1).mono ?_
          rintro e w2 ⟨rfl, hb⟩
          have k3 := below_keep hb k2
          have HB2 := hid (below_then HB.out hb)
          clear hb
          go_wp2
          go_ret
          exact ⟨by first | rfl | simp, HB2.out⟩
        · go_enter Tryz.func106, Tryz.ntmps106
          go_wp2_with fail
          refine (VA.out _ HV.out.1).mono ?_
          rintro e w1 ⟨rfl, hb⟩
          obtain ⟨k0, k1, k2, hB⟩ := tm_cells hb
          have HV1 := hid (HV.out.keep hb)
          have HB := hid hB
          clear hb hB
          go_wp2_with fail
          refine (RI.out _ HV1.out.1).mono ?_
          rintro e w2 ⟨rfl, hb⟩
          have k3 := below_keep hb k2
          have HB2 := hid (below_then HB.out hb)
          clear hb
          go_wp2
          go_ret
          exact ⟨by first | rfl | simp, HB2.out⟩
  · subst h
    rw [if_neg (by decide)]
    rw [if_pos rfl]
    rcases HL with ⟨hl, rfl⟩ | ⟨hl, rfl⟩
    · rcases HX with ⟨rfl, hx0⟩ | ⟨_, hx0⟩
      · rw [hx0]
        clear hx0
        cases T <;> cases B
        · go_enter Tryz.func106, Tryz.ntmps106
          go_wp2_with fail
          refine (VA.out _ HV.out.1).mono ?_
          rintro e w1 ⟨rfl, hb⟩
          obtain ⟨k0, k1, k2, hB⟩ := tm_cells hb
          have HV1 := hid (HV.out.keep hb)
          have HB := hid hB
          clear hb hB
          go_wp2_with (go_at_call 149; refine (LB.out _).mono ?_; rintro e w' ⟨rfl, hw⟩; subst hw)
          go_ret
          exact ⟨by first | rfl | simp, HB.out⟩
        · go_enter Tryz.func106, Tryz.ntmps106
          go_wp2_with fail
          refine (VA.out _ HV.out.1).mono ?_
          rintro e w1 ⟨rfl, hb⟩
          obtain ⟨k0, k1, k2, hB⟩ := tm_cells hb
          have HV1 := hid (HV.out.keep hb)
          have HB := hid hB
          clear hb hB
          go_wp2_with (go_at_call 149; refine (LB.out _).mono ?_; rintro e w' ⟨rfl, hw⟩; subst hw)
          go_ret
          exact ⟨by first | rfl | simp, HB.out⟩
        · go_enter Tryz.func106, Tryz.ntmps106
          go_wp2_with fail
          refine (VA.out _ HV.out.1).mono ?_
          rintro e w1 ⟨rfl, hb⟩
          obtain ⟨k0, k1, k2, hB⟩ := tm_cells hb
          have HV1 := hid (HV.out.keep hb)
          have HB := hid hB
          clear hb hB
          go_wp2_with (go_at_call 149; refine (LB.out _).mono ?_; rintro e w' ⟨rfl, hw⟩; subst hw)
          go_ret
          exact ⟨by first | rfl | simp, HB.out⟩
        · go_enter Tryz.func106, Tryz.ntmps106
          go_wp2_with fail
          refine (VA.out _ HV.out.1).mono ?_
          rintro e w1 ⟨rfl, hb⟩
          obtain ⟨k0, k1, k2, hB⟩ := tm_cells hb
          have HV1 := hid (HV.out.keep hb)
          have HB := hid hB
          clear hb hB
          go_wp2_with (go_at_call 149; refine (LB.out _).mono ?_; rintro e w' ⟨rfl, hw⟩; subst hw)
          go_ret
          exact ⟨by first | rfl | simp, HB.out⟩
      · rw [hx0]
        cases T <;> cases B
        · go_enter Tryz.func106, Tryz.ntmps106
          go_wp2_with fail
          refine (VA.out _ HV.out.1).mono ?_
          rintro e w1 ⟨rfl, hb⟩
          obtain ⟨k0, k1, k2, hB⟩ := tm_cells hb
          have HV1 := hid (HV.out.keep hb)
          have HB := hid hB
          clear hb hB
          go_wp2_with (go_at_call 149; refine (LB.out _).mono ?_; rintro e w' ⟨rfl, hw⟩; subst hw)
          go_ret
          exact ⟨by first | rfl | simp, HB.out⟩
        · go_enter Tryz.func106, Tryz.ntmps106
          go_wp2_with fail
          refine (VA.out _ HV.out.1).mono ?_
          rintro e w1 ⟨rfl, hb⟩
          obtain ⟨k0, k1, k2, hB⟩ := tm_cells hb
          have HV1 := hid (HV.out.keep hb)
          have HB := hid hB
          clear hb hB
          go_wp2_with (go_at_call 149; refine (LB.out _).mono ?_; rintro e w' ⟨rfl, hw⟩; subst hw)
          go_ret
          exact ⟨by first | rfl | simp, HB.out⟩
        · go_enter Tryz.func106, Tryz.ntmps106
          go_wp2_with fail
          refine (VA.out _ HV.out.1).mono ?_
          rintro e w1 ⟨rfl, hb⟩
          obtain ⟨k0, k1, k2, hB⟩ := tm_cells hb
          have HV1 := hid (HV.out.keep hb)
          have HB := hid hB
          clear hb hB
          go_wp2_with (go_at_call 149; refine (LB.out _).mono ?_; rintro e w' ⟨rfl, hw⟩; subst hw)
          go_ret
          exact ⟨by first | rfl | simp, HB.out⟩
        · go_enter Tryz.func106, Tryz.ntmps106
          go_wp2_with fail
          refine (VA.out _ HV.out.1).mono ?_
          rintro e w1 ⟨rfl, hb⟩
          obtain ⟨k0, k1, k2, hB⟩ := tm_cells hb
          have HV1 := hid (HV.out.keep hb)
          have HB := hid hB
          clear hb hB
          go_wp2_with (go_at_call 149; refine (LB.out _).mono ?_; rintro e w' ⟨rfl, hw⟩; subst hw)
          go_ret
          exact ⟨by first | rfl | simp, HB.out⟩
    · rcases HX with ⟨rfl, hx0⟩ | ⟨_, hx0⟩
      · rw [hx0]
        clear hx0
        cases V <;> cases B
        · go_enter Tryz.func106, Tryz.ntmps106
          go_wp2_with fail
          refine (VA.out _ HV.out.1).mono ?_
          rintro e w1 ⟨rfl, hb⟩
          obtain ⟨k0, k1, k2, hB⟩ := tm_cells hb
          have HV1 := hid (HV.out.keep hb)
          have HB := hid hB
          clear hb hB
          go_wp2_with (go_at_call 149; refine (LB.out _).mono ?_; rintro e w' ⟨rfl, hw⟩; subst hw)
          go_ret
          exact ⟨by first | rfl | simp, HB.out⟩
        · go_enter Tryz.func106, Tryz.ntmps106
          go_wp2_with fail
          refine (VA.out _ HV.out.1).mono ?_
          rintro e w1 ⟨rfl, hb⟩
          obtain ⟨k0, k1, k2, hB⟩ := tm_cells hb
          have HV1 := hid (HV.out.keep hb)
          have HB := hid hB
          clear hb hB
          go_wp2_with (go_at_call 149; refine (LB.out _).mono ?_; rintro e w' ⟨rfl, hw⟩; subst hw)
          go_ret
          exact ⟨by first | rfl | simp, HB.out⟩
        · go_enter Tryz.func106, Tryz.ntmps106
          go_wp2_with fail
          refine (VA.out _ HV.out.1).mono ?_
          rintro e w1 ⟨rfl, hb⟩
          obtain ⟨k0, k1, k2, hB⟩ := tm_cells hb
          have HV1 := hid (HV.out.keep hb)
          have HB := hid hB
          clear hb hB
          go_wp2_with (go_at_call 149; refine (LB.out _).mono ?_; rintro e w' ⟨rfl, hw⟩; subst hw)
          go_ret
          exact ⟨by first | rfl | simp, HB.out⟩
        · go_enter Tryz.func106, Tryz.ntmps106
          go_wp2_with fail
          refine (VA.out _ HV.out.1).mono ?_
          rintro e w1 ⟨rfl, hb⟩
          obtain ⟨k0, k1, k2, hB⟩ := tm_cells hb
          have HV1 := hid (HV.out.keep hb)
          have HB := hid hB
          clear hb hB
          go_wp2_with (go_at_call 149; refine (LB.out _).mono ?_; rintro e w' ⟨rfl, hw⟩; subst hw)
          go_ret
          exact ⟨by first | rfl | simp, HB.out⟩
      · rw [hx0]
        cases V <;> cases B
        · go_enter Tryz.func106, Tryz.ntmps106
          go_wp2_with fail
          refine (VA.out _ HV.out.1).mono ?_
          rintro e w1 ⟨rfl, hb⟩
          obtain ⟨k0, k1, k2, hB⟩ := tm_cells hb
          have HV1 := hid (HV.out.keep hb)
          have HB := hid hB
          clear hb hB
          go_wp2_with (go_at_call 149; refine (LB.out _).mono ?_; rintro e w' ⟨rfl, hw⟩; subst hw)
          go_ret
          exact ⟨by first | rfl | simp, HB.out⟩
        · go_enter Tryz.func106, Tryz.ntmps106
          go_wp2_with fail
          refine (VA.out _ HV.out.1).mono ?_
          rintro e w1 ⟨rfl, hb⟩
          obtain ⟨k0, k1, k2, hB⟩ := tm_cells hb
          have HV1 := hid (HV.out.keep hb)
          have HB := hid hB
          clear hb hB
          go_wp2_with (go_at_call 149; refine (LB.out _).mono ?_; rintro e w' ⟨rfl, hw⟩; subst hw)
          go_ret
          exact ⟨by first | rfl | simp, HB.out⟩
        · go_enter Tryz.func106, Tryz.ntmps106
          go_wp2_with fail
          refine (VA.out _ HV.out.1).mono ?_
          rintro e w1 ⟨rfl, hb⟩
          obtain ⟨k0, k1, k2, hB⟩ := tm_cells hb
          have HV1 := hid (HV.out.keep hb)
          have HB := hid hB
          clear hb hB
          go_wp2_with (go_at_call 149; refine (LB.out _).mono ?_; rintro e w' ⟨rfl, hw⟩; subst hw)
          go_ret
          exact ⟨by first | rfl | simp, HB.out⟩
        · go_enter Tryz.func106, Tryz.ntmps106
          go_wp2_with fail
          refine (VA.out _ HV.out.1).mono ?_
          rintro e w1 ⟨rfl, hb⟩
          obtain ⟨k0, k1, k2, hB⟩ := tm_cells hb
          have HV1 := hid (HV.out.keep hb)
          have HB := hid hB
          clear hb hB
          go_wp2_with (go_at_call 149; refine (LB.out _).mono ?_; rintro e w' ⟨rfl, hw⟩; subst hw)
          go_ret
          exact ⟨by first | rfl | simp, HB.out⟩
  · subst h
    rw [if_neg (by decide)]
    rw [if_neg (by decide)]
    rw [if_pos rfl]
    rcases HL with ⟨hl, rfl⟩ | ⟨hl, rfl⟩
    · rcases HX with ⟨rfl, hx0⟩ | ⟨_, hx0⟩
      · rw [hx0]
        clear hx0
        cases T
        · go_enter Tryz.func106, Tryz.ntmps106
          go_wp2_with fail
          refine (VA.out _ HV.out.1).mono ?_
          rintro e w1 ⟨rfl, hb⟩
          obtain ⟨k0, k1, k2, hB⟩ := tm_cells hb
          have HV1 := hid (HV.out.keep hb)
          have HB := hid hB
          clear hb hB
          go_wp2
          go_ret
          exact ⟨by first | rfl | simp, HB.out⟩
        · go_enter Tryz.func106, Tryz.ntmps106
          go_wp2_with fail
          refine (VA.out _ HV.out.1).mono ?_
          rintro e w1 ⟨rfl, hb⟩
          obtain ⟨k0, k1, k2, hB⟩ := tm_cells hb
          have HV1 := hid (HV.out.keep hb)
          have HB := hid hB
          clear hb hB
          go_wp2
          go_ret
          exact ⟨by first | rfl | simp, HB.out⟩
      · rw [hx0]
        cases T
        · go_enter Tryz.func106, Tryz.ntmps106
          go_wp2_with fail
          refine (VA.out _ HV.out.1).mono ?_
          rintro e w1 ⟨rfl, hb⟩
          obtain ⟨k0, k1, k2, hB⟩ := tm_cells hb
          have HV1 := hid (HV.out.keep hb)
          have HB := hid hB
          clear hb hB
          go_wp2
          go_ret
          exact ⟨by first | rfl | simp, HB.out⟩
        · go_enter Tryz.func106, Tryz.ntmps106
          go_wp2_with fail
          refine (VA.out _ HV.out.1).mono ?_
          rintro e w1 ⟨rfl, hb⟩
          obtain ⟨k0, k1, k2, hB⟩ := tm_cells hb
          have HV1 := hid (HV.out.keep hb)
          have HB := hid hB
          clear hb hB
          go_wp2
          go_ret
          exact ⟨by first | rfl | simp, HB.out⟩
    · rcases HX with ⟨rfl, hx0⟩ | ⟨_, hx0⟩
      · rw [hx0]
        clear hx0
        cases V
        · go_enter Tryz.func106, Tryz.ntmps106
          go_wp2_with fail
          refine (VA.out _ HV.out.1).mono ?_
          rintro e w1 ⟨rfl, hb⟩
          obtain ⟨k0, k1, k2, hB⟩ := tm_cells hb
          have HV1 := hid (HV.out.keep hb)
          have HB := hid hB
          clear hb hB
          go_wp2
          go_ret
          exact ⟨by first | rfl | simp, HB.out⟩
        · go_enter Tryz.func106, Tryz.ntmps106
          go_wp2_with fail
          refine (VA.out _ HV.out.1).mono ?_
          rintro e w1 ⟨rfl, hb⟩
          obtain ⟨k0, k1, k2, hB⟩ := tm_cells hb
          have HV1 := hid (HV.out.keep hb)
          have HB := hid hB
          clear hb hB
          go_wp2
          go_ret
          exact ⟨by first | rfl | simp, HB.out⟩
      · rw [hx0]
        cases V
        · go_enter Tryz.func106, Tryz.ntmps106
          go_wp2_with fail
          refine (VA.out _ HV.out.1).mono ?_
          rintro e w1 ⟨rfl, hb⟩
          obtain ⟨k0, k1, k2, hB⟩ := tm_cells hb
          have HV1 := hid (HV.out.keep hb)
          have HB := hid hB
          clear hb hB
          go_wp2
          go_ret
          exact ⟨by first | rfl | simp, HB.out⟩
        · go_enter Tryz.func106, Tryz.ntmps106
          go_wp2_with fail
          refine (VA.out _ HV.out.1).mono ?_
          rintro e w1 ⟨rfl, hb⟩
          obtain ⟨k0, k1, k2, hB⟩ := tm_cells hb
          have HV1 := hid (HV.out.keep hb)
          have HB := hid hB
          clear hb hB
          go_wp2
          go_ret
          exact ⟨by first | rfl | simp, HB.out⟩
  · subst h
    rw [if_neg (by decide)]
    rw [if_neg (by decide)]
    rw [if_neg (by decide)]
    rw [if_pos rfl]
    rcases HL with ⟨hl, rfl⟩ | ⟨hl, rfl⟩
    · skip
      cases T <;> cases G
      · go_enter Tryz.func106, Tryz.ntmps106
        go_wp2_with fail
        refine (VA.out _ HV.out.1).mono ?_
        rintro e w1 ⟨rfl, hb⟩
        obtain ⟨k0, k1, k2, hB⟩ := tm_cells hb
        have HV1 := hid (HV.out.keep hb)
        have HB := hid hB
        clear hb hB
        go_wp2
        go_ret
        exact ⟨by first | rfl | simp, HB.out⟩
      · go_enter Tryz.func106, Tryz.ntmps106
        go_wp2_with fail
        refine (VA.out _ HV.out.1).mono ?_
        rintro e w1 ⟨rfl, hb⟩
        obtain ⟨k0, k1, k2, hB⟩ := tm_cells hb
        have HV1 := hid (HV.out.keep hb)
        have HB := hid hB
        clear hb hB
        go_wp2
        go_ret
        exact ⟨by first | rfl | simp, HB.out⟩
      · go_enter Tryz.func106, Tryz.ntmps106
        go_wp2_with fail
        refine (VA.out _ HV.out.1).mono ?_
        rintro e w1 ⟨rfl, hb⟩
        obtain ⟨k0, k1, k2, hB⟩ := tm_cells hb
        have HV1 := hid (HV.out.keep hb)
        have HB := hid hB
        clear hb hB
        go_wp2_with (go_at_call 150; refine (LG.out _).mono ?_; rintro e w' ⟨rfl, q, rfl⟩)
        go_ret
        exact ⟨by first | rfl | simp, below_drawn HB.out q⟩
      · go_enter Tryz.func106, Tryz.ntmps106
        go_wp2_with fail
        refine (VA.out _ HV.out.1).mono ?_
        rintro e w1 ⟨rfl, hb⟩
        obtain ⟨k0, k1, k2, hB⟩ := tm_cells hb
        have HV1 := hid (HV.out.keep hb)
        have HB := hid hB
        clear hb hB
        go_wp2_with (go_at_call 150; refine (LG.out _).mono ?_; rintro e w' ⟨rfl, q, rfl⟩)
        go_ret
        exact ⟨by first | rfl | simp, below_drawn HB.out q⟩
    · skip
      cases V <;> cases G
      · go_enter Tryz.func106, Tryz.ntmps106
        go_wp2_with fail
        refine (VA.out _ HV.out.1).mono ?_
        rintro e w1 ⟨rfl, hb⟩
        obtain ⟨k0, k1, k2, hB⟩ := tm_cells hb
        have HV1 := hid (HV.out.keep hb)
        have HB := hid hB
        clear hb hB
        go_wp2
        go_ret
        exact ⟨by first | rfl | simp, HB.out⟩
      · go_enter Tryz.func106, Tryz.ntmps106
        go_wp2_with fail
        refine (VA.out _ HV.out.1).mono ?_
        rintro e w1 ⟨rfl, hb⟩
        obtain ⟨k0, k1, k2, hB⟩ := tm_cells hb
        have HV1 := hid (HV.out.keep hb)
        have HB := hid hB
        clear hb hB
        go_wp2
        go_ret
        exact ⟨by first | rfl | simp, HB.out⟩
      · go_enter Tryz.func106, Tryz.ntmps106
        go_wp2_with fail
        refine (VA.out _ HV.out.1).mono ?_
        rintro e w1 ⟨rfl, hb⟩
        obtain ⟨k0, k1, k2, hB⟩ := tm_cells hb
        have HV1 := hid (HV.out.keep hb)
        have HB := hid hB
        clear hb hB
        go_wp2
        go_ret
        exact ⟨by first | rfl | simp, HB.out⟩
      · go_enter Tryz.func106, Tryz.ntmps106
        go_wp2_with fail
        refine (VA.out _ HV.out.1).mono ?_
        rintro e w1 ⟨rfl, hb⟩
        obtain ⟨k0, k1, k2, hB⟩ := tm_cells hb
        have HV1 := hid (HV.out.keep hb)
        have HB := hid hB
        clear hb hB
        go_wp2
        go_ret
        exact ⟨by first | rfl | simp, HB.out⟩
  · subst h
    rw [if_neg (by decide)]
    rw [if_neg (by decide)]
    rw [if_neg (by decide)]
    rw [if_neg (by decide)]
    rw [if_pos rfl]
    rcases HL with ⟨hl, rfl⟩ | ⟨hl, rfl⟩
    · skip
      cases T <;> cases J
      · go_enter Tryz.func106, Tryz.ntmps106
        go_wp2_with fail
        refine (VA.out _ HV.out.1).mono ?_
        rintro e w1 ⟨rfl, hb⟩
        obtain ⟨k0, k1, k2, hB⟩ := tm_cells hb
        have HV1 := hid (HV.out.keep hb)
        have HB := hid hB
        clear hb hB
        go_wp2
        go_ret
        exact ⟨by first | rfl | simp, HB.out⟩
      · go_enter Tryz.func106, Tryz.ntmps106
        go_wp2_with fail
        refine (VA.out _ HV.out.1).mono ?_
        rintro e w1 ⟨rfl, hb⟩
        obtain ⟨k0, k1, k2, hB⟩ := tm_cells hb
        have HV1 := hid (HV.out.keep hb)
        have HB := hid hB
        clear hb hB
        go_wp2
        go_ret
        exact ⟨by first | rfl | simp, HB.out⟩
      · go_enter Tryz.func106, Tryz.ntmps106
        go_wp2_with fail
        refine (VA.out _ HV.out.1).mono ?_
        rintro e w1 ⟨rfl, hb⟩
        obtain ⟨k0, k1, k2, hB⟩ := tm_cells hb
        have HV1 := hid (HV.out.keep hb)
        have HB := hid hB
        clear hb hB
        go_wp2_with fail
        refine (RX.out _ HV1.out.1).mono ?_
        rintro e w2 ⟨rfl, hb⟩
        have HB2 := hid (below_then HB.out hb)
        clear hb
        go_wp2
        go_ret
        exact ⟨by first | rfl | simp, HB2.out⟩
      · go_enter Tryz.func106, Tryz.ntmps106
        go_wp2_with fail
        refine (VA.out _ HV.out.1).mono ?_
        rintro e w1 ⟨rfl, hb⟩
        obtain ⟨k0, k1, k2, hB⟩ := tm_cells hb
        have HV1 := hid (HV.out.keep hb)
        have HB := hid hB
        clear hb hB
        go_wp2_with fail
        refine (RX.out _ HV1.out.1).mono ?_
        rintro e w2 ⟨rfl, hb⟩
        have HB2 := hid (below_then HB.out hb)
        clear hb
        go_wp2
        go_ret
        exact ⟨by first | rfl | simp, HB2.out⟩
    · skip
      cases V <;> cases J
      · go_enter Tryz.func106, Tryz.ntmps106
        go_wp2_with fail
        refine (VA.out _ HV.out.1).mono ?_
        rintro e w1 ⟨rfl, hb⟩
        obtain ⟨k0, k1, k2, hB⟩ := tm_cells hb
        have HV1 := hid (HV.out.keep hb)
        have HB := hid hB
        clear hb hB
        go_wp2
        go_ret
        exact ⟨by first | rfl | simp, HB.out⟩
      · go_enter Tryz.func106, Tryz.ntmps106
        go_wp2_with fail
        refine (VA.out _ HV.out.1).mono ?_
        rintro e w1 ⟨rfl, hb⟩
        obtain ⟨k0, k1, k2, hB⟩ := tm_cells hb
        have HV1 := hid (HV.out.keep hb)
        have HB := hid hB
        clear hb hB
        go_wp2
        go_ret
        exact ⟨by first | rfl | simp, HB.out⟩
      · go_enter Tryz.func106, Tryz.ntmps106
        go_wp2_with fail
        refine (VA.out _ HV.out.1).mono ?_
        rintro e w1 ⟨rfl, hb⟩
        obtain ⟨k0, k1, k2, hB⟩ := tm_cells hb
        have HV1 := hid (HV.out.keep hb)
        have HB := hid hB
        clear hb hB
        go_wp2
        go_ret
        exact ⟨by first | rfl | simp, HB.out⟩
      · go_enter Tryz.func106, Tryz.ntmps106
        go_wp2_with fail
        refine (VA.out _ HV.out.1).mono ?_
        rintro e w1 ⟨rfl, hb⟩
        obtain ⟨k0, k1, k2, hB⟩ := tm_cells hb
        have HV1 := hid (HV.out.keep hb)
        have HB := hid hB
        clear hb hB
        go_wp2
        go_ret
        exact ⟨by first | rfl | simp, HB.out⟩
  · obtain ⟨h1, h2, h3, h4, h5⟩ := h
    rw [if_neg h1, if_neg h2, if_neg h3, if_neg h4, if_neg h5]
    have b1 : (k == 1) = false := beq_eq_false_iff_ne.2 h1
    have b2 : (k == 2) = false := beq_eq_false_iff_ne.2 h2
    have b3 : (k == 3) = false := beq_eq_false_iff_ne.2 h3
    have b4 : (k == 4) = false := beq_eq_false_iff_ne.2 h4
    have b5 : (k == 5) = false := beq_eq_false_iff_ne.2 h5
    clear h1 h2 h3 h4 h5 HL HX
    cases V
    · go_enter Tryz.func106, Tryz.ntmps106
      go_wp2_with fail
      refine (VA.out _ HV.out.1).mono ?_
      rintro e w1 ⟨rfl, hb⟩
      obtain ⟨k0, k1, k2, hB⟩ := tm_cells hb
      have HV1 := hid (HV.out.keep hb)
      have HB := hid hB
      clear hb hB
      go_wp2
      go_ret
      exact ⟨by first | rfl | simp, HB.out⟩
    · go_enter Tryz.func106, Tryz.ntmps106
      go_wp2_with fail
      refine (VA.out _ HV.out.1).mono ?_
      rintro e w1 ⟨rfl, hb⟩
      obtain ⟨k0, k1, k2, hB⟩ := tm_cells hb
      have HV1 := hid (HV.out.keep hb)
      have HB := hid hB
      clear hb hB
      go_wp2
      go_ret
      exact ⟨by first | rfl | simp, HB.out⟩
theorem ris_any (k : Int) (t x : List UInt8) (w : World) (ht : t.length ≤ 9223372036854775807) (hx : x.length ≤ 9223372036854775807) (hV : Vars w) :
    Calls Tryz.prog 106 #[tmV k t x] w fun e w' => e = .returned (.bool (Tm.is k t x)) ∧ Below w.heap.size w w' := ris_kind k t x w ht hx hV _ rfl
end Go.Proofs.YtjaebndajhppgaaGreatDoor
