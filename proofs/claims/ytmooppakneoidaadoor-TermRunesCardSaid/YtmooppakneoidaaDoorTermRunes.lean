/- TermRunes: which runes may stand in an IRI, for every input. -/
import Derived.Test.YtmooppakneoidaaDoorTmLaid
import Derived.Test.YtmooppakneoidaaDoorTmRIs
import Derived.Test.YtmooppakneoidaaDoorTmEnc
import Derived.Laws.Cover4
namespace Go.Proofs.YtmooppakneoidaaDoor
set_option linter.unusedVariables false
set_option linter.unusedSimpArgs false
set_option maxRecDepth 100000
open Go.ChangeShapes Go.WideShapes Go.ChangeAt Go.RowKit

theorem runes_out (r : Int) (W : World) (h : r < 0 ∨ (0 ≤ r ∧ 1114111 < r) ∨ (0 ≤ r ∧ r ≤ 1114111 ∧ 55296 ≤ r ∧ r ≤ 57343)) :
    Calls Tryd.prog 8 #[.int .i32 r] W fun e W' => e = .returned (.bool true) ∧ Below W.heap.size W W' := by
  rcases h with h | ⟨h, h'⟩ | ⟨h, h', h2, h3⟩
  all_goals
    go_enter Tryd.func8, Tryd.ntmps8
    go_wp2
    go_ret
    exact ⟨rfl, Below.refl _ _⟩
theorem runesBytes_two (r : Nat) : Value.string (runesBytes [97, (r : Int)]) = str (97 :: Tm.enc r) := by
  unfold runesBytes Tm.enc str
  simp only [List.foldl_cons, List.foldl_nil]
  congr 1
theorem conv_runes (w : World) (r : Nat) : (convert 43 9 (.slice (some ⟨w.heap.size, 0, none⟩) 2 2)).run Tryd.prog (w.alloc (.cells #[.int .i32 97, .int .i32 (r : Int)] 21)) = .ok (str (97 :: Tm.enc r)) (w.alloc (.cells #[.int .i32 97, .int .i32 (r : Int)] 21)) := by
  rw [← runesBytes_two]
  exact run_convert_runes (P := Tryd.prog) _ 43 9 21 ⟨w.heap.size, 0, none⟩ 2 2 [97, (r : Int)] (Nat.le_refl 2) Tryd.underlying43 Tryd.underlying21 Tryd.underlying9 (fun j hj => by
    rw [add_cell rfl, Nat.zero_add, cell_new]
    match j, hj with
    | 0, _ => rfl
    | 1, _ => rfl
    | j + 2, h => exact absurd h (by simp))
theorem irune_true (r : Nat) (h : (33 ≤ r ∧ r ≤ 126 ∧ r ≠ 34 ∧ r ≠ 60 ∧ r ≠ 62 ∧ r ≠ 92 ∧ r ≠ 94 ∧ r ≠ 96 ∧ r ≠ 123 ∧ r ≠ 124 ∧ r ≠ 125) ∨ 160 ≤ r) : Tm.irune r = true := by
  unfold Tm.irune
  rcases h with ⟨h1, h2, h3⟩ | h
  · have : ([34, 60, 62, 92, 94, 96, 123, 124, 125] : List Nat).contains r = false := by simp; omega
    rw [this, decide_eq_true h1, decide_eq_true h2]; simp
  · rw [decide_eq_true h]; rfl
theorem irune_false (r : Nat) (h : r ≤ 32 ∨ (127 ≤ r ∧ r < 160)) : Tm.irune r = false := by
  unfold Tm.irune
  rw [decide_eq_false (show ¬ 160 ≤ r by omega)]
  rcases h with h | ⟨h, h2⟩
  · rw [decide_eq_false (show ¬ 33 ≤ r by omega)]; rfl
  · rw [decide_eq_false (show ¬ r ≤ 126 by omega)]; simp
set_option maxHeartbeats 4000000 in
theorem runes_in (r : Nat) (W : World) (hok : Tm.okRune r) (hV : Vars W) :
    Calls Tryd.prog 8 #[.int .i32 (r : Nat)] W fun e W' => e = .returned (.bool true) ∧ Below W.heap.size W W' := by
  have HV := hid hV
  have hel := Tm.enc_len r hok
  have cv := conv_runes W r
  have C1 := hid (fun w h => tiri_any (97 :: Tm.enc r) w (by simp only [List.length_cons]; omega) h)
  rw [Tm.iri_aenc r hok] at C1
  have C2 := hid (fun w h => tis_any 3 (97 :: Tm.enc r) [] w (by simp only [List.length_cons]; omega) (by decide) h)
  have e3 : Tm.is 3 (97 :: Tm.enc r) [] = true := by
    unfold Tm.is Tm.text
    rw [Tm.valid_aenc r hok, decide_eq_true (show (97 :: Tm.enc r).length ≤ 30 by simp only [List.length_cons]; omega)]
    rfl
  rw [e3] at C2
  have KN := hid (fun w h => known_any w h)
  obtain ⟨p, hp⟩ : ∃ p, p = 97 :: Tm.enc r := ⟨_, rfl⟩
  rw [← hp] at cv C1 C2
  have HW := hid (show Below W.heap.size W (W.alloc (.cells #[.int .i32 97, .int .i32 (r : Int)] 21)) from (Below.refl _ _).alloc (Nat.le_refl _) _)
  obtain ⟨w0, hw0⟩ : ∃ w0, w0 = W.alloc (.cells #[.int .i32 97, .int .i32 (r : Int)] 21) := ⟨_, rfl⟩
  rw [← hw0] at HW
  have HW0 := hid hw0
  clear hp hV e3 hel hw0
  unfold Tm.okRune at hok
  have hr1 : r ≤ 1114111 := by omega
  have hs : r < 55296 ∨ 57343 < r := by omega
  clear hok
  rcases (show r ≤ 32 ∨ r = 34 ∨ r = 60 ∨ r = 62 ∨ r = 92 ∨ r = 94 ∨ r = 96 ∨ r = 123 ∨ r = 124 ∨ r = 125 ∨ (127 ≤ r ∧ r < 160) ∨ (33 ≤ r ∧ r ≤ 126 ∧ r ≠ 34 ∧ r ≠ 60 ∧ r ≠ 62 ∧ r ≠ 92 ∧ r ≠ 94 ∧ r ≠ 96 ∧ r ≠ 123 ∧ r ≠ 124 ∧ r ≠ 125) ∨ (160 ≤ r ∧ r < 55296) ∨ 57343 < r by omega) with h | h | h | h | h | h | h | h | h | h | ⟨h, h'⟩ | h | ⟨h, h'⟩ | h
  · rw [irune_false r (.inl h)] at C1
    clear hs
    go_enter Tryd.func8, Tryd.ntmps8
    go_wp2_with fail
    rw [← HW0.out]
    refine (C1.out _ (HV.out.keep HW.out).1).mono ?_
    rintro e w1 ⟨rfl, hb⟩
    have HB1 := hid (below_then HW.out hb)
    clear hb
    go_wp2_with fail
    refine (C2.out _ (HV.out.keep HB1.out)).mono ?_
    rintro e w2 ⟨rfl, hb⟩
    have HB2 := hid (below_then HB1.out hb)
    clear hb
    go_wp2_with fail
    refine (KN.out _ (HV.out.keep HB2.out)).mono ?_
    rintro e w3 ⟨rfl, hb⟩
    have HB3 := hid (below_then HB2.out hb)
    clear hb
    go_wp2
    go_ret
    exact ⟨rfl, HB3.out⟩
  · rw [show Tm.irune r = false by rw [h]; decide] at C1
    have b0 : ((r : Int) == 34) = true := beq_iff_eq.2 (by omega)
    have b1 : ((r : Int) == 60) = false := beq_eq_false_iff_ne.2 (by omega)
    have b2 : ((r : Int) == 62) = false := beq_eq_false_iff_ne.2 (by omega)
    have b3 : ((r : Int) == 92) = false := beq_eq_false_iff_ne.2 (by omega)
    have b4 : ((r : Int) == 94) = false := beq_eq_false_iff_ne.2 (by omega)
    have b5 : ((r : Int) == 96) = false := beq_eq_false_iff_ne.2 (by omega)
    have b6 : ((r : Int) == 123) = false := beq_eq_false_iff_ne.2 (by omega)
    have b7 : ((r : Int) == 124) = false := beq_eq_false_iff_ne.2 (by omega)
    have b8 : ((r : Int) == 125) = false := beq_eq_false_iff_ne.2 (by omega)
    have h5 : 32 < r := by omega
    have h6 : r < 127 := by omega
    clear hs h
    go_enter Tryd.func8, Tryd.ntmps8
    go_wp2_with fail
    rw [← HW0.out]
    refine (C1.out _ (HV.out.keep HW.out).1).mono ?_
    rintro e w1 ⟨rfl, hb⟩
    have HB1 := hid (below_then HW.out hb)
    clear hb
    go_wp2_with fail
    refine (C2.out _ (HV.out.keep HB1.out)).mono ?_
    rintro e w2 ⟨rfl, hb⟩
    have HB2 := hid (below_then HB1.out hb)
    clear hb
    go_wp2_with fail
    refine (KN.out _ (HV.out.keep HB2.out)).mono ?_
    rintro e w3 ⟨rfl, hb⟩
    have HB3 := hid (below_then HB2.out hb)
    clear hb
    go_wp2
    go_ret
    exact ⟨rfl, HB3.out⟩
  · rw [show Tm.irune r = false by rw [h]; decide] at C1
    have b0 : ((r : Int) == 34) = false := beq_eq_false_iff_ne.2 (by omega)
    have b1 : ((r : Int) == 60) = true := beq_iff_eq.2 (by omega)
    have b2 : ((r : Int) == 62) = false := beq_eq_false_iff_ne.2 (by omega)
    have b3 : ((r : Int) == 92) = false := beq_eq_false_iff_ne.2 (by omega)
    have b4 : ((r : Int) == 94) = false := beq_eq_false_iff_ne.2 (by omega)
    have b5 : ((r : Int) == 96) = false := beq_eq_false_iff_ne.2 (by omega)
    have b6 : ((r : Int) == 123) = false := beq_eq_false_iff_ne.2 (by omega)
    have b7 : ((r : Int) == 124) = false := beq_eq_false_iff_ne.2 (by omega)
    have b8 : ((r : Int) == 125) = false := beq_eq_false_iff_ne.2 (by omega)
    have h5 : 32 < r := by omega
    have h6 : r < 127 := by omega
    clear hs h
    go_enter Tryd.func8, Tryd.ntmps8
    go_wp2_with fail
    rw [← HW0.out]
    refine (C1.out _ (HV.out.keep HW.out).1).mono ?_
    rintro e w1 ⟨rfl, hb⟩
    have HB1 := hid (below_then HW.out hb)
    clear hb
    go_wp2_with fail
    refine (C2.out _ (HV.out.keep HB1.out)).mono ?_
    rintro e w2 ⟨rfl, hb⟩
    have HB2 := hid (below_then HB1.out hb)
    clear hb
    go_wp2_with fail
    refine (KN.out _ (HV.out.keep HB2.out)).mono ?_
    rintro e w3 ⟨rfl, hb⟩
    have HB3 := hid (below_then HB2.out hb)
    clear hb
    go_wp2
    go_ret
    exact ⟨rfl, HB3.out⟩
  · rw [show Tm.irune r = false by rw [h]; decide] at C1
    have b0 : ((r : Int) == 34) = false := beq_eq_false_iff_ne.2 (by omega)
    have b1 : ((r : Int) == 60) = false := beq_eq_false_iff_ne.2 (by omega)
    have b2 : ((r : Int) == 62) = true := beq_iff_eq.2 (by omega)
    have b3 : ((r : Int) == 92) = false := beq_eq_false_iff_ne.2 (by omega)
    have b4 : ((r : Int) == 94) = false := beq_eq_false_iff_ne.2 (by omega)
    have b5 : ((r : Int) == 96) = false := beq_eq_false_iff_ne.2 (by omega)
    have b6 : ((r : Int) == 123) = false := beq_eq_false_iff_ne.2 (by omega)
    have b7 : ((r : Int) == 124) = false := beq_eq_false_iff_ne.2 (by omega)
    have b8 : ((r : Int) == 125) = false := beq_eq_false_iff_ne.2 (by omega)
    have h5 : 32 < r := by omega
    have h6 : r < 127 := by omega
    clear hs h
    go_enter Tryd.func8, Tryd.ntmps8
    go_wp2_with fail
    rw [← HW0.out]
    refine (C1.out _ (HV.out.keep HW.out).1).mono ?_
    rintro e w1 ⟨rfl, hb⟩
    have HB1 := hid (below_then HW.out hb)
    clear hb
    go_wp2_with fail
    refine (C2.out _ (HV.out.keep HB1.out)).mono ?_
    rintro e w2 ⟨rfl, hb⟩
    have HB2 := hid (below_then HB1.out hb)
    clear hb
    go_wp2_with fail
    refine (KN.out _ (HV.out.keep HB2.out)).mono ?_
    rintro e w3 ⟨rfl, hb⟩
    have HB3 := hid (below_then HB2.out hb)
    clear hb
    go_wp2
    go_ret
    exact ⟨rfl, HB3.out⟩
  · rw [show Tm.irune r = false by rw [h]; decide] at C1
    have b0 : ((r : Int) == 34) = false := beq_eq_false_iff_ne.2 (by omega)
    have b1 : ((r : Int) == 60) = false := beq_eq_false_iff_ne.2 (by omega)
    have b2 : ((r : Int) == 62) = false := beq_eq_false_iff_ne.2 (by omega)
    have b3 : ((r : Int) == 92) = true := beq_iff_eq.2 (by omega)
    have b4 : ((r : Int) == 94) = false := beq_eq_false_iff_ne.2 (by omega)
    have b5 : ((r : Int) == 96) = false := beq_eq_false_iff_ne.2 (by omega)
    have b6 : ((r : Int) == 123) = false := beq_eq_false_iff_ne.2 (by omega)
    have b7 : ((r : Int) == 124) = false := beq_eq_false_iff_ne.2 (by omega)
    have b8 : ((r : Int) == 125) = false := beq_eq_false_iff_ne.2 (by omega)
    have h5 : 32 < r := by omega
    have h6 : r < 127 := by omega
    clear hs h
    go_enter Tryd.func8, Tryd.ntmps8
    go_wp2_with fail
    rw [← HW0.out]
    refine (C1.out _ (HV.out.keep HW.out).1).mono ?_
    rintro e w1 ⟨rfl, hb⟩
    have HB1 := hid (below_then HW.out hb)
    clear hb
    go_wp2_with fail
    refine (C2.out _ (HV.out.keep HB1.out)).mono ?_
    rintro e w2 ⟨rfl, hb⟩
    have HB2 := hid (below_then HB1.out hb)
    clear hb
    go_wp2_with fail
    refine (KN.out _ (HV.out.keep HB2.out)).mono ?_
    rintro e w3 ⟨rfl, hb⟩
    have HB3 := hid (below_then HB2.out hb)
    clear hb
    go_wp2
    go_ret
    exact ⟨rfl, HB3.out⟩
  · rw [show Tm.irune r = false by rw [h]; decide] at C1
    have b0 : ((r : Int) == 34) = false := beq_eq_false_iff_ne.2 (by omega)
    have b1 : ((r : Int) == 60) = false := beq_eq_false_iff_ne.2 (by omega)
    have b2 : ((r : Int) == 62) = false := beq_eq_false_iff_ne.2 (by omega)
    have b3 : ((r : Int) == 92) = false := beq_eq_false_iff_ne.2 (by omega)
    have b4 : ((r : Int) == 94) = true := beq_iff_eq.2 (by omega)
    have b5 : ((r : Int) == 96) = false := beq_eq_false_iff_ne.2 (by omega)
    have b6 : ((r : Int) == 123) = false := beq_eq_false_iff_ne.2 (by omega)
    have b7 : ((r : Int) == 124) = false := beq_eq_false_iff_ne.2 (by omega)
    have b8 : ((r : Int) == 125) = false := beq_eq_false_iff_ne.2 (by omega)
    have h5 : 32 < r := by omega
    have h6 : r < 127 := by omega
    clear hs h
    go_enter Tryd.func8, Tryd.ntmps8
    go_wp2_with fail
    rw [← HW0.out]
    refine (C1.out _ (HV.out.keep HW.out).1).mono ?_
    rintro e w1 ⟨rfl, hb⟩
    have HB1 := hid (below_then HW.out hb)
    clear hb
    go_wp2_with fail
    refine (C2.out _ (HV.out.keep HB1.out)).mono ?_
    rintro e w2 ⟨rfl, hb⟩
    have HB2 := hid (below_then HB1.out hb)
    clear hb
    go_wp2_with fail
    refine (KN.out _ (HV.out.keep HB2.out)).mono ?_
    rintro e w3 ⟨rfl, hb⟩
    have HB3 := hid (below_then HB2.out hb)
    clear hb
    go_wp2
    go_ret
    exact ⟨rfl, HB3.out⟩
  · rw [show Tm.irune r = false by rw [h]; decide] at C1
    have b0 : ((r : Int) == 34) = false := beq_eq_false_iff_ne.2 (by omega)
    have b1 : ((r : Int) == 60) = false := beq_eq_false_iff_ne.2 (by omega)
    have b2 : ((r : Int) == 62) = false := beq_eq_false_iff_ne.2 (by omega)
    have b3 : ((r : Int) == 92) = false := beq_eq_false_iff_ne.2 (by omega)
    have b4 : ((r : Int) == 94) = false := beq_eq_false_iff_ne.2 (by omega)
    have b5 : ((r : Int) == 96) = true := beq_iff_eq.2 (by omega)
    have b6 : ((r : Int) == 123) = false := beq_eq_false_iff_ne.2 (by omega)
    have b7 : ((r : Int) == 124) = false := beq_eq_false_iff_ne.2 (by omega)
    have b8 : ((r : Int) == 125) = false := beq_eq_false_iff_ne.2 (by omega)
    have h5 : 32 < r := by omega
    have h6 : r < 127 := by omega
    clear hs h
    go_enter Tryd.func8, Tryd.ntmps8
    go_wp2_with fail
    rw [← HW0.out]
    refine (C1.out _ (HV.out.keep HW.out).1).mono ?_
    rintro e w1 ⟨rfl, hb⟩
    have HB1 := hid (below_then HW.out hb)
    clear hb
    go_wp2_with fail
    refine (C2.out _ (HV.out.keep HB1.out)).mono ?_
    rintro e w2 ⟨rfl, hb⟩
    have HB2 := hid (below_then HB1.out hb)
    clear hb
    go_wp2_with fail
    refine (KN.out _ (HV.out.keep HB2.out)).mono ?_
    rintro e w3 ⟨rfl, hb⟩
    have HB3 := hid (below_then HB2.out hb)
    clear hb
    go_wp2
    go_ret
    exact ⟨rfl, HB3.out⟩
  · rw [show Tm.irune r = false by rw [h]; decide] at C1
    have b0 : ((r : Int) == 34) = false := beq_eq_false_iff_ne.2 (by omega)
    have b1 : ((r : Int) == 60) = false := beq_eq_false_iff_ne.2 (by omega)
    have b2 : ((r : Int) == 62) = false := beq_eq_false_iff_ne.2 (by omega)
    have b3 : ((r : Int) == 92) = false := beq_eq_false_iff_ne.2 (by omega)
    have b4 : ((r : Int) == 94) = false := beq_eq_false_iff_ne.2 (by omega)
    have b5 : ((r : Int) == 96) = false := beq_eq_false_iff_ne.2 (by omega)
    have b6 : ((r : Int) == 123) = true := beq_iff_eq.2 (by omega)
    have b7 : ((r : Int) == 124) = false := beq_eq_false_iff_ne.2 (by omega)
    have b8 : ((r : Int) == 125) = false := beq_eq_false_iff_ne.2 (by omega)
    have h5 : 32 < r := by omega
    have h6 : r < 127 := by omega
    clear hs h
    go_enter Tryd.func8, Tryd.ntmps8
    go_wp2_with fail
    rw [← HW0.out]
    refine (C1.out _ (HV.out.keep HW.out).1).mono ?_
    rintro e w1 ⟨rfl, hb⟩
    have HB1 := hid (below_then HW.out hb)
    clear hb
    go_wp2_with fail
    refine (C2.out _ (HV.out.keep HB1.out)).mono ?_
    rintro e w2 ⟨rfl, hb⟩
    have HB2 := hid (below_then HB1.out hb)
    clear hb
    go_wp2_with fail
    refine (KN.out _ (HV.out.keep HB2.out)).mono ?_
    rintro e w3 ⟨rfl, hb⟩
    have HB3 := hid (below_then HB2.out hb)
    clear hb
    go_wp2
    go_ret
    exact ⟨rfl, HB3.out⟩
  · rw [show Tm.irune r = false by rw [h]; decide] at C1
    have b0 : ((r : Int) == 34) = false := beq_eq_false_iff_ne.2 (by omega)
    have b1 : ((r : Int) == 60) = false := beq_eq_false_iff_ne.2 (by omega)
    have b2 : ((r : Int) == 62) = false := beq_eq_false_iff_ne.2 (by omega)
    have b3 : ((r : Int) == 92) = false := beq_eq_false_iff_ne.2 (by omega)
    have b4 : ((r : Int) == 94) = false := beq_eq_false_iff_ne.2 (by omega)
    have b5 : ((r : Int) == 96) = false := beq_eq_false_iff_ne.2 (by omega)
    have b6 : ((r : Int) == 123) = false := beq_eq_false_iff_ne.2 (by omega)
    have b7 : ((r : Int) == 124) = true := beq_iff_eq.2 (by omega)
    have b8 : ((r : Int) == 125) = false := beq_eq_false_iff_ne.2 (by omega)
    have h5 : 32 < r := by omega
    have h6 : r < 127 := by omega
    clear hs h
    go_enter Tryd.func8, Tryd.ntmps8
    go_wp2_with fail
    rw [← HW0.out]
    refine (C1.out _ (HV.out.keep HW.out).1).mono ?_
    rintro e w1 ⟨rfl, hb⟩
    have HB1 := hid (below_then HW.out hb)
    clear hb
    go_wp2_with fail
    refine (C2.out _ (HV.out.keep HB1.out)).mono ?_
    rintro e w2 ⟨rfl, hb⟩
    have HB2 := hid (below_then HB1.out hb)
    clear hb
    go_wp2_with fail
    refine (KN.out _ (HV.out.keep HB2.out)).mono ?_
    rintro e w3 ⟨rfl, hb⟩
    have HB3 := hid (below_then HB2.out hb)
    clear hb
    go_wp2
    go_ret
    exact ⟨rfl, HB3.out⟩
  · rw [show Tm.irune r = false by rw [h]; decide] at C1
    have b0 : ((r : Int) == 34) = false := beq_eq_false_iff_ne.2 (by omega)
    have b1 : ((r : Int) == 60) = false := beq_eq_false_iff_ne.2 (by omega)
    have b2 : ((r : Int) == 62) = false := beq_eq_false_iff_ne.2 (by omega)
    have b3 : ((r : Int) == 92) = false := beq_eq_false_iff_ne.2 (by omega)
    have b4 : ((r : Int) == 94) = false := beq_eq_false_iff_ne.2 (by omega)
    have b5 : ((r : Int) == 96) = false := beq_eq_false_iff_ne.2 (by omega)
    have b6 : ((r : Int) == 123) = false := beq_eq_false_iff_ne.2 (by omega)
    have b7 : ((r : Int) == 124) = false := beq_eq_false_iff_ne.2 (by omega)
    have b8 : ((r : Int) == 125) = true := beq_iff_eq.2 (by omega)
    have h5 : 32 < r := by omega
    have h6 : r < 127 := by omega
    clear hs h
    go_enter Tryd.func8, Tryd.ntmps8
    go_wp2_with fail
    rw [← HW0.out]
    refine (C1.out _ (HV.out.keep HW.out).1).mono ?_
    rintro e w1 ⟨rfl, hb⟩
    have HB1 := hid (below_then HW.out hb)
    clear hb
    go_wp2_with fail
    refine (C2.out _ (HV.out.keep HB1.out)).mono ?_
    rintro e w2 ⟨rfl, hb⟩
    have HB2 := hid (below_then HB1.out hb)
    clear hb
    go_wp2_with fail
    refine (KN.out _ (HV.out.keep HB2.out)).mono ?_
    rintro e w3 ⟨rfl, hb⟩
    have HB3 := hid (below_then HB2.out hb)
    clear hb
    go_wp2
    go_ret
    exact ⟨rfl, HB3.out⟩
  · rw [irune_false r (.inr ⟨h, h'⟩)] at C1
    have b0 : ((r : Int) == 34) = false := beq_eq_false_iff_ne.2 (by omega)
    have b1 : ((r : Int) == 60) = false := beq_eq_false_iff_ne.2 (by omega)
    have b2 : ((r : Int) == 62) = false := beq_eq_false_iff_ne.2 (by omega)
    have b3 : ((r : Int) == 92) = false := beq_eq_false_iff_ne.2 (by omega)
    have b4 : ((r : Int) == 94) = false := beq_eq_false_iff_ne.2 (by omega)
    have b5 : ((r : Int) == 96) = false := beq_eq_false_iff_ne.2 (by omega)
    have b6 : ((r : Int) == 123) = false := beq_eq_false_iff_ne.2 (by omega)
    have b7 : ((r : Int) == 124) = false := beq_eq_false_iff_ne.2 (by omega)
    have b8 : ((r : Int) == 125) = false := beq_eq_false_iff_ne.2 (by omega)
    have g0 : decide ((r : Int) ≤ 32) = false := by simp <;> omega
    have g1 : decide ((127 : Int) ≤ (r : Int)) = true := by simp <;> omega
    have g2 : decide ((r : Int) < 160) = true := by simp <;> omega
    clear hs
    go_enter Tryd.func8, Tryd.ntmps8
    go_wp2_with fail
    rw [← HW0.out]
    refine (C1.out _ (HV.out.keep HW.out).1).mono ?_
    rintro e w1 ⟨rfl, hb⟩
    have HB1 := hid (below_then HW.out hb)
    clear hb
    go_wp2_with fail
    refine (C2.out _ (HV.out.keep HB1.out)).mono ?_
    rintro e w2 ⟨rfl, hb⟩
    have HB2 := hid (below_then HB1.out hb)
    clear hb
    go_wp2_with fail
    refine (KN.out _ (HV.out.keep HB2.out)).mono ?_
    rintro e w3 ⟨rfl, hb⟩
    have HB3 := hid (below_then HB2.out hb)
    clear hb
    go_wp2
    go_ret
    exact ⟨rfl, HB3.out⟩
  · rw [irune_true r (.inl h)] at C1
    have b0 : ((r : Int) == 34) = false := beq_eq_false_iff_ne.2 (by omega)
    have b1 : ((r : Int) == 60) = false := beq_eq_false_iff_ne.2 (by omega)
    have b2 : ((r : Int) == 62) = false := beq_eq_false_iff_ne.2 (by omega)
    have b3 : ((r : Int) == 92) = false := beq_eq_false_iff_ne.2 (by omega)
    have b4 : ((r : Int) == 94) = false := beq_eq_false_iff_ne.2 (by omega)
    have b5 : ((r : Int) == 96) = false := beq_eq_false_iff_ne.2 (by omega)
    have b6 : ((r : Int) == 123) = false := beq_eq_false_iff_ne.2 (by omega)
    have b7 : ((r : Int) == 124) = false := beq_eq_false_iff_ne.2 (by omega)
    have b8 : ((r : Int) == 125) = false := beq_eq_false_iff_ne.2 (by omega)
    have g0 : decide ((r : Int) ≤ 32) = false := by simp <;> omega
    have g1 : decide ((127 : Int) ≤ (r : Int)) = false := by simp <;> omega
    obtain ⟨h1, h2, h3⟩ := h
    clear hs h3
    go_enter Tryd.func8, Tryd.ntmps8
    go_wp2_with fail
    rw [← HW0.out]
    refine (C1.out _ (HV.out.keep HW.out).1).mono ?_
    rintro e w1 ⟨rfl, hb⟩
    have HB1 := hid (below_then HW.out hb)
    clear hb
    go_wp2_with fail
    refine (C2.out _ (HV.out.keep HB1.out)).mono ?_
    rintro e w2 ⟨rfl, hb⟩
    have HB2 := hid (below_then HB1.out hb)
    clear hb
    go_wp2_with fail
    refine (KN.out _ (HV.out.keep HB2.out)).mono ?_
    rintro e w3 ⟨rfl, hb⟩
    have HB3 := hid (below_then HB2.out hb)
    clear hb
    go_wp2
    go_ret
    exact ⟨rfl, HB3.out⟩
  · rw [irune_true r (.inr h)] at C1
    have b0 : ((r : Int) == 34) = false := beq_eq_false_iff_ne.2 (by omega)
    have b1 : ((r : Int) == 60) = false := beq_eq_false_iff_ne.2 (by omega)
    have b2 : ((r : Int) == 62) = false := beq_eq_false_iff_ne.2 (by omega)
    have b3 : ((r : Int) == 92) = false := beq_eq_false_iff_ne.2 (by omega)
    have b4 : ((r : Int) == 94) = false := beq_eq_false_iff_ne.2 (by omega)
    have b5 : ((r : Int) == 96) = false := beq_eq_false_iff_ne.2 (by omega)
    have b6 : ((r : Int) == 123) = false := beq_eq_false_iff_ne.2 (by omega)
    have b7 : ((r : Int) == 124) = false := beq_eq_false_iff_ne.2 (by omega)
    have b8 : ((r : Int) == 125) = false := beq_eq_false_iff_ne.2 (by omega)
    have g0 : decide ((r : Int) ≤ 32) = false := by simp <;> omega
    have g1 : decide ((127 : Int) ≤ (r : Int)) = true := by simp <;> omega
    have g2 : decide ((r : Int) < 160) = false := by simp <;> omega
    clear hs
    go_enter Tryd.func8, Tryd.ntmps8
    go_wp2_with fail
    rw [← HW0.out]
    refine (C1.out _ (HV.out.keep HW.out).1).mono ?_
    rintro e w1 ⟨rfl, hb⟩
    have HB1 := hid (below_then HW.out hb)
    clear hb
    go_wp2_with fail
    refine (C2.out _ (HV.out.keep HB1.out)).mono ?_
    rintro e w2 ⟨rfl, hb⟩
    have HB2 := hid (below_then HB1.out hb)
    clear hb
    go_wp2_with fail
    refine (KN.out _ (HV.out.keep HB2.out)).mono ?_
    rintro e w3 ⟨rfl, hb⟩
    have HB3 := hid (below_then HB2.out hb)
    clear hb
    go_wp2
    go_ret
    exact ⟨rfl, HB3.out⟩
  · rw [irune_true r (.inr (by omega))] at C1
    have b0 : ((r : Int) == 34) = false := beq_eq_false_iff_ne.2 (by omega)
    have b1 : ((r : Int) == 60) = false := beq_eq_false_iff_ne.2 (by omega)
    have b2 : ((r : Int) == 62) = false := beq_eq_false_iff_ne.2 (by omega)
    have b3 : ((r : Int) == 92) = false := beq_eq_false_iff_ne.2 (by omega)
    have b4 : ((r : Int) == 94) = false := beq_eq_false_iff_ne.2 (by omega)
    have b5 : ((r : Int) == 96) = false := beq_eq_false_iff_ne.2 (by omega)
    have b6 : ((r : Int) == 123) = false := beq_eq_false_iff_ne.2 (by omega)
    have b7 : ((r : Int) == 124) = false := beq_eq_false_iff_ne.2 (by omega)
    have b8 : ((r : Int) == 125) = false := beq_eq_false_iff_ne.2 (by omega)
    have g0 : decide ((r : Int) ≤ 32) = false := by simp <;> omega
    have g1 : decide ((127 : Int) ≤ (r : Int)) = true := by simp <;> omega
    have g2 : decide ((r : Int) < 160) = false := by simp <;> omega
    have h5 : 55296 ≤ r := by omega
    clear hs
    go_enter Tryd.func8, Tryd.ntmps8
    go_wp2_with fail
    rw [← HW0.out]
    refine (C1.out _ (HV.out.keep HW.out).1).mono ?_
    rintro e w1 ⟨rfl, hb⟩
    have HB1 := hid (below_then HW.out hb)
    clear hb
    go_wp2_with fail
    refine (C2.out _ (HV.out.keep HB1.out)).mono ?_
    rintro e w2 ⟨rfl, hb⟩
    have HB2 := hid (below_then HB1.out hb)
    clear hb
    go_wp2_with fail
    refine (KN.out _ (HV.out.keep HB2.out)).mono ?_
    rintro e w3 ⟨rfl, hb⟩
    have HB3 := hid (below_then HB2.out hb)
    clear hb
    go_wp2
    go_ret
    exact ⟨rfl, HB3.out⟩
theorem termRunes_any (r : Int) (W : World) (hV : Vars W) :
    Calls Tryd.prog 8 #[.int .i32 r] W fun e W' => e = .returned (.bool true) ∧ Below W.heap.size W W' := by
  by_cases h : r < 0 ∨ (0 ≤ r ∧ 1114111 < r) ∨ (0 ≤ r ∧ r ≤ 1114111 ∧ 55296 ≤ r ∧ r ≤ 57343)
  · exact runes_out r W h
  · obtain ⟨n, rfl⟩ : ∃ n : Nat, r = n := ⟨r.toNat, by omega⟩
    exact runes_in n W (by unfold Tm.okRune; omega) hV

theorem termRunes_walk (H : Type) (enc : TypeId × Value → H) (W : World) (base : Nat) (args : Array Value) (ds gs : List (DataW H)) (before : List MemPlace)
    (hval : ∀ (j : Nat) t v, Tryd.f8.params[j]? = some t → args[j]? = some v → Value.okWide Tryd.prog W .any base t v)
    (hW : DataW.Whole enc Tryd.prog Tryd.f8.params.toList Rows.termRunesSpec.vars false W args.toList ds gs before)
    (hz : (DataW.weightsEach Tryd.prog (Tryd.f8.params.toList ++ Rows.termRunesSpec.plain.varTypes Tryd.prog) (ds ++ gs)).all (· ≤ reachBytes) = true)
    (hL : laidMetH Tryd.prog Rows.termRunesRow.laid W) (hsh : W.ShapedOpen Tryd.prog) :
    Calls Tryd.prog 8 args W fun e W' => e = .returned (.bool true) ∧ Below W.heap.size W W' := by
  obtain ⟨p, q, hA, _, _, _, _⟩ := hW
  rw [Tryd.params8] at hA hval
  rw [Tryd.params8] at hz
  obtain ⟨v0, vs0, d0, ds0, p0, q0, hargs, rfl, rfl, h0, r0⟩ := trodAll_cons hA
  obtain ⟨rfl, rfl, rfl⟩ := trodAll_nil r0
  obtain rfl : args = #[v0] := by cases args; simp_all
  obtain ⟨x0, rfl, rfl, rfl, w0⟩ := open_int Tryd.underlying21 (hval 0 21 v0 rfl rfl) h0
  have b0 := bounds_i32 w0
  exact termRunes_any x0 W (vars_of hL hsh)

theorem termRunes_lifted (os : Os) (started : os.Started) (H : Type) (enc : TypeId × Value → H) (F : Stop.Interp) :
    ReturnsInHanded {} Tryd.checked os 8 .any ((OpenSpec.ofChange Rows.termRunesSpec).preRow enc Tryd.prog Tryd.f8 Rows.termRunesRow.domain false Rows.termRunesRow.laid) (((OpenSpec.ofChange Rows.termRunesSpec).at F).post enc Tryd.prog Tryd.f8 false true false false) := by
  obtain ⟨places, hx⟩ : ∃ places, DataW.whole enc Tryd.prog ((laidWorld os).forCall (fun _ _ => 0) ⟨#[], #[.int .i32 0], []⟩).memory Tryd.f8.params.toList Rows.termRunesSpec.vars false (#[.int .i32 0] : Array Value).toList 8 = some ([.lit (.int .i32 0)], [], places) := ⟨[], by kernel_rfl⟩
  refine returnsInHanded_of_row (C := Tryd.checked) (s := OpenSpec.ofChange Rows.termRunesSpec) own started (by kernel_rfl) Tryd.func8
    (witness_row_at (enc := enc) (C := Tryd.checked) false (laidWorld os) #[.int .i32 0] rfl (by kernel_rfl) (by kernel_rfl) (by kernel_rfl)
      (OpenSpec.preRow_of_cond 8 hx (by kernel_rfl) (fun k hk => by cases hk) (by kernel_rfl) (laidMet_of_run' 8 (by kernel_rfl) (by kernel_rfl)))) ?_
  intro W base args ds gs before hval hW _ _ hz hL hsh _
  refine (termRunes_walk H enc W base args ds gs before hval hW hz hL hsh).mono fun e W' ⟨he, hb⟩ => ⟨_, he, ?_⟩
  exact law_post (fn := Tryd.f8) (s := Rows.termRunesSpec) (tb := 4) rfl (fun ds hd => by match ds, hd with | [d0], _ => rfl) rfl Tryd.underlying4 (by kernel_rfl) hW hb

theorem termRunes_said : Rows.TermRunesSaid :=
  OpenClaim.holds_of_cond 8 Tryd.f8 rfl rfl rfl rfl rfl rfl rfl ⟨rfl, rfl, rfl, rfl, rfl⟩ rfl rfl rfl rfl rfl (by kernel_rfl) Tryd.func8 (by kernel_rfl)
    (of_decide_eq_true (by kernel_rfl)) (by unfold Func.isWrapper; first | (rw [if_pos (by decide +kernel)]; kernel_rfl) | (rw [if_neg (by decide +kernel)]; exact ⟨rfl, rfl⟩))
    (fun os started H enc _ F => by rw [OpenClaim.pre_eq_preRow]; exact termRunes_lifted os started H enc F)

theorem termRunes_plain (f : FuncId) (fn : Func) (hf : Tryd.pinned.checked.prog.funcNamed Rows.termRunesRow.func = some f) (hfn : Tryd.pinned.checked.prog.funcs[f]? = some fn) :
    false = Tryd.pinned.checked.prog.looks [] ∧ ∀ (j : Nat) t, fn.params[j]? = some t → Tryd.pinned.checked.prog.wantsStandIn t = false := by
  obtain rfl : f = 8 := Option.some.inj ((show Tryd.prog.funcNamed Rows.termRunesRow.func = some 8 by kernel_rfl).symm.trans hf) |>.symm
  obtain rfl : fn = Tryd.f8 := (Option.some.inj (Tryd.func8.symm.trans hfn)).symm
  refine ⟨by kernel_rfl, fun j t ht => ?_⟩
  have h := Array.mem_of_getElem? ht
  have hall : Tryd.f8.params.all (fun t => !Tryd.prog.wantsStandIn t) = true := by kernel_rfl
  have := Array.all_eq_true_iff_forall_mem.1 hall t h
  show Tryd.prog.wantsStandIn t = false
  simpa using this

/-- THE STATEMENT. -/
theorem termRunes_card : Rows.TermRunesCardSaid :=
  Claim7.holds_tied_plain_at .later [] _ _ _ _ termRunes_said (fun _ h => by cases h) (by kernel_rfl) (fun _ h => by cases h) termRunes_row_tie rfl ⟨rfl, rfl⟩ (by kernel_rfl) rfl termRunes_plain (by kernel_rfl)
end Go.Proofs.YtmooppakneoidaaDoor
