/- Stage 13's laws: word, known; what is called, in one form. -/
import Derived.Test.YtobcbaeoedpefaaDoorAuSteps
import Derived.Test.YtobcbaeoedpefaaDoorAuNew
namespace Go.Proofs.YtobcbaeoedpefaaDoor
set_option linter.unusedVariables false
set_option linter.unusedSimpArgs false
set_option maxRecDepth 100000
open Go.ChangeShapes Go.WideShapes Go.ChangeAt Go.RowKit
open Au
theorem isauto_places {B : Nat} {w : World} {p : Nat} {r : Rx} (h : IsAuto B w p r) : Calls Tryd.prog 17 #[.pointer (some ⟨p, 0, none⟩)] w fun e w' => e = .returned (.int .i64 ((1 + r.n : Nat))) ∧ w' = w := by
  obtain ⟨lb, cl, nb, cn, lxs, nx, last, h1, _⟩ := h
  have := places_au h1
  rwa [show (⟨false, false, []⟩ :: r.labs : List Lb).length = 1 + r.n by simp [Rx.n]; omega] at this
theorem isauto_last {B : Nat} {w : World} {p : Nat} {r : Rx} (i : Int) (h : IsAuto B w p r) : Calls Tryd.prog 21 #[.pointer (some ⟨p, 0, none⟩), .int .i64 i] w fun e w' => e = .returned (.bool (decide (0 ≤ i) && decide (i < (1 + r.n : Nat)) && r.endd i.toNat)) ∧ w' = w := by
  obtain ⟨lb, cl, nb, cn, lxs, nx, last, h1, _, _, _, h2, h3, _⟩ := h
  have hl : (⟨false, false, []⟩ :: r.labs : List Lb).length = 1 + r.n := by simp [Rx.n]; omega
  have := last_au i h1 (by rw [hl]; exact h3) h2.1
  rwa [hl, h2.2] at this
theorem steps_nil (w : World) : Calls Tryd.prog 19 #[.pointer none] w fun e w' => e = .returned (.slice none 0 0) ∧ w' = w := by
  go_enter Tryd.func19, Tryd.ntmps19
  go_wp2
  go_ret
  exact ⟨rfl, rfl⟩
/-- Is a step of a word looked at? -/
def okS (s : Stp) : Bool := decide (s.texts.length = 1) && decide ((s.texts.getD 0 []).length ≤ 300)
/-- Is a word looked at? -/
def wordB (L : List Stp) : Bool := (L.take 50).all okS && decide (L.length ≤ 8)
theorem wordB_ones {L : List Stp} (h : wordB L = true) : ones L ∧ L.length ≤ 8 := by
  unfold wordB at h
  rw [Bool.and_eq_true, decide_eq_true_eq] at h
  refine ⟨fun i hi => ?_, h.2⟩
  have h1 := List.all_eq_true.1 h.1 L[i] (by rw [List.mem_take_iff_getElem]; exact ⟨i, by omega, rfl⟩)
  unfold okS at h1
  simp only [Bool.and_eq_true, decide_eq_true_eq] at h1
  exact h1.1
set_option maxHeartbeats 2000000 in
theorem word_any (v : Value) (L : List Stp) (w : World) (h : StepsAt w v L) (hlow : ∀ t ∈ L, t.low) : Calls Tryd.prog 22 #[v] w fun e w' => e = .returned (.bool (wordB L)) ∧ w' = w := by
  obtain ⟨a, cap, b, off, fv, rfl, q1, q2, q3, q4, hrow, htx⟩ := h
  obtain ⟨ANS, hA⟩ : ∃ z, z = wordB L := ⟨_, rfl⟩
  rw [← hA]
  have HROW := hid hrow
  have HTX := hid htx
  have HLOW := hid hlow
  obtain ⟨m, hm⟩ : ∃ m, m = L.length := ⟨_, rfl⟩
  have HM := hid hm
  have HA := hid (show ANS = ((L.take 50).all okS && decide (m ≤ 8)) by rw [hA, hm]; rfl)
  rw [← hm] at q1 q4 ⊢
  have hmm : m ≤ 9223372036854775807 := by unfold maxLen at q2; omega
  clear hrow htx hm hlow hA
  go_enter Tryd.func22, Tryd.ntmps22
  go_wp2
  go_loopw [3] (fun s3 wr => ∃ i : Nat, i ≤ m ∧ i ≤ 50 ∧ s3 = .int .i64 i ∧ wr = w ∧ Hid ((L.take i).all okS = true)) (fun s3 _ => m - (intOf s3).toNat)
  case atStart => exact ⟨0, by omega, by omega, rfl, rfl, rfl⟩
  case round =>
    obtain ⟨i, hi, hi50, rfl, hww, HAll⟩ := hrel
    subst hww
    by_cases hlt : i < m
    · by_cases h50 : i < 50
      · have hiL : i < L.length := by rw [← HM.out]; exact hlt
        obtain rfl := q4 (by omega)
        have hr5 := HROW.out i hiL
        have htt := HTX.out i hiL
        have hlw := HLOW.out L[i] (List.getElem_mem _)
        have htk : L.take (i + 1) = L.take i ++ [L[i]] := by rw [List.take_add_one, List.getElem?_eq_getElem hiL]; rfl
        have hno : okS L[i] = false → (L.take 50).all okS = false := fun h => by
          rw [List.all_eq_false]
          exact ⟨L[i], by rw [List.mem_take_iff_getElem]; exact ⟨i, by omega, rfl⟩, by rw [h]; simp⟩
        obtain ⟨s, hsd⟩ : ∃ s, s = L[i] := ⟨_, rfl⟩
        rw [← hsd] at hr5 htt hlw htk hno
        have HTK := hid htk
        have HNO := hid hno
        obtain ⟨ta, tc, htf, t1, t2, t3, htr⟩ := htt.open
        rw [htf] at hr5
        have hl0 := hlw 0
        obtain ⟨_, _, _, _, d4⟩ := hr5
        obtain ⟨n, hn⟩ : ∃ n, n = s.texts.length := ⟨_, rfl⟩
        have HN := hid hn
        rw [← hn] at d4 t1 htr
        clear hsd htf htt htk hno hn hlw hiL t3
        by_cases h1 : n = 1
        · subst h1
          obtain ⟨b', off', rfl, hcc⟩ := htr.get (i := 0) (by omega)
          have t0 := hcc 0 (by omega)
          rw [Nat.add_zero] at t0
          have hok : ∀ tx, tx = s.texts.getD 0 [] → okS s = decide (tx.length ≤ 300) := fun tx h => by unfold okS; rw [← HN.out, ← h]; simp
          obtain ⟨tx, htx⟩ : ∃ tx, tx = s.texts.getD 0 [] := ⟨_, rfl⟩
          rw [← htx] at t0 hl0
          have HOK := hid (hok tx htx)
          clear hok htx hcc htr
          by_cases h300 : 300 < tx.length
          · have HF := hid (show ANS = false by rw [HA.out, HNO.out (by rw [HOK.out, decide_eq_false (by omega)])]; rfl)
            go_wp2
            go_ret
            exact ⟨(by rw [HF.out]; rfl), rfl⟩
          · have HF := hid (show (L.take (i + 1)).all okS = true by rw [HTK.out, List.all_append, HAll.out]; simp [HOK.out]; omega)
            go_wp2
            go_roundw
            case rel => exact ⟨i + 1, by omega, by omega, by go_num, trivial, HF.out⟩
            case measure => simp [intOf]; omega
        · have HF := hid (show ANS = false by rw [HA.out, HNO.out (by unfold okS; rw [← HN.out, decide_eq_false h1]; rfl)]; rfl)
          have hne : ((n : Int) != 1) = true := bne_iff_ne.2 (by omega)
          have hne2 : ((n : Int) == 1) = false := beq_eq_false_iff_ne.2 (by omega)
          clear htr
          go_wp2
          go_ret
          exact ⟨(by rw [HF.out]; rfl), rfl⟩
      · have HF := hid (show ANS = false by rw [HA.out, decide_eq_false (show ¬ m ≤ 8 by omega)]; simp)
        have h8 : ¬ m ≤ 8 := by omega
        have h8' : 8 < m := by omega
        go_wp2
        go_ret
        exact ⟨(by rw [HF.out]; simp; omega), rfl⟩
    · obtain rfl : i = m := by omega
      have HF := hid (show ANS = decide (i ≤ 8) by
        rw [HA.out]
        have h1 := HAll.out
        rw [List.take_of_length_le (by rw [← HM.out]; omega)] at h1
        rw [List.take_of_length_le (by rw [← HM.out]; omega), h1, Bool.true_and])
      go_wp2
      go_ret
      exact ⟨(by rw [HF.out]; simp <;> omega), rfl⟩

/-- The path of known: a star of one predicate. -/
def kPath : Pt := .mk 5 [] [] [.mk 1 [97] [] []]
theorem pt_iri (W : World) (t : T) (ht : t.length ≤ 140737488351232) : PtAt W (.slice none 0 0) (.slice none 0 0) (.mk 1 t [] []) :=
  .mk 1 t [] [] _ none 0 0 0 (fun _ => undef) (fun _ => undef) (by omega) ht (SlAt.nil _) (fun i => by simp) (Nat.le_refl _) (by unfold maxLen; omega) (fun _ => rfl) (fun h => absurd h (by simp)) (fun i h => absurd h (by simp)) (fun i h => absurd h (by simp))
theorem kPath_may : kPath.may = true := by kernel_rfl
theorem kPath_rx : kPath.rx false = .star (.leaf ⟨false, false, [[97]]⟩) := by unfold kPath; rw [Pt.rx, Pt.rx]; rfl
theorem kPath_add : AddOk kPath := add_star _ (add_iri _)
set_option maxHeartbeats 4000000 in
theorem known_any (w : World) (hT : T8 w) : Calls Tryd.prog 16 #[] w fun e w' => e = .returned (.bool true) ∧ Below w.heap.size w w' := by
  obtain ⟨w1, hw1⟩ : ∃ w1, w1 = w.alloc (.cells #[.int .i64 1, str [97], .slice none 0 0, .slice none 0 0] 25) := ⟨_, rfl⟩
  have hb1 : Below w.heap.size w w1 := by rw [hw1]; exact (Below.refl _ _).alloc (Nat.le_refl _) _
  have hX : Blk w1 w.heap.size [.int .i64 1, str [97], .slice none 0 0, .slice none 0 0] 25 := by rw [hw1]; exact Blk.new w _ _
  have hP : PtAt w1 (.slice none 0 0) (.slice (some ⟨w.heap.size, 0, none⟩) 1 1) kPath := by
    refine .mk 5 [] [] [.mk 1 [97] [] []] _ _ 1 w.heap.size 0 (fun _ => .slice none 0 0) (fun _ => .slice none 0 0) (by omega) (by simp) (SlAt.nil _) (fun i => by simp) (Nat.le_refl _) (by unfold maxLen; omega) (fun h => by cases h) (fun _ => rfl) (fun i h => ?_) (fun i h => ?_)
    · obtain rfl : i = 0 := by simp at h; omega
      exact ⟨hX.cell rfl, hX.cell rfl, hX.cell rfl, hX.cell rfl⟩
    · obtain rfl : i = 0 := by simp at h; omega
      exact pt_iri _ _ (by simp)
  have C := new_au kPath _ _ w1 hP (hT.keep hb1) (fun _ => kPath_add)
  have HC : Calls Tryd.prog 14 #[pv kPath (.slice none 0 0) (.slice (some ⟨w.heap.size, 0, none⟩) 1 1)] w1 fun e w' => ∃ p, e = .returned (.tuple #[.pointer (some ⟨p, 0, none⟩), .int .i64 0]) ∧ Below w1.heap.size w1 w' ∧ IsAuto w1.heap.size w' p (kPath.rx false) := C.mono fun e w' h => by
    obtain ⟨hb, h | h | h⟩ := h
    · rw [kPath_may] at h; exact absurd h.1 (by simp)
    · have h2 := h.2.1; rw [kPath_rx] at h2; exact absurd h2 (by decide)
    · obtain ⟨_, _, p, h1, h2⟩ := h; exact ⟨p, h1, hb, h2⟩
  unfold pv kPath at HC
  simp only [Pt.kind, Pt.text] at HC
  rw [show (Pt.mk 5 [] [] [.mk 1 [97] [] []]).rx false = .star (.leaf ⟨false, false, [[97]]⟩) from kPath_rx] at HC
  have HC := hid HC
  have HB1 := hid hb1
  clear hX hP C hb1 hT
  go_enter Tryd.func16, Tryd.ntmps16
  go_wp2_with fail
  rw [← hw1]
  clear hw1
  refine HC.out.mono ?_
  rintro e w2 ⟨p, rfl, hb2, hA⟩
  have PL := hid (isauto_places hA)
  have ST := hid (steps_au hA)
  have HB2 := hid (below_then HB1.out hb2)
  have HA := hid hA
  clear hb2 hA
  have L0 := hid fun W (h : Below w2.heap.size w2 W) => isauto_last 0 (HA.out.keep h)
  have L1 := hid fun W (h : Below w2.heap.size w2 W) => isauto_last 1 (HA.out.keep h)
  have L2 := hid fun W (h : Below w2.heap.size w2 W) => isauto_last 2 (HA.out.keep h)
  rw [show (decide ((0 : Int) ≤ 0) && decide ((0 : Int) < (1 + (Rx.star (.leaf ⟨false, false, [[97]]⟩)).n : Nat)) && (Rx.star (.leaf ⟨false, false, [[97]]⟩)).endd (0 : Int).toNat) = true by decide] at L0
  rw [show (decide ((0 : Int) ≤ 1) && decide ((1 : Int) < (1 + (Rx.star (.leaf ⟨false, false, [[97]]⟩)).n : Nat)) && (Rx.star (.leaf ⟨false, false, [[97]]⟩)).endd (1 : Int).toNat) = true by decide] at L1
  rw [show (decide ((0 : Int) ≤ 2) && decide ((2 : Int) < (1 + (Rx.star (.leaf ⟨false, false, [[97]]⟩)).n : Nat)) && (Rx.star (.leaf ⟨false, false, [[97]]⟩)).endd (2 : Int).toNat) = false by decide] at L2
  rw [show ((1 + (Rx.star (.leaf ⟨false, false, [[97]]⟩)).n : Nat) : Int) = 2 from rfl] at PL
  have HSL := hid (show (stepsOf (Rx.star (.leaf ⟨false, false, [[97]]⟩))).length = 2 by decide)
  go_wp2_with (first
    | (go_at_call 17; refine PL.out.mono ?_; rintro e wq ⟨rfl, hw⟩; rw [hw]; clear hw wq)
    | (go_at_call 19; refine ST.out.mono ?_; rintro e w3 ⟨⟨v3, rfl, hs3⟩, hb3⟩; obtain ⟨a3, cap3, rfl, _, _⟩ := hs3.open; rw [HSL.out]; have L0 := hid (L0.out w3 hb3); have L1 := hid (L1.out w3 hb3); have L2 := hid (L2.out w3 hb3); have HB3 := hid hb3; clear hs3 hb3))
  refine L0.out.mono ?_
  rintro e wq ⟨rfl, hw⟩
  rw [hw]
  clear hw wq
  go_wp2_with fail
  refine L1.out.mono ?_
  rintro e wq ⟨rfl, hw⟩
  rw [hw]
  clear hw wq
  go_wp2_with fail
  refine L2.out.mono ?_
  rintro e wq ⟨rfl, hw⟩
  rw [hw]
  clear hw wq
  go_wp2
  go_ret
  exact ⟨rfl, below_then HB2.out HB3.out⟩
end Go.Proofs.YtobcbaeoedpefaaDoor
