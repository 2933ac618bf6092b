/- What a Vec tells: its length, each bit, ranks, places of ones. -/
import Derived.Test.YtagadfgginneeaaBitsNew
import Derived.Shelf.Spec.TrailingZeros
namespace Go.Proofs.Ytagadfgginneeaa
set_option linter.unusedVariables false
set_option maxRecDepth 100000
set_option linter.unusedSimpArgs false
open Go.ChangeShapes Go.WideShapes Go.ChangeAt Go.RowKit

theorem len_cell (p : Nat) (n : Int) (w : World) (h : w.cell? ⟨p, 0, none⟩ = some (.int .i64 n)) :
    Calls Try.prog 57 #[.pointer (some ⟨p, 0, none⟩)] w fun e w' => e = .returned (.int .i64 n) ∧ w' = w := by
  go_enter Try.func57, Try.ntmps57
  go_wp2
  go_ret
  exact ⟨rfl, rfl⟩
theorem len_any (p : Nat) (l : List Bool) (w : World) (h : IsVec w p l) :
    Calls Try.prog 57 #[.pointer (some ⟨p, 0, none⟩)] w fun e w' => e = .returned (.int .i64 l.length) ∧ w' = w := by
  obtain ⟨bw, ba, m, h1, h2, h3, h4, h5⟩ := h
  exact len_cell p _ w (h3.cell (by simp))
theorem len_nil (w : World) : Calls Try.prog 57 #[.pointer none] w fun e w' => e = .returned (.int .i64 0) ∧ w' = w := by
  go_enter Try.func57, Try.ntmps57
  go_wp2
  go_ret
  exact ⟨rfl, rfl⟩

theorem get_out (p : Nat) (n : Nat) (i : Int) (w : World) (h : w.cell? ⟨p, 0, none⟩ = some (.int .i64 n)) (hi : i < 0 ∨ (n : Int) ≤ i) :
    Calls Try.prog 60 #[.pointer (some ⟨p, 0, none⟩), .int .i64 i] w fun e w' => e = .returned (.bool false) ∧ w' = w := by
  by_cases h0 : i < 0
  · go_enter Try.func60, Try.ntmps60
    go_wp2
    go_ret
    exact ⟨rfl, rfl⟩
  · have hn : ¬ i < n := by omega
    have hn' : (n : Int) ≤ i := by omega
    go_enter Try.func60, Try.ntmps60
    go_wp2_with (go_at_call 57; refine (len_cell _ _ _ h).mono ?_; rintro e w' ⟨rfl, rfl⟩)
    go_ret
    exact ⟨rfl, rfl⟩
theorem get_in (p bw m n i wd : Nat) (w : World) (h : w.cell? ⟨p, 0, none⟩ = some (.int .i64 n)) (h1 : w.cell? ⟨p, 1, none⟩ = some (.slice (some ⟨bw, 0, none⟩) m m)) (hi : i < n) (hm : i / 64 < m)
    (h2 : w.cell? ⟨bw, i / 64, none⟩ = some (.int .u64 wd)) (hn : n ≤ 4096) (hwd : wd < 18446744073709551616) :
    Calls Try.prog 60 #[.pointer (some ⟨p, 0, none⟩), .int .i64 i] w fun e w' => e = .returned (.bool (wd.testBit (i % 64))) ∧ ∃ n, w' = w.drewN n := by
  go_enter Try.func60, Try.ntmps60
  go_wp2_with (go_at_call 57; refine (len_cell _ _ _ h).mono ?_; rintro e w' ⟨rfl, rfl⟩)
  go_ret
  refine ⟨?_, 0, rfl⟩
  show Ending.returned (.bool _) = _
  rw [Bm.bit_test wd (i % 64) hwd]
theorem get_any (p : Nat) (l : List Bool) (i : Int) (w : World) (h : IsVec w p l) (hl : l.length ≤ 4096) :
    Calls Try.prog 60 #[.pointer (some ⟨p, 0, none⟩), .int .i64 i] w fun e w' => e = .returned (.bool (decide (0 ≤ i) && l.getD i.toNat false)) ∧ ∃ n, w' = w.drewN n := by
  obtain ⟨bw, ba, m, h1, h2, h3, h4, h5⟩ := h
  by_cases hi : i < 0 ∨ (l.length : Int) ≤ i
  · refine (get_out p l.length i w (h3.cell (by simp)) hi).mono fun e w' ⟨he, hw⟩ => ⟨?_, 0, hw⟩
    rw [he]
    rcases hi with hi | hi
    · simp; omega
    · have : l.getD i.toNat false = false := by simp [List.getD, List.getElem?_eq_none (show l.length ≤ i.toNat by omega)]
      rw [this]; simp
  · obtain ⟨j, rfl⟩ := Int.eq_ofNat_of_zero_le (show 0 ≤ i by omega)
    have hj : j < l.length := by omega
    have hm : j / 64 < m := by omega
    refine (get_in p bw m l.length j (Bm.word l (j / 64)) w (h3.cell (by simp)) (h3.cell (by simp)) hj hm (h4.cell (by rw [List.getElem?_map, List.getElem?_range hm]; rfl)) hl (Bm.word_lt l _)).mono fun e w' ⟨he, hw⟩ => ⟨?_, hw⟩
    rw [he, Bm.testBit_word l _ _ (by omega), show 64 * (j / 64) + j % 64 = j by omega]
    simp

theorem rank_low (p n : Nat) (i : Int) (w : World) (h : w.cell? ⟨p, 0, none⟩ = some (.int .i64 n)) (hi : i ≤ 0 ∨ n = 0) :
    Calls Try.prog 39 #[.pointer (some ⟨p, 0, none⟩), .int .i64 i] w fun e w' => e = .returned (.int .i64 0) ∧ ∃ n, w' = w.drewN n := by
  go_enter Try.func39, Try.ntmps39
  go_wp2_with (go_at_call 57; refine (len_cell _ _ _ h).mono ?_; rintro e w' ⟨rfl, rfl⟩)
  all_goals
    go_ret
    exact ⟨rfl, 0, rfl⟩
/-- At a whole word's end. -/
theorem rank_end (p bw ba m n j ah : Nat) (i : Int) (w : World) (h : w.cell? ⟨p, 0, none⟩ = some (.int .i64 n)) (h1 : w.cell? ⟨p, 1, none⟩ = some (.slice (some ⟨bw, 0, none⟩) m m))
    (h2 : w.cell? ⟨p, 2, none⟩ = some (.slice (some ⟨ba, 0, none⟩) (m + 1) (m + 1))) (hc : (i = j ∧ j ≤ n) ∨ (n = j ∧ (j : Int) < i)) (h0 : 0 < j) (hj : j / 64 = m) (hn : n ≤ 4096)
    (h3 : w.cell? ⟨ba, m, none⟩ = some (.int .i64 ah)) :
    Calls Try.prog 39 #[.pointer (some ⟨p, 0, none⟩), .int .i64 i] w fun e w' => e = .returned (.int .i64 ah) ∧ ∃ n, w' = w.drewN n := by
  have hj' : (j : Int) / 64 = m := by omega
  rcases hc with ⟨rfl, hc⟩ | ⟨rfl, hc⟩
  all_goals
    go_enter Try.func39, Try.ntmps39
    go_wp2_with (go_at_call 57; refine (len_cell _ _ _ h).mono ?_; rintro e w' ⟨rfl, rfl⟩)
    go_ret
    exact ⟨rfl, 0, rfl⟩
theorem rank_mid (p bw ba m n j wd ah : Nat) (i : Int) (w : World) (h : w.cell? ⟨p, 0, none⟩ = some (.int .i64 n)) (h1 : w.cell? ⟨p, 1, none⟩ = some (.slice (some ⟨bw, 0, none⟩) m m))
    (h2 : w.cell? ⟨p, 2, none⟩ = some (.slice (some ⟨ba, 0, none⟩) (m + 1) (m + 1))) (hc : (i = j ∧ j ≤ n) ∨ (n = j ∧ (j : Int) < i)) (h0 : 0 < j) (hj : j / 64 < m) (hn : n ≤ 4096)
    (h3 : w.cell? ⟨ba, j / 64, none⟩ = some (.int .i64 ah)) (h4 : w.cell? ⟨bw, j / 64, none⟩ = some (.int .u64 wd)) (hwd : wd < 18446744073709551616) (hah : ah ≤ 4096) :
    Calls Try.prog 39 #[.pointer (some ⟨p, 0, none⟩), .int .i64 i] w fun e w' => e = .returned (.int .i64 (ah + Bm.pop (j % 64) wd : Nat)) ∧ ∃ n, w' = w.drewN n := by
  have hlt : (j : Int) / 64 < m := by omega
  have hlt2 : (j : Int) / 64 < (m : Int) + 1 := by omega
  have hne : ((j : Int) / 64 == m) = false := by rw [beq_eq_false_iff_ne]; omega
  obtain ⟨lo, q, hpl, HL0⟩ : ∃ lo q : Nat, q ≤ 64 ∧ (bits BinOp.and IntKind.u64 (wd : Int) (IntKind.u64.wrap (IntKind.u64.wrap (2 ^ (j % 64)) - 1)) = (lo : Int) ∧ q = Bm.pop (j % 64) wd ∧
      ∀ W, Calls Try.prog 56 #[.int .u64 lo] W fun e w' => e = .returned (.int .i64 q) ∧ w' = W) := by
    have h := Bm.pop_low wd (j % 64) hwd (by omega)
    exact ⟨wd % 2 ^ (j % 64), Bm.pop 64 (wd % 2 ^ (j % 64)), Bm.pop_le _ _, h.1, h.2, fun W => ones_any _ W (Bm.low_lt wd (j % 64) hwd)⟩
  have HL := hid HL0
  clear HL0
  rcases hc with ⟨rfl, hc⟩ | ⟨rfl, hc⟩
  all_goals
    go_enter Try.func39, Try.ntmps39
    go_wp2_with (go_at_call 57; refine (len_cell _ _ _ h).mono ?_; rintro e w' ⟨rfl, rfl⟩)
    go_quiet (fail)
    go_wp2
    rw [HL.out.1]
    go_quiet ((go_at_call 56; exact drawn_same' fun W hW => HL.out.2.2 W))
    go_wp2
    go_ret
    exact ⟨ret_int (by rw [← HL.out.2.1, Int.natCast_add]), _, World.drewN_drewN _ _ _⟩
theorem rank_any (p : Nat) (l : List Bool) (i : Int) (w : World) (h : IsVec w p l) (hl : l.length ≤ 4096) :
    Calls Try.prog 39 #[.pointer (some ⟨p, 0, none⟩), .int .i64 i] w fun e w' => e = .returned (.int .i64 (Bm.rank l i : Nat)) ∧ ∃ n, w' = w.drewN n := by
  obtain ⟨bw, ba, m, h1, h2, h3, h4, h5⟩ := h
  have c0 : w.cell? ⟨p, 0, none⟩ = some (.int .i64 l.length) := h3.cell (by simp)
  have c1 : w.cell? ⟨p, 1, none⟩ = some (.slice (some ⟨bw, 0, none⟩) m m) := h3.cell (by simp)
  have c2 : w.cell? ⟨p, 2, none⟩ = some (.slice (some ⟨ba, 0, none⟩) (m + 1) (m + 1)) := h3.cell (by simp)
  by_cases hi : i ≤ 0 ∨ l.length = 0
  · refine (rank_low p l.length i w c0 hi).mono fun e w' ⟨he, hw⟩ => ⟨?_, hw⟩
    rw [he]
    have : Bm.rank l i = 0 := by
      unfold Bm.rank
      rcases hi with hi | hi
      · rw [show i.toNat = 0 by omega, Bm.cnt_zero]
      · have := Bm.cnt_le_all l i.toNat
        rw [hi, Bm.cnt_zero] at this; omega
    rw [this]; rfl
  · obtain ⟨j, hc, hr, h0, hjl⟩ : ∃ j : Nat, ((i = j ∧ j ≤ l.length) ∨ (l.length = j ∧ (j : Int) < i)) ∧ Bm.rank l i = Bm.cnt l j ∧ 0 < j ∧ j ≤ l.length := by
      by_cases h' : i ≤ l.length
      · exact ⟨i.toNat, Or.inl ⟨by omega, by omega⟩, rfl, by omega, by omega⟩
      · exact ⟨l.length, Or.inr ⟨rfl, by omega⟩, Bm.cnt_over l (by omega), by omega, Nat.le_refl _⟩
    rw [hr]
    have ha : w.cell? ⟨ba, j / 64, none⟩ = some (.int .i64 (Bm.cnt l (64 * (j / 64)))) := h5.cell (by rw [List.getElem?_map, List.getElem?_range (by omega)]; rfl)
    by_cases hj : j / 64 = m
    · rw [hj] at ha
      refine (rank_end p bw ba m l.length j _ i w c0 c1 c2 hc h0 hj hl ha).mono fun e w' ⟨he, hw⟩ => ⟨?_, hw⟩
      rw [he, show 64 * m = j by omega]
    · have hj' : j / 64 < m := by omega
      have hb := Bm.cnt_le_all l (64 * (j / 64))
      have hb2 := Bm.cnt_le l l.length
      refine (rank_mid p bw ba m l.length j (Bm.word l (j / 64)) _ i w c0 c1 c2 hc h0 hj' hl ha (h4.cell (by rw [List.getElem?_map, List.getElem?_range hj']; rfl)) (Bm.word_lt _ _) (by omega)).mono fun e w' ⟨he, hw⟩ => ⟨?_, hw⟩
      rw [he, Bm.pop_word l (j / 64) (j % 64) (by omega), show 64 * (j / 64) + j % 64 = j by omega]
theorem rank_nil (i : Int) (w : World) : Calls Try.prog 39 #[.pointer none, .int .i64 i] w fun e w' => e = .returned (.int .i64 0) ∧ w' = w := by
  go_enter Try.func39, Try.ntmps39
  go_wp2_with (go_at_call 57; refine (len_nil _).mono ?_; rintro e w' ⟨rfl, rfl⟩)
  all_goals
    go_ret
    exact ⟨rfl, rfl⟩
end Go.Proofs.Ytagadfgginneeaa
