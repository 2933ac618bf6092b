/- QueryOdd: of fourteen paths just the first may be, and is the first: for every number. -/
import Derived.Test.YtagmgkplfhlifaaDoorQpLaid
import Derived.Test.YtagmgkplfhlifaaDoorQpKnown
import Derived.Test.YtagmgkplfhlifaaDoorSmPath
namespace Go.Proofs.YtagmgkplfhlifaaDoor
set_option linter.unusedVariables false
set_option linter.unusedSimpArgs false
set_option maxRecDepth 100000
open Go.ChangeShapes Go.WideShapes Go.ChangeAt Go.RowKit
open Au
/-- The fourteen paths. -/
def odd (i : Nat) : Pt := ([.mk 1 [97] [] [], .mk 0 [] [] [], .mk 1 [] [] [], .mk 1 [97, 32, 98] [] [], .mk 1 [97] [] [(.mk 1 [97] [] [])], .mk 3 [] [] [(.mk 1 [97] [] [])], .mk 5 [] [] [], .mk 5 [97] [] [(.mk 1 [97] [] [])], .mk 8 [] [] [], .mk 8 [] [[97], [60]] [], .mk 8 [] [[97], [98], [99], [100], [101]] [], .mk 1 [97] [[97]] [], .mk 9 [] [] [], .mk 2 [] [] [(.mk 0 [] [] [])]] : List Pt).getD i default
def oddChk (i : Nat) : Bool := ((odd i).may == (i == 0)) && ((odd i).same (odd 0) == (i == 0)) && decide ((odd i).size ≤ 2) && decide ((odd i).text.length ≤ 3)
theorem odd_chk : (List.range 14).all oddChk = true := by kernel_rfl
theorem odd_is {i : Nat} (h : i < 14) : (odd i).may = (i == 0) ∧ (odd i).same (odd 0) = (i == 0) ∧ (odd i).size ≤ 2 := by
  have h1 := List.all_eq_true.1 odd_chk i (List.mem_range.2 h)
  simp only [oddChk, Bool.and_eq_true, decide_eq_true_eq, beq_iff_eq] at h1
  exact ⟨h1.1.1.1, h1.1.1.2, h1.1.2⟩
theorem pto_none (W : World) (k : Int) (t : T) (L : List T) (a : Option Addr) (c : Nat) : PtO W (.slice a 0 c) (.mk k t L []) :=
  .mk k t L [] a c 0 0 (fun _ => undef) (fun h => absurd h (by simp)) (fun i hi => absurd hi (by simp)) (fun i hi => absurd hi (by simp))
theorem pto_one {W : World} {b : Nat} {x : Pt} {v u : Value} (k : Int) (t : T) (L : List T) (h : Blk W b [.int .i64 x.kind, str x.text, v, u] 25) (hO : PtO W u x) : PtO W (.slice (some ⟨b, 0, none⟩) 1 1) (.mk k t L [x]) := by
  refine .mk k t L [x] _ 1 b 0 (fun _ => u) (fun _ => ⟨rfl, h.unfz⟩) (fun i hi => ?_) (fun i hi => ?_)
  · obtain rfl : i = 0 := by simp at hi; omega
    exact h.cell rfl
  · obtain rfl : i = 0 := by simp at hi; omega
    exact hO
theorem odd_pt {W : World} {v : Value} (k : Int) (hk : -9223372036854775808 ≤ k ∧ k ≤ 9223372036854775807) (t : T) (ht : t.length ≤ 140737488351232) (L : List T) (hL : TextsAt W v L) (hl : ∀ i, (L.getD i []).length ≤ 140737488351232) : PtAt W v (.slice none 0 0) (.mk k t L []) :=
  .mk k t L [] v none 0 0 0 (fun _ => undef) (fun _ => undef) hk ht hL hl (Nat.le_refl _) (by unfold maxLen; omega) (fun _ => rfl) (fun h => absurd h (by simp)) (fun i hi => absurd hi (by simp)) (fun i hi => absurd hi (by simp))
theorem odd_one {W : World} {b : Nat} {x : Pt} {v u : Value} (k : Int) (hk : -9223372036854775808 ≤ k ∧ k ≤ 9223372036854775807) (t : T) (ht : t.length ≤ 140737488351232) (h : Blk W b [.int .i64 x.kind, str x.text, v, u] 25) (hP : PtAt W v u x) : PtAt W (.slice none 0 0) (.slice (some ⟨b, 0, none⟩) 1 1) (.mk k t [] [x]) := by
  refine .mk k t [] [x] _ _ 1 b 0 (fun _ => v) (fun _ => u) hk ht (SlAt.nil _) (fun i => by simp) (Nat.le_refl _) (by unfold maxLen; omega) (fun h => by cases h) (fun _ => rfl) (fun i hi => ?_) (fun i hi => ?_)
  · obtain rfl : i = 0 := by simp at hi; omega
    exact ⟨h.cell rfl, h.cell rfl, h.cell rfl, h.cell rfl⟩
  · obtain rfl : i = 0 := by simp at hi; omega
    exact hP
theorem odd_texts {W : World} {b : Nat} {L : List T} (h : Blk W b (L.map str) 9) (hl : L.length ≤ 100) : TextsAt W (.slice (some ⟨b, 0, none⟩) L.length L.length) L := by
  refine ⟨some ⟨b, 0, none⟩, L.length, rfl, Nat.le_refl _, by unfold maxLen; omega, (fun h => by cases h), Or.inr ⟨b, 0, rfl, fun i hi => ?_⟩⟩
  exact h.cell (by simp [List.getElem?_map, List.getElem?_eq_getElem hi, List.getD])
set_option maxHeartbeats 4000000 in
theorem odd_world (w : World) : ∃ (w9 : World) (b : Nat), w9 = (((((((((w.alloc (.cells #[.int .i64 1, .string ⟨#[97]⟩, .slice none 0 0, .slice none 0 0] 25)).alloc (.cells #[.int .i64 1, .string ⟨#[97]⟩, .slice none 0 0, .slice none 0 0] 25)).alloc (.cells #[.int .i64 1, .string ⟨#[97]⟩, .slice none 0 0, .slice none 0 0] 25)).alloc (.cells #[.int .i64 1, .string ⟨#[97]⟩, .slice none 0 0, .slice none 0 0] 25)).alloc (.cells #[.string ⟨#[97]⟩, .string ⟨#[60]⟩] 9)).alloc (.cells #[.string ⟨#[97]⟩, .string ⟨#[98]⟩, .string ⟨#[99]⟩, .string ⟨#[100]⟩, .string ⟨#[101]⟩] 9)).alloc (.cells #[.string ⟨#[97]⟩] 9)).alloc (.cells #[.int .i64 0, .string ⟨#[]⟩, .slice none 0 0, .slice none 0 0] 25)).alloc (.cells #[.int .i64 1, .string ⟨#[97]⟩, .slice none 0 0, .slice none 0 0, .int .i64 0, .string ⟨#[]⟩, .slice none 0 0, .slice none 0 0, .int .i64 1, .string ⟨#[]⟩, .slice none 0 0, .slice none 0 0, .int .i64 1, .string ⟨#[97, 32, 98]⟩, .slice none 0 0, .slice none 0 0, .int .i64 1, .string ⟨#[97]⟩, .slice none 0 0, .slice (some ⟨w.heap.size + 1, 0, none⟩) 1 1, .int .i64 3, .string ⟨#[]⟩, .slice none 0 0, .slice (some ⟨w.heap.size + 1 + 1, 0, none⟩) 1 1, .int .i64 5, .string ⟨#[]⟩, .slice none 0 0, .slice none 0 0, .int .i64 5, .string ⟨#[97]⟩, .slice none 0 0, .slice (some ⟨w.heap.size + 1 + 1 + 1, 0, none⟩) 1 1, .int .i64 8, .string ⟨#[]⟩, .slice none 0 0, .slice none 0 0, .int .i64 8, .string ⟨#[]⟩, .slice (some ⟨w.heap.size + 1 + 1 + 1 + 1, 0, none⟩) 2 2, .slice none 0 0, .int .i64 8, .string ⟨#[]⟩, .slice (some ⟨w.heap.size + 1 + 1 + 1 + 1 + 1, 0, none⟩) 5 5, .slice none 0 0, .int .i64 1, .string ⟨#[97]⟩, .slice (some ⟨w.heap.size + 1 + 1 + 1 + 1 + 1 + 1, 0, none⟩) 1 1, .slice none 0 0, .int .i64 9, .string ⟨#[]⟩, .slice none 0 0, .slice none 0 0, .int .i64 2, .string ⟨#[]⟩, .slice none 0 0, .slice (some ⟨w.heap.size + 1 + 1 + 1 + 1 + 1 + 1 + 1, 0, none⟩) 1 1] 25)) ∧ b = w.heap.size + 1 + 1 + 1 + 1 + 1 + 1 + 1 + 1 ∧ Hid (Below w.heap.size w w9) ∧ Hid (Blk w9 w.heap.size [.int .i64 1, .string ⟨#[97]⟩, .slice none 0 0, .slice none 0 0] 25) ∧
    Hid (∀ i, i < 14 → ∃ (a : Option Addr) (n c : Nat) (a' : Option Addr) (n' c' : Nat), w9.cell? ⟨b, i * 4, none⟩ = some (.int .i64 (odd i).kind) ∧ w9.cell? ⟨b, i * 4 + 1, none⟩ = some (str (odd i).text) ∧ w9.cell? ⟨b, i * 4 + 2, none⟩ = some (.slice a n c) ∧ w9.cell? ⟨b, i * 4 + 3, none⟩ = some (.slice a' n' c') ∧
      PtAt w9 (.slice a n c) (.slice a' n' c') (odd i) ∧ PtO w9 (.slice a' n' c') (odd i)) := by
  obtain ⟨w9, hw⟩ : ∃ w9, w9 = (((((((((w.alloc (.cells #[.int .i64 1, .string ⟨#[97]⟩, .slice none 0 0, .slice none 0 0] 25)).alloc (.cells #[.int .i64 1, .string ⟨#[97]⟩, .slice none 0 0, .slice none 0 0] 25)).alloc (.cells #[.int .i64 1, .string ⟨#[97]⟩, .slice none 0 0, .slice none 0 0] 25)).alloc (.cells #[.int .i64 1, .string ⟨#[97]⟩, .slice none 0 0, .slice none 0 0] 25)).alloc (.cells #[.string ⟨#[97]⟩, .string ⟨#[60]⟩] 9)).alloc (.cells #[.string ⟨#[97]⟩, .string ⟨#[98]⟩, .string ⟨#[99]⟩, .string ⟨#[100]⟩, .string ⟨#[101]⟩] 9)).alloc (.cells #[.string ⟨#[97]⟩] 9)).alloc (.cells #[.int .i64 0, .string ⟨#[]⟩, .slice none 0 0, .slice none 0 0] 25)).alloc (.cells #[.int .i64 1, .string ⟨#[97]⟩, .slice none 0 0, .slice none 0 0, .int .i64 0, .string ⟨#[]⟩, .slice none 0 0, .slice none 0 0, .int .i64 1, .string ⟨#[]⟩, .slice none 0 0, .slice none 0 0, .int .i64 1, .string ⟨#[97, 32, 98]⟩, .slice none 0 0, .slice none 0 0, .int .i64 1, .string ⟨#[97]⟩, .slice none 0 0, .slice (some ⟨w.heap.size + 1, 0, none⟩) 1 1, .int .i64 3, .string ⟨#[]⟩, .slice none 0 0, .slice (some ⟨w.heap.size + 1 + 1, 0, none⟩) 1 1, .int .i64 5, .string ⟨#[]⟩, .slice none 0 0, .slice none 0 0, .int .i64 5, .string ⟨#[97]⟩, .slice none 0 0, .slice (some ⟨w.heap.size + 1 + 1 + 1, 0, none⟩) 1 1, .int .i64 8, .string ⟨#[]⟩, .slice none 0 0, .slice none 0 0, .int .i64 8, .string ⟨#[]⟩, .slice (some ⟨w.heap.size + 1 + 1 + 1 + 1, 0, none⟩) 2 2, .slice none 0 0, .int .i64 8, .string ⟨#[]⟩, .slice (some ⟨w.heap.size + 1 + 1 + 1 + 1 + 1, 0, none⟩) 5 5, .slice none 0 0, .int .i64 1, .string ⟨#[97]⟩, .slice (some ⟨w.heap.size + 1 + 1 + 1 + 1 + 1 + 1, 0, none⟩) 1 1, .slice none 0 0, .int .i64 9, .string ⟨#[]⟩, .slice none 0 0, .slice none 0 0, .int .i64 2, .string ⟨#[]⟩, .slice none 0 0, .slice (some ⟨w.heap.size + 1 + 1 + 1 + 1 + 1 + 1 + 1, 0, none⟩) 1 1] 25)) := ⟨_, rfl⟩
  have B0 : Blk w9 (w.heap.size) [.int .i64 1, .string ⟨#[97]⟩, .slice none 0 0, .slice none 0 0] 25 := by
    rw [hw]
    refine Blk.alloc ?_ _
    refine Blk.alloc ?_ _
    refine Blk.alloc ?_ _
    refine Blk.alloc ?_ _
    refine Blk.alloc ?_ _
    refine Blk.alloc ?_ _
    refine Blk.alloc ?_ _
    refine Blk.alloc ?_ _
    exact Blk.new' (by simp) rfl
  have B1 : Blk w9 (w.heap.size + 1) [.int .i64 1, .string ⟨#[97]⟩, .slice none 0 0, .slice none 0 0] 25 := by
    rw [hw]
    refine Blk.alloc ?_ _
    refine Blk.alloc ?_ _
    refine Blk.alloc ?_ _
    refine Blk.alloc ?_ _
    refine Blk.alloc ?_ _
    refine Blk.alloc ?_ _
    refine Blk.alloc ?_ _
    exact Blk.new' (by simp) rfl
  have B2 : Blk w9 (w.heap.size + 1 + 1) [.int .i64 1, .string ⟨#[97]⟩, .slice none 0 0, .slice none 0 0] 25 := by
    rw [hw]
    refine Blk.alloc ?_ _
    refine Blk.alloc ?_ _
    refine Blk.alloc ?_ _
    refine Blk.alloc ?_ _
    refine Blk.alloc ?_ _
    refine Blk.alloc ?_ _
    exact Blk.new' (by simp) rfl
  have B3 : Blk w9 (w.heap.size + 1 + 1 + 1) [.int .i64 1, .string ⟨#[97]⟩, .slice none 0 0, .slice none 0 0] 25 := by
    rw [hw]
    refine Blk.alloc ?_ _
    refine Blk.alloc ?_ _
    refine Blk.alloc ?_ _
    refine Blk.alloc ?_ _
    refine Blk.alloc ?_ _
    exact Blk.new' (by simp) rfl
  have B4 : Blk w9 (w.heap.size + 1 + 1 + 1 + 1) [.string ⟨#[97]⟩, .string ⟨#[60]⟩] 9 := by
    rw [hw]
    refine Blk.alloc ?_ _
    refine Blk.alloc ?_ _
    refine Blk.alloc ?_ _
    refine Blk.alloc ?_ _
    exact Blk.new' (by simp) rfl
  have B5 : Blk w9 (w.heap.size + 1 + 1 + 1 + 1 + 1) [.string ⟨#[97]⟩, .string ⟨#[98]⟩, .string ⟨#[99]⟩, .string ⟨#[100]⟩, .string ⟨#[101]⟩] 9 := by
    rw [hw]
    refine Blk.alloc ?_ _
    refine Blk.alloc ?_ _
    refine Blk.alloc ?_ _
    exact Blk.new' (by simp) rfl
  have B6 : Blk w9 (w.heap.size + 1 + 1 + 1 + 1 + 1 + 1) [.string ⟨#[97]⟩] 9 := by
    rw [hw]
    refine Blk.alloc ?_ _
    refine Blk.alloc ?_ _
    exact Blk.new' (by simp) rfl
  have B7 : Blk w9 (w.heap.size + 1 + 1 + 1 + 1 + 1 + 1 + 1) [.int .i64 0, .string ⟨#[]⟩, .slice none 0 0, .slice none 0 0] 25 := by
    rw [hw]
    refine Blk.alloc ?_ _
    exact Blk.new' (by simp) rfl
  have B8 : Blk w9 (w.heap.size + 1 + 1 + 1 + 1 + 1 + 1 + 1 + 1) [.int .i64 1, .string ⟨#[97]⟩, .slice none 0 0, .slice none 0 0, .int .i64 0, .string ⟨#[]⟩, .slice none 0 0, .slice none 0 0, .int .i64 1, .string ⟨#[]⟩, .slice none 0 0, .slice none 0 0, .int .i64 1, .string ⟨#[97, 32, 98]⟩, .slice none 0 0, .slice none 0 0, .int .i64 1, .string ⟨#[97]⟩, .slice none 0 0, .slice (some ⟨w.heap.size + 1, 0, none⟩) 1 1, .int .i64 3, .string ⟨#[]⟩, .slice none 0 0, .slice (some ⟨w.heap.size + 1 + 1, 0, none⟩) 1 1, .int .i64 5, .string ⟨#[]⟩, .slice none 0 0, .slice none 0 0, .int .i64 5, .string ⟨#[97]⟩, .slice none 0 0, .slice (some ⟨w.heap.size + 1 + 1 + 1, 0, none⟩) 1 1, .int .i64 8, .string ⟨#[]⟩, .slice none 0 0, .slice none 0 0, .int .i64 8, .string ⟨#[]⟩, .slice (some ⟨w.heap.size + 1 + 1 + 1 + 1, 0, none⟩) 2 2, .slice none 0 0, .int .i64 8, .string ⟨#[]⟩, .slice (some ⟨w.heap.size + 1 + 1 + 1 + 1 + 1, 0, none⟩) 5 5, .slice none 0 0, .int .i64 1, .string ⟨#[97]⟩, .slice (some ⟨w.heap.size + 1 + 1 + 1 + 1 + 1 + 1, 0, none⟩) 1 1, .slice none 0 0, .int .i64 9, .string ⟨#[]⟩, .slice none 0 0, .slice none 0 0, .int .i64 2, .string ⟨#[]⟩, .slice none 0 0, .slice (some ⟨w.heap.size + 1 + 1 + 1 + 1 + 1 + 1 + 1, 0, none⟩) 1 1] 25 := by
    rw [hw]
    exact Blk.new' (by simp) rfl
  have HB : Below w.heap.size w w9 := by
    rw [hw]
    refine Below.alloc ?_ (by simp; try omega) _
    refine Below.alloc ?_ (by simp; try omega) _
    refine Below.alloc ?_ (by simp; try omega) _
    refine Below.alloc ?_ (by simp; try omega) _
    refine Below.alloc ?_ (by simp; try omega) _
    refine Below.alloc ?_ (by simp; try omega) _
    refine Below.alloc ?_ (by simp; try omega) _
    refine Below.alloc ?_ (by simp; try omega) _
    refine Below.alloc ?_ (by simp; try omega) _
    exact Below.refl _ _
  refine ⟨w9, _, hw, rfl, HB, B0, fun i hi => ?_⟩
  rcases (show i = 0 ∨ i = 1 ∨ i = 2 ∨ i = 3 ∨ i = 4 ∨ i = 5 ∨ i = 6 ∨ i = 7 ∨ i = 8 ∨ i = 9 ∨ i = 10 ∨ i = 11 ∨ i = 12 ∨ i = 13 by omega) with rfl | rfl | rfl | rfl | rfl | rfl | rfl | rfl | rfl | rfl | rfl | rfl | rfl | rfl
  · exact ⟨none, 0, 0, none, 0, 0, B8.cell (i := 0) rfl, B8.cell (i := 1) rfl, B8.cell (i := 2) rfl, B8.cell (i := 3) rfl, pt_none _ 1 (by decide) [97] (by decide), pto_none _ _ _ _ _ _⟩
  · exact ⟨none, 0, 0, none, 0, 0, B8.cell (i := 4) rfl, B8.cell (i := 5) rfl, B8.cell (i := 6) rfl, B8.cell (i := 7) rfl, pt_none _ 0 (by decide) [] (by decide), pto_none _ _ _ _ _ _⟩
  · exact ⟨none, 0, 0, none, 0, 0, B8.cell (i := 8) rfl, B8.cell (i := 9) rfl, B8.cell (i := 10) rfl, B8.cell (i := 11) rfl, pt_none _ 1 (by decide) [] (by decide), pto_none _ _ _ _ _ _⟩
  · exact ⟨none, 0, 0, none, 0, 0, B8.cell (i := 12) rfl, B8.cell (i := 13) rfl, B8.cell (i := 14) rfl, B8.cell (i := 15) rfl, pt_none _ 1 (by decide) [97, 32, 98] (by decide), pto_none _ _ _ _ _ _⟩
  · exact ⟨none, 0, 0, some ⟨w.heap.size + 1, 0, none⟩, 1, 1, B8.cell (i := 16) rfl, B8.cell (i := 17) rfl, B8.cell (i := 18) rfl, B8.cell (i := 19) rfl, odd_one (x := (.mk 1 [97] [] [])) 1 (by decide) [97] (by decide) B1 (pt_none _ 1 (by decide) [97] (by decide)), pto_one (x := (.mk 1 [97] [] [])) 1 [97] [] B1 (pto_none _ _ _ _ _ _)⟩
  · exact ⟨none, 0, 0, some ⟨w.heap.size + 1 + 1, 0, none⟩, 1, 1, B8.cell (i := 20) rfl, B8.cell (i := 21) rfl, B8.cell (i := 22) rfl, B8.cell (i := 23) rfl, odd_one (x := (.mk 1 [97] [] [])) 3 (by decide) [] (by decide) B2 (pt_none _ 1 (by decide) [97] (by decide)), pto_one (x := (.mk 1 [97] [] [])) 3 [] [] B2 (pto_none _ _ _ _ _ _)⟩
  · exact ⟨none, 0, 0, none, 0, 0, B8.cell (i := 24) rfl, B8.cell (i := 25) rfl, B8.cell (i := 26) rfl, B8.cell (i := 27) rfl, pt_none _ 5 (by decide) [] (by decide), pto_none _ _ _ _ _ _⟩
  · exact ⟨none, 0, 0, some ⟨w.heap.size + 1 + 1 + 1, 0, none⟩, 1, 1, B8.cell (i := 28) rfl, B8.cell (i := 29) rfl, B8.cell (i := 30) rfl, B8.cell (i := 31) rfl, odd_one (x := (.mk 1 [97] [] [])) 5 (by decide) [97] (by decide) B3 (pt_none _ 1 (by decide) [97] (by decide)), pto_one (x := (.mk 1 [97] [] [])) 5 [97] [] B3 (pto_none _ _ _ _ _ _)⟩
  · exact ⟨none, 0, 0, none, 0, 0, B8.cell (i := 32) rfl, B8.cell (i := 33) rfl, B8.cell (i := 34) rfl, B8.cell (i := 35) rfl, pt_none _ 8 (by decide) [] (by decide), pto_none _ _ _ _ _ _⟩
  · exact ⟨some ⟨w.heap.size + 1 + 1 + 1 + 1, 0, none⟩, 2, 2, none, 0, 0, B8.cell (i := 36) rfl, B8.cell (i := 37) rfl, B8.cell (i := 38) rfl, B8.cell (i := 39) rfl, odd_pt 8 (by decide) [] (by decide) [[97], [60]] (odd_texts (L := [[97], [60]]) B4 (by decide)) (fun i => by match i with | 0 => decide | 1 => decide | _ + 2 => simp), pto_none _ _ _ _ _ _⟩
  · exact ⟨some ⟨w.heap.size + 1 + 1 + 1 + 1 + 1, 0, none⟩, 5, 5, none, 0, 0, B8.cell (i := 40) rfl, B8.cell (i := 41) rfl, B8.cell (i := 42) rfl, B8.cell (i := 43) rfl, odd_pt 8 (by decide) [] (by decide) [[97], [98], [99], [100], [101]] (odd_texts (L := [[97], [98], [99], [100], [101]]) B5 (by decide)) (fun i => by match i with | 0 => decide | 1 => decide | 2 => decide | 3 => decide | 4 => decide | _ + 5 => simp), pto_none _ _ _ _ _ _⟩
  · exact ⟨some ⟨w.heap.size + 1 + 1 + 1 + 1 + 1 + 1, 0, none⟩, 1, 1, none, 0, 0, B8.cell (i := 44) rfl, B8.cell (i := 45) rfl, B8.cell (i := 46) rfl, B8.cell (i := 47) rfl, odd_pt 1 (by decide) [97] (by decide) [[97]] (odd_texts (L := [[97]]) B6 (by decide)) (fun i => by match i with | 0 => decide | _ + 1 => simp), pto_none _ _ _ _ _ _⟩
  · exact ⟨none, 0, 0, none, 0, 0, B8.cell (i := 48) rfl, B8.cell (i := 49) rfl, B8.cell (i := 50) rfl, B8.cell (i := 51) rfl, pt_none _ 9 (by decide) [] (by decide), pto_none _ _ _ _ _ _⟩
  · exact ⟨none, 0, 0, some ⟨w.heap.size + 1 + 1 + 1 + 1 + 1 + 1 + 1, 0, none⟩, 1, 1, B8.cell (i := 52) rfl, B8.cell (i := 53) rfl, B8.cell (i := 54) rfl, B8.cell (i := 55) rfl, odd_one (x := (.mk 0 [] [] [])) 2 (by decide) [] (by decide) B7 (pt_none _ 0 (by decide) [] (by decide)), pto_one (x := (.mk 0 [] [] [])) 2 [] [] B7 (pto_none _ _ _ _ _ _)⟩
--CUT--
set_option maxHeartbeats 4000000 in
theorem odd_walk (i : Nat) (hi : i < 14) (w : World) (hV : QVars w) :
    Calls Tryd.prog 11 #[.int .i64 i] w fun e w' => e = .returned (.bool true) ∧ Below w.heap.size w w' := by
  obtain ⟨w9, b, hw9, hb, HB, HA, HR⟩ := odd_world w
  obtain ⟨a, n, c, a', n', c', r0, r1, r2, r3, hP, hO⟩ := HR.out i hi
  obtain ⟨_, _, _, _, _, _, _, _, _, _, hP0, hO0⟩ := HR.out 0 (by decide)
  obtain ⟨hm, hs, hz⟩ := odd_is hi
  have KN := hid fun W (hb : Below w.heap.size w W) => qknown_any W (hV.keep hb)
  have HT9 := hid ((hV.keep HB.out).1)
  have CI := hid fun p : Later w9.heap.size w9 => ispath_any (odd i) _ _ p.it (hP.keep p.low) (HT9.out.keep p.low)
  have hA0 : PtAt w9 (.slice none 0 0) (.slice none 0 0) (odd 0) := pt_none _ 1 (by decide) [97] (by decide)
  have hO00 : PtO w9 (.slice none 0 0) (odd 0) := pto_none _ _ _ _ _ _
  have CS := hid fun p : Later w9.heap.size w9 => qsame_any (odd i) (odd 0) _ _ _ _ p.it (hP.keep p.low) (hO.keep p.low) (hA0.keep p.low) (hO00.keep p.low) (by omega)
  have CK := hid fun p : Later w9.heap.size w9 => KN.out p.it (HB.out.trans (p.low.mono HB.out.size))
  rw [hm] at CI
  rw [hs] at CS
  obtain ⟨c0, c1, c2, c3⟩ := blk4 HA.out
  have HE := hid (show ((i : Int) == 0) = (i == 0) by rw [Bool.eq_iff_iff, beq_iff_eq, beq_iff_eq]; omega)
  have HLT := hid hi
  unfold pv at CI CS
  have CS := hid (show ∀ p : Later w9.heap.size w9, Calls Tryd.prog 15 #[.agg #[.int .i64 (odd i).kind, str (odd i).text, .slice a n c, .slice a' n' c'], .agg #[.int .i64 1, .string ⟨#[97]⟩, .slice none 0 0, .slice none 0 0]] p.it fun e w' => e = .returned (.bool (i == 0)) ∧ Below p.it.heap.size p.it w' from CS.out)
  obtain ⟨k, hk⟩ : ∃ z, z = (odd i).kind := ⟨_, rfl⟩
  obtain ⟨t, ht⟩ : ∃ z, z = (odd i).text := ⟨_, rfl⟩
  rw [← hk] at CI CS r0
  rw [← ht] at CI CS r1
  obtain ⟨E, hE⟩ : ∃ z, z = (i == 0) := ⟨_, rfl⟩
  rw [← hE] at CI CS HE
  clear hk ht hE hP hO hP0 hO0 hA0 hO00 HR hm hs hz hV HA
  have hE2 := HE.out
  have c0q := fun p : Later w9.heap.size w9 => p.keep c0
  have c1q := fun p : Later w9.heap.size w9 => p.keep c1
  have c2q := fun p : Later w9.heap.size w9 => p.keep c2
  have c3q := fun p : Later w9.heap.size w9 => p.keep c3
  have r0q := fun p : Later w9.heap.size w9 => p.keep r0
  have r1q := fun p : Later w9.heap.size w9 => p.keep r1
  have r2q := fun p : Later w9.heap.size w9 => p.keep r2
  have r3q := fun p : Later w9.heap.size w9 => p.keep r3
  have BEQ := hid (show (E == E) = true from by cases E <;> rfl)
  have beq := BEQ.out
  go_enter Tryd.func11, Tryd.ntmps11
  go_upto_region 3 with fail
  rw [← hw9, ← hb]
  clear hw9 hb
  go_upto_region 5 with fail
  refine wp_region_later w9.heap.size (by kernel_rfl) (by kernel_rfl) ?_
  repeat (go_big_quiet_step (first | (go_at_call 19; with_reducible exact Later.call (Nat.le_refl _) (CI.out _)) | (go_at_call 15; with_reducible exact Later.call (Nat.le_refl _) (CS.out _)) | (go_at_call 17; with_reducible exact Later.call (Nat.le_refl _) (CK.out _)) | fail))
  refine wpQuiet_nil ?_
  rintro wn ⟨p, rfl⟩
  have hbn := hid p.low
  clear c0q c1q c2q c3q r0q r1q r2q r3q
  go_wp2
  go_ret
  exact ⟨rfl, HB.out.trans (hbn.out.mono HB.out.size)⟩
set_option maxHeartbeats 4000000 in
theorem queryOdd_any (x : Int) (hx : -9223372036854775808 ≤ x ∧ x ≤ 9223372036854775807) (w : World) (hV : QVars w) :
    Calls Tryd.prog 11 #[.int .i64 x] w fun e w' => e = .returned (.bool true) ∧ Below w.heap.size w w' := by
  by_cases h0 : x < 0
  · obtain ⟨w9, b, hw9, hb, HB, HA, HR⟩ := odd_world w
    obtain ⟨c0, c1, c2, c3⟩ := blk4 HA.out
    go_enter Tryd.func11, Tryd.ntmps11
    go_upto_region 3 with fail
    rw [← hw9, ← hb]
    clear hw9 hb
    go_wp2
    go_ret
    exact ⟨rfl, HB.out⟩
  by_cases h14 : 14 ≤ x
  · obtain ⟨w9, b, hw9, hb, HB, HA, HR⟩ := odd_world w
    obtain ⟨c0, c1, c2, c3⟩ := blk4 HA.out
    go_enter Tryd.func11, Tryd.ntmps11
    go_upto_region 3 with fail
    rw [← hw9, ← hb]
    clear hw9 hb
    go_wp2
    go_ret
    exact ⟨rfl, HB.out⟩
  obtain ⟨i, rfl⟩ : ∃ i : Nat, x = i := ⟨x.toNat, by omega⟩
  exact odd_walk i (by omega) w hV

theorem queryOdd_walk (H : Type) (enc : TypeId × Value → H) (W : World) (base : Nat) (args : Array Value) (ds gs : List (DataW H)) (before : List MemPlace)
    (hval : ∀ (j : Nat) t v, Tryd.f11.params[j]? = some t → args[j]? = some v → Value.okWide Tryd.prog W .any base t v)
    (hW : DataW.Whole enc Tryd.prog Tryd.f11.params.toList Rows.queryOddSpec.vars false W args.toList ds gs before)
    (hz : (DataW.weightsEach Tryd.prog (Tryd.f11.params.toList ++ Rows.queryOddSpec.plain.varTypes Tryd.prog) (ds ++ gs)).all (· ≤ reachBytes) = true)
    (hL : laidMetH Tryd.prog Rows.queryOddRow.laid W) (hsh : W.ShapedOpen Tryd.prog) :
    Calls Tryd.prog 11 args W fun e W' => e = .returned (.bool true) ∧ Below W.heap.size W W' := by
  obtain ⟨p, q, hA, _, _, _, _⟩ := hW
  rw [Tryd.params11] at hA hval
  rw [Tryd.params11] at hz
  obtain ⟨v0, vs0, d0, ds0, p0, q0, hargs, rfl, rfl, h0, r0⟩ := trodAll_cons hA
  obtain ⟨rfl, rfl, rfl⟩ := trodAll_nil r0
  obtain rfl : args = #[v0] := by cases args; simp_all
  obtain ⟨x0, rfl, rfl, rfl, w0⟩ := open_int Tryd.underlying3 (hval 0 3 v0 rfl rfl) h0
  have b0 := bounds_i64 w0
  exact queryOdd_any x0 b0 W (qvars_of hL hsh)

theorem queryOdd_lifted (os : Os) (started : os.Started) (H : Type) (enc : TypeId × Value → H) (F : Stop.Interp) :
    ReturnsInHanded {} Tryd.checked os 11 .any ((OpenSpec.ofChange Rows.queryOddSpec).preRow enc Tryd.prog Tryd.f11 Rows.queryOddRow.domain false Rows.queryOddRow.laid) (((OpenSpec.ofChange Rows.queryOddSpec).at F).post enc Tryd.prog Tryd.f11 false true false false) := by
  obtain ⟨places, hx⟩ : ∃ places, DataW.whole enc Tryd.prog ((laidWorld os).forCall (fun _ _ => 0) ⟨#[], #[.int .i64 0], []⟩).memory Tryd.f11.params.toList Rows.queryOddSpec.vars false (#[.int .i64 0] : Array Value).toList 8 = some ([.lit (.int .i64 0)], [], places) := ⟨[], by kernel_rfl⟩
  refine returnsInHanded_of_row (C := Tryd.checked) (s := OpenSpec.ofChange Rows.queryOddSpec) own started (by kernel_rfl) Tryd.func11
    (witness_row_at (enc := enc) (C := Tryd.checked) false (laidWorld os) #[.int .i64 0] rfl (by kernel_rfl) (by kernel_rfl) (by kernel_rfl)
      (OpenSpec.preRow_of_cond 8 hx (by kernel_rfl) (fun k hk => by cases hk) (by kernel_rfl) (laidMet_of_run' 8 (by kernel_rfl) (by kernel_rfl)))) ?_
  intro W base args ds gs before hval hW _ _ hz hL hsh _
  refine (queryOdd_walk H enc W base args ds gs before hval hW hz hL hsh).mono fun e W' ⟨he, hb⟩ => ⟨_, he, ?_⟩
  exact law_post (fn := Tryd.f11) (s := Rows.queryOddSpec) (tb := 4) rfl (fun ds hd => by match ds, hd with | [d0], _ => rfl) rfl Tryd.underlying4 (by kernel_rfl) hW hb

theorem queryOdd_said : Rows.QueryOddSaid :=
  OpenClaim.holds_of_cond 11 Tryd.f11 rfl rfl rfl rfl rfl rfl rfl ⟨rfl, rfl, rfl, rfl, rfl⟩ rfl rfl rfl rfl rfl (by kernel_rfl) Tryd.func11 (by kernel_rfl)
    (of_decide_eq_true (by kernel_rfl)) (by unfold Func.isWrapper; first | (rw [if_pos (by decide +kernel)]; kernel_rfl) | (rw [if_neg (by decide +kernel)]; exact ⟨rfl, rfl⟩))
    (fun os started H enc _ F => by rw [OpenClaim.pre_eq_preRow]; exact queryOdd_lifted os started H enc F)

theorem queryOdd_plain (f : FuncId) (fn : Func) (hf : Tryd.pinned.checked.prog.funcNamed Rows.queryOddRow.func = some f) (hfn : Tryd.pinned.checked.prog.funcs[f]? = some fn) :
    false = Tryd.pinned.checked.prog.looks [] ∧ ∀ (j : Nat) t, fn.params[j]? = some t → Tryd.pinned.checked.prog.wantsStandIn t = false := by
  obtain rfl : f = 11 := Option.some.inj ((show Tryd.prog.funcNamed Rows.queryOddRow.func = some 11 by kernel_rfl).symm.trans hf) |>.symm
  obtain rfl : fn = Tryd.f11 := (Option.some.inj (Tryd.func11.symm.trans hfn)).symm
  refine ⟨by kernel_rfl, fun j t ht => ?_⟩
  have h := Array.mem_of_getElem? ht
  have hall : Tryd.f11.params.all (fun t => !Tryd.prog.wantsStandIn t) = true := by kernel_rfl
  have := Array.all_eq_true_iff_forall_mem.1 hall t h
  show Tryd.prog.wantsStandIn t = false
  simpa using this

/-- THE STATEMENT. -/
theorem queryOdd_card : Rows.QueryOddCardSaid :=
  Claim7.holds_tied_plain_at .later [] _ _ _ _ queryOdd_said (fun _ h => by cases h) (by kernel_rfl) (fun _ h => by cases h) queryOdd_row_tie rfl ⟨rfl, rfl⟩ (by kernel_rfl) rfl queryOdd_plain (by kernel_rfl)
end Go.Proofs.YtagmgkplfhlifaaDoor
