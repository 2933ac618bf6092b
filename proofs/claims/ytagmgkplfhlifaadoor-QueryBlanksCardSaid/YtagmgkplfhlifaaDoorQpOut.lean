/- What both Paths answer, in one form. -/
import Derived.Test.YtagmgkplfhlifaaDoorRrWhole
import Derived.Test.YtagmgkplfhlifaaDoorQpSize
import Derived.Test.YtagmgkplfhlifaaDoorSmPath
import Derived.Test.YtagmgkplfhlifaaDoorRSame
namespace Go.Proofs.YtagmgkplfhlifaaDoor
set_option linter.unusedVariables false
set_option linter.unusedSimpArgs false
set_option maxRecDepth 100000
open Go.ChangeShapes Go.WideShapes Go.ChangeAt Go.RowKit
open Au
namespace Au
/-- The path, the place, the error that are answered. -/
def Qp.outP (s : T) : Pt := if 600 < s.length then .mk 0 [] [] [] else match Qp.whole s with | .ok x _ => x | .err _ _ => .mk 0 [] [] []
def Qp.outN (s : T) : Nat := if 600 < s.length then 0 else match Qp.whole s with | .ok _ _ => s.length | .err _ r => s.length - r.length
def Qp.outE (s : T) : Int := if 600 < s.length then 4 else match Qp.whole s with | .ok _ _ => 0 | .err e _ => e
theorem Qp.outP_size (s : T) : (Qp.outP s).size ≤ 1000000 := by
  unfold Qp.outP
  split
  · exact Nat.le_trans (Nat.le_of_eq (Qp.size_leaf 0 [] [])) (by decide)
  · cases h : Qp.whole s with
    | ok x r => have := Qp.whole_sz h; simp only; omega
    | err e r => exact Nat.le_trans (Nat.le_of_eq (Qp.size_leaf 0 [] [])) (by decide)
end Au
/-- What a Path answers. -/
def OutPost (s : T) (w : World) (e : Ending) (w' : World) : Prop := ∃ (a : Option Addr) (n c : Nat) (a' : Option Addr) (n' c' : Nat), Hid (PtB w' (.slice a n c) (.slice a' n' c') (Qp.outP s)) ∧
  e = .returned (.tuple #[.agg #[.int .i64 (Qp.outP s).kind, str (Qp.outP s).text, .slice a n c, .slice a' n' c'], .int .i64 (Qp.outN s : Nat), .int .i64 (Qp.outE s)]) ∧ Hid (Below w.heap.size w w')
theorem out_long {s : T} (h : 600 < s.length) : Qp.outP s = .mk 0 [] [] [] ∧ Qp.outN s = 0 ∧ Qp.outE s = 4 := by
  unfold Qp.outP Qp.outN Qp.outE
  rw [if_pos h, if_pos h, if_pos h]; exact ⟨rfl, rfl, rfl⟩
theorem out_ok {s : T} {x : Pt} {r : T} (h : s.length ≤ 600) (hx : Qp.whole s = .ok x r) : Qp.outP s = x ∧ Qp.outN s = s.length ∧ Qp.outE s = 0 := by
  have h' : ¬ 600 < s.length := by omega
  unfold Qp.outP Qp.outN Qp.outE
  rw [if_neg h', if_neg h', if_neg h', hx]; exact ⟨rfl, rfl, rfl⟩
theorem out_err {s : T} {no : Int} {j : Nat} (h : s.length ≤ 600) (hj : j ≤ s.length) (hx : Qp.whole s = .err no (s.drop j)) : Qp.outP s = .mk 0 [] [] [] ∧ Qp.outN s = j ∧ Qp.outE s = no := by
  have h' : ¬ 600 < s.length := by omega
  unfold Qp.outP Qp.outN Qp.outE
  rw [if_neg h', if_neg h', if_neg h', hx]
  refine ⟨rfl, ?_, rfl⟩
  show s.length - (s.drop j).length = j
  rw [List.length_drop]; omega
theorem qpath_out (s : T) (w : World) (hs : s.length ≤ 100000000) (hV : QVars w) : Calls Tryd.prog 13 #[str s] w (OutPost s w) := by
  refine (qpathf_any s w hs hV).mono ?_
  rintro e w' ⟨hb, h⟩
  unfold OutPost
  rcases h with ⟨h, he⟩ | ⟨h6, x, a, a', n, c, n', c', j, hx, hP, he⟩ | ⟨h6, no, j, hno, hj, hx, he⟩
  · obtain ⟨h1, h2, h3⟩ := out_long h
    rw [h1, h2, h3]
    exact ⟨none, 0, 0, none, 0, 0, ptb_none _ 0 (by decide) [] (by simp), he, hb⟩
  · obtain ⟨h1, h2, h3⟩ := out_ok h6 hx
    rw [h1, h2, h3]
    exact ⟨a, n, c, a', n', c', hP, he, hb⟩
  · obtain ⟨h1, h2, h3⟩ := out_err h6 hj hx
    rw [h1, h2, h3]
    exact ⟨none, 0, 0, none, 0, 0, ptb_none _ 0 (by decide) [] (by simp), he, hb⟩
theorem rpath_out (s : T) (w : World) (hs : s.length ≤ 100000000) (hV : T8 w) : Calls Tryd.prog 14 #[str s] w (OutPost s w) := by
  refine (rpathf_any s w hs hV).mono ?_
  rintro e w' ⟨hb, h⟩
  unfold OutPost
  rcases h with ⟨h, he⟩ | ⟨h6, x, a, a', n, c, n', c', hx, hP, he⟩ | ⟨h6, no, j, hno, hj, hx, he⟩
  · obtain ⟨h1, h2, h3⟩ := out_long h
    rw [h1, h2, h3]
    exact ⟨none, 0, 0, none, 0, 0, ptb_none _ 0 (by decide) [] (by simp), he, hb⟩
  · obtain ⟨h1, h2, h3⟩ := out_ok h6 hx
    rw [h1, h2, h3]
    exact ⟨a, n, c, a', n', c', hP, he, hb⟩
  · obtain ⟨h1, h2, h3⟩ := out_err h6 hj hx
    rw [h1, h2, h3]
    exact ⟨none, 0, 0, none, 0, 0, ptb_none _ 0 (by decide) [] (by simp), he, hb⟩
end Go.Proofs.YtagmgkplfhlifaaDoor
