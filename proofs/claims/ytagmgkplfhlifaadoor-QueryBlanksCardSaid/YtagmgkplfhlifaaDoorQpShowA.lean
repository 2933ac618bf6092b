/- query.show of every path that may be. -/
import Derived.Test.YtagmgkplfhlifaaDoorQpShow
namespace Go.Proofs.YtagmgkplfhlifaaDoor
set_option linter.unusedVariables false
set_option linter.unusedSimpArgs false
set_option maxRecDepth 100000
open Go.ChangeShapes Go.WideShapes Go.ChangeAt Go.RowKit
open Au
/-- What may be, kind by kind. -/
theorem Au.Pt.wf_cases {k : Int} {t : T} {L : List T} {K : List Pt} {d : Nat} (h : (Pt.mk k t L K).wf d = true) :
    d ≤ 5 ∧ ((k = 1 ∧ L = [] ∧ K = [] ∧ Tm.isIRI t = true) ∨ (k = 8 ∧ t = [] ∧ K = [] ∧ 1 ≤ L.length ∧ L.length ≤ 4 ∧ L.all Tm.isIRI = true) ∨
      (∃ x, (k = 2 ∨ k = 5 ∨ k = 6 ∨ k = 7) ∧ t = [] ∧ L = [] ∧ K = [x] ∧ x.wf (d + 1) = true) ∨
      (∃ x y, (k = 3 ∨ k = 4) ∧ t = [] ∧ L = [] ∧ K = [x, y] ∧ x.wf (d + 1) = true ∧ y.wf (d + 1) = true)) := by
  rw [wf_mk] at h
  simp only [Bool.and_eq_true, decide_eq_true_eq] at h
  obtain ⟨⟨⟨hd, hk⟩, ht⟩, hws⟩ := h
  have hks := (Pt.wfs_all (d + 1) K).1 hws
  refine ⟨hd, ?_⟩
  unfold Pt.kidsOf at hk
  unfold Pt.txt at ht
  by_cases h1 : k = 1
  · subst h1
    simp at hk ht
    exact Or.inl ⟨rfl, ht.1, hk, ht.2⟩
  by_cases h8 : k = 8
  · subst h8
    simp at hk ht
    refine Or.inr (Or.inl ⟨rfl, ht.1.1.1, hk, by omega, ht.1.2, List.all_eq_true.2 ht.2⟩)
  rw [if_neg h1, if_neg h8] at ht
  rw [if_neg (by omega)] at hk
  simp only [Bool.and_eq_true, List.isEmpty_iff] at ht
  by_cases h2 : k = 2 ∨ k = 5 ∨ k = 6 ∨ k = 7
  · rw [if_pos h2] at hk
    obtain ⟨x, rfl⟩ := List.length_eq_one_iff.1 (by omega : K.length = 1)
    exact Or.inr (Or.inr (Or.inl ⟨x, h2, ht.1, ht.2, rfl, hks x (by simp)⟩))
  rw [if_neg h2] at hk
  by_cases h3 : k = 3 ∨ k = 4
  · rw [if_pos h3] at hk
    obtain ⟨x, y, rfl⟩ : ∃ x y, K = [x, y] := by
      match K, hk with
      | [x, y], _ => exact ⟨x, y, rfl⟩
    exact Or.inr (Or.inr (Or.inr ⟨x, y, h3, ht.1, ht.2, rfl, hks x (by simp), hks y (by simp)⟩))
  · rw [if_neg h3] at hk; omega
theorem qshow_any : ∀ (x : Pt) (d : Nat), x.wf d = true → ShowOk x := by
  intro x
  induction x using Pt.ind with
  | h k t L K ih =>
    intro d hw
    rcases (Pt.wf_cases hw).2 with ⟨rfl, rfl, rfl, _⟩ | ⟨rfl, rfl, rfl, h1, h4, _⟩ | ⟨x, hk, rfl, rfl, rfl, hx⟩ | ⟨x, y, hk, rfl, rfl, rfl, hx, hy⟩
    · exact qshow_iri t
    · exact qshow_not L (by omega) (by omega)
    · have hx := qshowkid_of x (ih x (by simp) _ hx)
      rcases hk with rfl | rfl | rfl | rfl
      · exact qshow_back x hx
      · exact qshow_star x hx
      · exact qshow_plus x hx
      · exact qshow_maybe x hx
    · have hx := qshowkid_of x (ih x (by simp) _ hx)
      have hy := qshowkid_of y (ih y (by simp) _ hy)
      rcases hk with rfl | rfl
      · exact qshow_seq x y hx hy
      · exact qshow_alt x y hx hy
end Go.Proofs.YtagmgkplfhlifaaDoor
