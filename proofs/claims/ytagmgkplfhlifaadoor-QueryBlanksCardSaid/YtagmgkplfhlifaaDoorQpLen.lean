/- How long a path's text is. -/
import Derived.Test.YtagmgkplfhlifaaDoorQpShowA
namespace Go.Proofs.YtagmgkplfhlifaaDoor
set_option linter.unusedVariables false
set_option linter.unusedSimpArgs false
set_option maxRecDepth 100000
open Go.ChangeShapes Go.WideShapes Go.ChangeAt Go.RowKit
open Au
theorem isIRI_len {t : T} (h : Tm.isIRI t = true) : 1 ≤ t.length ∧ t.length ≤ 60 := by
  unfold Tm.isIRI at h
  simp only [Bool.and_eq_true, decide_eq_true_eq] at h
  exact ⟨h.1.1.1, h.1.1.2⟩
theorem joinTail_len (sep : T) : ∀ (L : List T), (∀ x ∈ L, x.length ≤ 60) → (Lib.joinTail sep L).length ≤ L.length * (sep.length + 60)
  | [], _ => by simp [Lib.joinTail]
  | x :: r, h => by
    have h1 := joinTail_len sep r (fun y hy => h y (List.mem_cons_of_mem _ hy))
    have h2 := h x (by simp)
    unfold Lib.joinTail at h1 ⊢
    simp only [List.map_cons, List.flatten_cons, List.length_append, List.length_cons] at h1 ⊢
    rw [Nat.add_mul]
    omega
theorem show_len : ∀ (x : Pt) (d : Nat), x.wf d = true → x.show.length + 2 ≤ 400 * x.size := by
  intro x
  induction x using Pt.ind with
  | h k t L K ih =>
    intro d hw
    have kid : ∀ (x : Pt), x ∈ K → x.wf (d + 1) = true → x.showKid.length ≤ 400 * x.size := fun x hx h => by
      have := ih x hx _ h
      unfold Pt.showKid
      split
      · omega
      · simp only [List.length_cons, List.length_append, List.length_nil]; omega
    rcases (Pt.wf_cases hw).2 with ⟨rfl, rfl, rfl, hI⟩ | ⟨rfl, rfl, rfl, h1, h4, hI⟩ | ⟨x, hk, rfl, rfl, rfl, hx⟩ | ⟨x, y, hk, rfl, rfl, rfl, hx, hy⟩
    · have := (isIRI_len hI).2
      rw [Pt.show_iri, size_mk, Pt.sizes]
      simp; omega
    · rw [Pt.show_not, size_mk, Pt.sizes]
      have hI := List.all_eq_true.1 hI
      match L, h1 with
      | x :: r, _ =>
        have hx := (isIRI_len (hI x (by simp))).2
        have hr := joinTail_len [62, 124, 60] r (fun y hy => (isIRI_len (hI y (List.mem_cons_of_mem _ hy))).2)
        rw [Lib.join_cons]
        simp only [List.length_append, List.length_cons, List.length_nil] at hr h4 ⊢
        have : r.length * (0 + 1 + 1 + 1 + 60) ≤ 3 * 63 := by
          have : r.length ≤ 3 := by omega
          exact Nat.mul_le_mul this (by omega)
        omega
    · have h := kid x (by simp) hx
      rw [size_mk, Pt.sizes, Pt.sizes]
      rcases hk with rfl | rfl | rfl | rfl
      · rw [Pt.show_back]; simp only [List.length_cons]; omega
      · rw [Pt.show_star]; simp; omega
      · rw [Pt.show_plus]; simp; omega
      · rw [Pt.show_maybe]; simp; omega
    · have h := kid x (by simp) hx
      have h' := kid y (by simp) hy
      rw [size_mk, Pt.sizes, Pt.sizes, Pt.sizes]
      rcases hk with rfl | rfl
      · rw [Pt.show_seq]; simp; omega
      · rw [Pt.show_alt]; simp; omega
theorem may_parts {x : Pt} (h : x.may = true) : x.wf 0 = true ∧ x.size ≤ 30 := by
  unfold Pt.may at h
  rw [Bool.and_eq_true, decide_eq_true_eq] at h
  exact h
theorem may_len {x : Pt} (h : x.may = true) : x.show.length ≤ 12000 := by
  obtain ⟨h1, h2⟩ := may_parts h
  have := show_len x 0 h1
  omega
end Go.Proofs.YtagmgkplfhlifaaDoor
