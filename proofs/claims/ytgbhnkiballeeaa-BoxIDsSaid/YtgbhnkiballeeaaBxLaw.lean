/- A box: what is none, for the laws. -/
import Derived.Test.YtgbhnkiballeeaaBxUnp
namespace Go.Proofs.Ytgbhnkiballeeaa
set_option linter.unusedVariables false
set_option linter.unusedSimpArgs false
set_option maxRecDepth 100000
open Go.ChangeShapes Go.WideShapes Go.ChangeAt Go.RowKit
theorem bytes_of_file {L : List Bx.Sec} (h : ∀ x ∈ Bx.file L, x < 256) : Bx.Bytes L := fun s hs => list_lt fun x hx => h x (by
  unfold Bx.file
  rw [List.mem_append]
  refine Or.inr ?_
  unfold Bx.bodies
  exact List.mem_flatMap.2 ⟨s, hs, hx⟩)
theorem mem_file_lt {L : List Bx.Sec} (hb : Bx.Bytes L) : ∀ x ∈ Bx.file L, x < 256 := fun x hx => by
  obtain ⟨i, hi, rfl⟩ := List.getElem_of_mem hx
  have := file_lt L hb i
  rwa [List.getD, List.getElem?_eq_getElem hi] at this
theorem unp_turned {L : List Bx.Sec} {q c : Nat} (h : Bx.May L) (hb : Bx.Bytes L) (hq : q < Bx.total L) (hc : c < 256) (hne : c ≠ (Bx.file L).getD q 0) : Bx.unp ((Bx.file L).set q c) = none :=
  Bx.unp_none fun L' h' e => hne (Bx.turned h h' hb (bytes_of_file fun x hx => by
    rw [e] at hx
    rcases List.mem_or_eq_of_mem_set hx with hx | rfl
    · exact mem_file_lt hb x hx
    · exact hc) (by rw [Bx.file_length]; exact hq) e)
theorem unp_cutoff {L : List Bx.Sec} {k : Nat} (h : Bx.May L) (hb : Bx.Bytes L) (hk : k < Bx.total L) : Bx.unp ((Bx.file L).take k) = none :=
  Bx.unp_none fun L' h' e => by
    have h1 : Bx.file L' ++ (Bx.file L).drop k = Bx.file L := by rw [e, List.take_append_drop]
    have h2 := Bx.prefix_one h' h (bytes_of_file fun x hx => by rw [e] at hx; exact mem_file_lt hb x (List.mem_of_mem_take hx)) hb h1
    have := congrArg List.length h2
    rw [List.length_drop, Bx.file_length] at this
    simp at this; omega
theorem unp_more {L : List Bx.Sec} {y : Nat} (h : Bx.May L) (hb : Bx.Bytes L) (hy : y < 256) : Bx.unp (Bx.file L ++ [y]) = none :=
  Bx.unp_none fun L' h' e => by
    have h2 := Bx.prefix_one h h' hb (bytes_of_file fun x hx => by
      rw [e, List.mem_append] at hx
      rcases hx with hx | hx
      · exact mem_file_lt hb x hx
      · simp at hx; omega) e.symm
    cases h2
theorem unp_back {L : List Bx.Sec} (h : Bx.May L) : Bx.unp (Bx.file L) = some L := Bx.unp_some.2 ⟨h, rfl⟩
/-- Of a file that is one's. -/
theorem ends_some {b : List Nat} {B : Nat} {W' : World} {e : Ending} {c : Int} {L : List Bx.Sec} (h : UnpEnds b B W' e c) (hL : Bx.unp b = some L) : ∃ v, e = .returned (.tuple #[v, .int .i64 0]) ∧ Fresh B W' (fun W => SecsAt W v L) := by
  rcases h with ⟨h1, _⟩ | ⟨v, L', h1, h2, h3⟩
  · rw [hL] at h1; cases h1
  · rw [hL] at h1; cases h1; exact ⟨v, h2, h3⟩
theorem ends_none {b : List Nat} {B : Nat} {W' : World} {e : Ending} {c : Int} (h : UnpEnds b B W' e c) (hL : Bx.unp b = none) : e = .returned (.tuple #[.slice none 0 0, .int .i64 c]) := by
  rcases h with ⟨_, h2⟩ | ⟨v, L', h1, _, _⟩
  · exact h2
  · rw [hL] at h1; cases h1
end Go.Proofs.Ytgbhnkiballeeaa
