/- Slices of texts: what they read, how an argument reads so. -/
import Derived.Test.YtjaebndajhppgaaGreatDoorStr
namespace Go.Proofs.YtjaebndajhppgaaGreatDoor
set_option linter.unusedVariables false
set_option maxRecDepth 100000
set_option linter.unusedSimpArgs false
open Go.ChangeShapes Go.WideShapes Go.ChangeAt Go.RowKit
/-- A slice of texts. -/
abbrev TextsAt (W : World) (v : Value) (L : List (List UInt8)) : Prop := SlAt str [] W v L
section
variable {H : Type} {enc : TypeId × Value → H} {W : World}
theorem one_str {e : TypeId} (he : Tryz.prog.underlying e = some .string) (n : Nat) (u : Value) (y : DataW H × List MemPlace) (h : DataW.trod enc Tryz.prog W 0 (fun _ => true) true n e [u] = some y) (hs : Sized e y.1) : ∃ a : List UInt8, u = str a ∧ a.length ≤ 140737488351232 := by
  obtain ⟨b, h1, hx, _⟩ := DataW.trod_string he h
  simp only [List.cons.injEq, and_true] at h1
  refine ⟨b.data.toList, by rw [h1, str_of], ?_⟩
  have := hs b.data.toList.length (by rw [hx]; simp [DataW.weights])
  unfold reachBytes at this
  omega
variable {base : Nat} {t s e : TypeId} {v : Value} {d : DataW H} {p : List MemPlace}
theorem arg_strs (ht : Tryz.prog.underlying t = some (.slice e)) (he : Tryz.prog.underlying e = some .string) (hc : Tryz.prog.cellsOf e = 1 ∧ Tryz.prog.bytesOf e = 16) (hv : Value.okWide Tryz.prog W .any base t v) (h : DataW.Trod enc Tryz.prog W 0 (fun _ => true) true t v d p) (hs : Sized t d) :
    ∃ L : List (List UInt8), TextsAt W v L ∧ (∀ i, (L.getD i []).length ≤ 140737488351232) ∧ L.length * 16 ≤ 140737488351232 := by
  obtain ⟨fuel, hx⟩ := trod_cells ht hv h
  obtain ⟨l, h1, h2, h3⟩ := read_list str [] (fun a => a.length ≤ 140737488351232) (by simp) ht hc.1 hx hs (one_str he)
  rw [hc.2] at h3
  exact ⟨l, h1, h2, by unfold reachBytes at h3; omega⟩
end
end Go.Proofs.YtjaebndajhppgaaGreatDoor
