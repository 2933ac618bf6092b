/- The document's reader: what stands behind a backslash. -/
import Derived.Test.YtmfnbmbedplgcaaGreatDoorLnHex
import Derived.Laws.Cover4
namespace Go.Proofs.YtmfnbmbedplgcaaGreatDoor
set_option linter.unusedVariables false
set_option linter.unusedSimpArgs false
set_option maxRecDepth 100000
open Go.ChangeShapes Go.WideShapes Go.ChangeAt Go.RowKit

def escT (r : Option (List UInt8 × Nat)) : List UInt8 := match r with
  | none => []
  | some p => p.1
def escN (r : Option (List UInt8 × Nat)) : Nat := match r with
  | none => 0
  | some p => p.2
theorem runesBytes_one (r : Nat) : Value.string (runesBytes [(r : Int)]) = str (Tm.runeT r) := by
  unfold runesBytes Tm.runeT str
  simp only [List.foldl_cons, List.foldl_nil]
  generalize Utf8.encode (r : Int) = B
  have : ByteArray.empty ++ B = ⟨B.data.toList.toArray⟩ := by
    apply ByteArray.ext
    rw [ByteArray.data_append]
    simp
  rw [this]
theorem conv_rune1 (w : World) (r : Nat) : (convert 69 9 (.slice (some ⟨w.heap.size, 0, none⟩) 1 1)).run Tryz.prog (w.alloc (.cells #[.int .i32 (r : Int)] 21)) = .ok (str (Tm.runeT r)) (w.alloc (.cells #[.int .i32 (r : Int)] 21)) := by
  rw [← runesBytes_one]
  exact run_convert_runes (P := Tryz.prog) _ 69 9 21 ⟨w.heap.size, 0, none⟩ 1 1 [(r : Int)] (Nat.le_refl 1) Tryz.underlying69 Tryz.underlying21 Tryz.underlying9 (fun j hj => by
    rw [add_cell rfl, Nat.zero_add, cell_new]
    match j, hj with
    | 0, _ => rfl
    | j + 1, h => exact absurd h (by simp))
/-- The letters behind a backslash, and what they stand for. -/
def escFr : List UInt8 := [34, 92, 110, 114, 116, 98, 102, 39]
def escTo : List UInt8 := [34, 92, 10, 13, 9, 8, 12, 39]
theorem letter_at : ∀ k : Fin 8, Tm.letter (escFr.getD k.val 0) = some (escTo.getD k.val 0) := by decide
theorem letter_no (c : UInt8) (h : ∀ j, j < 8 → escFr.getD j 0 ≠ c) : Tm.letter c = none := by
  have e : ∀ j, j < 8 → c ≠ escFr.getD j 0 := fun j hj he => h j hj he.symm
  have e0 : c ≠ 34 := e 0 (by omega)
  have e1 : c ≠ 92 := e 1 (by omega)
  have e2 : c ≠ 110 := e 2 (by omega)
  have e3 : c ≠ 114 := e 3 (by omega)
  have e4 : c ≠ 116 := e 4 (by omega)
  have e5 : c ≠ 98 := e 5 (by omega)
  have e6 : c ≠ 102 := e 6 (by omega)
  have e7 : c ≠ 39 := e 7 (by omega)
  unfold Tm.letter
  rw [if_neg e0, if_neg e1, if_neg e2, if_neg e3, if_neg e4, if_neg e5, if_neg e6, if_neg e7]
end Go.Proofs.YtmfnbmbedplgcaaGreatDoor
