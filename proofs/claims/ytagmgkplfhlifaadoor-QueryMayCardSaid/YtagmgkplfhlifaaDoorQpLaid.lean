/- The rows' two listed variables, the library's tables of runes: what a row's list gives a walk, and a world for the witness. -/
import Derived.Test.YtagmgkplfhlifaaDoorQpIri
import Derived.Test.YtagmgkplfhlifaaDoorCards
import Derived.Test.YtagmgkplfhlifaaDoorTie
import Derived.MakeChecks
namespace Go.Proofs.YtagmgkplfhlifaaDoor
set_option linter.unusedVariables false
set_option linter.unusedSimpArgs false
set_option maxRecDepth 100000
open Go.ChangeShapes Go.WideShapes Go.ChangeAt Go.RowKit

theorem first_eq : Rows.laid_unicode_utf8_first = Lib.firstData := by kernel_rfl
theorem acc_eq : (Rows.laid_unicode_utf8_acceptRanges : DataW Unit) = Lib.acceptData := by kernel_rfl
theorem qvars_of {W : World} (h : laidMetH Tryd.prog Rows.queryDeepRow.laid W) (hs : W.ShapedOpen Tryd.prog) : QVars W := by
  have h1 : laidMet Tryd.prog Rows.queryDeepRow.laid W := by rw [Go.MakeChecks.laidMetH_plain Tryd.prog _ _ (by kernel_rfl)] at h; exact h
  have h3 := Lib.laidMet.reads h1 (.tail _ (.head _))
  have h4 := Lib.laidMet.reads h1 (.head _)
  rw [first_eq] at h3
  rw [acc_eq] at h4
  refine ⟨utf8Tabs_of_readsT (U8Types.of196 Tryd.lays196) ⟨by kernel_rfl, by kernel_rfl, by kernel_rfl, by kernel_rfl, by kernel_rfl, by kernel_rfl, by kernel_rfl⟩ h3 h4, ?_⟩
  exact Go.Proofs.cell_of_shapedOpen_int (zero := #[.int .i64 0]) (t := 3) hs (of_decide_eq_true (by kernel_rfl)) (by kernel_rfl) rfl (by kernel_rfl) (by kernel_rfl) Tryd.underlying3
def accCells : Array Value := #[128, 191, 160, 191, 128, 159, 144, 191, 128, 143, 0, 0, 0, 0, 0, 0, 0, 0, 0, 0, 0, 0, 0, 0, 0, 0, 0, 0, 0, 0, 0, 0].map fun z : Int => .int .u8 z
def firstCells : Array Value := (Go.Pinned.utf8FirstZ.map fun z : Nat => Value.int .u8 (z : Nat)).toArray
def layAt (g : Nat) (cs : Array Value) (h : Array Obj) : Array Obj := h.modify g fun
  | .cells _ t frozen => .cells cs t frozen
  | o => o
noncomputable def laidWorld (os : Os) : World :=
  { World.holding Tryd.prog os ⟨#[], #[], []⟩ with heap := layAt 1 accCells (layAt 0 firstCells (World.holding Tryd.prog os ⟨#[], #[], []⟩).heap) }
end Go.Proofs.YtagmgkplfhlifaaDoor
