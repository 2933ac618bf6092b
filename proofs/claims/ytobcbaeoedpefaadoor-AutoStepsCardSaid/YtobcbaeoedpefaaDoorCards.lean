/-
  DERIVED. GIVEN WITH THE SEED: THE CARDS: each row of YtobcbaeoedpefaaDoorRows.lean that lists a variable, with what it lists TIED to the program's text (the seventh form; the later family's looks); each row that meets fmt, with fmt's text TOLD by the authors' own Lean function (tested against real Go, not proved from fmt's source: count such statements apart). THE CARD IS WHAT COUNTS. Prove the row's statement (the work); the ties are given (YtobcbaeoedpefaaDoorTie.lean); close each card by the builder's one call (the guide's Derived/Test/ToyasCard.lean, 'card_holds'). Laid BY PROGRAM, IN A SANDBOX (cutbox-door.mjs). By AI agents, Wed Nov 11 2026. No macro, syntax, notation, axiom, sorry.
-/
import Derived.Test.YtobcbaeoedpefaaDoorRows
import GoSem.ClaimSeven
namespace Go.Proofs.YtobcbaeoedpefaaDoor
namespace Rows

/-- THE TIED CARD OF 'triviumlaw13.AutoTells'. -/
def autoTellsCard : Claim7 := { stood := { row := autoTellsRow, standIns := [], harness := (true, "e779b6aa4903c76c8414dfec6f180f686169c81da7914cad6f4bfdc99746b4bc"), looks := false }, kinds := [], alts := [], laidByText := true, laidKinds := [.data, .pinned], laidTests := true, laidLooks := .later }
def AutoTellsCardSaid : Prop := Claim7.holds Tryd.pinned (.plain (OpenSpec.ofChange autoTellsSpec)) autoTellsCard

/-- THE TIED CARD OF 'triviumlaw13.AutoTakes'. -/
def autoTakesCard : Claim7 := { stood := { row := autoTakesRow, standIns := [], harness := (true, "e779b6aa4903c76c8414dfec6f180f686169c81da7914cad6f4bfdc99746b4bc"), looks := false }, kinds := [], alts := [], laidByText := true, laidKinds := [.data, .pinned], laidTests := true, laidLooks := .later }
def AutoTakesCardSaid : Prop := Claim7.holds Tryd.pinned (.plain (OpenSpec.ofChange autoTakesSpec)) autoTakesCard

/-- THE TIED CARD OF 'triviumlaw13.AutoTurns'. -/
def autoTurnsCard : Claim7 := { stood := { row := autoTurnsRow, standIns := [], harness := (true, "e779b6aa4903c76c8414dfec6f180f686169c81da7914cad6f4bfdc99746b4bc"), looks := false }, kinds := [], alts := [], laidByText := true, laidKinds := [.data, .pinned], laidTests := true, laidLooks := .later }
def AutoTurnsCardSaid : Prop := Claim7.holds Tryd.pinned (.plain (OpenSpec.ofChange autoTurnsSpec)) autoTurnsCard

/-- THE TIED CARD OF 'triviumlaw13.AutoMany'. -/
def autoManyCard : Claim7 := { stood := { row := autoManyRow, standIns := [], harness := (true, "e779b6aa4903c76c8414dfec6f180f686169c81da7914cad6f4bfdc99746b4bc"), looks := false }, kinds := [], alts := [], laidByText := true, laidKinds := [.data, .pinned], laidTests := true, laidLooks := .later }
def AutoManyCardSaid : Prop := Claim7.holds Tryd.pinned (.plain (OpenSpec.ofChange autoManySpec)) autoManyCard

/-- THE TIED CARD OF 'triviumlaw13.AutoNot'. -/
def autoNotCard : Claim7 := { stood := { row := autoNotRow, standIns := [], harness := (true, "e779b6aa4903c76c8414dfec6f180f686169c81da7914cad6f4bfdc99746b4bc"), looks := false }, kinds := [], alts := [], laidByText := true, laidKinds := [.data, .pinned], laidTests := true, laidLooks := .later }
def AutoNotCardSaid : Prop := Claim7.holds Tryd.pinned (.plain (OpenSpec.ofChange autoNotSpec)) autoNotCard

/-- THE TIED CARD OF 'triviumlaw13.AutoFull'. -/
def autoFullCard : Claim7 := { stood := { row := autoFullRow, standIns := [], harness := (true, "e779b6aa4903c76c8414dfec6f180f686169c81da7914cad6f4bfdc99746b4bc"), looks := false }, kinds := [], alts := [], laidByText := true, laidKinds := [.data, .pinned], laidTests := true, laidLooks := .later }
def AutoFullCardSaid : Prop := Claim7.holds Tryd.pinned (.plain (OpenSpec.ofChange autoFullSpec)) autoFullCard

/-- THE TIED CARD OF 'triviumlaw13.AutoOfNothing'. -/
def autoOfNothingCard : Claim7 := { stood := { row := autoOfNothingRow, standIns := [], harness := (true, "e779b6aa4903c76c8414dfec6f180f686169c81da7914cad6f4bfdc99746b4bc"), looks := false }, kinds := [], alts := [], laidByText := true, laidKinds := [.data, .pinned], laidTests := true, laidLooks := .later }
def AutoOfNothingCardSaid : Prop := Claim7.holds Tryd.pinned (.plain (OpenSpec.ofChange autoOfNothingSpec)) autoOfNothingCard

/-- THE TIED CARD OF 'triviumlaw13.AutoParts'. -/
def autoPartsCard : Claim7 := { stood := { row := autoPartsRow, standIns := [], harness := (true, "e779b6aa4903c76c8414dfec6f180f686169c81da7914cad6f4bfdc99746b4bc"), looks := false }, kinds := [], alts := [], laidByText := true, laidKinds := [.data, .pinned], laidTests := true, laidLooks := .later }
def AutoPartsCardSaid : Prop := Claim7.holds Tryd.pinned (.plain (OpenSpec.ofChange autoPartsSpec)) autoPartsCard

/-- THE TIED CARD OF 'triviumlaw13.AutoSteps'. -/
def autoStepsCard : Claim7 := { stood := { row := autoStepsRow, standIns := [], harness := (true, "e779b6aa4903c76c8414dfec6f180f686169c81da7914cad6f4bfdc99746b4bc"), looks := false }, kinds := [], alts := [], laidByText := true, laidKinds := [.data, .pinned], laidTests := true, laidLooks := .later }
def AutoStepsCardSaid : Prop := Claim7.holds Tryd.pinned (.plain (OpenSpec.ofChange autoStepsSpec)) autoStepsCard

/-- THE TIED CARD OF 'triviumlaw13.AutoMaybe'. -/
def autoMaybeCard : Claim7 := { stood := { row := autoMaybeRow, standIns := [], harness := (true, "e779b6aa4903c76c8414dfec6f180f686169c81da7914cad6f4bfdc99746b4bc"), looks := false }, kinds := [], alts := [], laidByText := true, laidKinds := [.data, .pinned], laidTests := true, laidLooks := .later }
def AutoMaybeCardSaid : Prop := Claim7.holds Tryd.pinned (.plain (OpenSpec.ofChange autoMaybeSpec)) autoMaybeCard

/-- THE SECOND FORM's CARD OF 'triviumlaw13.AutoTells'. -/
def autoTellsUptoCard : Claim7 := { stood := { row := autoTellsUptoRow, standIns := [], harness := (true, "e779b6aa4903c76c8414dfec6f180f686169c81da7914cad6f4bfdc99746b4bc"), looks := false }, kinds := [], alts := [], laidByText := true, laidKinds := [.data, .pinned], laidTests := true, laidLooks := .later }
def AutoTellsUptoCardSaid : Prop := Claim7.holds Tryd.pinned (.plain (OpenSpec.upto autoTellsSpec)) autoTellsUptoCard

/-- THE SECOND FORM's CARD OF 'triviumlaw13.AutoTakes'. -/
def autoTakesUptoCard : Claim7 := { stood := { row := autoTakesUptoRow, standIns := [], harness := (true, "e779b6aa4903c76c8414dfec6f180f686169c81da7914cad6f4bfdc99746b4bc"), looks := false }, kinds := [], alts := [], laidByText := true, laidKinds := [.data, .pinned], laidTests := true, laidLooks := .later }
def AutoTakesUptoCardSaid : Prop := Claim7.holds Tryd.pinned (.plain (OpenSpec.upto autoTakesSpec)) autoTakesUptoCard

/-- THE SECOND FORM's CARD OF 'triviumlaw13.AutoTurns'. -/
def autoTurnsUptoCard : Claim7 := { stood := { row := autoTurnsUptoRow, standIns := [], harness := (true, "e779b6aa4903c76c8414dfec6f180f686169c81da7914cad6f4bfdc99746b4bc"), looks := false }, kinds := [], alts := [], laidByText := true, laidKinds := [.data, .pinned], laidTests := true, laidLooks := .later }
def AutoTurnsUptoCardSaid : Prop := Claim7.holds Tryd.pinned (.plain (OpenSpec.upto autoTurnsSpec)) autoTurnsUptoCard

/-- THE SECOND FORM's CARD OF 'triviumlaw13.AutoMany'. -/
def autoManyUptoCard : Claim7 := { stood := { row := autoManyUptoRow, standIns := [], harness := (true, "e779b6aa4903c76c8414dfec6f180f686169c81da7914cad6f4bfdc99746b4bc"), looks := false }, kinds := [], alts := [], laidByText := true, laidKinds := [.data, .pinned], laidTests := true, laidLooks := .later }
def AutoManyUptoCardSaid : Prop := Claim7.holds Tryd.pinned (.plain (OpenSpec.upto autoManySpec)) autoManyUptoCard

/-- THE SECOND FORM's CARD OF 'triviumlaw13.AutoNot'. -/
def autoNotUptoCard : Claim7 := { stood := { row := autoNotUptoRow, standIns := [], harness := (true, "e779b6aa4903c76c8414dfec6f180f686169c81da7914cad6f4bfdc99746b4bc"), looks := false }, kinds := [], alts := [], laidByText := true, laidKinds := [.data, .pinned], laidTests := true, laidLooks := .later }
def AutoNotUptoCardSaid : Prop := Claim7.holds Tryd.pinned (.plain (OpenSpec.upto autoNotSpec)) autoNotUptoCard

/-- THE SECOND FORM's CARD OF 'triviumlaw13.AutoFull'. -/
def autoFullUptoCard : Claim7 := { stood := { row := autoFullUptoRow, standIns := [], harness := (true, "e779b6aa4903c76c8414dfec6f180f686169c81da7914cad6f4bfdc99746b4bc"), looks := false }, kinds := [], alts := [], laidByText := true, laidKinds := [.data, .pinned], laidTests := true, laidLooks := .later }
def AutoFullUptoCardSaid : Prop := Claim7.holds Tryd.pinned (.plain (OpenSpec.upto autoFullSpec)) autoFullUptoCard

/-- THE SECOND FORM's CARD OF 'triviumlaw13.AutoOfNothing'. -/
def autoOfNothingUptoCard : Claim7 := { stood := { row := autoOfNothingUptoRow, standIns := [], harness := (true, "e779b6aa4903c76c8414dfec6f180f686169c81da7914cad6f4bfdc99746b4bc"), looks := false }, kinds := [], alts := [], laidByText := true, laidKinds := [.data, .pinned], laidTests := true, laidLooks := .later }
def AutoOfNothingUptoCardSaid : Prop := Claim7.holds Tryd.pinned (.plain (OpenSpec.upto autoOfNothingSpec)) autoOfNothingUptoCard

/-- THE SECOND FORM's CARD OF 'triviumlaw13.AutoParts'. -/
def autoPartsUptoCard : Claim7 := { stood := { row := autoPartsUptoRow, standIns := [], harness := (true, "e779b6aa4903c76c8414dfec6f180f686169c81da7914cad6f4bfdc99746b4bc"), looks := false }, kinds := [], alts := [], laidByText := true, laidKinds := [.data, .pinned], laidTests := true, laidLooks := .later }
def AutoPartsUptoCardSaid : Prop := Claim7.holds Tryd.pinned (.plain (OpenSpec.upto autoPartsSpec)) autoPartsUptoCard

/-- THE SECOND FORM's CARD OF 'triviumlaw13.AutoSteps'. -/
def autoStepsUptoCard : Claim7 := { stood := { row := autoStepsUptoRow, standIns := [], harness := (true, "e779b6aa4903c76c8414dfec6f180f686169c81da7914cad6f4bfdc99746b4bc"), looks := false }, kinds := [], alts := [], laidByText := true, laidKinds := [.data, .pinned], laidTests := true, laidLooks := .later }
def AutoStepsUptoCardSaid : Prop := Claim7.holds Tryd.pinned (.plain (OpenSpec.upto autoStepsSpec)) autoStepsUptoCard

/-- THE SECOND FORM's CARD OF 'triviumlaw13.AutoMaybe'. -/
def autoMaybeUptoCard : Claim7 := { stood := { row := autoMaybeUptoRow, standIns := [], harness := (true, "e779b6aa4903c76c8414dfec6f180f686169c81da7914cad6f4bfdc99746b4bc"), looks := false }, kinds := [], alts := [], laidByText := true, laidKinds := [.data, .pinned], laidTests := true, laidLooks := .later }
def AutoMaybeUptoCardSaid : Prop := Claim7.holds Tryd.pinned (.plain (OpenSpec.upto autoMaybeSpec)) autoMaybeUptoCard
end Rows
end Go.Proofs.YtobcbaeoedpefaaDoor
