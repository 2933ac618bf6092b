/-
  DERIVED. GIVEN WITH THE SEED: THE CARDS: each row of YtemkbmhcohijnaaGreatDoorRows.lean that lists a variable, with what it lists TIED to the program's text (the seventh form; the later family's looks); each row that meets fmt, with fmt's text TOLD by the authors' own Lean function (tested against real Go, not proved from fmt's source: count such statements apart). THE CARD IS WHAT COUNTS. Prove the row's statement (the work); the ties are given (YtemkbmhcohijnaaGreatDoorTie.lean); close each card by the builder's one call (the guide's Derived/Test/ToyasCard.lean, 'card_holds'). Laid BY PROGRAM, IN A SANDBOX (cutbox-door.mjs). By AI agents, Wed Nov 11 2026. No macro, syntax, notation, axiom, sorry.
-/
import Derived.Test.YtemkbmhcohijnaaGreatDoorRows
import GoSem.ClaimSeven
namespace Go.Proofs.YtemkbmhcohijnaaGreatDoor
namespace Rows

/-- THE TIED CARD OF 'triviumlaw5.LinesOne'. -/
def linesOneCard : Claim7 := { stood := { row := linesOneRow, standIns := [], harness := (true, "b4e57ceb79bff8912db764e6d1b350512b7419f58bfc489e9dc1449d3d8d1061"), looks := true }, kinds := [], alts := [], laidByText := true, laidKinds := [.data, .data, .data, .data, .sentinel, .sentinel, .pinned, .pinned], laidTests := true, laidLooks := .later }
def LinesOneCardSaid : Prop := Claim7.holds Tryz.pinned (.plain (OpenSpec.ofChange linesOneSpec)) linesOneCard

/-- THE TIED CARD OF 'triviumlaw5.LinesOrder'. -/
def linesOrderCard : Claim7 := { stood := { row := linesOrderRow, standIns := [], harness := (true, "b4e57ceb79bff8912db764e6d1b350512b7419f58bfc489e9dc1449d3d8d1061"), looks := true }, kinds := [], alts := [], laidByText := true, laidKinds := [.data, .data, .data, .data, .sentinel, .sentinel, .pinned, .pinned], laidTests := true, laidLooks := .later }
def LinesOrderCardSaid : Prop := Claim7.holds Tryz.pinned (.plain (OpenSpec.ofChange linesOrderSpec)) linesOrderCard

/-- THE TIED CARD OF 'triviumlaw5.LinesShort'. -/
def linesShortCard : Claim7 := { stood := { row := linesShortRow, standIns := [], harness := (true, "b4e57ceb79bff8912db764e6d1b350512b7419f58bfc489e9dc1449d3d8d1061"), looks := true }, kinds := [], alts := [], laidByText := true, laidKinds := [.data, .data, .data, .data, .sentinel, .sentinel, .pinned, .pinned], laidTests := true, laidLooks := .later }
def LinesShortCardSaid : Prop := Claim7.holds Tryz.pinned (.plain (OpenSpec.ofChange linesShortSpec)) linesShortCard

/-- THE SECOND FORM's CARD OF 'triviumlaw5.LinesOne'. -/
def linesOneUptoCard : Claim7 := { stood := { row := linesOneUptoRow, standIns := [], harness := (true, "b4e57ceb79bff8912db764e6d1b350512b7419f58bfc489e9dc1449d3d8d1061"), looks := true }, kinds := [], alts := [], laidByText := true, laidKinds := [.data, .data, .data, .data, .sentinel, .sentinel, .pinned, .pinned], laidTests := true, laidLooks := .later }
def LinesOneUptoCardSaid : Prop := Claim7.holds Tryz.pinned (.plain (OpenSpec.upto linesOneSpec)) linesOneUptoCard

/-- THE SECOND FORM's CARD OF 'triviumlaw5.LinesOrder'. -/
def linesOrderUptoCard : Claim7 := { stood := { row := linesOrderUptoRow, standIns := [], harness := (true, "b4e57ceb79bff8912db764e6d1b350512b7419f58bfc489e9dc1449d3d8d1061"), looks := true }, kinds := [], alts := [], laidByText := true, laidKinds := [.data, .data, .data, .data, .sentinel, .sentinel, .pinned, .pinned], laidTests := true, laidLooks := .later }
def LinesOrderUptoCardSaid : Prop := Claim7.holds Tryz.pinned (.plain (OpenSpec.upto linesOrderSpec)) linesOrderUptoCard

/-- THE SECOND FORM's CARD OF 'triviumlaw5.LinesShort'. -/
def linesShortUptoCard : Claim7 := { stood := { row := linesShortUptoRow, standIns := [], harness := (true, "b4e57ceb79bff8912db764e6d1b350512b7419f58bfc489e9dc1449d3d8d1061"), looks := true }, kinds := [], alts := [], laidByText := true, laidKinds := [.data, .data, .data, .data, .sentinel, .sentinel, .pinned, .pinned], laidTests := true, laidLooks := .later }
def LinesShortUptoCardSaid : Prop := Claim7.holds Tryz.pinned (.plain (OpenSpec.upto linesShortSpec)) linesShortUptoCard
end Rows
end Go.Proofs.YtemkbmhcohijnaaGreatDoor
