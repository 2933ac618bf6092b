/-
  DERIVED. GIVEN WITH THE SEED: THE CARDS: each row of YtockbaekcbeenaaGreatDoorRows.lean that lists a variable, with what it lists TIED to the program's text (the seventh form; the later family's looks); each row that meets fmt, with fmt's text TOLD by the authors' own Lean function (tested against real Go, not proved from fmt's source: count such statements apart). THE CARD IS WHAT COUNTS. Prove the row's statement (the work); the ties are given (YtockbaekcbeenaaGreatDoorTie.lean); close each card by the builder's one call (the guide's Derived/Test/ToyasCard.lean, 'card_holds'). Laid BY PROGRAM, IN A SANDBOX (cutbox-door.mjs). By AI agents, Wed Nov 11 2026. No macro, syntax, notation, axiom, sorry.
-/
import Derived.Test.YtockbaekcbeenaaGreatDoorRows
import GoSem.ClaimSeven
namespace Go.Proofs.YtockbaekcbeenaaGreatDoor
namespace Rows

/-- THE TIED CARD OF 'triviumlaw14.WalkTells'. -/
def walkTellsCard : Claim7 := { stood := { row := walkTellsRow, standIns := [], harness := (true, "c535fb6bbd8429c7050312b2023ce677dd4df834b7a80d87a5532fbc3c83b1be"), looks := true }, kinds := [], alts := [], laidByText := true, laidKinds := [.data, .data, .data, .data, .sentinel, .sentinel, .pinned, .pinned], laidTests := true, laidLooks := .later }
def WalkTellsCardSaid : Prop := Claim7.holds Tryz.pinned (.plain (OpenSpec.ofChange walkTellsSpec)) walkTellsCard

/-- THE TIED CARD OF 'triviumlaw14.WalkOne'. -/
def walkOneCard : Claim7 := { stood := { row := walkOneRow, standIns := [], harness := (true, "c535fb6bbd8429c7050312b2023ce677dd4df834b7a80d87a5532fbc3c83b1be"), looks := true }, kinds := [], alts := [], laidByText := true, laidKinds := [.data, .data, .data, .data, .sentinel, .sentinel, .pinned, .pinned], laidTests := true, laidLooks := .later }
def WalkOneCardSaid : Prop := Claim7.holds Tryz.pinned (.plain (OpenSpec.ofChange walkOneSpec)) walkOneCard

/-- THE TIED CARD OF 'triviumlaw14.WalkTurns'. -/
def walkTurnsCard : Claim7 := { stood := { row := walkTurnsRow, standIns := [], harness := (true, "c535fb6bbd8429c7050312b2023ce677dd4df834b7a80d87a5532fbc3c83b1be"), looks := true }, kinds := [], alts := [], laidByText := true, laidKinds := [.data, .data, .data, .data, .sentinel, .sentinel, .pinned, .pinned], laidTests := true, laidLooks := .later }
def WalkTurnsCardSaid : Prop := Claim7.holds Tryz.pinned (.plain (OpenSpec.ofChange walkTurnsSpec)) walkTurnsCard

/-- THE TIED CARD OF 'triviumlaw14.WalkJoins'. -/
def walkJoinsCard : Claim7 := { stood := { row := walkJoinsRow, standIns := [], harness := (true, "c535fb6bbd8429c7050312b2023ce677dd4df834b7a80d87a5532fbc3c83b1be"), looks := true }, kinds := [], alts := [], laidByText := true, laidKinds := [.data, .data, .data, .data, .sentinel, .sentinel, .pinned, .pinned], laidTests := true, laidLooks := .later }
def WalkJoinsCardSaid : Prop := Claim7.holds Tryz.pinned (.plain (OpenSpec.ofChange walkJoinsSpec)) walkJoinsCard

/-- THE TIED CARD OF 'triviumlaw14.WalkMany'. -/
def walkManyCard : Claim7 := { stood := { row := walkManyRow, standIns := [], harness := (true, "c535fb6bbd8429c7050312b2023ce677dd4df834b7a80d87a5532fbc3c83b1be"), looks := true }, kinds := [], alts := [], laidByText := true, laidKinds := [.data, .data, .data, .data, .sentinel, .sentinel, .pinned, .pinned], laidTests := true, laidLooks := .later }
def WalkManyCardSaid : Prop := Claim7.holds Tryz.pinned (.plain (OpenSpec.ofChange walkManySpec)) walkManyCard

/-- THE TIED CARD OF 'triviumlaw14.WalkNone'. -/
def walkNoneCard : Claim7 := { stood := { row := walkNoneRow, standIns := [], harness := (true, "c535fb6bbd8429c7050312b2023ce677dd4df834b7a80d87a5532fbc3c83b1be"), looks := true }, kinds := [], alts := [], laidByText := true, laidKinds := [.data, .data, .data, .data, .sentinel, .sentinel, .pinned, .pinned], laidTests := true, laidLooks := .later }
def WalkNoneCardSaid : Prop := Claim7.holds Tryz.pinned (.plain (OpenSpec.ofChange walkNoneSpec)) walkNoneCard

/-- THE TIED CARD OF 'triviumlaw14.WalkSteps'. -/
def walkStepsCard : Claim7 := { stood := { row := walkStepsRow, standIns := [], harness := (true, "c535fb6bbd8429c7050312b2023ce677dd4df834b7a80d87a5532fbc3c83b1be"), looks := true }, kinds := [], alts := [], laidByText := true, laidKinds := [.data, .data, .data, .data, .sentinel, .sentinel, .pinned, .pinned], laidTests := true, laidLooks := .later }
def WalkStepsCardSaid : Prop := Claim7.holds Tryz.pinned (.plain (OpenSpec.ofChange walkStepsSpec)) walkStepsCard

/-- THE TIED CARD OF 'triviumlaw14.WalkRound'. -/
def walkRoundCard : Claim7 := { stood := { row := walkRoundRow, standIns := [], harness := (true, "c535fb6bbd8429c7050312b2023ce677dd4df834b7a80d87a5532fbc3c83b1be"), looks := true }, kinds := [], alts := [], laidByText := true, laidKinds := [.data, .data, .data, .data, .sentinel, .sentinel, .pinned, .pinned], laidTests := true, laidLooks := .later }
def WalkRoundCardSaid : Prop := Claim7.holds Tryz.pinned (.plain (OpenSpec.ofChange walkRoundSpec)) walkRoundCard

/-- THE TIED CARD OF 'triviumlaw14.WalkLess'. -/
def walkLessCard : Claim7 := { stood := { row := walkLessRow, standIns := [], harness := (true, "c535fb6bbd8429c7050312b2023ce677dd4df834b7a80d87a5532fbc3c83b1be"), looks := true }, kinds := [], alts := [], laidByText := true, laidKinds := [.data, .data, .data, .data, .sentinel, .sentinel, .pinned, .pinned], laidTests := true, laidLooks := .later }
def WalkLessCardSaid : Prop := Claim7.holds Tryz.pinned (.plain (OpenSpec.ofChange walkLessSpec)) walkLessCard

/-- THE SECOND FORM's CARD OF 'triviumlaw14.WalkTells'. -/
def walkTellsUptoCard : Claim7 := { stood := { row := walkTellsUptoRow, standIns := [], harness := (true, "c535fb6bbd8429c7050312b2023ce677dd4df834b7a80d87a5532fbc3c83b1be"), looks := true }, kinds := [], alts := [], laidByText := true, laidKinds := [.data, .data, .data, .data, .sentinel, .sentinel, .pinned, .pinned], laidTests := true, laidLooks := .later }
def WalkTellsUptoCardSaid : Prop := Claim7.holds Tryz.pinned (.plain (OpenSpec.upto walkTellsSpec)) walkTellsUptoCard

/-- THE SECOND FORM's CARD OF 'triviumlaw14.WalkOne'. -/
def walkOneUptoCard : Claim7 := { stood := { row := walkOneUptoRow, standIns := [], harness := (true, "c535fb6bbd8429c7050312b2023ce677dd4df834b7a80d87a5532fbc3c83b1be"), looks := true }, kinds := [], alts := [], laidByText := true, laidKinds := [.data, .data, .data, .data, .sentinel, .sentinel, .pinned, .pinned], laidTests := true, laidLooks := .later }
def WalkOneUptoCardSaid : Prop := Claim7.holds Tryz.pinned (.plain (OpenSpec.upto walkOneSpec)) walkOneUptoCard

/-- THE SECOND FORM's CARD OF 'triviumlaw14.WalkTurns'. -/
def walkTurnsUptoCard : Claim7 := { stood := { row := walkTurnsUptoRow, standIns := [], harness := (true, "c535fb6bbd8429c7050312b2023ce677dd4df834b7a80d87a5532fbc3c83b1be"), looks := true }, kinds := [], alts := [], laidByText := true, laidKinds := [.data, .data, .data, .data, .sentinel, .sentinel, .pinned, .pinned], laidTests := true, laidLooks := .later }
def WalkTurnsUptoCardSaid : Prop := Claim7.holds Tryz.pinned (.plain (OpenSpec.upto walkTurnsSpec)) walkTurnsUptoCard

/-- THE SECOND FORM's CARD OF 'triviumlaw14.WalkJoins'. -/
def walkJoinsUptoCard : Claim7 := { stood := { row := walkJoinsUptoRow, standIns := [], harness := (true, "c535fb6bbd8429c7050312b2023ce677dd4df834b7a80d87a5532fbc3c83b1be"), looks := true }, kinds := [], alts := [], laidByText := true, laidKinds := [.data, .data, .data, .data, .sentinel, .sentinel, .pinned, .pinned], laidTests := true, laidLooks := .later }
def WalkJoinsUptoCardSaid : Prop := Claim7.holds Tryz.pinned (.plain (OpenSpec.upto walkJoinsSpec)) walkJoinsUptoCard

/-- THE SECOND FORM's CARD OF 'triviumlaw14.WalkMany'. -/
def walkManyUptoCard : Claim7 := { stood := { row := walkManyUptoRow, standIns := [], harness := (true, "c535fb6bbd8429c7050312b2023ce677dd4df834b7a80d87a5532fbc3c83b1be"), looks := true }, kinds := [], alts := [], laidByText := true, laidKinds := [.data, .data, .data, .data, .sentinel, .sentinel, .pinned, .pinned], laidTests := true, laidLooks := .later }
def WalkManyUptoCardSaid : Prop := Claim7.holds Tryz.pinned (.plain (OpenSpec.upto walkManySpec)) walkManyUptoCard

/-- THE SECOND FORM's CARD OF 'triviumlaw14.WalkNone'. -/
def walkNoneUptoCard : Claim7 := { stood := { row := walkNoneUptoRow, standIns := [], harness := (true, "c535fb6bbd8429c7050312b2023ce677dd4df834b7a80d87a5532fbc3c83b1be"), looks := true }, kinds := [], alts := [], laidByText := true, laidKinds := [.data, .data, .data, .data, .sentinel, .sentinel, .pinned, .pinned], laidTests := true, laidLooks := .later }
def WalkNoneUptoCardSaid : Prop := Claim7.holds Tryz.pinned (.plain (OpenSpec.upto walkNoneSpec)) walkNoneUptoCard

/-- THE SECOND FORM's CARD OF 'triviumlaw14.WalkSteps'. -/
def walkStepsUptoCard : Claim7 := { stood := { row := walkStepsUptoRow, standIns := [], harness := (true, "c535fb6bbd8429c7050312b2023ce677dd4df834b7a80d87a5532fbc3c83b1be"), looks := true }, kinds := [], alts := [], laidByText := true, laidKinds := [.data, .data, .data, .data, .sentinel, .sentinel, .pinned, .pinned], laidTests := true, laidLooks := .later }
def WalkStepsUptoCardSaid : Prop := Claim7.holds Tryz.pinned (.plain (OpenSpec.upto walkStepsSpec)) walkStepsUptoCard

/-- THE SECOND FORM's CARD OF 'triviumlaw14.WalkRound'. -/
def walkRoundUptoCard : Claim7 := { stood := { row := walkRoundUptoRow, standIns := [], harness := (true, "c535fb6bbd8429c7050312b2023ce677dd4df834b7a80d87a5532fbc3c83b1be"), looks := true }, kinds := [], alts := [], laidByText := true, laidKinds := [.data, .data, .data, .data, .sentinel, .sentinel, .pinned, .pinned], laidTests := true, laidLooks := .later }
def WalkRoundUptoCardSaid : Prop := Claim7.holds Tryz.pinned (.plain (OpenSpec.upto walkRoundSpec)) walkRoundUptoCard

/-- THE SECOND FORM's CARD OF 'triviumlaw14.WalkLess'. -/
def walkLessUptoCard : Claim7 := { stood := { row := walkLessUptoRow, standIns := [], harness := (true, "c535fb6bbd8429c7050312b2023ce677dd4df834b7a80d87a5532fbc3c83b1be"), looks := true }, kinds := [], alts := [], laidByText := true, laidKinds := [.data, .data, .data, .data, .sentinel, .sentinel, .pinned, .pinned], laidTests := true, laidLooks := .later }
def WalkLessUptoCardSaid : Prop := Claim7.holds Tryz.pinned (.plain (OpenSpec.upto walkLessSpec)) walkLessUptoCard
end Rows
end Go.Proofs.YtockbaekcbeenaaGreatDoor
