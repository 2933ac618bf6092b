/-
  DERIVED. GIVEN WITH THE SEED: THE CARDS: each row of YtmjnacbimafahaaDoorRows.lean that lists a variable, with what it lists TIED to the program's text (the seventh form; the later family's looks); each row that meets fmt, with fmt's text TOLD by the authors' own Lean function (tested against real Go, not proved from fmt's source: count such statements apart). THE CARD IS WHAT COUNTS. Prove the row's statement (the work); the ties are given (YtmjnacbimafahaaDoorTie.lean); close each card by the builder's one call (the guide's Derived/Test/ToyasCard.lean, 'card_holds'). Laid BY PROGRAM, IN A SANDBOX (cutbox-door.mjs). By AI agents, Wed Nov 11 2026. No macro, syntax, notation, axiom, sorry.
-/
import Derived.Test.YtmjnacbimafahaaDoorRows
import GoSem.ClaimSeven
namespace Go.Proofs.YtmjnacbimafahaaDoor
namespace Rows

/-- THE TIED CARD OF 'triviumlaw1.BitsTell'. -/
def bitsTellCard : Claim7 := { stood := { row := bitsTellRow, standIns := [], harness := (true, "55f6a0d97e3b72cc4996895a8a033328a2916da2c3755818505a91bbb62ea53d"), looks := false }, kinds := [], alts := [], laidByText := true, laidKinds := [.data], laidTests := true, laidLooks := .later }
def BitsTellCardSaid : Prop := Claim7.holds Tryd.pinned (.plain (OpenSpec.ofChange bitsTellSpec)) bitsTellCard

/-- THE TIED CARD OF 'triviumlaw1.BitsBack'. -/
def bitsBackCard : Claim7 := { stood := { row := bitsBackRow, standIns := [], harness := (true, "55f6a0d97e3b72cc4996895a8a033328a2916da2c3755818505a91bbb62ea53d"), looks := false }, kinds := [], alts := [], laidByText := true, laidKinds := [.data], laidTests := true, laidLooks := .later }
def BitsBackCardSaid : Prop := Claim7.holds Tryd.pinned (.plain (OpenSpec.ofChange bitsBackSpec)) bitsBackCard

/-- THE TIED CARD OF 'triviumlaw1.BitsRuns'. -/
def bitsRunsCard : Claim7 := { stood := { row := bitsRunsRow, standIns := [], harness := (true, "55f6a0d97e3b72cc4996895a8a033328a2916da2c3755818505a91bbb62ea53d"), looks := false }, kinds := [], alts := [], laidByText := true, laidKinds := [.data], laidTests := true, laidLooks := .later }
def BitsRunsCardSaid : Prop := Claim7.holds Tryd.pinned (.plain (OpenSpec.ofChange bitsRunsSpec)) bitsRunsCard

/-- THE TIED CARD OF 'triviumlaw1.BitsMany'. -/
def bitsManyCard : Claim7 := { stood := { row := bitsManyRow, standIns := [], harness := (true, "55f6a0d97e3b72cc4996895a8a033328a2916da2c3755818505a91bbb62ea53d"), looks := false }, kinds := [], alts := [], laidByText := true, laidKinds := [.data], laidTests := true, laidLooks := .later }
def BitsManyCardSaid : Prop := Claim7.holds Tryd.pinned (.plain (OpenSpec.ofChange bitsManySpec)) bitsManyCard

/-- THE TIED CARD OF 'triviumlaw1.BitsSum'. -/
def bitsSumCard : Claim7 := { stood := { row := bitsSumRow, standIns := [], harness := (true, "55f6a0d97e3b72cc4996895a8a033328a2916da2c3755818505a91bbb62ea53d"), looks := false }, kinds := [], alts := [], laidByText := true, laidKinds := [.data], laidTests := true, laidLooks := .later }
def BitsSumCardSaid : Prop := Claim7.holds Tryd.pinned (.plain (OpenSpec.ofChange bitsSumSpec)) bitsSumCard

/-- THE TIED CARD OF 'triviumlaw1.BitsJoin'. -/
def bitsJoinCard : Claim7 := { stood := { row := bitsJoinRow, standIns := [], harness := (true, "55f6a0d97e3b72cc4996895a8a033328a2916da2c3755818505a91bbb62ea53d"), looks := false }, kinds := [], alts := [], laidByText := true, laidKinds := [.data], laidTests := true, laidLooks := .later }
def BitsJoinCardSaid : Prop := Claim7.holds Tryd.pinned (.plain (OpenSpec.ofChange bitsJoinSpec)) bitsJoinCard

/-- THE TIED CARD OF 'triviumlaw1.BitsNext'. -/
def bitsNextCard : Claim7 := { stood := { row := bitsNextRow, standIns := [], harness := (true, "55f6a0d97e3b72cc4996895a8a033328a2916da2c3755818505a91bbb62ea53d"), looks := false }, kinds := [], alts := [], laidByText := true, laidKinds := [.data], laidTests := true, laidLooks := .later }
def BitsNextCardSaid : Prop := Claim7.holds Tryd.pinned (.plain (OpenSpec.ofChange bitsNextSpec)) bitsNextCard

/-- THE SECOND FORM's CARD OF 'triviumlaw1.BitsTell'. -/
def bitsTellUptoCard : Claim7 := { stood := { row := bitsTellUptoRow, standIns := [], harness := (true, "55f6a0d97e3b72cc4996895a8a033328a2916da2c3755818505a91bbb62ea53d"), looks := false }, kinds := [], alts := [], laidByText := true, laidKinds := [.data], laidTests := true, laidLooks := .later }
def BitsTellUptoCardSaid : Prop := Claim7.holds Tryd.pinned (.plain (OpenSpec.upto bitsTellSpec)) bitsTellUptoCard

/-- THE SECOND FORM's CARD OF 'triviumlaw1.BitsBack'. -/
def bitsBackUptoCard : Claim7 := { stood := { row := bitsBackUptoRow, standIns := [], harness := (true, "55f6a0d97e3b72cc4996895a8a033328a2916da2c3755818505a91bbb62ea53d"), looks := false }, kinds := [], alts := [], laidByText := true, laidKinds := [.data], laidTests := true, laidLooks := .later }
def BitsBackUptoCardSaid : Prop := Claim7.holds Tryd.pinned (.plain (OpenSpec.upto bitsBackSpec)) bitsBackUptoCard

/-- THE SECOND FORM's CARD OF 'triviumlaw1.BitsRuns'. -/
def bitsRunsUptoCard : Claim7 := { stood := { row := bitsRunsUptoRow, standIns := [], harness := (true, "55f6a0d97e3b72cc4996895a8a033328a2916da2c3755818505a91bbb62ea53d"), looks := false }, kinds := [], alts := [], laidByText := true, laidKinds := [.data], laidTests := true, laidLooks := .later }
def BitsRunsUptoCardSaid : Prop := Claim7.holds Tryd.pinned (.plain (OpenSpec.upto bitsRunsSpec)) bitsRunsUptoCard

/-- THE SECOND FORM's CARD OF 'triviumlaw1.BitsMany'. -/
def bitsManyUptoCard : Claim7 := { stood := { row := bitsManyUptoRow, standIns := [], harness := (true, "55f6a0d97e3b72cc4996895a8a033328a2916da2c3755818505a91bbb62ea53d"), looks := false }, kinds := [], alts := [], laidByText := true, laidKinds := [.data], laidTests := true, laidLooks := .later }
def BitsManyUptoCardSaid : Prop := Claim7.holds Tryd.pinned (.plain (OpenSpec.upto bitsManySpec)) bitsManyUptoCard

/-- THE SECOND FORM's CARD OF 'triviumlaw1.BitsSum'. -/
def bitsSumUptoCard : Claim7 := { stood := { row := bitsSumUptoRow, standIns := [], harness := (true, "55f6a0d97e3b72cc4996895a8a033328a2916da2c3755818505a91bbb62ea53d"), looks := false }, kinds := [], alts := [], laidByText := true, laidKinds := [.data], laidTests := true, laidLooks := .later }
def BitsSumUptoCardSaid : Prop := Claim7.holds Tryd.pinned (.plain (OpenSpec.upto bitsSumSpec)) bitsSumUptoCard

/-- THE SECOND FORM's CARD OF 'triviumlaw1.BitsJoin'. -/
def bitsJoinUptoCard : Claim7 := { stood := { row := bitsJoinUptoRow, standIns := [], harness := (true, "55f6a0d97e3b72cc4996895a8a033328a2916da2c3755818505a91bbb62ea53d"), looks := false }, kinds := [], alts := [], laidByText := true, laidKinds := [.data], laidTests := true, laidLooks := .later }
def BitsJoinUptoCardSaid : Prop := Claim7.holds Tryd.pinned (.plain (OpenSpec.upto bitsJoinSpec)) bitsJoinUptoCard

/-- THE SECOND FORM's CARD OF 'triviumlaw1.BitsNext'. -/
def bitsNextUptoCard : Claim7 := { stood := { row := bitsNextUptoRow, standIns := [], harness := (true, "55f6a0d97e3b72cc4996895a8a033328a2916da2c3755818505a91bbb62ea53d"), looks := false }, kinds := [], alts := [], laidByText := true, laidKinds := [.data], laidTests := true, laidLooks := .later }
def BitsNextUptoCardSaid : Prop := Claim7.holds Tryd.pinned (.plain (OpenSpec.upto bitsNextSpec)) bitsNextUptoCard
end Rows
end Go.Proofs.YtmjnacbimafahaaDoor
