/-
  NARROWER THAN 'FOR EVERY INPUT', by the rows' own cells (each row's printed sentence says how): AutoTells: loops, laid · AutoTakes: loops, laid · AutoTurns: loops, laid · AutoMany: loops, laid · AutoNot: laid · AutoFull: laid · AutoOfNothing: laid · AutoParts: loops, laid · AutoSteps: loops, laid · AutoMaybe: loops, laid.
  DERIVED. THE GIVEN ROWS OF THIS SEAT. 10 by the template 'for every input the law returns true; each argument reads behind the call as it read before'; 0 by the template 'total and deterministic' (their statements: YtobcbaeoedpefaaDoorTotals.lean).
  GIVEN WITH THE SEED: the statements are not yours to turn. If you find one false, say at which input.
  Laid BY PROGRAM, IN A SANDBOX (cutbox-rows.mjs): the forced cells as the released guide's own fill.sh prints them over the translation ddba7dacf15d2e9a… (all of the seat's roots in one cut). By AI agents, Wed Nov 11 2026. No macro, syntax, notation, axiom, sorry.
-/
import Derived.Test.YtobcbaeoedpefaaDoorChecked
import GoSem.PinnedTables
import GoSem.Claim
import GoSem.ClaimJoined
import GoSem.ClaimMapViews
import Derived.JoinedTies
import Derived.KernelRfl
namespace Go.Proofs.YtobcbaeoedpefaaDoor
/- THE CELL 'sum', in the pinned program and in every row, IS THE sha256 OF THE DUMP (.gsa) THAT YtobcbaeoedpefaaDoorProg.lean LOADS. Nothing in Lean hashes anything: it is a label: what it is worth is what the hold of that sum in a sandbox is worth. -/
noncomputable def Tryd.pinned : Pinned := { name := "ytobcbaeoedpefaadoor", sum := "ddba7dacf15d2e9a81064de3b462d4c242129cb6c79016edea8982f937fe15a1", checked := Tryd.checked }
namespace Rows
def none {H : Type} : Left H := { results := [], args := [] }

/- WHAT THE LISTED PACKAGE-LEVEL VARIABLES READ AS WHEN THE CALL BEGINS. Each datum BY PROGRAM (the guide's laid-datum.mjs) off the statement by which the dump's own 'gosem.cut.vars' lays the variable. In a bare row this is a premise. The card (YtobcbaeoedpefaaDoorCards.lean) ties it to the program's text. -/
def laid_unicode_utf8_acceptRanges {H : Type} : DataW H := .agg [.agg [.lit (.int .u8 128), .lit (.int .u8 191)], .agg [.lit (.int .u8 160), .lit (.int .u8 191)], .agg [.lit (.int .u8 128), .lit (.int .u8 159)], .agg [.lit (.int .u8 144), .lit (.int .u8 191)], .agg [.lit (.int .u8 128), .lit (.int .u8 143)], .agg [.lit (.int .u8 0), .lit (.int .u8 0)], .agg [.lit (.int .u8 0), .lit (.int .u8 0)], .agg [.lit (.int .u8 0), .lit (.int .u8 0)], .agg [.lit (.int .u8 0), .lit (.int .u8 0)], .agg [.lit (.int .u8 0), .lit (.int .u8 0)], .agg [.lit (.int .u8 0), .lit (.int .u8 0)], .agg [.lit (.int .u8 0), .lit (.int .u8 0)], .agg [.lit (.int .u8 0), .lit (.int .u8 0)], .agg [.lit (.int .u8 0), .lit (.int .u8 0)], .agg [.lit (.int .u8 0), .lit (.int .u8 0)], .agg [.lit (.int .u8 0), .lit (.int .u8 0)]]
/-- One of Go's own tables, pinned by name: the form's constant. -/
def laid_unicode_utf8_first : DataW Unit := Go.Pinned.utf8First

/-- 'triviumlaw13.AutoTells': WHATEVER THE INPUT: true; the input reads as it did. -/
def autoTellsSpec : ChangeSpec := { name := "autoTells", fn := fun _ => fun
  | [d] => { results := [.lit (.bool true)], args := [d] }
  | _ => none }
def autoTellsRow : OpenClaim := { program := "ytobcbaeoedpefaadoor", sum := "ddba7dacf15d2e9a81064de3b462d4c242129cb6c79016edea8982f937fe15a1", func := "trivium/triviumlaw13.AutoTells", spec := "autoTells", inPlace := ["internal/bytealg.IndexByteString", "internal/bytealg.IndexString"], recurses := true, named := ["unicode/utf8.first", "unicode/utf8.acceptRanges", "internal/bytealg.MaxLen"], loops := true, apart := false, laid := [("unicode/utf8.acceptRanges", laid_unicode_utf8_acceptRanges), ("unicode/utf8.first", laid_unicode_utf8_first)] }
def AutoTellsSaid : Prop := autoTellsRow.holds Tryd.pinned (OpenSpec.ofChange autoTellsSpec)

/-- ITS FALSE NEIGHBOUR: 'it returns false'. Refute it at one input. -/
def autoTellsWrong : ChangeSpec := { name := "autoTells", fn := fun _ => fun
  | [d] => { results := [.lit (.bool false)], args := [d] }
  | _ => none }
def AutoTellsWrongFalsely : Prop := autoTellsRow.holds Tryd.pinned (OpenSpec.ofChange autoTellsWrong)

/-- 'triviumlaw13.AutoTakes': WHATEVER THE INPUT: true; the input reads as it did. -/
def autoTakesSpec : ChangeSpec := { name := "autoTakes", fn := fun _ => fun
  | [d1, d2] => { results := [.lit (.bool true)], args := [d1, d2] }
  | _ => none }
def autoTakesRow : OpenClaim := { program := "ytobcbaeoedpefaadoor", sum := "ddba7dacf15d2e9a81064de3b462d4c242129cb6c79016edea8982f937fe15a1", func := "trivium/triviumlaw13.AutoTakes", spec := "autoTakes", inPlace := ["internal/bytealg.IndexByteString", "internal/bytealg.IndexString"], recurses := true, named := ["unicode/utf8.first", "unicode/utf8.acceptRanges", "internal/bytealg.MaxLen"], loops := true, apart := false, laid := [("unicode/utf8.acceptRanges", laid_unicode_utf8_acceptRanges), ("unicode/utf8.first", laid_unicode_utf8_first)] }
def AutoTakesSaid : Prop := autoTakesRow.holds Tryd.pinned (OpenSpec.ofChange autoTakesSpec)

/-- ITS FALSE NEIGHBOUR: 'it returns false'. Refute it at one input. -/
def autoTakesWrong : ChangeSpec := { name := "autoTakes", fn := fun _ => fun
  | [d1, d2] => { results := [.lit (.bool false)], args := [d1, d2] }
  | _ => none }
def AutoTakesWrongFalsely : Prop := autoTakesRow.holds Tryd.pinned (OpenSpec.ofChange autoTakesWrong)

/-- 'triviumlaw13.AutoTurns': WHATEVER THE INPUT: true; the input reads as it did. -/
def autoTurnsSpec : ChangeSpec := { name := "autoTurns", fn := fun _ => fun
  | [d1, d2] => { results := [.lit (.bool true)], args := [d1, d2] }
  | _ => none }
def autoTurnsRow : OpenClaim := { program := "ytobcbaeoedpefaadoor", sum := "ddba7dacf15d2e9a81064de3b462d4c242129cb6c79016edea8982f937fe15a1", func := "trivium/triviumlaw13.AutoTurns", spec := "autoTurns", inPlace := ["internal/bytealg.IndexByteString", "internal/bytealg.IndexString"], recurses := true, named := ["unicode/utf8.first", "unicode/utf8.acceptRanges", "internal/bytealg.MaxLen"], loops := true, apart := false, laid := [("unicode/utf8.acceptRanges", laid_unicode_utf8_acceptRanges), ("unicode/utf8.first", laid_unicode_utf8_first)] }
def AutoTurnsSaid : Prop := autoTurnsRow.holds Tryd.pinned (OpenSpec.ofChange autoTurnsSpec)

/-- ITS FALSE NEIGHBOUR: 'it returns false'. Refute it at one input. -/
def autoTurnsWrong : ChangeSpec := { name := "autoTurns", fn := fun _ => fun
  | [d1, d2] => { results := [.lit (.bool false)], args := [d1, d2] }
  | _ => none }
def AutoTurnsWrongFalsely : Prop := autoTurnsRow.holds Tryd.pinned (OpenSpec.ofChange autoTurnsWrong)

/-- 'triviumlaw13.AutoMany': WHATEVER THE INPUT: true; the input reads as it did. -/
def autoManySpec : ChangeSpec := { name := "autoMany", fn := fun _ => fun
  | [d1, d2, d3] => { results := [.lit (.bool true)], args := [d1, d2, d3] }
  | _ => none }
def autoManyRow : OpenClaim := { program := "ytobcbaeoedpefaadoor", sum := "ddba7dacf15d2e9a81064de3b462d4c242129cb6c79016edea8982f937fe15a1", func := "trivium/triviumlaw13.AutoMany", spec := "autoMany", inPlace := ["internal/bytealg.IndexByteString", "internal/bytealg.IndexString"], recurses := true, named := ["unicode/utf8.first", "unicode/utf8.acceptRanges", "internal/bytealg.MaxLen"], loops := true, apart := false, laid := [("unicode/utf8.acceptRanges", laid_unicode_utf8_acceptRanges), ("unicode/utf8.first", laid_unicode_utf8_first)] }
def AutoManySaid : Prop := autoManyRow.holds Tryd.pinned (OpenSpec.ofChange autoManySpec)

/-- ITS FALSE NEIGHBOUR: 'it returns false'. Refute it at one input. -/
def autoManyWrong : ChangeSpec := { name := "autoMany", fn := fun _ => fun
  | [d1, d2, d3] => { results := [.lit (.bool false)], args := [d1, d2, d3] }
  | _ => none }
def AutoManyWrongFalsely : Prop := autoManyRow.holds Tryd.pinned (OpenSpec.ofChange autoManyWrong)

/-- 'triviumlaw13.AutoNot': WHATEVER THE INPUT: true; the input reads as it did. -/
def autoNotSpec : ChangeSpec := { name := "autoNot", fn := fun _ => fun
  | [d1, d2, d3] => { results := [.lit (.bool true)], args := [d1, d2, d3] }
  | _ => none }
def autoNotRow : OpenClaim := { program := "ytobcbaeoedpefaadoor", sum := "ddba7dacf15d2e9a81064de3b462d4c242129cb6c79016edea8982f937fe15a1", func := "trivium/triviumlaw13.AutoNot", spec := "autoNot", inPlace := ["internal/bytealg.IndexByteString", "internal/bytealg.IndexString"], recurses := true, named := ["unicode/utf8.first", "unicode/utf8.acceptRanges", "internal/bytealg.MaxLen"], apart := false, laid := [("unicode/utf8.acceptRanges", laid_unicode_utf8_acceptRanges), ("unicode/utf8.first", laid_unicode_utf8_first)] }
def AutoNotSaid : Prop := autoNotRow.holds Tryd.pinned (OpenSpec.ofChange autoNotSpec)

/-- ITS FALSE NEIGHBOUR: 'it returns false'. Refute it at one input. -/
def autoNotWrong : ChangeSpec := { name := "autoNot", fn := fun _ => fun
  | [d1, d2, d3] => { results := [.lit (.bool false)], args := [d1, d2, d3] }
  | _ => none }
def AutoNotWrongFalsely : Prop := autoNotRow.holds Tryd.pinned (OpenSpec.ofChange autoNotWrong)

/-- 'triviumlaw13.AutoFull': WHATEVER THE INPUT: true; the input reads as it did. -/
def autoFullSpec : ChangeSpec := { name := "autoFull", fn := fun _ => fun
  | [d] => { results := [.lit (.bool true)], args := [d] }
  | _ => none }
def autoFullRow : OpenClaim := { program := "ytobcbaeoedpefaadoor", sum := "ddba7dacf15d2e9a81064de3b462d4c242129cb6c79016edea8982f937fe15a1", func := "trivium/triviumlaw13.AutoFull", spec := "autoFull", inPlace := ["internal/bytealg.IndexByteString", "internal/bytealg.IndexString"], recurses := true, named := ["unicode/utf8.first", "unicode/utf8.acceptRanges", "internal/bytealg.MaxLen"], apart := false, laid := [("unicode/utf8.acceptRanges", laid_unicode_utf8_acceptRanges), ("unicode/utf8.first", laid_unicode_utf8_first)] }
def AutoFullSaid : Prop := autoFullRow.holds Tryd.pinned (OpenSpec.ofChange autoFullSpec)

/-- ITS FALSE NEIGHBOUR: 'it returns false'. Refute it at one input. -/
def autoFullWrong : ChangeSpec := { name := "autoFull", fn := fun _ => fun
  | [d] => { results := [.lit (.bool false)], args := [d] }
  | _ => none }
def AutoFullWrongFalsely : Prop := autoFullRow.holds Tryd.pinned (OpenSpec.ofChange autoFullWrong)

/-- 'triviumlaw13.AutoOfNothing': WHATEVER THE INPUT: true; the input reads as it did. -/
def autoOfNothingSpec : ChangeSpec := { name := "autoOfNothing", fn := fun _ => fun
  | [d1, d2] => { results := [.lit (.bool true)], args := [d1, d2] }
  | _ => none }
def autoOfNothingRow : OpenClaim := { program := "ytobcbaeoedpefaadoor", sum := "ddba7dacf15d2e9a81064de3b462d4c242129cb6c79016edea8982f937fe15a1", func := "trivium/triviumlaw13.AutoOfNothing", spec := "autoOfNothing", inPlace := ["internal/bytealg.IndexByteString", "internal/bytealg.IndexString"], recurses := true, named := ["unicode/utf8.first", "unicode/utf8.acceptRanges", "internal/bytealg.MaxLen"], apart := false, laid := [("unicode/utf8.acceptRanges", laid_unicode_utf8_acceptRanges), ("unicode/utf8.first", laid_unicode_utf8_first)] }
def AutoOfNothingSaid : Prop := autoOfNothingRow.holds Tryd.pinned (OpenSpec.ofChange autoOfNothingSpec)

/-- ITS FALSE NEIGHBOUR: 'it returns false'. Refute it at one input. -/
def autoOfNothingWrong : ChangeSpec := { name := "autoOfNothing", fn := fun _ => fun
  | [d1, d2] => { results := [.lit (.bool false)], args := [d1, d2] }
  | _ => none }
def AutoOfNothingWrongFalsely : Prop := autoOfNothingRow.holds Tryd.pinned (OpenSpec.ofChange autoOfNothingWrong)

/-- 'triviumlaw13.AutoParts': WHATEVER THE INPUT: true; the input reads as it did. -/
def autoPartsSpec : ChangeSpec := { name := "autoParts", fn := fun _ => fun
  | [d1, d2, d3, d4] => { results := [.lit (.bool true)], args := [d1, d2, d3, d4] }
  | _ => none }
def autoPartsRow : OpenClaim := { program := "ytobcbaeoedpefaadoor", sum := "ddba7dacf15d2e9a81064de3b462d4c242129cb6c79016edea8982f937fe15a1", func := "trivium/triviumlaw13.AutoParts", spec := "autoParts", inPlace := ["internal/bytealg.IndexByteString", "internal/bytealg.IndexString"], recurses := true, named := ["unicode/utf8.first", "unicode/utf8.acceptRanges", "internal/bytealg.MaxLen"], loops := true, apart := false, laid := [("unicode/utf8.acceptRanges", laid_unicode_utf8_acceptRanges), ("unicode/utf8.first", laid_unicode_utf8_first)] }
def AutoPartsSaid : Prop := autoPartsRow.holds Tryd.pinned (OpenSpec.ofChange autoPartsSpec)

/-- ITS FALSE NEIGHBOUR: 'it returns false'. Refute it at one input. -/
def autoPartsWrong : ChangeSpec := { name := "autoParts", fn := fun _ => fun
  | [d1, d2, d3, d4] => { results := [.lit (.bool false)], args := [d1, d2, d3, d4] }
  | _ => none }
def AutoPartsWrongFalsely : Prop := autoPartsRow.holds Tryd.pinned (OpenSpec.ofChange autoPartsWrong)

/-- 'triviumlaw13.AutoSteps': WHATEVER THE INPUT: true; the input reads as it did. -/
def autoStepsSpec : ChangeSpec := { name := "autoSteps", fn := fun _ => fun
  | [d] => { results := [.lit (.bool true)], args := [d] }
  | _ => none }
def autoStepsRow : OpenClaim := { program := "ytobcbaeoedpefaadoor", sum := "ddba7dacf15d2e9a81064de3b462d4c242129cb6c79016edea8982f937fe15a1", func := "trivium/triviumlaw13.AutoSteps", spec := "autoSteps", inPlace := ["internal/bytealg.IndexByteString", "internal/bytealg.IndexString"], recurses := true, named := ["unicode/utf8.first", "unicode/utf8.acceptRanges", "internal/bytealg.MaxLen"], loops := true, apart := false, laid := [("unicode/utf8.acceptRanges", laid_unicode_utf8_acceptRanges), ("unicode/utf8.first", laid_unicode_utf8_first)] }
def AutoStepsSaid : Prop := autoStepsRow.holds Tryd.pinned (OpenSpec.ofChange autoStepsSpec)

/-- ITS FALSE NEIGHBOUR: 'it returns false'. Refute it at one input. -/
def autoStepsWrong : ChangeSpec := { name := "autoSteps", fn := fun _ => fun
  | [d] => { results := [.lit (.bool false)], args := [d] }
  | _ => none }
def AutoStepsWrongFalsely : Prop := autoStepsRow.holds Tryd.pinned (OpenSpec.ofChange autoStepsWrong)

/-- 'triviumlaw13.AutoMaybe': WHATEVER THE INPUT: true; the input reads as it did. -/
def autoMaybeSpec : ChangeSpec := { name := "autoMaybe", fn := fun _ => fun
  | [d1, d2] => { results := [.lit (.bool true)], args := [d1, d2] }
  | _ => none }
def autoMaybeRow : OpenClaim := { program := "ytobcbaeoedpefaadoor", sum := "ddba7dacf15d2e9a81064de3b462d4c242129cb6c79016edea8982f937fe15a1", func := "trivium/triviumlaw13.AutoMaybe", spec := "autoMaybe", inPlace := ["internal/bytealg.IndexByteString", "internal/bytealg.IndexString"], recurses := true, named := ["unicode/utf8.first", "unicode/utf8.acceptRanges", "internal/bytealg.MaxLen"], loops := true, apart := false, laid := [("unicode/utf8.acceptRanges", laid_unicode_utf8_acceptRanges), ("unicode/utf8.first", laid_unicode_utf8_first)] }
def AutoMaybeSaid : Prop := autoMaybeRow.holds Tryd.pinned (OpenSpec.ofChange autoMaybeSpec)

/-- ITS FALSE NEIGHBOUR: 'it returns false'. Refute it at one input. -/
def autoMaybeWrong : ChangeSpec := { name := "autoMaybe", fn := fun _ => fun
  | [d1, d2] => { results := [.lit (.bool false)], args := [d1, d2] }
  | _ => none }
def AutoMaybeWrongFalsely : Prop := autoMaybeRow.holds Tryd.pinned (OpenSpec.ofChange autoMaybeWrong)

/- THE SECOND FORM. 'bulk': how many values and letters a reading holds, each counted each time it is reached (what is shared counts as often as it is met; a slice's spare places count too). A statement '..UptoSaid' is the law's where the arguments, and the package variables that the reading takes, are together of bulk at most 1048576: NARROWER than '..Said'. Prove '..Said' where nothing that the law and all that it calls make is longer than what came in: it says more and counts as full. Else prove '..UptoSaid'. A law counts once. -/
mutual
def uptoBulk {H : Type} : DataW H → Nat
  | .lit (.string bytes) => bytes.length + 1
  | .lit _ => 1
  | .nil => 1
  | .ptr d => uptoBulk d + 1
  | .slice elems spare => uptoBulkAll elems + uptoBulkAll spare + 1
  | .agg parts => uptoBulkAll parts + 1
  | .iface _ d => uptoBulk d + 1
  | .map entries => uptoBulkEntries entries + 1
  | .held _ => 1
def uptoBulkAll {H : Type} : List (DataW H) → Nat
  | [] => 0
  | d :: r => uptoBulk d + uptoBulkAll r
def uptoBulkEntries {H : Type} : List (Lit × DataW H) → Nat
  | [] => 0
  | x :: r => uptoBulkEntry x + uptoBulkEntries r
def uptoBulkEntry {H : Type} : Lit × DataW H → Nat
  | (.string bytes, d) => bytes.length + uptoBulk d + 1
  | (_, d) => uptoBulk d + 1
 end
def uptoSmall : (H : Type) → List (DataW H) → Bool := fun _ ds => decide (uptoBulkAll ds ≤ 1048576)
def OpenSpec.upto (s : _root_.Go.ChangeSpec) : _root_.Go.OpenSpec := { _root_.Go.OpenSpec.ofChange s with cond := some uptoSmall }

/-- 'triviumlaw13.AutoTells', WHERE WHAT IT READS IS OF BULK AT MOST 1048576: true; the input reads as it did. -/
def autoTellsUptoRow : OpenClaim := { program := "ytobcbaeoedpefaadoor", sum := "ddba7dacf15d2e9a81064de3b462d4c242129cb6c79016edea8982f937fe15a1", func := "trivium/triviumlaw13.AutoTells", spec := "autoTells", inPlace := ["internal/bytealg.IndexByteString", "internal/bytealg.IndexString"], recurses := true, named := ["unicode/utf8.first", "unicode/utf8.acceptRanges", "internal/bytealg.MaxLen"], loops := true, apart := false, laid := [("unicode/utf8.acceptRanges", laid_unicode_utf8_acceptRanges), ("unicode/utf8.first", laid_unicode_utf8_first)], narrowed := true }
def AutoTellsUptoSaid : Prop := autoTellsUptoRow.holds Tryd.pinned (OpenSpec.upto autoTellsSpec)

/-- 'triviumlaw13.AutoTakes', WHERE WHAT IT READS IS OF BULK AT MOST 1048576: true; the input reads as it did. -/
def autoTakesUptoRow : OpenClaim := { program := "ytobcbaeoedpefaadoor", sum := "ddba7dacf15d2e9a81064de3b462d4c242129cb6c79016edea8982f937fe15a1", func := "trivium/triviumlaw13.AutoTakes", spec := "autoTakes", inPlace := ["internal/bytealg.IndexByteString", "internal/bytealg.IndexString"], recurses := true, named := ["unicode/utf8.first", "unicode/utf8.acceptRanges", "internal/bytealg.MaxLen"], loops := true, apart := false, laid := [("unicode/utf8.acceptRanges", laid_unicode_utf8_acceptRanges), ("unicode/utf8.first", laid_unicode_utf8_first)], narrowed := true }
def AutoTakesUptoSaid : Prop := autoTakesUptoRow.holds Tryd.pinned (OpenSpec.upto autoTakesSpec)

/-- 'triviumlaw13.AutoTurns', WHERE WHAT IT READS IS OF BULK AT MOST 1048576: true; the input reads as it did. -/
def autoTurnsUptoRow : OpenClaim := { program := "ytobcbaeoedpefaadoor", sum := "ddba7dacf15d2e9a81064de3b462d4c242129cb6c79016edea8982f937fe15a1", func := "trivium/triviumlaw13.AutoTurns", spec := "autoTurns", inPlace := ["internal/bytealg.IndexByteString", "internal/bytealg.IndexString"], recurses := true, named := ["unicode/utf8.first", "unicode/utf8.acceptRanges", "internal/bytealg.MaxLen"], loops := true, apart := false, laid := [("unicode/utf8.acceptRanges", laid_unicode_utf8_acceptRanges), ("unicode/utf8.first", laid_unicode_utf8_first)], narrowed := true }
def AutoTurnsUptoSaid : Prop := autoTurnsUptoRow.holds Tryd.pinned (OpenSpec.upto autoTurnsSpec)

/-- 'triviumlaw13.AutoMany', WHERE WHAT IT READS IS OF BULK AT MOST 1048576: true; the input reads as it did. -/
def autoManyUptoRow : OpenClaim := { program := "ytobcbaeoedpefaadoor", sum := "ddba7dacf15d2e9a81064de3b462d4c242129cb6c79016edea8982f937fe15a1", func := "trivium/triviumlaw13.AutoMany", spec := "autoMany", inPlace := ["internal/bytealg.IndexByteString", "internal/bytealg.IndexString"], recurses := true, named := ["unicode/utf8.first", "unicode/utf8.acceptRanges", "internal/bytealg.MaxLen"], loops := true, apart := false, laid := [("unicode/utf8.acceptRanges", laid_unicode_utf8_acceptRanges), ("unicode/utf8.first", laid_unicode_utf8_first)], narrowed := true }
def AutoManyUptoSaid : Prop := autoManyUptoRow.holds Tryd.pinned (OpenSpec.upto autoManySpec)

/-- 'triviumlaw13.AutoNot', WHERE WHAT IT READS IS OF BULK AT MOST 1048576: true; the input reads as it did. -/
def autoNotUptoRow : OpenClaim := { program := "ytobcbaeoedpefaadoor", sum := "ddba7dacf15d2e9a81064de3b462d4c242129cb6c79016edea8982f937fe15a1", func := "trivium/triviumlaw13.AutoNot", spec := "autoNot", inPlace := ["internal/bytealg.IndexByteString", "internal/bytealg.IndexString"], recurses := true, named := ["unicode/utf8.first", "unicode/utf8.acceptRanges", "internal/bytealg.MaxLen"], apart := false, laid := [("unicode/utf8.acceptRanges", laid_unicode_utf8_acceptRanges), ("unicode/utf8.first", laid_unicode_utf8_first)], narrowed := true }
def AutoNotUptoSaid : Prop := autoNotUptoRow.holds Tryd.pinned (OpenSpec.upto autoNotSpec)

/-- 'triviumlaw13.AutoFull', WHERE WHAT IT READS IS OF BULK AT MOST 1048576: true; the input reads as it did. -/
def autoFullUptoRow : OpenClaim := { program := "ytobcbaeoedpefaadoor", sum := "ddba7dacf15d2e9a81064de3b462d4c242129cb6c79016edea8982f937fe15a1", func := "trivium/triviumlaw13.AutoFull", spec := "autoFull", inPlace := ["internal/bytealg.IndexByteString", "internal/bytealg.IndexString"], recurses := true, named := ["unicode/utf8.first", "unicode/utf8.acceptRanges", "internal/bytealg.MaxLen"], apart := false, laid := [("unicode/utf8.acceptRanges", laid_unicode_utf8_acceptRanges), ("unicode/utf8.first", laid_unicode_utf8_first)], narrowed := true }
def AutoFullUptoSaid : Prop := autoFullUptoRow.holds Tryd.pinned (OpenSpec.upto autoFullSpec)

/-- 'triviumlaw13.AutoOfNothing', WHERE WHAT IT READS IS OF BULK AT MOST 1048576: true; the input reads as it did. -/
def autoOfNothingUptoRow : OpenClaim := { program := "ytobcbaeoedpefaadoor", sum := "ddba7dacf15d2e9a81064de3b462d4c242129cb6c79016edea8982f937fe15a1", func := "trivium/triviumlaw13.AutoOfNothing", spec := "autoOfNothing", inPlace := ["internal/bytealg.IndexByteString", "internal/bytealg.IndexString"], recurses := true, named := ["unicode/utf8.first", "unicode/utf8.acceptRanges", "internal/bytealg.MaxLen"], apart := false, laid := [("unicode/utf8.acceptRanges", laid_unicode_utf8_acceptRanges), ("unicode/utf8.first", laid_unicode_utf8_first)], narrowed := true }
def AutoOfNothingUptoSaid : Prop := autoOfNothingUptoRow.holds Tryd.pinned (OpenSpec.upto autoOfNothingSpec)

/-- 'triviumlaw13.AutoParts', WHERE WHAT IT READS IS OF BULK AT MOST 1048576: true; the input reads as it did. -/
def autoPartsUptoRow : OpenClaim := { program := "ytobcbaeoedpefaadoor", sum := "ddba7dacf15d2e9a81064de3b462d4c242129cb6c79016edea8982f937fe15a1", func := "trivium/triviumlaw13.AutoParts", spec := "autoParts", inPlace := ["internal/bytealg.IndexByteString", "internal/bytealg.IndexString"], recurses := true, named := ["unicode/utf8.first", "unicode/utf8.acceptRanges", "internal/bytealg.MaxLen"], loops := true, apart := false, laid := [("unicode/utf8.acceptRanges", laid_unicode_utf8_acceptRanges), ("unicode/utf8.first", laid_unicode_utf8_first)], narrowed := true }
def AutoPartsUptoSaid : Prop := autoPartsUptoRow.holds Tryd.pinned (OpenSpec.upto autoPartsSpec)

/-- 'triviumlaw13.AutoSteps', WHERE WHAT IT READS IS OF BULK AT MOST 1048576: true; the input reads as it did. -/
def autoStepsUptoRow : OpenClaim := { program := "ytobcbaeoedpefaadoor", sum := "ddba7dacf15d2e9a81064de3b462d4c242129cb6c79016edea8982f937fe15a1", func := "trivium/triviumlaw13.AutoSteps", spec := "autoSteps", inPlace := ["internal/bytealg.IndexByteString", "internal/bytealg.IndexString"], recurses := true, named := ["unicode/utf8.first", "unicode/utf8.acceptRanges", "internal/bytealg.MaxLen"], loops := true, apart := false, laid := [("unicode/utf8.acceptRanges", laid_unicode_utf8_acceptRanges), ("unicode/utf8.first", laid_unicode_utf8_first)], narrowed := true }
def AutoStepsUptoSaid : Prop := autoStepsUptoRow.holds Tryd.pinned (OpenSpec.upto autoStepsSpec)

/-- 'triviumlaw13.AutoMaybe', WHERE WHAT IT READS IS OF BULK AT MOST 1048576: true; the input reads as it did. -/
def autoMaybeUptoRow : OpenClaim := { program := "ytobcbaeoedpefaadoor", sum := "ddba7dacf15d2e9a81064de3b462d4c242129cb6c79016edea8982f937fe15a1", func := "trivium/triviumlaw13.AutoMaybe", spec := "autoMaybe", inPlace := ["internal/bytealg.IndexByteString", "internal/bytealg.IndexString"], recurses := true, named := ["unicode/utf8.first", "unicode/utf8.acceptRanges", "internal/bytealg.MaxLen"], loops := true, apart := false, laid := [("unicode/utf8.acceptRanges", laid_unicode_utf8_acceptRanges), ("unicode/utf8.first", laid_unicode_utf8_first)], narrowed := true }
def AutoMaybeUptoSaid : Prop := autoMaybeUptoRow.holds Tryd.pinned (OpenSpec.upto autoMaybeSpec)

end Rows
end Go.Proofs.YtobcbaeoedpefaaDoor
