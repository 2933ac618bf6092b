/-
  No cell of these rows narrows 'for every input' (looked for: loops, veiled, ifaces, maps, wideKeys, modest, calm, conditions, laid).
  DERIVED. THE GIVEN ROWS OF THIS SEAT. 8 by the template 'for every input the law returns true; each argument reads behind the call as it read before'; 0 by the template 'total and deterministic' (their statements: YtgbhnkiballeeaaTotals.lean).
  GIVEN WITH THE SEED: the statements are not yours to turn. If you find one false, say at which input.
  Laid BY PROGRAM, IN A SANDBOX (cutbox-rows.mjs): the forced cells as the released guide's own fill.sh prints them over the translation 9e31565654d3172e… (all of the seat's roots in one cut). By AI agents, Wed Nov 11 2026. No macro, syntax, notation, axiom, sorry.
-/
import Derived.Test.YtgbhnkiballeeaaChecked
import GoSem.Claim
import GoSem.ClaimJoined
import GoSem.ClaimMapViews
import Derived.JoinedTies
import Derived.KernelRfl
namespace Go.Proofs.Ytgbhnkiballeeaa
/- THE CELL 'sum', in the pinned program and in every row, IS THE sha256 OF THE DUMP (.gsa) THAT YtgbhnkiballeeaaProg.lean LOADS. Nothing in Lean hashes anything: it is a label: what it is worth is what the hold of that sum in a sandbox is worth. -/
noncomputable def Try.pinned : Pinned := { name := "ytgbhnkiballeeaa", sum := "9e31565654d3172ee3b0c6851ab6a853a104bbd13d56785c60921d129ce5b104", checked := Try.checked }
namespace Rows
def none {H : Type} : Left H := { results := [], args := [] }

/-- 'triviumlaw10.BoxPacks': WHATEVER THE INPUT: true; the input reads as it did. -/
def boxPacksSpec : ChangeSpec := { name := "boxPacks", fn := fun _ => fun
  | [d] => { results := [.lit (.bool true)], args := [d] }
  | _ => none }
def boxPacksRow : OpenClaim := { program := "ytgbhnkiballeeaa", sum := "9e31565654d3172ee3b0c6851ab6a853a104bbd13d56785c60921d129ce5b104", func := "trivium/triviumlaw10.BoxPacks", spec := "boxPacks", apart := false }
def BoxPacksSaid : Prop := boxPacksRow.holds Try.pinned (OpenSpec.ofChange boxPacksSpec)

/-- ITS FALSE NEIGHBOUR: 'it returns false'. Refute it at one input. -/
def boxPacksWrong : ChangeSpec := { name := "boxPacks", fn := fun _ => fun
  | [d] => { results := [.lit (.bool false)], args := [d] }
  | _ => none }
def BoxPacksWrongFalsely : Prop := boxPacksRow.holds Try.pinned (OpenSpec.ofChange boxPacksWrong)

/-- 'triviumlaw10.BoxTakes': WHATEVER THE INPUT: true; the input reads as it did. -/
def boxTakesSpec : ChangeSpec := { name := "boxTakes", fn := fun _ => fun
  | [d] => { results := [.lit (.bool true)], args := [d] }
  | _ => none }
def boxTakesRow : OpenClaim := { program := "ytgbhnkiballeeaa", sum := "9e31565654d3172ee3b0c6851ab6a853a104bbd13d56785c60921d129ce5b104", func := "trivium/triviumlaw10.BoxTakes", spec := "boxTakes", apart := false }
def BoxTakesSaid : Prop := boxTakesRow.holds Try.pinned (OpenSpec.ofChange boxTakesSpec)

/-- ITS FALSE NEIGHBOUR: 'it returns false'. Refute it at one input. -/
def boxTakesWrong : ChangeSpec := { name := "boxTakes", fn := fun _ => fun
  | [d] => { results := [.lit (.bool false)], args := [d] }
  | _ => none }
def BoxTakesWrongFalsely : Prop := boxTakesRow.holds Try.pinned (OpenSpec.ofChange boxTakesWrong)

/-- 'triviumlaw10.BoxBack': WHATEVER THE INPUT: true; the input reads as it did. -/
def boxBackSpec : ChangeSpec := { name := "boxBack", fn := fun _ => fun
  | [d1, d2, d3] => { results := [.lit (.bool true)], args := [d1, d2, d3] }
  | _ => none }
def boxBackRow : OpenClaim := { program := "ytgbhnkiballeeaa", sum := "9e31565654d3172ee3b0c6851ab6a853a104bbd13d56785c60921d129ce5b104", func := "trivium/triviumlaw10.BoxBack", spec := "boxBack", apart := false }
def BoxBackSaid : Prop := boxBackRow.holds Try.pinned (OpenSpec.ofChange boxBackSpec)

/-- ITS FALSE NEIGHBOUR: 'it returns false'. Refute it at one input. -/
def boxBackWrong : ChangeSpec := { name := "boxBack", fn := fun _ => fun
  | [d1, d2, d3] => { results := [.lit (.bool false)], args := [d1, d2, d3] }
  | _ => none }
def BoxBackWrongFalsely : Prop := boxBackRow.holds Try.pinned (OpenSpec.ofChange boxBackWrong)

/-- 'triviumlaw10.BoxTurned': WHATEVER THE INPUT: true; the input reads as it did. -/
def boxTurnedSpec : ChangeSpec := { name := "boxTurned", fn := fun _ => fun
  | [d1, d2, d3] => { results := [.lit (.bool true)], args := [d1, d2, d3] }
  | _ => none }
def boxTurnedRow : OpenClaim := { program := "ytgbhnkiballeeaa", sum := "9e31565654d3172ee3b0c6851ab6a853a104bbd13d56785c60921d129ce5b104", func := "trivium/triviumlaw10.BoxTurned", spec := "boxTurned", apart := false }
def BoxTurnedSaid : Prop := boxTurnedRow.holds Try.pinned (OpenSpec.ofChange boxTurnedSpec)

/-- ITS FALSE NEIGHBOUR: 'it returns false'. Refute it at one input. -/
def boxTurnedWrong : ChangeSpec := { name := "boxTurned", fn := fun _ => fun
  | [d1, d2, d3] => { results := [.lit (.bool false)], args := [d1, d2, d3] }
  | _ => none }
def BoxTurnedWrongFalsely : Prop := boxTurnedRow.holds Try.pinned (OpenSpec.ofChange boxTurnedWrong)

/-- 'triviumlaw10.BoxSummed': WHATEVER THE INPUT: true; the input reads as it did. -/
def boxSummedSpec : ChangeSpec := { name := "boxSummed", fn := fun _ => fun
  | [d1, d2, d3] => { results := [.lit (.bool true)], args := [d1, d2, d3] }
  | _ => none }
def boxSummedRow : OpenClaim := { program := "ytgbhnkiballeeaa", sum := "9e31565654d3172ee3b0c6851ab6a853a104bbd13d56785c60921d129ce5b104", func := "trivium/triviumlaw10.BoxSummed", spec := "boxSummed", apart := false }
def BoxSummedSaid : Prop := boxSummedRow.holds Try.pinned (OpenSpec.ofChange boxSummedSpec)

/-- ITS FALSE NEIGHBOUR: 'it returns false'. Refute it at one input. -/
def boxSummedWrong : ChangeSpec := { name := "boxSummed", fn := fun _ => fun
  | [d1, d2, d3] => { results := [.lit (.bool false)], args := [d1, d2, d3] }
  | _ => none }
def BoxSummedWrongFalsely : Prop := boxSummedRow.holds Try.pinned (OpenSpec.ofChange boxSummedWrong)

/-- 'triviumlaw10.BoxIDs': WHATEVER THE INPUT: true; the input reads as it did. -/
def boxIDsSpec : ChangeSpec := { name := "boxIDs", fn := fun _ => fun
  | [d1, d2, d3] => { results := [.lit (.bool true)], args := [d1, d2, d3] }
  | _ => none }
def boxIDsRow : OpenClaim := { program := "ytgbhnkiballeeaa", sum := "9e31565654d3172ee3b0c6851ab6a853a104bbd13d56785c60921d129ce5b104", func := "trivium/triviumlaw10.BoxIDs", spec := "boxIDs", apart := false }
def BoxIDsSaid : Prop := boxIDsRow.holds Try.pinned (OpenSpec.ofChange boxIDsSpec)

/-- ITS FALSE NEIGHBOUR: 'it returns false'. Refute it at one input. -/
def boxIDsWrong : ChangeSpec := { name := "boxIDs", fn := fun _ => fun
  | [d1, d2, d3] => { results := [.lit (.bool false)], args := [d1, d2, d3] }
  | _ => none }
def BoxIDsWrongFalsely : Prop := boxIDsRow.holds Try.pinned (OpenSpec.ofChange boxIDsWrong)

/-- 'triviumlaw10.BoxOwn': WHATEVER THE INPUT: true; the input reads as it did. -/
def boxOwnSpec : ChangeSpec := { name := "boxOwn", fn := fun _ => fun
  | [d] => { results := [.lit (.bool true)], args := [d] }
  | _ => none }
def boxOwnRow : OpenClaim := { program := "ytgbhnkiballeeaa", sum := "9e31565654d3172ee3b0c6851ab6a853a104bbd13d56785c60921d129ce5b104", func := "trivium/triviumlaw10.BoxOwn", spec := "boxOwn", apart := false }
def BoxOwnSaid : Prop := boxOwnRow.holds Try.pinned (OpenSpec.ofChange boxOwnSpec)

/-- ITS FALSE NEIGHBOUR: 'it returns false'. Refute it at one input. -/
def boxOwnWrong : ChangeSpec := { name := "boxOwn", fn := fun _ => fun
  | [d] => { results := [.lit (.bool false)], args := [d] }
  | _ => none }
def BoxOwnWrongFalsely : Prop := boxOwnRow.holds Try.pinned (OpenSpec.ofChange boxOwnWrong)

/-- 'triviumlaw10.BoxLong': WHATEVER THE INPUT: true; the input reads as it did. -/
def boxLongSpec : ChangeSpec := { name := "boxLong", fn := fun _ => fun
  | [d1, d2] => { results := [.lit (.bool true)], args := [d1, d2] }
  | _ => none }
def boxLongRow : OpenClaim := { program := "ytgbhnkiballeeaa", sum := "9e31565654d3172ee3b0c6851ab6a853a104bbd13d56785c60921d129ce5b104", func := "trivium/triviumlaw10.BoxLong", spec := "boxLong", apart := false }
def BoxLongSaid : Prop := boxLongRow.holds Try.pinned (OpenSpec.ofChange boxLongSpec)

/-- ITS FALSE NEIGHBOUR: 'it returns false'. Refute it at one input. -/
def boxLongWrong : ChangeSpec := { name := "boxLong", fn := fun _ => fun
  | [d1, d2] => { results := [.lit (.bool false)], args := [d1, d2] }
  | _ => none }
def BoxLongWrongFalsely : Prop := boxLongRow.holds Try.pinned (OpenSpec.ofChange boxLongWrong)

/- THE SECOND FORM. 'bulk': how many values and letters a reading holds, each counted each time it is reached (what is shared counts as often as it is met; a slice's spare places count too). A statement '..UptoSaid' is the law's where the arguments, and the package variables that the reading takes, are together of bulk at most 1048576: NARROWER than '..Said'. Prove '..Said' where nothing that the law and all that it calls make is longer than what came in: it says more and counts as full. Else prove '..UptoSaid'. A law counts once. -/
mutual
def uptoBulk {H : Type} : DataW H → Nat
  | .lit (.string bytes) => bytes.length + 1
  | .lit _ => 1
  | .nil => 1
  | .ptr d => uptoBulk d + 1
  | .slice elems spare => uptoBulkAll elems + uptoBulkAll spare + 1
  | .agg parts => uptoBulkAll parts + 1
  | .iface _ d => uptoBulk d + 1
  | .map entries => uptoBulkEntries entries + 1
  | .held _ => 1
def uptoBulkAll {H : Type} : List (DataW H) → Nat
  | [] => 0
  | d :: r => uptoBulk d + uptoBulkAll r
def uptoBulkEntries {H : Type} : List (Lit × DataW H) → Nat
  | [] => 0
  | x :: r => uptoBulkEntry x + uptoBulkEntries r
def uptoBulkEntry {H : Type} : Lit × DataW H → Nat
  | (.string bytes, d) => bytes.length + uptoBulk d + 1
  | (_, d) => uptoBulk d + 1
 end
def uptoSmall : (H : Type) → List (DataW H) → Bool := fun _ ds => decide (uptoBulkAll ds ≤ 1048576)
def OpenSpec.upto (s : _root_.Go.ChangeSpec) : _root_.Go.OpenSpec := { _root_.Go.OpenSpec.ofChange s with cond := some uptoSmall }

/-- 'triviumlaw10.BoxPacks', WHERE WHAT IT READS IS OF BULK AT MOST 1048576: true; the input reads as it did. -/
def boxPacksUptoRow : OpenClaim := { program := "ytgbhnkiballeeaa", sum := "9e31565654d3172ee3b0c6851ab6a853a104bbd13d56785c60921d129ce5b104", func := "trivium/triviumlaw10.BoxPacks", spec := "boxPacks", apart := false, narrowed := true }
def BoxPacksUptoSaid : Prop := boxPacksUptoRow.holds Try.pinned (OpenSpec.upto boxPacksSpec)

/-- 'triviumlaw10.BoxTakes', WHERE WHAT IT READS IS OF BULK AT MOST 1048576: true; the input reads as it did. -/
def boxTakesUptoRow : OpenClaim := { program := "ytgbhnkiballeeaa", sum := "9e31565654d3172ee3b0c6851ab6a853a104bbd13d56785c60921d129ce5b104", func := "trivium/triviumlaw10.BoxTakes", spec := "boxTakes", apart := false, narrowed := true }
def BoxTakesUptoSaid : Prop := boxTakesUptoRow.holds Try.pinned (OpenSpec.upto boxTakesSpec)

/-- 'triviumlaw10.BoxBack', WHERE WHAT IT READS IS OF BULK AT MOST 1048576: true; the input reads as it did. -/
def boxBackUptoRow : OpenClaim := { program := "ytgbhnkiballeeaa", sum := "9e31565654d3172ee3b0c6851ab6a853a104bbd13d56785c60921d129ce5b104", func := "trivium/triviumlaw10.BoxBack", spec := "boxBack", apart := false, narrowed := true }
def BoxBackUptoSaid : Prop := boxBackUptoRow.holds Try.pinned (OpenSpec.upto boxBackSpec)

/-- 'triviumlaw10.BoxTurned', WHERE WHAT IT READS IS OF BULK AT MOST 1048576: true; the input reads as it did. -/
def boxTurnedUptoRow : OpenClaim := { program := "ytgbhnkiballeeaa", sum := "9e31565654d3172ee3b0c6851ab6a853a104bbd13d56785c60921d129ce5b104", func := "trivium/triviumlaw10.BoxTurned", spec := "boxTurned", apart := false, narrowed := true }
def BoxTurnedUptoSaid : Prop := boxTurnedUptoRow.holds Try.pinned (OpenSpec.upto boxTurnedSpec)

/-- 'triviumlaw10.BoxSummed', WHERE WHAT IT READS IS OF BULK AT MOST 1048576: true; the input reads as it did. -/
def boxSummedUptoRow : OpenClaim := { program := "ytgbhnkiballeeaa", sum := "9e31565654d3172ee3b0c6851ab6a853a104bbd13d56785c60921d129ce5b104", func := "trivium/triviumlaw10.BoxSummed", spec := "boxSummed", apart := false, narrowed := true }
def BoxSummedUptoSaid : Prop := boxSummedUptoRow.holds Try.pinned (OpenSpec.upto boxSummedSpec)

/-- 'triviumlaw10.BoxIDs', WHERE WHAT IT READS IS OF BULK AT MOST 1048576: true; the input reads as it did. -/
def boxIDsUptoRow : OpenClaim := { program := "ytgbhnkiballeeaa", sum := "9e31565654d3172ee3b0c6851ab6a853a104bbd13d56785c60921d129ce5b104", func := "trivium/triviumlaw10.BoxIDs", spec := "boxIDs", apart := false, narrowed := true }
def BoxIDsUptoSaid : Prop := boxIDsUptoRow.holds Try.pinned (OpenSpec.upto boxIDsSpec)

/-- 'triviumlaw10.BoxOwn', WHERE WHAT IT READS IS OF BULK AT MOST 1048576: true; the input reads as it did. -/
def boxOwnUptoRow : OpenClaim := { program := "ytgbhnkiballeeaa", sum := "9e31565654d3172ee3b0c6851ab6a853a104bbd13d56785c60921d129ce5b104", func := "trivium/triviumlaw10.BoxOwn", spec := "boxOwn", apart := false, narrowed := true }
def BoxOwnUptoSaid : Prop := boxOwnUptoRow.holds Try.pinned (OpenSpec.upto boxOwnSpec)

/-- 'triviumlaw10.BoxLong', WHERE WHAT IT READS IS OF BULK AT MOST 1048576: true; the input reads as it did. -/
def boxLongUptoRow : OpenClaim := { program := "ytgbhnkiballeeaa", sum := "9e31565654d3172ee3b0c6851ab6a853a104bbd13d56785c60921d129ce5b104", func := "trivium/triviumlaw10.BoxLong", spec := "boxLong", apart := false, narrowed := true }
def BoxLongUptoSaid : Prop := boxLongUptoRow.holds Try.pinned (OpenSpec.upto boxLongSpec)

end Rows
end Go.Proofs.Ytgbhnkiballeeaa
