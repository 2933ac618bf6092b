/-
  No cell of these rows narrows 'for every input' (looked for: loops, veiled, ifaces, maps, wideKeys, modest, calm, conditions, laid).
  DERIVED. THE GIVEN ROWS OF THIS SEAT. 8 by the template 'for every input the law returns true; each argument reads behind the call as it read before'; 0 by the template 'total and deterministic' (their statements: YtpjflmocbmmmaaaTotals.lean).
  GIVEN WITH THE SEED: the statements are not yours to turn. If you find one false, say at which input.
  Laid BY PROGRAM, IN A SANDBOX (cutbox-rows.mjs): the forced cells as the released guide's own fill.sh prints them over the translation 710c5ac6821a32b5… (all of the seat's roots in one cut). By AI agents, Wed Nov 11 2026. No macro, syntax, notation, axiom, sorry.
-/
import Derived.Test.YtpjflmocbmmmaaaChecked
import GoSem.Claim
import GoSem.ClaimJoined
import GoSem.ClaimMapViews
import Derived.JoinedTies
import Derived.KernelRfl
namespace Go.Proofs.Ytpjflmocbmmmaaa
/- THE CELL 'sum', in the pinned program and in every row, IS THE sha256 OF THE DUMP (.gsa) THAT YtpjflmocbmmmaaaProg.lean LOADS. Nothing in Lean hashes anything: it is a label: what it is worth is what the hold of that sum in a sandbox is worth. -/
noncomputable def Try.pinned : Pinned := { name := "ytpjflmocbmmmaaa", sum := "710c5ac6821a32b5357ad9adce70b50909d256d4d6e39b4774d8cc12cfceb7ac", checked := Try.checked }
namespace Rows
def none {H : Type} : Left H := { results := [], args := [] }

/-- 'triviumlaw7.WaveTells': WHATEVER THE INPUT: true; the input reads as it did. -/
def waveTellsSpec : ChangeSpec := { name := "waveTells", fn := fun _ => fun
  | [d1, d2, d3, d4] => { results := [.lit (.bool true)], args := [d1, d2, d3, d4] }
  | _ => none }
def waveTellsRow : OpenClaim := { program := "ytpjflmocbmmmaaa", sum := "710c5ac6821a32b5357ad9adce70b50909d256d4d6e39b4774d8cc12cfceb7ac", func := "trivium/triviumlaw7.WaveTells", spec := "waveTells", unfollowed := true, recurses := true, apart := false }
def WaveTellsSaid : Prop := waveTellsRow.holds Try.pinned (OpenSpec.ofChange waveTellsSpec)

/-- ITS FALSE NEIGHBOUR: 'it returns false'. Refute it at one input. -/
def waveTellsWrong : ChangeSpec := { name := "waveTells", fn := fun _ => fun
  | [d1, d2, d3, d4] => { results := [.lit (.bool false)], args := [d1, d2, d3, d4] }
  | _ => none }
def WaveTellsWrongFalsely : Prop := waveTellsRow.holds Try.pinned (OpenSpec.ofChange waveTellsWrong)

/-- 'triviumlaw7.WaveRanges': WHATEVER THE INPUT: true; the input reads as it did. -/
def waveRangesSpec : ChangeSpec := { name := "waveRanges", fn := fun _ => fun
  | [d1, d2, d3, d4, d5, d6] => { results := [.lit (.bool true)], args := [d1, d2, d3, d4, d5, d6] }
  | _ => none }
def waveRangesRow : OpenClaim := { program := "ytpjflmocbmmmaaa", sum := "710c5ac6821a32b5357ad9adce70b50909d256d4d6e39b4774d8cc12cfceb7ac", func := "trivium/triviumlaw7.WaveRanges", spec := "waveRanges", apart := false }
def WaveRangesSaid : Prop := waveRangesRow.holds Try.pinned (OpenSpec.ofChange waveRangesSpec)

/-- ITS FALSE NEIGHBOUR: 'it returns false'. Refute it at one input. -/
def waveRangesWrong : ChangeSpec := { name := "waveRanges", fn := fun _ => fun
  | [d1, d2, d3, d4, d5, d6] => { results := [.lit (.bool false)], args := [d1, d2, d3, d4, d5, d6] }
  | _ => none }
def WaveRangesWrongFalsely : Prop := waveRangesRow.holds Try.pinned (OpenSpec.ofChange waveRangesWrong)

/-- 'triviumlaw7.WaveParts': WHATEVER THE INPUT: true; the input reads as it did. -/
def wavePartsSpec : ChangeSpec := { name := "waveParts", fn := fun _ => fun
  | [d1, d2, d3, d4] => { results := [.lit (.bool true)], args := [d1, d2, d3, d4] }
  | _ => none }
def wavePartsRow : OpenClaim := { program := "ytpjflmocbmmmaaa", sum := "710c5ac6821a32b5357ad9adce70b50909d256d4d6e39b4774d8cc12cfceb7ac", func := "trivium/triviumlaw7.WaveParts", spec := "waveParts", apart := false }
def WavePartsSaid : Prop := wavePartsRow.holds Try.pinned (OpenSpec.ofChange wavePartsSpec)

/-- ITS FALSE NEIGHBOUR: 'it returns false'. Refute it at one input. -/
def wavePartsWrong : ChangeSpec := { name := "waveParts", fn := fun _ => fun
  | [d1, d2, d3, d4] => { results := [.lit (.bool false)], args := [d1, d2, d3, d4] }
  | _ => none }
def WavePartsWrongFalsely : Prop := wavePartsRow.holds Try.pinned (OpenSpec.ofChange wavePartsWrong)

/-- 'triviumlaw7.WaveNext': WHATEVER THE INPUT: true; the input reads as it did. -/
def waveNextSpec : ChangeSpec := { name := "waveNext", fn := fun _ => fun
  | [d1, d2, d3, d4] => { results := [.lit (.bool true)], args := [d1, d2, d3, d4] }
  | _ => none }
def waveNextRow : OpenClaim := { program := "ytpjflmocbmmmaaa", sum := "710c5ac6821a32b5357ad9adce70b50909d256d4d6e39b4774d8cc12cfceb7ac", func := "trivium/triviumlaw7.WaveNext", spec := "waveNext", apart := false }
def WaveNextSaid : Prop := waveNextRow.holds Try.pinned (OpenSpec.ofChange waveNextSpec)

/-- ITS FALSE NEIGHBOUR: 'it returns false'. Refute it at one input. -/
def waveNextWrong : ChangeSpec := { name := "waveNext", fn := fun _ => fun
  | [d1, d2, d3, d4] => { results := [.lit (.bool false)], args := [d1, d2, d3, d4] }
  | _ => none }
def WaveNextWrongFalsely : Prop := waveNextRow.holds Try.pinned (OpenSpec.ofChange waveNextWrong)

/-- 'triviumlaw7.WaveOwn': WHATEVER THE INPUT: true; the input reads as it did. -/
def waveOwnSpec : ChangeSpec := { name := "waveOwn", fn := fun _ => fun
  | [d1, d2, d3, d4, d5] => { results := [.lit (.bool true)], args := [d1, d2, d3, d4, d5] }
  | _ => none }
def waveOwnRow : OpenClaim := { program := "ytpjflmocbmmmaaa", sum := "710c5ac6821a32b5357ad9adce70b50909d256d4d6e39b4774d8cc12cfceb7ac", func := "trivium/triviumlaw7.WaveOwn", spec := "waveOwn", unfollowed := true, recurses := true, apart := false }
def WaveOwnSaid : Prop := waveOwnRow.holds Try.pinned (OpenSpec.ofChange waveOwnSpec)

/-- ITS FALSE NEIGHBOUR: 'it returns false'. Refute it at one input. -/
def waveOwnWrong : ChangeSpec := { name := "waveOwn", fn := fun _ => fun
  | [d1, d2, d3, d4, d5] => { results := [.lit (.bool false)], args := [d1, d2, d3, d4, d5] }
  | _ => none }
def WaveOwnWrongFalsely : Prop := waveOwnRow.holds Try.pinned (OpenSpec.ofChange waveOwnWrong)

/-- 'triviumlaw7.WaveEnds': WHATEVER THE INPUT: true; the input reads as it did. -/
def waveEndsSpec : ChangeSpec := { name := "waveEnds", fn := fun _ => fun
  | [d1, d2, d3, d4] => { results := [.lit (.bool true)], args := [d1, d2, d3, d4] }
  | _ => none }
def waveEndsRow : OpenClaim := { program := "ytpjflmocbmmmaaa", sum := "710c5ac6821a32b5357ad9adce70b50909d256d4d6e39b4774d8cc12cfceb7ac", func := "trivium/triviumlaw7.WaveEnds", spec := "waveEnds", apart := false }
def WaveEndsSaid : Prop := waveEndsRow.holds Try.pinned (OpenSpec.ofChange waveEndsSpec)

/-- ITS FALSE NEIGHBOUR: 'it returns false'. Refute it at one input. -/
def waveEndsWrong : ChangeSpec := { name := "waveEnds", fn := fun _ => fun
  | [d1, d2, d3, d4] => { results := [.lit (.bool false)], args := [d1, d2, d3, d4] }
  | _ => none }
def WaveEndsWrongFalsely : Prop := waveEndsRow.holds Try.pinned (OpenSpec.ofChange waveEndsWrong)

/-- 'triviumlaw7.WaveSame': WHATEVER THE INPUT: true; the input reads as it did. -/
def waveSameSpec : ChangeSpec := { name := "waveSame", fn := fun _ => fun
  | [d1, d2, d3] => { results := [.lit (.bool true)], args := [d1, d2, d3] }
  | _ => none }
def waveSameRow : OpenClaim := { program := "ytpjflmocbmmmaaa", sum := "710c5ac6821a32b5357ad9adce70b50909d256d4d6e39b4774d8cc12cfceb7ac", func := "trivium/triviumlaw7.WaveSame", spec := "waveSame", unfollowed := true, recurses := true, apart := false }
def WaveSameSaid : Prop := waveSameRow.holds Try.pinned (OpenSpec.ofChange waveSameSpec)

/-- ITS FALSE NEIGHBOUR: 'it returns false'. Refute it at one input. -/
def waveSameWrong : ChangeSpec := { name := "waveSame", fn := fun _ => fun
  | [d1, d2, d3] => { results := [.lit (.bool false)], args := [d1, d2, d3] }
  | _ => none }
def WaveSameWrongFalsely : Prop := waveSameRow.holds Try.pinned (OpenSpec.ofChange waveSameWrong)

/-- 'triviumlaw7.WaveWide': WHATEVER THE INPUT: true; the input reads as it did. -/
def waveWideSpec : ChangeSpec := { name := "waveWide", fn := fun _ => fun
  | [d1, d2, d3, d4, d5] => { results := [.lit (.bool true)], args := [d1, d2, d3, d4, d5] }
  | _ => none }
def waveWideRow : OpenClaim := { program := "ytpjflmocbmmmaaa", sum := "710c5ac6821a32b5357ad9adce70b50909d256d4d6e39b4774d8cc12cfceb7ac", func := "trivium/triviumlaw7.WaveWide", spec := "waveWide", apart := false }
def WaveWideSaid : Prop := waveWideRow.holds Try.pinned (OpenSpec.ofChange waveWideSpec)

/-- ITS FALSE NEIGHBOUR: 'it returns false'. Refute it at one input. -/
def waveWideWrong : ChangeSpec := { name := "waveWide", fn := fun _ => fun
  | [d1, d2, d3, d4, d5] => { results := [.lit (.bool false)], args := [d1, d2, d3, d4, d5] }
  | _ => none }
def WaveWideWrongFalsely : Prop := waveWideRow.holds Try.pinned (OpenSpec.ofChange waveWideWrong)

/- THE SECOND FORM. 'bulk': how many values and letters a reading holds, each counted each time it is reached (what is shared counts as often as it is met; a slice's spare places count too). A statement '..UptoSaid' is the law's where the arguments, and the package variables that the reading takes, are together of bulk at most 1048576: NARROWER than '..Said'. Prove '..Said' where nothing that the law and all that it calls make is longer than what came in: it says more and counts as full. Else prove '..UptoSaid'. A law counts once. -/
mutual
def uptoBulk {H : Type} : DataW H → Nat
  | .lit (.string bytes) => bytes.length + 1
  | .lit _ => 1
  | .nil => 1
  | .ptr d => uptoBulk d + 1
  | .slice elems spare => uptoBulkAll elems + uptoBulkAll spare + 1
  | .agg parts => uptoBulkAll parts + 1
  | .iface _ d => uptoBulk d + 1
  | .map entries => uptoBulkEntries entries + 1
  | .held _ => 1
def uptoBulkAll {H : Type} : List (DataW H) → Nat
  | [] => 0
  | d :: r => uptoBulk d + uptoBulkAll r
def uptoBulkEntries {H : Type} : List (Lit × DataW H) → Nat
  | [] => 0
  | x :: r => uptoBulkEntry x + uptoBulkEntries r
def uptoBulkEntry {H : Type} : Lit × DataW H → Nat
  | (.string bytes, d) => bytes.length + uptoBulk d + 1
  | (_, d) => uptoBulk d + 1
 end
def uptoSmall : (H : Type) → List (DataW H) → Bool := fun _ ds => decide (uptoBulkAll ds ≤ 1048576)
def OpenSpec.upto (s : _root_.Go.ChangeSpec) : _root_.Go.OpenSpec := { _root_.Go.OpenSpec.ofChange s with cond := some uptoSmall }

/-- 'triviumlaw7.WaveTells', WHERE WHAT IT READS IS OF BULK AT MOST 1048576: true; the input reads as it did. -/
def waveTellsUptoRow : OpenClaim := { program := "ytpjflmocbmmmaaa", sum := "710c5ac6821a32b5357ad9adce70b50909d256d4d6e39b4774d8cc12cfceb7ac", func := "trivium/triviumlaw7.WaveTells", spec := "waveTells", unfollowed := true, recurses := true, apart := false, narrowed := true }
def WaveTellsUptoSaid : Prop := waveTellsUptoRow.holds Try.pinned (OpenSpec.upto waveTellsSpec)

/-- 'triviumlaw7.WaveRanges', WHERE WHAT IT READS IS OF BULK AT MOST 1048576: true; the input reads as it did. -/
def waveRangesUptoRow : OpenClaim := { program := "ytpjflmocbmmmaaa", sum := "710c5ac6821a32b5357ad9adce70b50909d256d4d6e39b4774d8cc12cfceb7ac", func := "trivium/triviumlaw7.WaveRanges", spec := "waveRanges", apart := false, narrowed := true }
def WaveRangesUptoSaid : Prop := waveRangesUptoRow.holds Try.pinned (OpenSpec.upto waveRangesSpec)

/-- 'triviumlaw7.WaveParts', WHERE WHAT IT READS IS OF BULK AT MOST 1048576: true; the input reads as it did. -/
def wavePartsUptoRow : OpenClaim := { program := "ytpjflmocbmmmaaa", sum := "710c5ac6821a32b5357ad9adce70b50909d256d4d6e39b4774d8cc12cfceb7ac", func := "trivium/triviumlaw7.WaveParts", spec := "waveParts", apart := false, narrowed := true }
def WavePartsUptoSaid : Prop := wavePartsUptoRow.holds Try.pinned (OpenSpec.upto wavePartsSpec)

/-- 'triviumlaw7.WaveNext', WHERE WHAT IT READS IS OF BULK AT MOST 1048576: true; the input reads as it did. -/
def waveNextUptoRow : OpenClaim := { program := "ytpjflmocbmmmaaa", sum := "710c5ac6821a32b5357ad9adce70b50909d256d4d6e39b4774d8cc12cfceb7ac", func := "trivium/triviumlaw7.WaveNext", spec := "waveNext", apart := false, narrowed := true }
def WaveNextUptoSaid : Prop := waveNextUptoRow.holds Try.pinned (OpenSpec.upto waveNextSpec)

/-- 'triviumlaw7.WaveOwn', WHERE WHAT IT READS IS OF BULK AT MOST 1048576: true; the input reads as it did. -/
def waveOwnUptoRow : OpenClaim := { program := "ytpjflmocbmmmaaa", sum := "710c5ac6821a32b5357ad9adce70b50909d256d4d6e39b4774d8cc12cfceb7ac", func := "trivium/triviumlaw7.WaveOwn", spec := "waveOwn", unfollowed := true, recurses := true, apart := false, narrowed := true }
def WaveOwnUptoSaid : Prop := waveOwnUptoRow.holds Try.pinned (OpenSpec.upto waveOwnSpec)

/-- 'triviumlaw7.WaveEnds', WHERE WHAT IT READS IS OF BULK AT MOST 1048576: true; the input reads as it did. -/
def waveEndsUptoRow : OpenClaim := { program := "ytpjflmocbmmmaaa", sum := "710c5ac6821a32b5357ad9adce70b50909d256d4d6e39b4774d8cc12cfceb7ac", func := "trivium/triviumlaw7.WaveEnds", spec := "waveEnds", apart := false, narrowed := true }
def WaveEndsUptoSaid : Prop := waveEndsUptoRow.holds Try.pinned (OpenSpec.upto waveEndsSpec)

/-- 'triviumlaw7.WaveSame', WHERE WHAT IT READS IS OF BULK AT MOST 1048576: true; the input reads as it did. -/
def waveSameUptoRow : OpenClaim := { program := "ytpjflmocbmmmaaa", sum := "710c5ac6821a32b5357ad9adce70b50909d256d4d6e39b4774d8cc12cfceb7ac", func := "trivium/triviumlaw7.WaveSame", spec := "waveSame", unfollowed := true, recurses := true, apart := false, narrowed := true }
def WaveSameUptoSaid : Prop := waveSameUptoRow.holds Try.pinned (OpenSpec.upto waveSameSpec)

/-- 'triviumlaw7.WaveWide', WHERE WHAT IT READS IS OF BULK AT MOST 1048576: true; the input reads as it did. -/
def waveWideUptoRow : OpenClaim := { program := "ytpjflmocbmmmaaa", sum := "710c5ac6821a32b5357ad9adce70b50909d256d4d6e39b4774d8cc12cfceb7ac", func := "trivium/triviumlaw7.WaveWide", spec := "waveWide", apart := false, narrowed := true }
def WaveWideUptoSaid : Prop := waveWideUptoRow.holds Try.pinned (OpenSpec.upto waveWideSpec)

end Rows
end Go.Proofs.Ytpjflmocbmmmaaa
