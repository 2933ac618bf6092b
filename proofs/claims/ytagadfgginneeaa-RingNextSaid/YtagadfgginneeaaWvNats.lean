/- Rows of natural numbers in memory. -/
import Derived.Test.YtagadfgginneeaaBitsAsk
import Derived.Test.YtagadfgginneeaaWvMath
import Derived.Test.YtagadfgginneeaaOwn
import Derived.Deep.DeepCutAuto
namespace Go.Proofs.Ytagadfgginneeaa
set_option linter.unusedVariables false
set_option linter.unusedSimpArgs false
set_option maxRecDepth 100000
open Go.ChangeShapes Go.WideShapes Go.ChangeAt Go.RowKit
/-- A row of numbers lies there. -/
def NatsAt (w : World) (a : Option Addr) (l : List Nat) : Prop := RowAt w a l.length fun i => .int .i64 ((l.getD i 0 : Nat) : Int)
theorem NatsAt.keep {w w' : World} {a : Option Addr} {l : List Nat} (h : NatsAt w a l) (hb : Below w.heap.size w w') : NatsAt w' a l := RowAt.keep h hb
theorem own_below {w w' : World} {base : Nat} {e : TypeId} {size : Nat} {v : Value} {n : Nat} {xs : List Value} (h : w.ownsRow base e size v n xs) (hb : Below w.heap.size w w') : w'.ownsRow base e size v n xs :=
  h.kept (row := none) ⟨hb.os, hb.tape, hb.output, hb.size, fun k hk _ => hb.block k hk⟩ (by cases v.ownBlock <;> simp)
theorem Try.wdinfo3 : (Try.prog.info? 3).map (fun i => (i.zero, i.size, i.bytes)) = some (some (.int .i64 0), 1, 8) := by kernel_rfl

end Go.Proofs.Ytagadfgginneeaa
