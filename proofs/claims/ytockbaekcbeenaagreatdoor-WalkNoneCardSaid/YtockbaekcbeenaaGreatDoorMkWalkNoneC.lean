/- The closed facts of the row of WalkNone: what the program says of its function, read off the row. -/
import Derived.Test.YtockbaekcbeenaaGreatDoorMkGB
import Derived.Test.YtockbaekcbeenaaGreatDoorCards
import Derived.Test.YtockbaekcbeenaaGreatDoorTie
set_option linter.unusedVariables false
set_option linter.unusedSimpArgs false
set_option maxRecDepth 100000
set_option maxHeartbeats 8000000
namespace Go.Proofs.YtockbaekcbeenaaGreatDoor
open Go.Proofs.Tryz
open Go.ChangeShapes Go.WideShapes Go.ChangeAt Go.RowKit
theorem ahe {a b:Bool} (h:a=true) (k:b=true):(a && b)=true:=by rw [h,k];rfl
theorem ahf:joinedFacts Tryz.pinned.checked.prog 8 Tryz.f8 (OpenSpec.ofChange Rows.walkNoneSpec).bare Rows.walkNoneRow=true:=by
 unfold joinedFacts;repeat' (with_reducible refine ahe ?_ ?_)
 all_goals as_aux_lemma=>kernel_rfl
end Go.Proofs.YtockbaekcbeenaaGreatDoor
