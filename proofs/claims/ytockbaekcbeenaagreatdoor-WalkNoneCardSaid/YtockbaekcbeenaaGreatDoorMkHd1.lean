/-words-/
import Derived.Test.YtockbaekcbeenaaGreatDoorMkHd0
import Derived.KernelRfl
import Derived.IntWalk
namespace Go.Proofs.YtockbaekcbeenaaGreatDoor
theorem aF {P:Prop} (h:P:=by kernel_rfl):P:=h
theorem aN {P:Prop} (h:P:=by go_num):P:=h
end Go.Proofs.YtockbaekcbeenaaGreatDoor
