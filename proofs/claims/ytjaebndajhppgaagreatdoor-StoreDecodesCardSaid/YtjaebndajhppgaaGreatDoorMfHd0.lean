/-words-/
namespace Go.Proofs.YtjaebndajhppgaaGreatDoor
theorem ak {P:Prop} (h:P:=by omega):P:=h
theorem aL {P:Prop} (h:P:=by decide):P:=h
theorem aI {P:Prop} (h:P:=by simp):P:=h
theorem aB {α:Sort _} (a:α):∃ x,x=a:=⟨a,rfl⟩
theorem aF {n:Nat}:n≤n:=Nat.le_refl n
end Go.Proofs.YtjaebndajhppgaaGreatDoor
