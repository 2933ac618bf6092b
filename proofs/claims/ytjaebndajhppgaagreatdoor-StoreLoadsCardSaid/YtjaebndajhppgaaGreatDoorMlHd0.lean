/-words-/
namespace Go.Proofs.YtjaebndajhppgaaGreatDoor
theorem aj {P:Prop} (h:P:=by omega):P:=h
theorem aH {P:Prop} (h:P:=by decide):P:=h
theorem aC {P:Prop} (h:P:=by simp):P:=h
theorem aA {α:Sort _} (a:α):∃ x,x=a:=⟨a,rfl⟩
theorem ay {n:Nat}:n≤n:=Nat.le_refl n
end Go.Proofs.YtjaebndajhppgaaGreatDoor
