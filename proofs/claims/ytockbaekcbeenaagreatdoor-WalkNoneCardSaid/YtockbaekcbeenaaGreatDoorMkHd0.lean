/-words-/
namespace Go.Proofs.YtockbaekcbeenaaGreatDoor
theorem ay {P:Prop} (h:P:=by omega):P:=h
theorem aL {P:Prop} (h:P:=by decide):P:=h
theorem aH {P:Prop} (h:P:=by simp):P:=h
theorem aC {α:Sort _} (a:α):∃ x,x=a:=⟨a,rfl⟩
theorem aG {n:Nat}:n≤n:=Nat.le_refl n
end Go.Proofs.YtockbaekcbeenaaGreatDoor
