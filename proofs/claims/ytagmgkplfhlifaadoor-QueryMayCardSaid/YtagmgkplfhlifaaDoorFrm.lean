/- All but some blocks as it was. -/
import Derived.Test.YtagmgkplfhlifaaDoorFresh
namespace Go.Proofs.YtagmgkplfhlifaaDoor
set_option linter.unusedVariables false
set_option linter.unusedSimpArgs false
set_option maxRecDepth 100000
open Go.ChangeShapes Go.WideShapes Go.ChangeAt Go.RowKit
/-- All but the blocks of X is as it was. -/
structure Frm (X : Nat → Prop) (w w' : World) : Prop where
  os : w'.os = w.os
  tape : w'.tape = w.tape
  output : w'.output = w.output
  size : w.heap.size ≤ w'.heap.size
  block : ∀ k, k < w.heap.size → ¬ X k → w'.heap[k]? = w.heap[k]?
theorem Frm.refl (X : Nat → Prop) (w : World) : Frm X w w := ⟨rfl, rfl, rfl, Nat.le_refl _, fun _ _ _ => rfl⟩
theorem Frm.trans {X Y : Nat → Prop} {a b c : World} (h : Frm X a b) (k : Frm Y b c) (hXY : ∀ i, i < a.heap.size → Y i → X i) : Frm X a c :=
  ⟨k.os.trans h.os, k.tape.trans h.tape, k.output.trans h.output, Nat.le_trans h.size k.size, fun i hi hx => (k.block i (Nat.lt_of_lt_of_le hi h.size) (fun hy => hx (hXY i hi hy))).trans (h.block i hi hx)⟩
theorem Frm.of_below {X : Nat → Prop} {w w' : World} (h : Below w.heap.size w w') : Frm X w w' := ⟨h.os, h.tape, h.output, h.size, fun i hi _ => h.block i hi⟩
theorem Frm.below {X : Nat → Prop} {w w' : World} {B : Nat} (h : Frm X w w') (hB : B ≤ w.heap.size) (hX : ∀ k, k < B → ¬ X k) : Below B w w' := ⟨h.os, h.tape, h.output, h.size, fun i hi => h.block i (Nat.lt_of_lt_of_le hi hB) (hX i hi)⟩
theorem Frm.alloc {X : Nat → Prop} {w w' : World} (h : Frm X w w') (o : Obj) : Frm X w (w'.alloc o) := h.trans (Frm.of_below ((Below.refl _ _).alloc (Nat.le_refl _) o)) (fun _ _ h => h)
theorem Frm.set {X : Nat → Prop} {w w' : World} (h : Frm X w w') {b : Nat} (hb : X b ∨ w.heap.size ≤ b) (i : Nat) (v : Value) : Frm X w (w'.setCell ⟨b, i, none⟩ v) :=
  ⟨h.os, h.tape, h.output, by have := h.size; simpa using this, fun k hk hx => by
    rw [Below.heap_setCell _ _ _ _ (by show k ≠ b; rintro rfl; rcases hb with hb | hb; exact hx hb; omega)]
    exact h.block k hk hx⟩
theorem Frm.drewN {X : Nat → Prop} {w w' : World} (h : Frm X w w') (n : Nat) : Frm X w (w'.drewN n) := ⟨h.os, h.tape, h.output, h.size, h.block⟩
theorem Frm.weaken {X Y : Nat → Prop} {w w' : World} (h : Frm X w w') (hXY : ∀ k, k < w.heap.size → X k → Y k) : Frm Y w w' := ⟨h.os, h.tape, h.output, h.size, fun k hk hy => h.block k hk (fun hx => hy (hXY k hk hx))⟩
theorem Blk.frm {X : Nat → Prop} {w w' : World} {b : Nat} {A : List Value} {t : TypeId} (h : Blk w b A t) (hf : Frm X w w') (hx : ¬ X b) : Blk w' b A t := by
  have := h.lt
  unfold Blk at *; rw [hf.block b this hx]; exact h
theorem Frm.cell {X : Nat → Prop} {w w' : World} (hf : Frm X w w') {b o : Nat} {v : Value} (hx : ¬ X b) (h : w.cell? ⟨b, o, none⟩ = some v) : w'.cell? ⟨b, o, none⟩ = some v := by
  rw [← h, cell_heap (hf.block b (lt_of_cell h) hx)]
end Go.Proofs.YtagmgkplfhlifaaDoor
