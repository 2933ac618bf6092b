/- What lies in blocks from B on, and stays though what lies below is stored into. -/
import Derived.Test.YtagmgkplfhlifaaDoorRows0
namespace Go.Proofs.YtagmgkplfhlifaaDoor
set_option linter.unusedVariables false
set_option maxRecDepth 100000
set_option linter.unusedSimpArgs false
open Go.ChangeShapes Go.WideShapes Go.ChangeAt Go.RowKit
/-- It holds in every world whose blocks from B on are this one's. -/
def Fresh (B : Nat) (w : World) (P : World → Prop) : Prop := ∀ w'', (∀ k, B ≤ k → k < w.heap.size → w''.heap[k]? = w.heap[k]?) → P w''
theorem Fresh.it {B : Nat} {w : World} {P : World → Prop} (h : Fresh B w P) : P w := h w fun _ _ _ => rfl
theorem Fresh.keep {B : Nat} {w w' : World} {P : World → Prop} (h : Fresh B w P) (hb : Below w.heap.size w w') : Fresh B w' P :=
  fun w'' hw => h w'' fun k hk hl => by rw [hw k hk (Nat.lt_of_lt_of_le hl hb.size), hb.block k hl]
theorem Fresh.mono {B C : Nat} {w : World} {P : World → Prop} (h : Fresh B w P) (hb : C ≤ B) : Fresh C w P :=
  fun w'' hw => h w'' fun k hk hl => hw k (Nat.le_trans hb hk) hl
theorem cell_heap {w w' : World} {b o : Nat} (h : w'.heap[b]? = w.heap[b]?) : w'.cell? ⟨b, o, none⟩ = w.cell? ⟨b, o, none⟩ := by
  simp only [World.cell?, h]
theorem ownsRow_fresh {w w'' : World} {base : Nat} {e : TypeId} {size : Nat} {v : Value} {n : Nat} {xs : List Value} (h : w.ownsRow base e size v n xs)
    (hw : ∀ k, base ≤ k → k < w.heap.size → w''.heap[k]? = w.heap[k]?) : w''.ownsRow base e size v n xs := by
  obtain ⟨hl, h⟩ := h
  refine ⟨hl, ?_⟩
  rcases h with h | ⟨g, cap, cur, rfl, hg, hh, hrest⟩
  · exact Or.inl h
  · refine Or.inr ⟨g, cap, cur, rfl, hg, ?_, hrest⟩
    have hlt : g < w.heap.size := by
      have := hh
      rw [Array.getElem?_eq_some_iff] at this
      exact this.1
    rw [hw g hg hlt]; exact hh
theorem Fresh.setOld {B : Nat} {w : World} {P : World → Prop} (h : Fresh B w P) (g o : Nat) (u : Value) (hg : g < B) : Fresh B (w.setCell ⟨g, o, none⟩ u) P :=
  fun w'' hw => h w'' fun k hk hl => by rw [hw k hk (by simpa using hl), Below.heap_setCell _ _ _ _ (by show k ≠ g; omega)]
/-- Bytes of the call's own. -/
theorem bytes_fresh {w : World} {base : Nat} {t : TypeId} {v : Value} {n : Nat} {l : List Nat} (h : w.ownsRow base t 1 v n (l.map u8v)) (hn : n = l.length) : Fresh base w (fun W => BytesAt W v l) :=
  fun w'' hw => SlAt.own (ownsRow_fresh h hw) hn
end Go.Proofs.YtagmgkplfhlifaaDoor
