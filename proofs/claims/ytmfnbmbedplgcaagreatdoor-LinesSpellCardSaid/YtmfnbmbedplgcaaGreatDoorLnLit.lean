/- The document's reader: a literal. -/
import Derived.Test.YtmfnbmbedplgcaaGreatDoorLnUp
import Derived.Test.YtmfnbmbedplgcaaGreatDoorLnSmall
namespace Go.Proofs.YtmfnbmbedplgcaaGreatDoor
set_option linter.unusedVariables false
set_option linter.unusedSimpArgs false
set_option maxRecDepth 100000
open Go.ChangeShapes Go.WideShapes Go.ChangeAt Go.RowKit

namespace Tm
/-- A literal, behind its sign. -/
def rlit (r : T) : Option (Nat × T × T × T) := match upU 34 true r with
  | none => none
  | some (t, v) => if v.headD 0 = 64 then some (4, t, (v.tail.takeWhile alnumD).map lower, v.tail.dropWhile alnumD)
    else if v.take 3 = [94, 94, 60] then (upU 62 false (v.drop 3)).map (fun q => (5, t, q.1, q.2))
    else some (3, t, [], v)
theorem upU_len {e : UInt8} {lit : Bool} : ∀ (n : Nat) {s t v : T}, s.length ≤ n → upU e lit s = some (t, v) → t.length ≤ 4 * s.length ∧ v.length < s.length
  | _, [], t, v, _, h => by cases h
  | 0, c :: s, t, v, hn, _ => by simp at hn
  | n + 1, c :: s, t, v, hn, h => by
    rw [upU_cons] at h
    simp only [List.length_cons] at hn ⊢
    split at h
    · simp only [Option.some.injEq, Prod.mk.injEq] at h
      obtain ⟨rfl, rfl⟩ := h
      simp
    · split at h
      · cases he : esc1 lit s with
        | none => rw [he] at h; cases h
        | some p =>
          obtain ⟨x, k⟩ := p
          rw [he] at h
          obtain ⟨h1, h2, h3⟩ := esc1_len he
          simp only at h
          cases hu : upU e lit (s.drop k) with
          | none => rw [hu] at h; cases h
          | some z =>
            obtain ⟨t', v'⟩ := z
            rw [hu] at h
            simp only [Option.map_some, Option.some.injEq, Prod.mk.injEq] at h
            obtain ⟨rfl, rfl⟩ := h
            have := upU_len n (s := s.drop k) (by rw [List.length_drop]; omega) hu
            rw [List.length_drop] at this
            rw [List.length_append]; omega
      · split at h
        · cases h
        · cases hu : upU e lit s with
          | none => rw [hu] at h; cases h
          | some z =>
            obtain ⟨t', v'⟩ := z
            rw [hu] at h
            simp only [Option.map_some, Option.some.injEq, Prod.mk.injEq] at h
            obtain ⟨rfl, rfl⟩ := h
            have := upU_len n (by omega) hu
            simp only [List.length_cons]; omega
end Tm
theorem lit_cells {w : World} {b : Nat} {x y z : Value} {t : TypeId} (h : Blk w b [x, y, z] t) :
    (∀ o, (w.alloc o).cell? ⟨b, 0, none⟩ = some x ∧ (w.alloc o).frozen? ⟨b, 0, none⟩ = false) ∧ (∀ o, (w.alloc o).cell? ⟨b, 1, none⟩ = some y ∧ (w.alloc o).frozen? ⟨b, 1, none⟩ = false) ∧ (∀ o, (w.alloc o).cell? ⟨b, 2, none⟩ = some z ∧ (w.alloc o).frozen? ⟨b, 2, none⟩ = false) :=
  ⟨fun o => ⟨(h.alloc o).cell rfl, (h.alloc o).free 0⟩, fun o => ⟨(h.alloc o).cell rfl, (h.alloc o).free 1⟩, fun o => ⟨(h.alloc o).cell rfl, (h.alloc o).free 2⟩⟩
theorem struct_ret {fn : Func} {tmps : Array Value} {Z : World} {b : Nat} {v0 v1 v2 : Value} (ht : tmps.getD 2 undef = .pointer (some ⟨b, 0, none⟩)) (hZ : Blk Z b [v0, v1, v2] 26) (hf : fn.results = #[.cell 2 26]) :
    (results fn tmps).run Tryz.prog Z = .ok (.agg #[v0, v1, v2]) Z := by
  have h0 := hZ.cell (i := 0) rfl
  have h1 := hZ.cell (i := 1) rfl
  have h2 := hZ.cell (i := 2) rfl
  have ht' : tmps[2]?.getD undef = .pointer (some ⟨b, 0, none⟩) := by simpa using ht
  simp [results, hf, ht', go_sem, h0, h1, h2]
theorem tw_len (p : UInt8 → Bool) (l : List UInt8) : (l.takeWhile p).length ≤ l.length := by
  have := congrArg List.length (List.takeWhile_append_dropWhile (p := p) (l := l))
  rw [List.length_append] at this; omega
theorem But.fresh {q b : Nat} {w X : World} (h : But q w X) (hb : w.heap.size ≤ b) (i : Nat) (v : Value) : But q w (X.setCell ⟨b, i, none⟩ v) :=
  ⟨h.os, h.tape, h.output, by have := h.size; simpa using this, fun k hk hn => by rw [Below.heap_setCell _ _ _ _ (by show k ≠ b; omega)]; exact h.block k hk hn⟩
theorem take1 (v : List UInt8) : decide (v.take ([64] : List UInt8).length = [64]) = decide (v.headD 0 = 64) := by
  cases v with
  | nil => rfl
  | cons c t => simp
end Go.Proofs.YtmfnbmbedplgcaaGreatDoor
