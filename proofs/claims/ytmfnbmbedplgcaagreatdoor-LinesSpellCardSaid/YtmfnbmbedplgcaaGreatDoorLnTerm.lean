/- The document's reader: a term. -/
import Derived.Test.YtmfnbmbedplgcaaGreatDoorLnLit
namespace Go.Proofs.YtmfnbmbedplgcaaGreatDoor
set_option linter.unusedVariables false
set_option linter.unusedSimpArgs false
set_option maxRecDepth 100000
open Go.ChangeShapes Go.WideShapes Go.ChangeAt Go.RowKit

namespace Tm
/-- A term that must stand there, and the blanks behind it. -/
def rtermB (s : T) : Option (Nat × T × T × T) := match rterm s with
  | none => none
  | some (k, t, x, v) => if Tm.is (k : Int) t x = true then some (k, t, x, v.dropWhile blankC) else none
theorem rterm_up62 (r : T) : rterm (60 :: r) = (upU 62 false r).map (fun q : T × T => ((1 : Nat), q.1, ([] : T), q.2)) := rfl
theorem rterm_95 (r : T) : rterm (95 :: 58 :: r) = some (2, r.takeWhile alnum, [], r.dropWhile alnum) := rfl
theorem rterm_34 (r : T) : rterm (34 :: r) = rlit r := by
  unfold rlit
  show (match up (r.length + 1) 34 true r with
      | none => none
      | some (t, v) => if v.headD 0 = 64 then some (4, t, (v.tail.takeWhile alnumD).map lower, v.tail.dropWhile alnumD)
        else if v.take 3 = [94, 94, 60] then (up (v.length + 1) 62 false (v.drop 3)).map (fun q : T × T => ((5 : Nat), t, q.1, q.2))
        else some (3, t, [], v)) = _
  unfold upU
  cases up (r.length + 1) 34 true r with
  | none => rfl
  | some p =>
    obtain ⟨t, v⟩ := p
    simp only
    rw [up_fuel 62 false (v.length + 1) ((v.drop 3).length + 1) (v.drop 3) (by rw [List.length_drop]; omega) (by omega)]
theorem rterm_none {s : T} (h1 : s.take 1 ≠ [60]) (h2 : s.take 2 ≠ [95, 58]) (h3 : s.take 1 ≠ [34]) : rterm s = none := by
  cases s with
  | nil => rfl
  | cons c r =>
    have a1 : c ≠ 60 := fun e => h1 (by rw [e]; rfl)
    have a3 : c ≠ 34 := fun e => h3 (by rw [e]; rfl)
    show (if c = 60 then _ else if c = 95 then _ else if c = 34 then _ else none) = none
    rw [if_neg a1]
    by_cases a2 : c = 95
    · rw [if_pos a2, if_neg]
      intro e
      cases r with
      | nil => exact absurd e (by decide)
      | cons d r => simp only [List.headD_cons] at e; exact h2 (by rw [a2, e]; rfl)
    · rw [if_neg a2, if_neg a3]
theorem rlit_len {s : T} {k : Nat} {t x v : T} (h : rlit s = some (k, t, x, v)) : t.length ≤ 4 * s.length ∧ x.length ≤ 4 * s.length ∧ v.length ≤ s.length := by
  unfold rlit at h
  cases hu : upU 34 true s with
  | none => rw [hu] at h; cases h
  | some p =>
    obtain ⟨t', v'⟩ := p
    rw [hu] at h
    have h1 := upU_len s.length (Nat.le_refl _) hu
    simp only at h
    split at h
    · simp only [Option.some.injEq, Prod.mk.injEq] at h
      obtain ⟨rfl, rfl, rfl, rfl⟩ := h
      have h2 := tw_len alnumD v'.tail
      have h3 := congrArg List.length (List.takeWhile_append_dropWhile (p := alnumD) (l := v'.tail))
      rw [List.length_append] at h3
      rw [List.length_tail] at h2 h3
      rw [List.length_map]; omega
    · split at h
      · cases hv : upU 62 false (v'.drop 3) with
        | none => rw [hv] at h; cases h
        | some z =>
          obtain ⟨a, b⟩ := z
          rw [hv] at h
          simp only [Option.map_some, Option.some.injEq, Prod.mk.injEq] at h
          obtain ⟨rfl, rfl, rfl, rfl⟩ := h
          have h2 := upU_len _ (Nat.le_refl _) hv
          rw [List.length_drop] at h2; omega
      · simp only [Option.some.injEq, Prod.mk.injEq] at h
        obtain ⟨rfl, rfl, rfl, rfl⟩ := h
        simp; omega
end Tm
/-- A base world, whose variables are known, and all behind it. -/
structure Base0 (W0 w : World) (q : Nat) : Prop where
  vars : Vars W0
  below : Below W0.heap.size W0 w
  le : W0.heap.size ≤ q
theorem Base0.vars_at {W0 w w' : World} {q : Nat} (h : Base0 W0 w q) (hb : But q w w') : Vars w' := h.vars.keep (hb.into h.below h.le)
theorem Base0.to {W0 w w' : World} {q : Nat} (h : Base0 W0 w q) (hb : But q w w') : Base0 W0 w' q := ⟨h.vars, hb.into h.below h.le, h.le⟩
theorem dw_len (p : UInt8 → Bool) (l : List UInt8) : (l.dropWhile p).length ≤ l.length := by
  have := congrArg List.length (List.takeWhile_append_dropWhile (p := p) (l := l))
  rw [List.length_append] at this; omega
end Go.Proofs.YtmfnbmbedplgcaaGreatDoor
