/- The document's reader: what stands up to a sign. -/
import Derived.Test.YtmfnbmbedplgcaaGreatDoorLnEsc
namespace Go.Proofs.YtmfnbmbedplgcaaGreatDoor
set_option linter.unusedVariables false
set_option linter.unusedSimpArgs false
set_option maxRecDepth 100000
open Go.ChangeShapes Go.WideShapes Go.ChangeAt Go.RowKit

namespace Tm
theorem up_fuel (e : UInt8) (lit : Bool) : ∀ (f g : Nat) (s : T), s.length < f → s.length < g → up f e lit s = up g e lit s
  | 0, g, s, h, _ => by omega
  | f + 1, 0, s, _, h => by omega
  | f + 1, g + 1, [], _, _ => rfl
  | f + 1, g + 1, c :: t, hf, hg => by
    unfold up
    simp only [List.length_cons] at hf hg
    rw [up_fuel e lit f g t (by omega) (by omega)]
    cases h : esc1 lit t with
    | none => rfl
    | some p =>
      obtain ⟨x, n⟩ := p
      simp only
      rw [up_fuel e lit f g (t.drop n) (by rw [List.length_drop]; omega) (by rw [List.length_drop]; omega)]
/-- What stands up to a sign, and what behind it. -/
def upU (e : UInt8) (lit : Bool) (s : T) : Option (T × T) := up (s.length + 1) e lit s
theorem upU_nil (e : UInt8) (lit : Bool) : upU e lit [] = none := rfl
theorem upU_cons (e : UInt8) (lit : Bool) (c : UInt8) (t : T) : upU e lit (c :: t) = if c = e then some ([], t) else if c = 92 then (match esc1 lit t with
      | none => none
      | some (x, n) => (upU e lit (t.drop n)).map (fun r => (x ++ r.1, r.2)))
    else if c = 10 ∨ c = 13 then none else (upU e lit t).map (fun r => (c :: r.1, r.2)) := by
  show up (t.length + 1 + 1) e lit (c :: t) = _
  rw [up]
  unfold upU
  cases h : esc1 lit t with
  | none => rfl
  | some p =>
    obtain ⟨x, n⟩ := p
    simp only
    rw [up_fuel e lit (t.length + 1) ((t.drop n).length + 1) (t.drop n) (by rw [List.length_drop]; omega) (by omega)]
theorem runeT_len (x : Nat) : (runeT x).length ≤ 4 := by
  have := encode_size_le (x : Int)
  unfold runeT
  simpa using this
theorem hexR_len {n : Nat} {s : T} {x : Nat} (h : hexR n s = some x) : n ≤ s.length := by
  rcases Nat.lt_or_ge s.length n with hl | hl
  · unfold hexR at h; rw [hexL_short n s 0 hl] at h; cases h
  · exact hl
theorem esc1_len {lit : Bool} {s x : T} {n : Nat} (h : esc1 lit s = some (x, n)) : 1 ≤ n ∧ n ≤ s.length ∧ x.length ≤ 4 := by
  cases s with
  | nil => cases h
  | cons c t =>
    have e0 : esc1 lit (c :: t) = if c = 117 then (hexR 4 t).map (fun x => (runeT x, 5)) else if c = 85 then (hexR 8 t).map (fun x => (runeT x, 9)) else if lit then (letter c).map (fun d => ([d], 1)) else none := rfl
    rw [e0] at h
    split at h
    · cases hr : hexR 4 t with
      | none => rw [hr] at h; cases h
      | some y =>
        rw [hr] at h
        simp only [Option.map_some, Option.some.injEq, Prod.mk.injEq] at h
        have := hexR_len hr
        have := runeT_len y
        obtain ⟨rfl, rfl⟩ := h
        simp only [List.length_cons]; omega
    · split at h
      · cases hr : hexR 8 t with
        | none => rw [hr] at h; cases h
        | some y =>
          rw [hr] at h
          simp only [Option.map_some, Option.some.injEq, Prod.mk.injEq] at h
          have := hexR_len hr
          have := runeT_len y
          obtain ⟨rfl, rfl⟩ := h
          simp only [List.length_cons]; omega
      · split at h
        · cases hr : letter c with
          | none => rw [hr] at h; cases h
          | some y =>
            rw [hr] at h
            simp only [Option.map_some, Option.some.injEq, Prod.mk.injEq] at h
            obtain ⟨rfl, rfl⟩ := h
            simp
        · cases h
end Tm
def upT (r : Option (List UInt8 × List UInt8)) : List UInt8 := match r with
  | none => []
  | some p => p.1
def upR (r : Option (List UInt8 × List UInt8)) : List UInt8 := match r with
  | none => []
  | some p => p.2
def upE (b : Bool) (r : Option (List UInt8 × List UInt8)) : Bool := match r with
  | none => true
  | some _ => b
theorem ba_from (l : List UInt8) (n : Nat) : (⟨l.toArray⟩ : ByteArray).extract n l.length = ⟨(l.drop n).toArray⟩ := ba_drop l n
end Go.Proofs.YtmfnbmbedplgcaaGreatDoor
