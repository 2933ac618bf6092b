/- What a line is: plain facts. -/
import Derived.Test.YtmfnbmbedplgcaaGreatDoorLnTerm
namespace Go.Proofs.YtmfnbmbedplgcaaGreatDoor.Tm
set_option linter.unusedVariables false
set_option linter.unusedSimpArgs false
set_option maxRecDepth 100000
open Go Go.RowKit

/-- A term: its kind, its text, what is beside it. -/
abbrev T3 := Nat × T × T
/-- A term and the blanks behind it; whether it may be is not looked at. -/
def rt (s : T) : Option (T3 × T) := match rterm s with
  | none => none
  | some (k, t, x, v) => some ((k, t, x), v.dropWhile blankC)
def isT (a : T3) : Bool := is (a.1 : Int) a.2.1 a.2.2
/-- A point and blanks. -/
def point (s : T) : Option T := match s with
  | [] => none
  | c :: r => if c = 46 then some (r.dropWhile blankC) else none
/-- Three terms, a point. -/
def rtri (s : T) : Option ((T3 × T3 × T3) × T) := match rt s with
  | none => none
  | some (a, r) => match rt r with
    | none => none
    | some (b, u) => match rt u with
      | none => none
      | some (c, v) => match point v with
        | none => none
        | some z => some ((a, b, c), z)
def endd (s : T) : Bool := decide (s = [] ∨ s.head? = some 35)
def isTri (p : T3 × T3 × T3) : Bool := decide (p.1.1 = 1 ∨ p.1.1 = 2) && decide (p.2.1.1 = 1) && (isT p.1 && isT p.2.1 && isT p.2.2)
/-- A line's triple: none: it is no line; some none: it has none. -/
def one (s : T) : Option (Option (T3 × T3 × T3)) :=
  if Lib.validD s = false then none
  else if endd (s.dropWhile blankC) = true then some none
  else match rtri (s.dropWhile blankC) with
    | none => none
    | some (p, r) => if endd r = true ∧ isTri p = true then some (some p) else none
theorem rtermB_rt (s : T) : rtermB s = match rt s with
    | none => none
    | some (a, r) => if isT a = true then some (a.1, a.2.1, a.2.2, r) else none := by
  unfold rtermB rt isT
  cases rterm s with
  | none => rfl
  | some p => obtain ⟨k, t, x, v⟩ := p; rfl
theorem up_len' {e : UInt8} {lit : Bool} {s t v : T} (h : upU e lit s = some (t, v)) : t.length ≤ 4 * s.length ∧ v.length < s.length := upU_len s.length (Nat.le_refl _) h
theorem rterm_len {s : T} {k : Nat} {t x v : T} (h : rterm s = some (k, t, x, v)) : t.length ≤ 4 * s.length ∧ x.length ≤ 4 * s.length ∧ v.length ≤ s.length ∧ 1 ≤ k ∧ k ≤ 5 := by
  by_cases h1 : s.take 1 = [60]
  · obtain ⟨u, rfl⟩ : ∃ u, s = 60 :: u := ⟨s.drop 1, by have := List.take_append_drop 1 s; rw [h1] at this; exact this.symm⟩
    rw [rterm_up62] at h
    cases hu : upU 62 false u with
    | none => rw [hu] at h; cases h
    | some p =>
      obtain ⟨a, b⟩ := p
      rw [hu] at h
      simp only [Option.map_some, Option.some.injEq, Prod.mk.injEq] at h
      obtain ⟨rfl, rfl, rfl, rfl⟩ := h
      have := up_len' hu
      simp only [List.length_cons, List.length_nil]; omega
  · by_cases h2 : s.take 2 = [95, 58]
    · obtain ⟨u, rfl⟩ : ∃ u, s = 95 :: 58 :: u := ⟨s.drop 2, by have := List.take_append_drop 2 s; rw [h2] at this; exact this.symm⟩
      rw [rterm_95] at h
      simp only [Option.some.injEq, Prod.mk.injEq] at h
      obtain ⟨rfl, rfl, rfl, rfl⟩ := h
      have a1 := tw_len alnum u
      have a2 := dw_len alnum u
      simp only [List.length_cons, List.length_nil]; omega
    · by_cases h3 : s.take 1 = [34]
      · obtain ⟨u, rfl⟩ : ∃ u, s = 34 :: u := ⟨s.drop 1, by have := List.take_append_drop 1 s; rw [h3] at this; exact this.symm⟩
        rw [rterm_34] at h
        have a1 := rlit_len h
        have a2 : 1 ≤ k ∧ k ≤ 5 := by
          unfold rlit at h
          cases hu : upU 34 true u with
          | none => rw [hu] at h; cases h
          | some p =>
            obtain ⟨t', v'⟩ := p
            rw [hu] at h
            simp only at h
            split at h
            · simp only [Option.some.injEq, Prod.mk.injEq] at h; omega
            · split at h
              · cases hv : upU 62 false (v'.drop 3) with
                | none => rw [hv] at h; cases h
                | some z => rw [hv] at h; simp only [Option.map_some, Option.some.injEq, Prod.mk.injEq] at h; omega
              · simp only [Option.some.injEq, Prod.mk.injEq] at h; omega
        simp only [List.length_cons]; omega
      · rw [rterm_none h1 h2 h3] at h; cases h
theorem rt_len {s : T} {a : T3} {r : T} (h : rt s = some (a, r)) : a.2.1.length ≤ 4 * s.length ∧ a.2.2.length ≤ 4 * s.length ∧ r.length ≤ s.length ∧ 1 ≤ a.1 ∧ a.1 ≤ 5 := by
  unfold rt at h
  cases hr : rterm s with
  | none => rw [hr] at h; cases h
  | some p =>
    obtain ⟨k, t, x, v⟩ := p
    rw [hr] at h
    simp only [Option.some.injEq, Prod.mk.injEq] at h
    obtain ⟨rfl, rfl⟩ := h
    have h1 := rterm_len hr
    have h2 := dw_len blankC v
    simp only; omega
end Go.Proofs.YtmfnbmbedplgcaaGreatDoor.Tm
