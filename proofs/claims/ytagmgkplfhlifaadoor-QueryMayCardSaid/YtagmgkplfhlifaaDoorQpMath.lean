/- How a path's text is read: plain facts. -/
import Derived.Test.YtagmgkplfhlifaaDoorPtMath
namespace Go.Proofs.YtagmgkplfhlifaaDoor.Au
set_option linter.unusedVariables false
set_option maxRecDepth 100000
set_option linter.unusedSimpArgs false
open Go Go.RowKit

/-- A path and what stands behind it; or an error, and where it stands. -/
inductive Res where
  | ok (x : Pt) (r : T)
  | err (e : Int) (r : T)
namespace Qp
/-- Behind the blanks. -/
def skip (r : T) : T := r.dropWhile (· == 32)
theorem skip_len (r : T) : (skip r).length ≤ r.length := (List.dropWhile_sublist _).length_le
/-- The first byte; 0: there is none. -/
def hd : T → Nat
  | [] => 0
  | c :: _ => c.toNat
theorem hd_cons {r : T} {n : Nat} (h : hd r = n) (hn : n ≠ 0) : ∃ c r1, r = c :: r1 ∧ c.toNat = n := by
  cases r with
  | nil => exact absurd h.symm hn
  | cons c r1 => exact ⟨c, r1, rfl, h⟩
/-- Up to the next '>'. -/
def cutGt : T → Option (T × T)
  | [] => none
  | c :: r => if c = 62 then some ([], r) else (cutGt r).map fun p => (c :: p.1, p.2)
theorem cutGt_len : ∀ {r t r1 : T}, cutGt r = some (t, r1) → r.length = t.length + 1 + r1.length
  | c :: r, t, r1, h => by
    unfold cutGt at h
    split at h
    · cases h; simp; omega
    · cases hc : cutGt r with
      | none => rw [hc] at h; cases h
      | some p =>
        rw [hc] at h
        cases h
        have := cutGt_len (t := p.1) (r1 := p.2) hc
        simp [this]; omega
/-- An IRI's text, and what stands behind; or where it should begin. -/
inductive Ir where
  | ok (t r : T)
  | err (r : T)
def iri (r : T) : Ir :=
  match skip r with
  | [] => .err []
  | c :: r1 => if c = 60 then (match cutGt r1 with
      | some (t, r2) => if Tm.isIRI t then .ok t r2 else .err (c :: r1)
      | none => .err (c :: r1)) else .err (c :: r1)
/-- What stands behind '!('; r begins with what parts two IRIs. -/
def notGo : Nat → List T → T → Res
  | 0, _, r => .err 2 r
  | n + 1, l, r => match iri (r.drop 1) with
    | .err r1 => .err 2 r1
    | .ok t r1 => match skip r1 with
      | [] => .err 2 []
      | c :: r2 => if c = 124 then notGo n (l ++ [t]) (c :: r2) else if c = 41 then .ok (.mk 8 [] (l ++ [t]) []) r2 else .err 2 (c :: r2)
def notOne (r : T) : Res := match iri r with
  | .err r1 => .err 2 r1
  | .ok t r1 => .ok (.mk 8 [] [t] []) r1
/-- What stands behind '!'. -/
def nots (r : T) : Res := match r with
  | [] => notOne []
  | c :: r1 => if c = 40 then notGo (r.length + 1) [] (c :: r1) else notOne (c :: r1)
/-- A step without what stands behind it; sub: what is one deeper (a step, a path). -/
def back (sub : Option ((T → Res) × (T → Res))) (r : T) : Res :=
  match skip r with
  | [] => .err 2 []
  | c :: r1 =>
    if c = 94 then (match sub with
      | none => .err 3 (c :: r1)
      | some s => match s.1 r1 with
        | .ok x r2 => .ok (.mk 2 [] [] [x]) r2
        | .err e r2 => .err e r2)
    else if c = 40 then (match sub with
      | none => .err 3 (c :: r1)
      | some s => match s.2 r1 with
        | .ok x r2 => (match skip r2 with
          | [] => .err 2 []
          | d :: r3 => if d = 41 then .ok x r3 else .err 2 (d :: r3))
        | .err e r2 => .err e r2)
    else if c = 33 then nots r1
    else (match iri (c :: r1) with
      | .ok t r2 => .ok (.mk 1 t [] []) r2
      | .err r2 => .err 2 r2)
def sg (c : UInt8) : Int := if c = 42 then 5 else if c = 43 then 6 else if c = 63 then 7 else 0
def stepGo : Nat → Pt → T → Res
  | 0, x, r => .ok x r
  | n + 1, x, r => match skip r with
    | [] => .ok x []
    | c :: r1 => if sg c = 0 then .ok x (c :: r1) else stepGo n (.mk (sg c) [] [] [x]) r1
def step (bk : T → Res) (r : T) : Res := match bk r with
  | .ok x r1 => stepGo (r1.length + 1) x r1
  | .err e r1 => .err e r1
def rowGo (part : T → Res) (sign : UInt8) (kind : Int) : Nat → Pt → T → Res
  | 0, x, r => .ok x r
  | n + 1, x, r => match skip r with
    | [] => .ok x []
    | c :: r1 => if c = sign then (match part r1 with
        | .ok y r2 => rowGo part sign kind n (.mk kind [] [] [x, y]) r2
        | .err e r2 => .err e r2) else .ok x (c :: r1)
def row (part : T → Res) (sign : UInt8) (kind : Int) (r : T) : Res := match part r with
  | .ok x r1 => rowGo part sign kind (r1.length + 1) x r1
  | .err e r1 => .err e r1
def pathOf (bk : T → Res) : T → Res := row (row (step bk) 47 3) 124 4
/-- The readers that may go k deeper: of a step without what stands behind it, of a path. -/
def lev : Nat → (T → Res) × (T → Res)
  | 0 => (back none, pathOf (back none))
  | k + 1 => (back (some (lev k)), pathOf (back (some (lev k))))
def whole (s : T) : Res := match (lev 5).2 s with
  | .ok x r => (match skip r with
    | [] => .ok x []
    | c :: r1 => .err 2 (c :: r1))
  | .err e r => .err e r
/-- It never leaves more than there was. -/
def Short (f : T → Res) : Prop := ∀ r x r1, f r = .ok x r1 → r1.length ≤ r.length
theorem iri_short {r t r1 : T} (h : iri r = .ok t r1) : r1.length < r.length := by
  unfold iri at h
  have hs := skip_len r
  split at h
  · cases h
  · rename_i c r2 hc
    rw [hc] at hs
    split at h
    · split at h
      · rename_i t' r3 hcut
        split at h
        · cases h
          have := cutGt_len hcut
          simp at hs; omega
        · cases h
      · cases h
    · cases h
theorem notGo_short : ∀ (n : Nat) (l : List T) (r : T) (x : Pt) (r1 : T), notGo n l r = .ok x r1 → r1.length ≤ r.length
  | 0, l, r, x, r1, h => by cases h
  | n + 1, l, r, x, r1, h => by
    unfold notGo at h
    split at h
    · cases h
    · rename_i t r2 hi
      have h1 := iri_short hi
      have h2 := skip_len r2
      have h3 : (r.drop 1).length ≤ r.length := by rw [List.length_drop]; omega
      split at h
      · cases h
      · rename_i c r3 hc
        rw [hc] at h2
        split at h
        · have := notGo_short n _ _ _ _ h
          omega
        · split at h
          · cases h; simp at h2; omega
          · cases h
theorem nots_short : Short nots := fun r x r1 h => by
  have one : ∀ q, notOne q = .ok x r1 → r1.length ≤ q.length := fun q h => by
    unfold notOne at h
    split at h
    · cases h
    · rename_i t r2 hi
      cases h
      exact Nat.le_of_lt (iri_short hi)
  unfold nots at h
  split at h
  · exact one _ h
  · split at h
    · exact notGo_short _ _ _ _ _ h
    · exact one _ h
theorem back_short {sub : Option ((T → Res) × (T → Res))} (hs : ∀ s, sub = some s → Short s.1 ∧ Short s.2) : Short (back sub) := fun r x r1 h => by
  unfold back at h
  have hk := skip_len r
  split at h
  · cases h
  · rename_i c r2 hc
    rw [hc] at hk
    simp only [List.length_cons] at hk
    split at h
    · split at h
      · cases h
      · rename_i s
        split at h
        · rename_i y r3 h3
          cases h
          have := (hs s rfl).1 _ _ _ h3
          omega
        · cases h
    · split at h
      · split at h
        · cases h
        · rename_i s
          split at h
          · rename_i y r3 h3
            have h4 := (hs s rfl).2 _ _ _ h3
            have h5 := skip_len r3
            split at h
            · cases h
            · rename_i d r4 hd
              rw [hd] at h5
              simp only [List.length_cons] at h5
              split at h
              · cases h; omega
              · cases h
          · cases h
      · split at h
        · have := nots_short _ _ _ h; omega
        · split at h
          · rename_i t r3 hi
            cases h
            have := iri_short hi
            simp only [List.length_cons] at this
            omega
          · cases h
theorem stepGo_short : ∀ (n : Nat) (x : Pt) (r : T) (y : Pt) (r1 : T), stepGo n x r = .ok y r1 → r1.length ≤ r.length
  | 0, x, r, y, r1, h => by cases h; exact Nat.le_refl _
  | n + 1, x, r, y, r1, h => by
    unfold stepGo at h
    have hk := skip_len r
    split at h
    · cases h; simp
    · rename_i c r2 hc
      rw [hc] at hk
      split at h
      · cases h; exact hk
      · have := stepGo_short n _ _ _ _ h
        simp only [List.length_cons] at hk
        omega
theorem step_short {bk : T → Res} (hb : Short bk) : Short (step bk) := fun r x r1 h => by
  unfold step at h
  split at h
  · rename_i y r2 h2
    have := hb _ _ _ h2
    have := stepGo_short _ _ _ _ _ h
    omega
  · cases h
theorem rowGo_short {part : T → Res} (hp : Short part) (sign : UInt8) (kind : Int) : ∀ (n : Nat) (x : Pt) (r : T) (y : Pt) (r1 : T), rowGo part sign kind n x r = .ok y r1 → r1.length ≤ r.length
  | 0, x, r, y, r1, h => by cases h; exact Nat.le_refl _
  | n + 1, x, r, y, r1, h => by
    unfold rowGo at h
    have hk := skip_len r
    split at h
    · cases h; simp
    · rename_i c r2 hc
      rw [hc] at hk
      simp only [List.length_cons] at hk
      split at h
      · split at h
        · rename_i z r3 h3
          have h4 := hp _ _ _ h3
          have := rowGo_short hp sign kind n _ _ _ _ h
          omega
        · cases h
      · cases h; simp; omega
theorem row_short {part : T → Res} (hp : Short part) (sign : UInt8) (kind : Int) : Short (row part sign kind) := fun r x r1 h => by
  unfold row at h
  split at h
  · rename_i y r2 h2
    have := hp _ _ _ h2
    have := rowGo_short hp sign kind _ _ _ _ _ h
    omega
  · cases h
theorem pathOf_short {bk : T → Res} (hb : Short bk) : Short (pathOf bk) := row_short (row_short (step_short hb) _ _) _ _
theorem lev_zero : lev 0 = (back none, pathOf (back none)) := by rw [lev]
theorem lev_succ (k : Nat) : lev (k + 1) = (back (some (lev k)), pathOf (back (some (lev k)))) := by rw [lev]
theorem lev_short : ∀ k, Short (lev k).1 ∧ Short (lev k).2
  | 0 => by
    have h := back_short (sub := none) (fun s h => by cases h)
    rw [lev_zero]
    exact ⟨h, pathOf_short h⟩
  | k + 1 => by
    have h := back_short (sub := some (lev k)) (fun s h => by cases h; exact lev_short k)
    rw [lev_succ]
    exact ⟨h, pathOf_short h⟩
/-- The path that the laws know. -/
def kq : Pt := .mk 4 [] [] [.mk 3 [] [] [.mk 1 [97] [] [], .mk 1 [98] [] []], .mk 5 [] [] [.mk 1 [99] [] []]]
theorem whole_known : whole [60, 97, 62, 47, 60, 98, 62, 124, 60, 99, 62, 42] = .ok kq [] := by kernel_rfl
end Qp
end Go.Proofs.YtagmgkplfhlifaaDoor.Au
