/- What is read is no greater than its text: plain facts. -/
import Derived.Test.YtagmgkplfhlifaaDoorQpMath
namespace Go.Proofs.YtagmgkplfhlifaaDoor.Au
set_option linter.unusedVariables false
set_option maxRecDepth 100000
set_option linter.unusedSimpArgs false
open Go Go.RowKit
namespace Qp
def Sz (f : T → Res) : Prop := ∀ r x r1, f r = .ok x r1 → x.size + r1.length ≤ r.length
theorem size_leaf (k : Int) (t : T) (L : List T) : (Pt.mk k t L []).size = 1 := by rw [Pt.size, Pt.sizes]
theorem size_one (k : Int) (t : T) (L : List T) (x : Pt) : (Pt.mk k t L [x]).size = 1 + x.size := by rw [Pt.size, Pt.sizes, Pt.sizes]; omega
theorem size_two (k : Int) (t : T) (L : List T) (x y : Pt) : (Pt.mk k t L [x, y]).size = 1 + (x.size + y.size) := by rw [Pt.size, Pt.sizes, Pt.sizes, Pt.sizes]; omega
theorem notGo_leaf : ∀ (n : Nat) (l : List T) (r : T) (x : Pt) (r1 : T), notGo n l r = .ok x r1 → x.size = 1
  | 0, l, r, x, r1, h => by cases h
  | n + 1, l, r, x, r1, h => by
    unfold notGo at h
    split at h
    · cases h
    · split at h
      · cases h
      · split at h
        · exact notGo_leaf n _ _ _ _ h
        · split at h
          · cases h; exact size_leaf _ _ _
          · cases h
theorem nots_leaf {r : T} {x : Pt} {r1 : T} (h : nots r = .ok x r1) : x.size = 1 := by
  have one : ∀ q, notOne q = .ok x r1 → x.size = 1 := fun q h => by
    unfold notOne at h
    split at h
    · cases h
    · cases h; exact size_leaf _ _ _
  unfold nots at h
  split at h
  · exact one _ h
  · split at h
    · exact notGo_leaf _ _ _ _ _ h
    · exact one _ h
theorem back_sz {sub : Option ((T → Res) × (T → Res))} (hs : ∀ s, sub = some s → Sz s.1 ∧ Sz s.2) : Sz (back sub) := fun r x r1 h => by
  unfold back at h
  have hk := skip_len r
  split at h
  · cases h
  · rename_i c r2 hc
    rw [hc] at hk
    simp only [List.length_cons] at hk
    split at h
    · split at h
      · cases h
      · rename_i s
        split at h
        · rename_i y r3 h3
          cases h
          have := (hs s rfl).1 _ _ _ h3
          rw [size_one]; omega
        · cases h
    · split at h
      · split at h
        · cases h
        · rename_i s
          split at h
          · rename_i y r3 h3
            have h4 := (hs s rfl).2 _ _ _ h3
            have h5 := skip_len r3
            split at h
            · cases h
            · rename_i d r4 hd
              rw [hd] at h5
              simp only [List.length_cons] at h5
              split at h
              · cases h; omega
              · cases h
          · cases h
      · split at h
        · have h1 := nots_leaf h
          have h2 := nots_short _ _ _ h
          omega
        · split at h
          · rename_i t r3 hi
            cases h
            have := iri_short hi
            simp only [List.length_cons] at this
            rw [size_leaf]; omega
          · cases h
theorem stepGo_sz : ∀ (n : Nat) (x : Pt) (r : T) (y : Pt) (r1 : T), stepGo n x r = .ok y r1 → y.size + r1.length ≤ x.size + r.length
  | 0, x, r, y, r1, h => by cases h; exact Nat.le_refl _
  | n + 1, x, r, y, r1, h => by
    unfold stepGo at h
    have hk := skip_len r
    split at h
    · cases h; simp
    · rename_i c r2 hc
      rw [hc] at hk
      simp only [List.length_cons] at hk
      split at h
      · cases h; simp only [List.length_cons]; omega
      · have := stepGo_sz n _ _ _ _ h
        rw [size_one] at this
        omega
theorem step_sz {bk : T → Res} (hb : Sz bk) : Sz (step bk) := fun r x r1 h => by
  unfold step at h
  split at h
  · rename_i y r2 h2
    have := hb _ _ _ h2
    have := stepGo_sz _ _ _ _ _ h
    omega
  · cases h
theorem rowGo_sz {part : T → Res} (hp : Sz part) (sign : UInt8) (kind : Int) : ∀ (n : Nat) (x : Pt) (r : T) (y : Pt) (r1 : T), rowGo part sign kind n x r = .ok y r1 → y.size + r1.length ≤ x.size + r.length
  | 0, x, r, y, r1, h => by cases h; exact Nat.le_refl _
  | n + 1, x, r, y, r1, h => by
    unfold rowGo at h
    have hk := skip_len r
    split at h
    · cases h; simp
    · rename_i c r2 hc
      rw [hc] at hk
      simp only [List.length_cons] at hk
      split at h
      · split at h
        · rename_i z r3 h3
          have h4 := hp _ _ _ h3
          have := rowGo_sz hp sign kind n _ _ _ _ h
          rw [size_two] at this
          omega
        · cases h
      · cases h; simp only [List.length_cons]; omega
theorem row_sz {part : T → Res} (hp : Sz part) (sign : UInt8) (kind : Int) : Sz (row part sign kind) := fun r x r1 h => by
  unfold row at h
  split at h
  · rename_i y r2 h2
    have := hp _ _ _ h2
    have := rowGo_sz hp sign kind _ _ _ _ _ h
    omega
  · cases h
theorem pathOf_sz {bk : T → Res} (hb : Sz bk) : Sz (pathOf bk) := row_sz (row_sz (step_sz hb) _ _) _ _
theorem lev_sz : ∀ k, Sz (lev k).1 ∧ Sz (lev k).2
  | 0 => by
    have h := back_sz (sub := none) (fun s h => by cases h)
    rw [lev_zero]
    exact ⟨h, pathOf_sz h⟩
  | k + 1 => by
    have h := back_sz (sub := some (lev k)) (fun s h => by cases h; exact lev_sz k)
    rw [lev_succ]
    exact ⟨h, pathOf_sz h⟩
theorem whole_sz {s : T} {x : Pt} {r : T} (h : whole s = .ok x r) : x.size ≤ s.length := by
  unfold whole at h
  split at h
  · rename_i y r1 h1
    have := (lev_sz 5).2 _ _ _ h1
    split at h
    · cases h; omega
    · cases h
  · cases h
end Qp
end Go.Proofs.YtagmgkplfhlifaaDoor.Au
