/- Bytes as texts: plain facts. -/
import Derived.Test.YtdahfejecbcakaaFrMath
namespace Go.Proofs.Ytdahfejecbcakaa.Fr
set_option linter.unusedVariables false
set_option linter.unusedSimpArgs false
open Go Go.RowKit

def txt (l : List Nat) : T := l.map UInt8.ofNat
/-- The entry at p behind the text x: its text, and where the next one stands. -/
def ent (b : List Nat) (x : T) (p : Nat) : Option (T × Nat) :=
  if b.length < p + 2 ∨ x.length < b.getD p 0 ∨ b.length < p + 2 + b.getD (p + 1) 0 then none
  else some (x.take (b.getD p 0) ++ txt ((b.drop (p + 2)).take (b.getD (p + 1) 0)), p + 2 + b.getD (p + 1) 0)
/-- The first k entries: the texts, the last one, where the next one stands. -/
def st (b : List Nat) : Nat → Option (List T × T × Nat)
  | 0 => some ([], [], 2)
  | k + 1 => match st b k with
    | none => none
    | some (L, x, p) => match ent b x p with
      | none => none
      | some (y, q) => some (L ++ [y], y, q)
def cnt (b : List Nat) : Nat := b.getD 0 0 * 256 + b.getD 1 0
def rd (b : List Nat) : Option (List T) := if b.length < 2 then none else (st b (cnt b)).map (·.1)
/-- The texts that bytes are, if they are just one dictionary's. -/
def res (b : List Nat) : Option (List T) := match rd b with
  | none => none
  | some L => if May L ∧ byt L L.length = b then some L else none
theorem st_succ {b : List Nat} {k : Nat} {L : List T} {x : T} {p : Nat} (h : st b k = some (L, x, p)) : st b (k + 1) = match ent b x p with | none => none | some (y, q) => some (L ++ [y], y, q) := by
  rw [st, h]
theorem st_len {b : List Nat} : ∀ {k : Nat} {L : List T} {x : T} {p : Nat}, st b k = some (L, x, p) → L.length = k ∧ (2 ≤ b.length → p ≤ b.length) ∧ 2 ≤ p
  | 0, L, x, p, h => by
    simp only [st, Option.some.injEq, Prod.mk.injEq] at h
    obtain ⟨rfl, rfl, rfl⟩ := h
    exact ⟨rfl, fun h => h, Nat.le_refl _⟩
  | k + 1, L, x, p, h => by
    rw [st] at h
    split at h
    · cases h
    · rename_i M y q h1
      obtain ⟨i1, i2, i3⟩ := st_len h1
      split at h
      · cases h
      · rename_i z r h2
        simp only [Option.some.injEq, Prod.mk.injEq] at h
        obtain ⟨rfl, rfl, rfl⟩ := h
        unfold ent at h2
        split at h2
        · cases h2
        · simp only [Option.some.injEq, Prod.mk.injEq] at h2
          obtain ⟨_, rfl⟩ := h2
          refine ⟨by simp [i1], fun _ => by omega, by omega⟩
theorem st_none {b : List Nat} {k : Nat} (h : st b k = none) : ∀ {n}, k ≤ n → st b n = none := by
  intro n
  induction n with
  | zero => intro hk; rw [show k = 0 by omega] at h; exact h
  | succ n ih =>
    intro hk
    by_cases e : k = n + 1
    · rw [← e]; exact h
    · rw [st, ih (by omega)]
/-- A longer row of bytes has the same entries. -/
theorem ent_more {b : List Nat} (r : List Nat) {x y : T} {p q : Nat} (h : ent b x p = some (y, q)) : ent (b ++ r) x p = some (y, q) := by
  unfold ent at h ⊢
  split at h
  · cases h
  · rename_i hn
    have g : ∀ i, i < b.length → (b ++ r).getD i 0 = b.getD i 0 := fun i hi => by simp [List.getD, List.getElem?_append_left hi]
    rw [g p (by omega), g (p + 1) (by omega)]
    rw [if_neg (by rw [List.length_append]; omega)]
    rw [← h]
    congr 4
    rw [List.drop_append_of_le_length (by omega), List.take_append_of_le_length (by rw [List.length_drop]; omega)]
theorem st_more {b : List Nat} (r : List Nat) : ∀ {k : Nat} {s : List T × T × Nat}, st b k = some s → st (b ++ r) k = some s
  | 0, s, h => h
  | k + 1, s, h => by
    rw [st] at h
    split at h
    · cases h
    · rename_i L x p h1
      rw [st_succ (st_more r h1)]
      split at h
      · cases h
      · rename_i y q h2
        rw [ent_more r h2]
        exact h
end Go.Proofs.Ytdahfejecbcakaa.Fr
