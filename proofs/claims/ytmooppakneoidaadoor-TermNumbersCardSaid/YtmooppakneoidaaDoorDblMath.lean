/- What double reads: digits, a sign, an exponent, as plain functions. -/
import Derived.WalkKit
namespace Go.Proofs.YtmooppakneoidaaDoor.Db
set_option linter.unusedVariables false
set_option linter.unusedSimpArgs false
open Go Go.RowKit

def isDig (c : UInt8) : Bool := decide (48 ≤ c.toNat) && decide (c.toNat ≤ 57)
/-- How many digits a text begins with. -/
def digs : List UInt8 → Nat
  | [] => 0
  | c :: l => if isDig c then digs l + 1 else 0
theorem digs_le : ∀ l : List UInt8, digs l ≤ l.length
  | [] => Nat.le_refl _
  | c :: l => by unfold digs; have := digs_le l; split <;> simp <;> omega
theorem digs_all : ∀ (l : List UInt8) (i : Nat), i < digs l → ∃ c, l[i]? = some c ∧ 48 ≤ c.toNat ∧ c.toNat ≤ 57
  | [], i, h => by simp [digs] at h
  | c :: l, i, h => by
    unfold digs at h
    split at h
    · rename_i hc
      cases i with
      | zero => exact ⟨c, rfl, by simpa [isDig] using hc⟩
      | succ i => exact digs_all l i (by omega)
    · omega
theorem digs_stop : ∀ (l : List UInt8) (c : UInt8), l[digs l]? = some c → c.toNat < 48 ∨ 57 < c.toNat
  | [], c, h => by simp at h
  | a :: l, c, h => by
    unfold digs at h
    split at h
    · exact digs_stop l c (by simpa using h)
    · rename_i hc
      obtain rfl : a = c := by simpa using h
      simp [isDig] at hc; omega
/-- Digits as a number. -/
def step (n : Nat) (c : UInt8) : Nat := n * 10 + (c.toNat - 48)
def val (l : List UInt8) : Nat := l.foldl step 0
def AllDig (l : List UInt8) : Prop := ∀ (i : Nat) (c : UInt8), l[i]? = some c → 48 ≤ c.toNat ∧ c.toNat ≤ 57
theorem digs_dig (l : List UInt8) : AllDig (l.take (digs l)) := by
  intro i c h
  rw [List.getElem?_take] at h
  split at h
  · rename_i hi
    obtain ⟨d, h1, h2⟩ := digs_all l i hi
    rw [h] at h1
    cases h1
    exact h2
  · cases h
theorem AllDig.append {a b : List UInt8} (ha : AllDig a) (hb : AllDig b) : AllDig (a ++ b) := by
  intro i c h
  rcases Nat.lt_or_ge i a.length with h1 | h1
  · exact ha i c (by rwa [List.getElem?_append_left h1] at h)
  · exact hb _ c (by rwa [List.getElem?_append_right h1] at h)
theorem val_snoc (l : List UInt8) (c : UInt8) : val (l ++ [c]) = val l * 10 + (c.toNat - 48) := by simp [val, step]
theorem val_take (l : List UInt8) (i : Nat) (c : UInt8) (h : l[i]? = some c) : val (l.take (i + 1)) = val (l.take i) * 10 + (c.toNat - 48) := by
  obtain ⟨h1, h2⟩ := List.getElem?_eq_some_iff.1 h
  rw [List.take_succ_eq_append_getElem h1, val_snoc, h2]
theorem val_lt (l : List UInt8) (h : AllDig l) : ∀ i, i ≤ l.length → val (l.take i) < 10 ^ i := by
  intro i
  induction i with
  | zero => intro _; simp [val]
  | succ i ih =>
    intro hi
    obtain ⟨c, hc⟩ : ∃ c, l[i]? = some c := ⟨_, List.getElem?_eq_getElem (by omega)⟩
    rw [val_take l i c hc, Nat.pow_succ]
    have := h i c hc
    have := ih (by omega)
    omega
theorem val_lt' (l : List UInt8) (h : AllDig l) : val l < 10 ^ l.length := by
  have := val_lt l h l.length (Nat.le_refl _)
  rwa [List.take_length] at this
theorem digs_eq_length {l : List UInt8} (h : digs l = l.length) : AllDig l := by
  have := digs_dig l
  rw [h, List.take_length] at this
  exact this
theorem drop_nil_iff (l : List UInt8) : l.drop (digs l) = [] ↔ digs l = l.length := by
  have := digs_le l
  rw [List.drop_eq_nil_iff]; omega

/-- The sign, and what stands behind it. -/
def sign : List UInt8 → Bool × List UInt8
  | [] => (false, [])
  | c :: l => if c = 45 then (true, l) else if c = 43 then (false, l) else (false, c :: l)
theorem sign_len (l : List UInt8) : (sign l).2.length ≤ l.length := by
  cases l with
  | nil => exact Nat.le_refl _
  | cons c l =>
    simp only [sign]
    by_cases h1 : c = 45
    · rw [if_pos h1]; simp
    · rw [if_neg h1]
      by_cases h2 : c = 43
      · rw [if_pos h2]; simp
      · rw [if_neg h2]; simp
def sg (b : Bool) : Int := if b then -1 else 1
/-- The number behind an e. -/
def expo : List UInt8 → Option Int
  | [] => some 0
  | c :: l =>
    if c = 101 ∨ c = 69 then
      let r := (sign l).2
      if digs r = r.length ∧ r ≠ [] ∧ r.length ≤ 3 then some (sg (sign l).1 * (val r : Int)) else none
    else none
/-- The digits ahead of the point, those behind it, what is left. -/
def split (l : List UInt8) : List UInt8 × List UInt8 × List UInt8 :=
  let a := l.take (digs l)
  match l.drop (digs l) with
  | 46 :: r => (a, r.take (digs r), r.drop (digs r))
  | r => (a, [], r)
/-- The digits, and the power of ten: of a text that is a number. -/
def num (l : List UInt8) : Option (List UInt8 × Int) :=
  let (a, b, r) := split l
  if a.length + b.length = 0 ∨ 15 < a.length + b.length then none else
  match expo r with
  | none => none
  | some e => if e - b.length < -22 ∨ 22 < e - b.length then none else some (a ++ b, e - b.length)
end Go.Proofs.YtmooppakneoidaaDoor.Db
