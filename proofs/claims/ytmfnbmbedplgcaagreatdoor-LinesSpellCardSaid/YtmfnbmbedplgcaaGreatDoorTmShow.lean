/- A term as a text: order of texts, escapes, and what is read back: plain facts. -/
import Derived.WalkKit
import Derived.Lib.Bytealg
namespace Go.Proofs.YtmfnbmbedplgcaaGreatDoor.Tm
set_option linter.unusedVariables false
set_option maxRecDepth 100000
set_option linter.unusedSimpArgs false
open Go Go.RowKit

abbrev T := List UInt8
/-- a stands ahead of b. -/
abbrev lt (a b : T) : Bool := Op.bytesLess a b
theorem lt_nil (a : T) : lt a [] = false := by cases a <;> rfl
theorem lt_nil_cons (b : UInt8) (y : T) : lt [] (b :: y) = true := rfl
theorem lt_cons (a b : UInt8) (x y : T) : lt (a :: x) (b :: y) = (decide (a < b) || (a == b && lt x y)) := rfl
theorem lt_irrefl : ∀ a : T, lt a a = false
  | [] => rfl
  | a :: x => by
    rw [lt_cons, lt_irrefl x]
    simp
theorem lt_trans : ∀ {a b c : T}, lt a b = true → lt b c = true → lt a c = true
  | _, _, [], _, h => by rw [lt_nil] at h; cases h
  | _, [], _ :: _, h, _ => by rw [lt_nil] at h; cases h
  | [], _ :: _, _ :: _, _, _ => rfl
  | a :: x, b :: y, c :: z, h1, h2 => by
    rw [lt_cons] at *
    simp only [Bool.or_eq_true, decide_eq_true_eq, Bool.and_eq_true, beq_iff_eq] at *
    rcases h1 with h1 | ⟨rfl, h1⟩
    · rcases h2 with h2 | ⟨rfl, h2⟩
      · exact .inl (UInt8.lt_trans h1 h2)
      · exact .inl h1
    · rcases h2 with h2 | ⟨rfl, h2⟩
      · exact .inl h2
      · exact .inr ⟨rfl, lt_trans h1 h2⟩
theorem lt_tri : ∀ {a b : T}, lt a b = false → lt b a = false → a = b
  | [], [], _, _ => rfl
  | [], _ :: _, h, _ => by cases h
  | _ :: _, [], _, h => by cases h
  | a :: x, b :: y, h1, h2 => by
    rw [lt_cons] at *
    simp only [Bool.or_eq_false_iff, decide_eq_false_iff_not, Bool.and_eq_false_iff, beq_eq_false_iff_ne, ne_eq] at *
    obtain ⟨h1, h3⟩ := h1
    obtain ⟨h2, h4⟩ := h2
    have e : a = b := UInt8.le_antisymm (UInt8.not_lt.1 h2) (UInt8.not_lt.1 h1)
    subst e
    simp only [not_true_eq_false, false_or] at h3 h4
    rw [lt_tri h3 h4]
theorem lt_asymm {a b : T} (h : lt a b = true) : lt b a = false := by
  cases h2 : lt b a with
  | false => rfl
  | true => have := lt_trans h h2; rw [lt_irrefl] at this; cases this
theorem lt_of_not {a b c : T} (h1 : lt b a = false) (h2 : lt b c = true) : lt a c = true := by
  cases h : lt a b with
  | true => exact lt_trans h h2
  | false => rw [lt_tri h h1]; exact h2
theorem lt_of_not' {a b c : T} (h1 : lt a b = true) (h2 : lt c b = false) : lt a c = true := by
  cases h : lt b c with
  | true => exact lt_trans h1 h
  | false => rw [← lt_tri h h2]; exact h1
/-- How two texts stand. -/
def cmp (a b : T) : Int := if lt a b then -1 else if lt b a then 1 else 0
theorem cmp_lib : ∀ a b : T, Lib.compareBytes a b = cmp a b
  | [], [] => by simp [Lib.compareBytes, cmp, lt_nil]
  | [], _ :: _ => by simp [Lib.compareBytes, cmp, lt_nil_cons]
  | _ :: _, [] => by simp [Lib.compareBytes, cmp, lt_nil, lt_nil_cons]
  | a :: x, b :: y => by
    unfold Lib.compareBytes
    rw [cmp_lib x y]
    unfold cmp
    rw [lt_cons, lt_cons]
    by_cases h1 : a < b
    · simp [h1]
    · by_cases h2 : b < a
      · have : ¬ a = b := fun e => by subst e; exact h1 h2
        simp [h1, h2, this]
      · have : a = b := UInt8.le_antisymm (UInt8.not_lt.1 h2) (UInt8.not_lt.1 h1)
        subst this
        simp [h1]
theorem cmp_zero {a b : T} : cmp a b = 0 ↔ a = b := by
  constructor
  · intro h
    unfold cmp at h
    cases h1 : lt a b with
    | true => simp [h1] at h
    | false =>
      cases h2 : lt b a with
      | true => simp [h1, h2] at h
      | false => exact lt_tri h1 h2
  · rintro rfl
    simp [cmp, lt_irrefl]
theorem cmp_neg (a b : T) : cmp b a = - cmp a b := by
  unfold cmp
  cases h1 : lt a b with
  | true => simp [lt_asymm h1]
  | false => cases h2 : lt b a <;> simp
theorem cmp_bound (a b : T) : -1 ≤ cmp a b ∧ cmp a b ≤ 1 := by
  unfold cmp
  split
  · omega
  · split <;> omega
theorem cmp_le {a b : T} : cmp a b ≤ 0 ↔ lt b a = false := by
  unfold cmp
  cases h1 : lt a b with
  | true => simp [lt_asymm h1]
  | false => cases h2 : lt b a <;> simp
theorem cmp_trans {a b c : T} (h1 : cmp a b ≤ 0) (h2 : cmp b c ≤ 0) : cmp a c ≤ 0 := by
  rw [cmp_le] at *
  cases h : lt c a with
  | false => rfl
  | true =>
    have := lt_of_not' h h1
    rw [h2] at this
    cases this
theorem cmp_less {a b : T} : cmp a b = -1 ↔ lt a b = true := by
  unfold cmp
  cases h1 : lt a b with
  | true => simp
  | false => cases h2 : lt b a <;> simp

/-- A digit of sixteen, in capitals. -/
def hexd (n : Nat) : UInt8 := if n < 10 then (48 + n).toUInt8 else (55 + n).toUInt8
/-- A byte of a literal's text, escaped. -/
def esc (c : UInt8) : List UInt8 :=
  if c = 34 ∨ c = 92 then [92, c] else if c = 10 then [92, 110] else if c = 13 then [92, 114] else if c = 9 then [92, 116] else if c = 8 then [92, 98] else if c = 12 then [92, 102]
  else if c.toNat < 32 ∨ c = 127 then [92, 117, 48, 48, hexd (c.toNat / 16), hexd (c.toNat % 16)] else [c]
def escs (s : T) : T := s.flatMap esc
theorem escs_nil : escs [] = [] := rfl
theorem escs_cons (c : UInt8) (s : T) : escs (c :: s) = esc c ++ escs s := rfl
theorem escs_append (s t : T) : escs (s ++ t) = escs s ++ escs t := by simp [escs]
theorem esc_len (c : UInt8) : 1 ≤ (esc c).length ∧ (esc c).length ≤ 6 := by
  unfold esc
  repeat' split
  all_goals simp
theorem escs_len : ∀ s : T, s.length ≤ (escs s).length ∧ (escs s).length ≤ 6 * s.length
  | [] => by simp [escs]
  | c :: s => by
    have := escs_len s
    have := esc_len c
    rw [escs_cons, List.length_append, List.length_cons]
    omega
/-- What is escaped holds no byte below a blank. -/
theorem esc_plain (c : UInt8) (h1 : 32 ≤ c.toNat) (h2 : c ≠ 127) (h3 : c ≠ 34) (h4 : c ≠ 92) : esc c = [c] := by
  unfold esc
  have e1 : c ≠ 10 := fun e => by subst e; revert h1; decide
  have e2 : c ≠ 13 := fun e => by subst e; revert h1; decide
  have e3 : c ≠ 9 := fun e => by subst e; revert h1; decide
  have e4 : c ≠ 8 := fun e => by subst e; revert h1; decide
  have e5 : c ≠ 12 := fun e => by subst e; revert h1; decide
  have e6 : ¬ c.toNat < 32 := by omega
  simp [h2, h3, h4, e1, e2, e3, e4, e5, e6]

/-- A term as a text: kinds 1 to 5. -/
def showT (k : Nat) (t x : T) : T :=
  if k = 1 then 60 :: (t ++ [62]) else if k = 2 then 95 :: 58 :: t else if k = 3 then 34 :: (escs t ++ [34])
  else if k = 4 then 34 :: (escs t ++ 34 :: 64 :: x) else if k = 5 then 34 :: (escs t ++ 34 :: 94 :: 94 :: 60 :: (x ++ [62])) else []
end Go.Proofs.YtmfnbmbedplgcaaGreatDoor.Tm
