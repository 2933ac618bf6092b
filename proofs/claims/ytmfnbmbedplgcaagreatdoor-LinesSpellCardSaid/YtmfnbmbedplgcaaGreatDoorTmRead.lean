/- What the document's reader reads of a text up to a sign: plain facts. -/
import Derived.Test.YtmfnbmbedplgcaaGreatDoorTmShow
namespace Go.Proofs.YtmfnbmbedplgcaaGreatDoor.Tm
set_option linter.unusedVariables false
set_option linter.unusedSimpArgs false
open Go Go.RowKit

/-- A digit of sixteen, of either kind. -/
def hexc (c : UInt8) : Option Nat :=
  if 48 ≤ c.toNat ∧ c.toNat ≤ 57 then some (c.toNat - 48) else if 97 ≤ c.toNat ∧ c.toNat ≤ 102 then some (c.toNat - 87) else if 65 ≤ c.toNat ∧ c.toNat ≤ 70 then some (c.toNat - 55) else none
def hexL : Nat → T → Nat → Option Nat
  | 0, _, x => some x
  | _ + 1, [], _ => none
  | n + 1, c :: t, x => match hexc c with
    | none => none
    | some d => hexL n t (x * 16 + d)
/-- The rune that n digits are. -/
def hexR (n : Nat) (s : T) : Option Nat := match hexL n s 0 with
  | none => none
  | some x => if 1114111 < x ∨ (55296 ≤ x ∧ x ≤ 57343) then none else some x
def runeT (x : Nat) : T := (Utf8.encode (x : Int)).data.toList
/-- A letter behind a backslash. -/
def letter (c : UInt8) : Option UInt8 :=
  if c = 34 then some 34 else if c = 92 then some 92 else if c = 110 then some 10 else if c = 114 then some 13 else if c = 116 then some 9 else if c = 98 then some 8 else if c = 102 then some 12 else if c = 39 then some 39 else none
/-- What stands behind a backslash, and how many bytes that takes. -/
def esc1 (lit : Bool) : T → Option (T × Nat)
  | [] => none
  | c :: t => if c = 117 then (hexR 4 t).map (fun x => (runeT x, 5)) else if c = 85 then (hexR 8 t).map (fun x => (runeT x, 9)) else if lit then (letter c).map (fun d => ([d], 1)) else none
/-- What stands up to a sign, and what behind it. -/
def up : Nat → UInt8 → Bool → T → Option (T × T)
  | 0, _, _, _ => none
  | _ + 1, _, _, [] => none
  | f + 1, e, lit, c :: t => if c = e then some ([], t) else if c = 92 then (match esc1 lit t with
      | none => none
      | some (x, n) => (up f e lit (t.drop n)).map (fun r => (x ++ r.1, r.2)))
    else if c = 10 ∨ c = 13 then none else (up f e lit t).map (fun r => (c :: r.1, r.2))

theorem up_plain (e : UInt8) (lit : Bool) : ∀ (s rest : T) (f : Nat), s.length + 1 ≤ f → (∀ c ∈ s, c ≠ e ∧ c ≠ 92 ∧ c ≠ 10 ∧ c ≠ 13) → up f e lit (s ++ e :: rest) = some (s, rest)
  | [], rest, f, hf, _ => by
    obtain ⟨g, rfl⟩ : ∃ g, f = g + 1 := ⟨f - 1, by simp at hf; omega⟩
    simp [up]
  | c :: s, rest, f, hf, h => by
    obtain ⟨g, rfl⟩ : ∃ g, f = g + 1 := ⟨f - 1, by simp at hf; omega⟩
    have hc := h c (by simp)
    rw [List.cons_append, up, up_plain e lit s rest g (by simp at hf; omega) (fun d hd => h d (by simp [hd]))]
    simp [hc]
set_option maxRecDepth 100000 in
theorem hexd_back : ∀ n : Fin 16, hexc (hexd n.val) = some n.val := by decide
set_option maxRecDepth 100000 in
theorem runeT_fin : ∀ x : Fin 128, runeT x.val = [x.val.toUInt8] := by decide
theorem runeT_low {x : Nat} (h : x < 128) : runeT x = [x.toUInt8] := runeT_fin ⟨x, h⟩
theorem hexR_low {c : UInt8} (h : c.toNat < 128) (rest : T) : hexR 4 (48 :: 48 :: hexd (c.toNat / 16) :: hexd (c.toNat % 16) :: rest) = some c.toNat := by
  have e0 : hexc 48 = some 0 := by decide
  have e1 := hexd_back ⟨c.toNat / 16, by omega⟩
  have e2 := hexd_back ⟨c.toNat % 16, by omega⟩
  simp only at e1 e2
  simp only [hexR, hexL, e0, e1, e2]
  rw [if_neg (by omega)]
  congr 1
  omega
theorem up_esc (c : UInt8) (s : T) (f : Nat) : up (f + 1) 34 true (esc c ++ s) = (up f 34 true s).map (fun r => (c :: r.1, r.2)) := by
  unfold esc
  split
  · rename_i h
    rcases h with rfl | rfl <;> simp [up, esc1, letter]
  split
  · rename_i h; subst h; simp [up, esc1, letter]
  split
  · rename_i h; subst h; simp [up, esc1, letter]
  split
  · rename_i h; subst h; simp [up, esc1, letter]
  split
  · rename_i h; subst h; simp [up, esc1, letter]
  split
  · rename_i h; subst h; simp [up, esc1, letter]
  split
  · rename_i h
    have hl : c.toNat < 128 := by
      rcases h with h | rfl
      · omega
      · decide
    have e1 := hexR_low hl s
    have e2 := runeT_low hl
    have e3 : c.toNat.toUInt8 = c := by simp
    simp [up, esc1, e1, e2, e3]
  · rename_i h1 h2 h3 h4 h5 h6 h7
    have a1 : c ≠ 34 := fun e => h1 (.inl e)
    have a2 : c ≠ 92 := fun e => h1 (.inr e)
    simp [up, a1, a2, h2, h3]
theorem up_escs : ∀ (s rest : T) (f : Nat), s.length + 1 ≤ f → up f 34 true (escs s ++ 34 :: rest) = some (s, rest)
  | [], rest, f, hf => by
    obtain ⟨g, rfl⟩ : ∃ g, f = g + 1 := ⟨f - 1, by simp at hf; omega⟩
    simp [up, escs]
  | c :: s, rest, f, hf => by
    obtain ⟨g, rfl⟩ : ∃ g, f = g + 1 := ⟨f - 1, by simp at hf; omega⟩
    rw [escs_cons, List.append_assoc, up_esc, up_escs s rest g (by simp at hf; omega)]
    rfl
end Go.Proofs.YtmfnbmbedplgcaaGreatDoor.Tm
