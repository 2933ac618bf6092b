/- The document's reader: digits of sixteen. -/
import Derived.Test.YtmfnbmbedplgcaaGreatDoorLnRd
import Derived.Test.YtmfnbmbedplgcaaGreatDoorTmEnc
namespace Go.Proofs.YtmfnbmbedplgcaaGreatDoor
set_option linter.unusedVariables false
set_option linter.unusedSimpArgs false
set_option maxRecDepth 100000
open Go.ChangeShapes Go.WideShapes Go.ChangeAt Go.RowKit

theorem pow16 (i : Nat) (h : i < 8) : 16 ^ i ≤ 268435456 := by
  rcases (show i = 0 ∨ i = 1 ∨ i = 2 ∨ i = 3 ∨ i = 4 ∨ i = 5 ∨ i = 6 ∨ i = 7 by omega) with rfl | rfl | rfl | rfl | rfl | rfl | rfl | rfl <;> decide
theorem hexL_step (k : Nat) (s : List UInt8) (i x : Nat) (c : UInt8) (h : s[i]? = some c) : Tm.hexL (k + 1) (s.drop i) x = match Tm.hexc c with
    | none => none
    | some d => Tm.hexL k (s.drop (i + 1)) (x * 16 + d) := by
  obtain ⟨hl, e⟩ := List.getElem?_eq_some_iff.1 h
  rw [List.drop_eq_getElem_cons hl, e]
  rfl
theorem hexL_short : ∀ (n : Nat) (s : List UInt8) (x : Nat), s.length < n → Tm.hexL n s x = none
  | 0, s, x, h => by omega
  | n + 1, [], x, h => rfl
  | n + 1, c :: t, x, h => by
    unfold Tm.hexL
    cases Tm.hexc c with
    | none => rfl
    | some d => exact hexL_short n t _ (by simpa using h)
def hexOk (r : Option Nat) : Option Nat := match r with
  | none => none
  | some x => if 1114111 < x ∨ (55296 ≤ x ∧ x ≤ 57343) then none else some x
/-- What hex answers. -/
def hexZ (r : Option Nat) : Int := match r with
  | none => -1
  | some x => x
theorem hexc_dig {c : UInt8} (h : 48 ≤ c.toNat ∧ c.toNat ≤ 57) : Tm.hexc c = some (c.toNat - 48) := by unfold Tm.hexc; rw [if_pos h]
theorem hexc_low {c : UInt8} (h : 97 ≤ c.toNat ∧ c.toNat ≤ 102) : Tm.hexc c = some (c.toNat - 87) := by unfold Tm.hexc; rw [if_neg (by omega), if_pos h]
theorem hexc_cap {c : UInt8} (h : 65 ≤ c.toNat ∧ c.toNat ≤ 70) : Tm.hexc c = some (c.toNat - 55) := by unfold Tm.hexc; rw [if_neg (by omega), if_neg (by omega), if_pos h]
theorem hexc_no {c : UInt8} (h : c.toNat < 48 ∨ (57 < c.toNat ∧ c.toNat < 65) ∨ (70 < c.toNat ∧ c.toNat < 97) ∨ 102 < c.toNat) : Tm.hexc c = none := by unfold Tm.hexc; rw [if_neg (by omega), if_neg (by omega), if_neg (by omega)]
end Go.Proofs.YtmfnbmbedplgcaaGreatDoor
