/- Str, Texts. -/
import Derived.Test.YtjaebndajhppgaaGreatDoorGB
import Derived.WalkLawsBesides
import Derived.WalkSpells

namespace Go.Proofs.YtjaebndajhppgaaGreatDoor
set_option linter.unusedVariables false
set_option maxRecDepth 100000
set_option linter.unusedSimpArgs false
open Go.ChangeShapes Go.WideShapes Go.ChangeAt Go.RowKit

abbrev str (l : List UInt8) : Value := .string ⟨l.toArray⟩
theorem ba_get (l : List UInt8) (n : Nat) (c : UInt8) (h : l[n]? = some c) (p : n < (⟨l.toArray⟩ : ByteArray).size) : (⟨l.toArray⟩ : ByteArray)[n] = c := by
  obtain ⟨h1, h2⟩ := List.getElem?_eq_some_iff.1 h
  show l.toArray[n] = c
  simpa using h2
theorem ba_extract (l : List UInt8) (a b : Nat) : (⟨l.toArray⟩ : ByteArray).extract a b = ⟨((l.drop a).take (b - a)).toArray⟩ := by
  apply ByteArray.ext
  rw [ByteArray.data_extract]
  apply Array.ext'
  simp [List.extract_eq_take_drop]
theorem ba_take (l : List UInt8) (n : Nat) : (⟨l.toArray⟩ : ByteArray).extract 0 n = ⟨(l.take n).toArray⟩ := by rw [ba_extract]; simp
theorem ba_drop (l : List UInt8) (n : Nat) : (⟨l.toArray⟩ : ByteArray).extract n l.length = ⟨(l.drop n).toArray⟩ := by
  rw [ba_extract, ← List.length_drop, List.take_length]
theorem str_of (s : ByteArray) : Value.string s = str s.data.toList := by simp [str]
theorem str_inj {a b : List UInt8} (h : str a = str b) : a = b := by simpa [str] using h
end Go.Proofs.YtjaebndajhppgaaGreatDoor
namespace Go.Proofs.YtjaebndajhppgaaGreatDoor
set_option linter.unusedVariables false
set_option maxRecDepth 100000
set_option linter.unusedSimpArgs false
open Go.ChangeShapes Go.WideShapes Go.ChangeAt Go.RowKit
abbrev TextsAt (W : World) (v : Value) (L : List (List UInt8)) : Prop := SlAt str [] W v L
section
variable {H : Type} {enc : TypeId × Value → H} {W : World}
variable {base : Nat} {t s e : TypeId} {v : Value} {d : DataW H} {p : List MemPlace}
end
end Go.Proofs.YtjaebndajhppgaaGreatDoor
