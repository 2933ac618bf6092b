/- The document's reader: small letters. -/
import Derived.Test.YtmfnbmbedplgcaaGreatDoorLnRd
import Derived.Laws.IdiomStrings
namespace Go.Proofs.YtmfnbmbedplgcaaGreatDoor
set_option linter.unusedVariables false
set_option linter.unusedSimpArgs false
set_option maxRecDepth 100000
open Go.ChangeShapes Go.WideShapes Go.ChangeAt Go.RowKit

/-- A block, its cells and its mark. -/
def BlkF (w : World) (b : Nat) (A : List Value) (t : TypeId) (fr : Nat × Nat) : Prop := w.heap[b]? = some (.cells A.toArray t fr)
theorem BlkF.lt {w : World} {b : Nat} {A : List Value} {t : TypeId} {fr : Nat × Nat} (h : BlkF w b A t fr) : b < w.heap.size := lt_of_block h
theorem BlkF.cell {w : World} {b : Nat} {A : List Value} {t : TypeId} {fr : Nat × Nat} (h : BlkF w b A t fr) {i : Nat} {v : Value} (hv : A[i]? = some v) : w.cell? ⟨b, i, none⟩ = some v := by
  unfold BlkF at h; simp [World.cell?, h, hv]
theorem BlkF.free {w : World} {b : Nat} {A : List Value} {t : TypeId} {fr : Nat × Nat} (h : BlkF w b A t fr) (i : Nat) (hi : i < fr.1) : w.frozen? ⟨b, i, none⟩ = false := by
  unfold BlkF at h; simp [World.frozen?, h]; omega
theorem BlkF.set {w : World} {b : Nat} {A : List Value} {t : TypeId} {fr : Nat × Nat} (h : BlkF w b A t fr) (i : Nat) (v : Value) : BlkF (w.setCell ⟨b, i, none⟩ v) b (A.set i v) t fr := by
  have hlt := h.lt
  unfold BlkF at *
  have h' : w.heap[b] = .cells A.toArray t fr := by simpa [Array.getElem?_eq_getElem hlt] using h
  show (w.heap.modify b _)[b]? = _
  rw [Array.getElem?_eq_getElem (by simpa using hlt), Array.getElem_modify_self, h']
  simp
theorem size_of_text2 (l : List UInt8) : (⟨l.toArray⟩ : ByteArray).size = l.length := rfl
theorem lower_low {c : UInt8} (h : c.toNat < 65 ∨ 90 < c.toNat) : Tm.lower c = c := by unfold Tm.lower; rw [if_neg (by omega)]
theorem lower_cap {c : UInt8} (h : 65 ≤ c.toNat ∧ c.toNat ≤ 90) : (Tm.lower c).toNat = c.toNat + 32 := by
  unfold Tm.lower; rw [if_pos h]; simp; omega
/-- The first i of them small. -/
def lowN (s : List UInt8) (i : Nat) : List UInt8 := (s.take i).map Tm.lower ++ s.drop i
theorem lowN_len (s : List UInt8) (i : Nat) : (lowN s i).length = s.length := by unfold lowN; rw [List.length_append, List.length_map, List.length_take, List.length_drop]; omega
theorem lowN_at {s : List UInt8} {i : Nat} {c : UInt8} (h : s[i]? = some c) : (lowN s i)[i]? = some c := by
  obtain ⟨hl, e⟩ := List.getElem?_eq_some_iff.1 h
  unfold lowN
  rw [List.getElem?_append_right (by simp; omega)]
  simp [show min i s.length = i by omega, h]
theorem lowN_step {s : List UInt8} {i : Nat} {c : UInt8} (h : s[i]? = some c) : lowN s (i + 1) = (lowN s i).set i (Tm.lower c) := by
  obtain ⟨hl, e⟩ := List.getElem?_eq_some_iff.1 h
  unfold lowN
  rw [List.set_append_right _ _ (by simp; omega), List.take_add_one, h]
  simp [show min i s.length = i by omega]
  rw [List.drop_eq_getElem_cons hl]; rfl
theorem lowN_same {s : List UInt8} {i : Nat} {c : UInt8} (h : s[i]? = some c) (hc : Tm.lower c = c) : lowN s (i + 1) = lowN s i := by
  rw [lowN_step h, hc]
  obtain ⟨hl, e⟩ := List.getElem?_eq_some_iff.1 (lowN_at h)
  rw [← e]; simp
theorem lowN_all (s : List UInt8) : lowN s s.length = s.map Tm.lower := by unfold lowN; simp
theorem byv_set (A : List UInt8) (pad : List Value) (i : Nat) (c : UInt8) (h : i < A.length) : (A.map byv ++ pad).set i (byv c) = (A.set i c).map byv ++ pad := by
  rw [List.set_append_left _ _ (by simpa using h), List.map_set]
theorem byv_get {A : List UInt8} {pad : List Value} {i : Nat} {c : UInt8} (h : A[i]? = some c) : (A.map byv ++ pad)[i]? = some (byv c) := by
  obtain ⟨hl, e⟩ := List.getElem?_eq_some_iff.1 h
  rw [List.getElem?_append_left (by simpa using hl)]
  simp [h]
end Go.Proofs.YtmfnbmbedplgcaaGreatDoor
