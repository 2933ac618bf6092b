/- The document's reader: small letters. -/
import Derived.Test.YtemkbmhcohijnaaGreatDoorLnRd
import Derived.Laws.IdiomStrings
namespace Go.Proofs.YtemkbmhcohijnaaGreatDoor
set_option linter.unusedVariables false
set_option linter.unusedSimpArgs false
set_option maxRecDepth 100000
open Go.ChangeShapes Go.WideShapes Go.ChangeAt Go.RowKit

/-- A block, its cells and its mark. -/
def BlkF (w : World) (b : Nat) (A : List Value) (t : TypeId) (fr : Nat × Nat) : Prop := w.heap[b]? = some (.cells A.toArray t fr)
theorem BlkF.lt {w : World} {b : Nat} {A : List Value} {t : TypeId} {fr : Nat × Nat} (h : BlkF w b A t fr) : b < w.heap.size := lt_of_block h
theorem BlkF.cell {w : World} {b : Nat} {A : List Value} {t : TypeId} {fr : Nat × Nat} (h : BlkF w b A t fr) {i : Nat} {v : Value} (hv : A[i]? = some v) : w.cell? ⟨b, i, none⟩ = some v := by
  unfold BlkF at h; simp [World.cell?, h, hv]
theorem BlkF.free {w : World} {b : Nat} {A : List Value} {t : TypeId} {fr : Nat × Nat} (h : BlkF w b A t fr) (i : Nat) (hi : i < fr.1) : w.frozen? ⟨b, i, none⟩ = false := by
  unfold BlkF at h; simp [World.frozen?, h]; omega
theorem BlkF.set {w : World} {b : Nat} {A : List Value} {t : TypeId} {fr : Nat × Nat} (h : BlkF w b A t fr) (i : Nat) (v : Value) : BlkF (w.setCell ⟨b, i, none⟩ v) b (A.set i v) t fr := by
  have hlt := h.lt
  unfold BlkF at *
  have h' : w.heap[b] = .cells A.toArray t fr := by simpa [Array.getElem?_eq_getElem hlt] using h
  show (w.heap.modify b _)[b]? = _
  rw [Array.getElem?_eq_getElem (by simpa using hlt), Array.getElem_modify_self, h']
  simp
theorem size_of_text2 (l : List UInt8) : (⟨l.toArray⟩ : ByteArray).size = l.length := rfl
theorem lower_low {c : UInt8} (h : c.toNat < 65 ∨ 90 < c.toNat) : Tm.lower c = c := by unfold Tm.lower; rw [if_neg (by omega)]
theorem lower_cap {c : UInt8} (h : 65 ≤ c.toNat ∧ c.toNat ≤ 90) : (Tm.lower c).toNat = c.toNat + 32 := by
  unfold Tm.lower; rw [if_pos h]; simp; omega
/-- The first i of them small. -/
def lowN (s : List UInt8) (i : Nat) : List UInt8 := (s.take i).map Tm.lower ++ s.drop i
theorem lowN_len (s : List UInt8) (i : Nat) : (lowN s i).length = s.length := by unfold lowN; rw [List.length_append, List.length_map, List.length_take, List.length_drop]; omega
theorem lowN_at {s : List UInt8} {i : Nat} {c : UInt8} (h : s[i]? = some c) : (lowN s i)[i]? = some c := by
  obtain ⟨hl, e⟩ := List.getElem?_eq_some_iff.1 h
  unfold lowN
  rw [List.getElem?_append_right (by simp; omega)]
  simp [show min i s.length = i by omega, h]
theorem lowN_step {s : List UInt8} {i : Nat} {c : UInt8} (h : s[i]? = some c) : lowN s (i + 1) = (lowN s i).set i (Tm.lower c) := by
  obtain ⟨hl, e⟩ := List.getElem?_eq_some_iff.1 h
  unfold lowN
  rw [List.set_append_right _ _ (by simp; omega), List.take_add_one, h]
  simp [show min i s.length = i by omega]
  rw [List.drop_eq_getElem_cons hl]; rfl
theorem lowN_same {s : List UInt8} {i : Nat} {c : UInt8} (h : s[i]? = some c) (hc : Tm.lower c = c) : lowN s (i + 1) = lowN s i := by
  rw [lowN_step h, hc]
  obtain ⟨hl, e⟩ := List.getElem?_eq_some_iff.1 (lowN_at h)
  rw [← e]; simp
theorem lowN_all (s : List UInt8) : lowN s s.length = s.map Tm.lower := by unfold lowN; simp
theorem byv_set (A : List UInt8) (pad : List Value) (i : Nat) (c : UInt8) (h : i < A.length) : (A.map byv ++ pad).set i (byv c) = (A.set i c).map byv ++ pad := by
  rw [List.set_append_left _ _ (by simpa using h), List.map_set]
theorem byv_get {A : List UInt8} {pad : List Value} {i : Nat} {c : UInt8} (h : A[i]? = some c) : (A.map byv ++ pad)[i]? = some (byv c) := by
  obtain ⟨hl, e⟩ := List.getElem?_eq_some_iff.1 h
  rw [List.getElem?_append_left (by simpa using hl)]
  simp [h]
set_option maxHeartbeats 1000000 in
theorem rsmall_any (s : List UInt8) (w : World) (hl : s.length ≤ 1000000000) :
    Calls Tryz.prog 52 #[str s] w fun e w' => e = .returned (str (s.map Tm.lower)) ∧ Below w.heap.size w w' := by
  have h0 := run_bytes_of_string (P := Tryz.prog) w 9 63 5 ⟨s.toArray⟩ Tryz.underlying9 Tryz.underlying63 Tryz.underlying5
  obtain ⟨cap, hcap⟩ : ∃ c, c = grownCap w (⟨s.toArray⟩ : ByteArray).size 0 5 := ⟨_, rfl⟩
  have hge : s.length ≤ cap := by rw [hcap]; exact grownCap_ge _ _ _ _
  rw [← hcap, size_of_text2] at h0
  obtain ⟨pad, hpad⟩ : ∃ pad : List Value, (bytesRow ⟨s.toArray⟩ cap).toList = s.map byv ++ pad := ⟨List.replicate (cap - s.length) (.int .u8 0), by simp [bytesRow, byv, Function.comp_def]; rfl⟩
  have hsz : s.length ≤ (bytesRow ⟨s.toArray⟩ cap).size := by rw [← Array.length_toList, hpad]; simp
  obtain ⟨fr, hfr⟩ : ∃ fr, fr = ((bytesRow ⟨s.toArray⟩ cap).size, (bytesRow ⟨s.toArray⟩ cap).size + 1) := ⟨_, rfl⟩
  rw [← hfr] at h0
  have hfr1 : s.length ≤ fr.1 := by rw [hfr]; exact hsz
  obtain ⟨w1, hw1⟩ : ∃ w1, w1 = w.drew.alloc (.cells (bytesRow ⟨s.toArray⟩ cap) 5 fr) := ⟨_, rfl⟩
  rw [← hw1] at h0
  have HB1 := hid (show BlkF w1 w.heap.size ((lowN s 0).map byv ++ pad) 5 fr by
    rw [show lowN s 0 = s by simp [lowN], ← hpad, hw1]
    have := heap_alloc_new w.drew (.cells (bytesRow ⟨s.toArray⟩ cap) 5 fr)
    unfold BlkF; rw [Array.toArray_toList]; exact this)
  have HW1 := hid (show Below w.heap.size w w1 by rw [hw1]; exact (Below.refl _ _).drew.alloc (Nat.le_refl _) _)
  clear hcap hpad hsz hfr hw1
  go_enter Tryz.func52, Tryz.ntmps52
  go_wp2
  go_loopw [4] (fun s4 wr => ∃ i : Nat, i ≤ s.length ∧ s4 = .int .i64 i ∧ Hid (BlkF wr w.heap.size ((lowN s i).map byv ++ pad) 5 fr) ∧ Hid (Below w.heap.size w wr)) (fun s4 _ => s.length - (intOf s4).toNat)
  case atStart => exact ⟨0, by omega, rfl, HB1, HW1⟩
  case round =>
    obtain ⟨i, hi, rfl, HK, HB⟩ := hrel
    by_cases hlt : i < s.length
    · obtain ⟨c, hc⟩ : ∃ c, s[i]? = some c := ⟨_, List.getElem?_eq_getElem hlt⟩
      have c0 : wr.cell? ⟨w.heap.size, i, none⟩ = some (.int .u8 (c.toNat : Nat)) := HK.out.cell (byv_get (lowN_at hc))
      have f0 := HK.out.free i (by omega)
      have hc256 : c.toNat < 256 := c.toNat_lt
      by_cases h : 65 ≤ c.toNat ∧ c.toNat ≤ 90
      · have hlo := lower_cap h
        have HS := hid (show BlkF (wr.setCell ⟨w.heap.size, i, none⟩ (.int .u8 ((c.toNat : Int) + 32))) w.heap.size ((lowN s (i + 1)).map byv ++ pad) 5 fr by
          have := HK.out.set i (byv (Tm.lower c))
          rw [byv_set _ _ _ _ (by rw [lowN_len]; exact hlt), ← lowN_step hc] at this
          have e : byv (Tm.lower c) = .int .u8 ((c.toNat : Int) + 32) := by unfold byv; rw [hlo]; congr 1
          rwa [e] at this)
        have HB2 := hid (show Below w.heap.size w (wr.setCell ⟨w.heap.size, i, none⟩ (.int .u8 ((c.toNat : Int) + 32))) from HB.out.setCell (Nat.le_refl _) _)
        obtain ⟨h1, h2⟩ := h
        clear hc hlo
        go_wp2
        go_roundw
        case rel => exact ⟨i + 1, by omega, by go_num, HS, HB2⟩
        case measure => simp [intOf]; omega
      · have HS := hid (show BlkF wr w.heap.size ((lowN s (i + 1)).map byv ++ pad) 5 fr by rw [lowN_same hc (lower_low (by omega))]; exact HK.out)
        clear hc
        rcases (show c.toNat < 65 ∨ 90 < c.toNat by omega) with h3 | h3
        all_goals
          clear h
          go_wp2
          go_roundw
          case rel => exact ⟨i + 1, by omega, by go_num, HS, HB⟩
          case measure => simp [intOf]; omega
    · obtain rfl : i = s.length := by omega
      have cv := conv_bytes (P := Tryz.prog) wr 63 5 9 Tryz.underlying63 Tryz.underlying5 Tryz.underlying9 (some ⟨w.heap.size, 0, none⟩) s.length cap ((s.map Tm.lower).map UInt8.toNat) (by simp) (Or.inr ⟨_, _, rfl, fun j hj => by
        rw [Nat.zero_add]
        have hj' : j < (s.map Tm.lower).length := by simpa using hj
        have := HK.out.cell (byv_get (pad := pad) (A := lowN s s.length) (i := j) (c := (s.map Tm.lower)[j]) (by rw [lowN_all]; exact List.getElem?_eq_getElem hj'))
        rw [this]
        simp [byv, List.getD, hj]⟩)
      rw [strOf_toNat] at cv
      go_wp2
      go_ret
      exact ⟨rfl, HB.out⟩
end Go.Proofs.YtemkbmhcohijnaaGreatDoor
