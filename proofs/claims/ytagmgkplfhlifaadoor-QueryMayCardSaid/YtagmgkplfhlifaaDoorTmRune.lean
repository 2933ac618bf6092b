/- Runes of a text, and which may stand in an IRI: plain facts. -/
import Derived.WalkKit
import Derived.Lib.TrimUEq
import Derived.Lib.ValidLaws
namespace Go.Proofs.YtagmgkplfhlifaaDoor.Tm
set_option linter.unusedVariables false
set_option maxRecDepth 100000
set_option linter.unusedSimpArgs false
open Go

/-- May a rune stand in an IRI? -/
def irune (r : Nat) : Bool := decide (160 ≤ r) || (decide (33 ≤ r) && decide (r ≤ 126) && !([34, 60, 62, 92, 94, 96, 123, 124, 125].contains r))
/-- Are all runes so (n: a bound on their number)? -/
def runesAll (p : Nat → Bool) : Nat → List UInt8 → Bool
  | 0, _ => true
  | _ + 1, [] => true
  | n + 1, b :: t => p (Lib.decodeL (b :: t)).1 && runesAll p n ((b :: t).drop (Lib.decodeL (b :: t)).2)
theorem runesAll_nil (p : Nat → Bool) : ∀ n, runesAll p n [] = true
  | 0 => rfl
  | _ + 1 => rfl
theorem runesAll_step (p : Nat → Bool) (n : Nat) (l : List UInt8) (h : l ≠ []) : runesAll p (n + 1) l = (p (Lib.decodeL l).1 && runesAll p n (l.drop (Lib.decodeL l).2)) := by
  cases l with
  | nil => exact absurd rfl h
  | cons b t => rfl
theorem runesAll_fuel (p : Nat → Bool) : ∀ (n m : Nat) (l : List UInt8), l.length ≤ n → l.length ≤ m → runesAll p n l = runesAll p m l
  | 0, m, l, hn, _ => by
    have : l = [] := List.eq_nil_of_length_eq_zero (by omega)
    subst this
    rw [runesAll_nil, runesAll_nil]
  | n + 1, 0, l, _, hm => by
    have : l = [] := List.eq_nil_of_length_eq_zero (by omega)
    subst this
    rw [runesAll_nil, runesAll_nil]
  | n + 1, m + 1, l, hn, hm => by
    by_cases hne : l = []
    · subst hne; rfl
    · have hw := Lib.decodeL_width l
      have hl : 0 < l.length := List.length_pos_iff.2 hne
      rw [runesAll_step p n l hne, runesAll_step p m l hne, runesAll_fuel p n m _ (by rw [List.length_drop]; omega) (by rw [List.length_drop]; omega)]
/-- What is behind a rune's first byte is none below 128. -/
theorem decodeN_tail (n b0 b1 b2 b3 : Nat) : (2 ≤ (Lib.decodeN n b0 b1 b2 b3).2 → b1 / 64 = 2) ∧ (3 ≤ (Lib.decodeN n b0 b1 b2 b3).2 → b2 / 64 = 2) ∧ (4 ≤ (Lib.decodeN n b0 b1 b2 b3).2 → b3 / 64 = 2) ∧ (Lib.decodeN n b0 b1 b2 b3).2 ≤ 4 := by
  unfold Lib.decodeN
  repeat' split
  all_goals simp_all
/-- Bytes below 128 are runes. -/
theorem runes_low (p : Nat → Bool) : ∀ (n : Nat) (l : List UInt8), l.length ≤ n → runesAll p n l = true → ∀ c ∈ l, c.toNat < 128 → p c.toNat = true
  | 0, l, hn, _, c, hc, _ => by
    have : l = [] := List.eq_nil_of_length_eq_zero (by omega)
    subst this
    simp at hc
  | n + 1, [], _, _, c, hc, _ => by simp at hc
  | n + 1, b :: t, hn, h, c, hc, hl => by
    have hw := Lib.decodeL_width (b :: t)
    rw [runesAll_step p n _ (by simp), Bool.and_eq_true] at h
    by_cases hb : b.toNat < 128
    · have hd := Lib.decodeL_ascii b t hb
      rw [hd] at h
      rcases List.mem_cons.1 hc with rfl | hc
      · exact h.1
      · exact runes_low p n t (by simp at hn; omega) (by simpa using h.2) c hc hl
    · have hs := List.take_append_drop (Lib.decodeL (b :: t)).2 (b :: t)
      rw [← hs] at hc
      rcases List.mem_append.1 hc with hc | hc
      · exfalso
        obtain ⟨k, hk, e⟩ := List.mem_iff_getElem.1 hc
        have hkw : k < (Lib.decodeL (b :: t)).2 := by rw [List.length_take] at hk; omega
        have hkl : k < (b :: t).length := by rw [List.length_take] at hk; omega
        have e2 : (b :: t).getD k 0 = c := by
          rw [← e, List.getElem_take]
          rw [List.getD, List.getElem?_eq_getElem hkl]
          rfl
        have ht := decodeN_tail (b :: t).length ((b :: t).getD 0 0).toNat ((b :: t).getD 1 0).toNat ((b :: t).getD 2 0).toNat ((b :: t).getD 3 0).toNat
        rw [← Lib.decodeL_N] at ht
        obtain ⟨t1, t2, t3, t4⟩ := ht
        have : k = 0 ∨ k = 1 ∨ k = 2 ∨ k = 3 := by omega
        rcases this with rfl | rfl | rfl | rfl
        · simp at e2; subst e2; exact hb hl
        · have := t1 (by omega); rw [e2] at this; omega
        · have := t2 (by omega); rw [e2] at this; omega
        · have := t3 (by omega); rw [e2] at this; omega
      · exact runes_low p n _ (by rw [List.length_drop]; simp at hn hw ⊢; omega) h.2 c hc hl
/-- Is a text an IRI? -/
def isIRI (s : List UInt8) : Bool := decide (1 ≤ s.length) && decide (s.length ≤ 60) && Lib.validD s && runesAll irune s.length s
theorem isIRI_sign {s : List UInt8} (h : isIRI s = true) : ∀ c ∈ s, c ≠ 62 ∧ c ≠ 92 ∧ c ≠ 10 ∧ c ≠ 13 := by
  intro c hc
  unfold isIRI at h
  simp only [Bool.and_eq_true] at h
  have hp := runes_low irune s.length s (Nat.le_refl _) h.2 c hc
  refine ⟨?_, ?_, ?_, ?_⟩ <;> (rintro rfl; exact absurd (hp (by decide)) (by decide))
end Go.Proofs.YtagmgkplfhlifaaDoor.Tm
