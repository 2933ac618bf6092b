/- Terms that may be: their texts are valid, short, and read back. -/
import Derived.Test.YtemkbmhcohijnaaGreatDoorTmUtf
import Derived.Test.YtemkbmhcohijnaaGreatDoorTmIs
import Derived.Lib.SmallJoins
namespace Go.Proofs.YtemkbmhcohijnaaGreatDoor
set_option linter.unusedVariables false
set_option linter.unusedSimpArgs false
set_option maxRecDepth 100000
open Go.ChangeShapes Go.WideShapes Go.ChangeAt Go.RowKit
namespace Tm
theorem is_kind {k : Int} {t x : List UInt8} (h : Tm.is k t x = true) : ∃ n : Nat, k = n ∧ 1 ≤ n ∧ n ≤ 5 := by
  unfold Tm.is at h
  refine ⟨k.toNat, ?_⟩
  by_cases h1 : k = 1
  · subst h1; exact ⟨rfl, by decide⟩
  by_cases h2 : k = 2
  · subst h2; exact ⟨rfl, by decide⟩
  by_cases h3 : k = 3
  · subst h3; exact ⟨rfl, by decide⟩
  by_cases h4 : k = 4
  · subst h4; exact ⟨rfl, by decide⟩
  by_cases h5 : k = 5
  · subst h5; exact ⟨rfl, by decide⟩
  rw [if_neg h1, if_neg h2, if_neg h3, if_neg h4, if_neg h5] at h
  cases h
/-- What stands beside a text, kind by kind. -/
theorem is_cases {n : Nat} {t x : List UInt8} (h : Tm.is (n : Int) t x = true) :
    (n = 1 ∧ x = [] ∧ isIRI t = true) ∨ (n = 2 ∧ x = [] ∧ label t = true) ∨ (n = 3 ∧ x = [] ∧ text t = true) ∨ (n = 4 ∧ lang x = true ∧ text t = true) ∨ (n = 5 ∧ isIRI x = true ∧ text t = true) := by
  obtain ⟨m, hm, h1, h5⟩ := is_kind h
  obtain rfl : n = m := by omega
  clear hm
  have hn : n = 1 ∨ n = 2 ∨ n = 3 ∨ n = 4 ∨ n = 5 := by omega
  rcases hn with rfl | rfl | rfl | rfl | rfl
  · have h' : (x.isEmpty && isIRI t) = true := h
    rw [Bool.and_eq_true] at h'
    exact .inl ⟨rfl, by simpa using h'.1, h'.2⟩
  · have h' : (x.isEmpty && label t) = true := h
    rw [Bool.and_eq_true] at h'
    exact .inr (.inl ⟨rfl, by simpa using h'.1, h'.2⟩)
  · have h' : (x.isEmpty && text t) = true := h
    rw [Bool.and_eq_true] at h'
    exact .inr (.inr (.inl ⟨rfl, by simpa using h'.1, h'.2⟩))
  · have h' : (lang x && text t) = true := h
    rw [Bool.and_eq_true] at h'
    exact .inr (.inr (.inr (.inl ⟨rfl, h'.1, h'.2⟩)))
  · have h' : (isIRI x && text t) = true := h
    rw [Bool.and_eq_true] at h'
    exact .inr (.inr (.inr (.inr ⟨rfl, h'.1, h'.2⟩)))
theorem iri_parts {s : List UInt8} (h : isIRI s = true) : 1 ≤ s.length ∧ s.length ≤ 60 ∧ Lib.validD s = true := by
  unfold isIRI at h
  simp only [Bool.and_eq_true, decide_eq_true_eq] at h
  exact ⟨h.1.1.1, h.1.1.2, h.1.2⟩
theorem text_parts {s : List UInt8} (h : text s = true) : s.length ≤ 30 ∧ Lib.validD s = true := by
  unfold text at h
  simp only [Bool.and_eq_true, decide_eq_true_eq] at h
  exact h
theorem label_all {s : List UInt8} (h : label s = true) : 1 ≤ s.length ∧ s.length ≤ 8 ∧ ∀ c ∈ s, alnum c = true := by
  unfold label at h
  simp only [Bool.and_eq_true, decide_eq_true_eq, List.all_eq_true] at h
  exact ⟨h.1.1, h.1.2, h.2⟩
theorem lang_bytes {s : List UInt8} (h : lang s = true) : s.length ≤ 16 ∧ ∀ c ∈ s, c.toNat < 128 := by
  unfold lang at h
  simp only [Bool.and_eq_true, decide_eq_true_eq] at h
  refine ⟨h.2, fun c hc => ?_⟩
  have := pass_bytes s false 0 h.1 c hc
  simp only [small, digit, Bool.or_eq_true, Bool.and_eq_true, decide_eq_true_eq, beq_iff_eq] at this
  rcases this with (h | h) | h
  · omega
  · omega
  · subst h; decide
theorem alnum_lt {c : UInt8} (h : alnum c = true) : c.toNat < 128 := by
  simp only [alnum, small, digit, Bool.or_eq_true, Bool.and_eq_true, decide_eq_true_eq] at h; omega
theorem valid_two {a b : List UInt8} (ha : Lib.validD a = true) (hb : Lib.validD b = true) : Lib.validD (a ++ b) = true := by
  rw [valid_app _ _ _ (Nat.le_refl _) ha, hb]
theorem valid_cons {c : UInt8} {b : List UInt8} (hc : c.toNat < 128) (hb : Lib.validD b = true) : Lib.validD (c :: b) = true := by
  rw [Lib.validD_cons _ _ hc, hb]
theorem show_valid {n : Nat} {t x : List UInt8} (h : Tm.is (n : Int) t x = true) : Lib.validD (showT n t x) = true := by
  rcases is_cases h with ⟨rfl, rfl, h1⟩ | ⟨rfl, rfl, h1⟩ | ⟨rfl, rfl, h1⟩ | ⟨rfl, h1, h2⟩ | ⟨rfl, h1, h2⟩
  · show Lib.validD (60 :: (t ++ [62])) = true
    exact valid_cons (by decide) (valid_two (iri_parts h1).2.2 (by decide))
  · show Lib.validD (95 :: 58 :: t) = true
    exact valid_cons (by decide) (valid_cons (by decide) (valid_low _ (fun c hc => alnum_lt ((label_all h1).2.2 c hc))))
  · show Lib.validD (34 :: (escs t ++ [34])) = true
    exact valid_cons (by decide) (valid_two (valid_escs _ _ (Nat.le_refl _) (text_parts h1).2) (by decide))
  · show Lib.validD (34 :: (escs t ++ 34 :: 64 :: x)) = true
    exact valid_cons (by decide) (valid_two (valid_escs _ _ (Nat.le_refl _) (text_parts h2).2) (valid_cons (by decide) (valid_cons (by decide) (valid_low _ (lang_bytes h1).2))))
  · show Lib.validD (34 :: (escs t ++ 34 :: 94 :: 94 :: 60 :: (x ++ [62]))) = true
    exact valid_cons (by decide) (valid_two (valid_escs _ _ (Nat.le_refl _) (text_parts h2).2) (valid_cons (by decide) (valid_cons (by decide) (valid_cons (by decide) (valid_cons (by decide) (valid_two (iri_parts h1).2.2 (by decide)))))))
theorem show_len {n : Nat} {t x : List UInt8} (h : Tm.is (n : Int) t x = true) : (showT n t x).length ≤ 250 ∧ t.length ≤ 60 ∧ x.length ≤ 60 := by
  have he := escs_len t
  rcases is_cases h with ⟨rfl, rfl, h1⟩ | ⟨rfl, rfl, h1⟩ | ⟨rfl, rfl, h1⟩ | ⟨rfl, h1, h2⟩ | ⟨rfl, h1, h2⟩
  · have := iri_parts h1
    refine ⟨?_, by omega, by simp⟩
    show (60 :: (t ++ [62])).length ≤ 250
    simp; omega
  · have := label_all h1
    refine ⟨?_, by omega, by simp⟩
    show (95 :: 58 :: t).length ≤ 250
    simp; omega
  · have := text_parts h1
    refine ⟨?_, by omega, by simp⟩
    show (34 :: (escs t ++ [34])).length ≤ 250
    simp; omega
  · have := text_parts h2
    have := lang_bytes h1
    refine ⟨?_, by omega, by omega⟩
    show (34 :: (escs t ++ 34 :: 64 :: x)).length ≤ 250
    simp; omega
  · have := text_parts h2
    have := iri_parts h1
    refine ⟨?_, by omega, by omega⟩
    show (34 :: (escs t ++ 34 :: 94 :: 94 :: 60 :: (x ++ [62]))).length ≤ 250
    simp; omega
theorem show_read {n : Nat} {t x : List UInt8} (h : Tm.is (n : Int) t x = true) : rterm (showT n t x) = some (n, t, x, []) := by
  rcases is_cases h with ⟨rfl, rfl, h1⟩ | ⟨rfl, rfl, h1⟩ | ⟨rfl, rfl, h1⟩ | ⟨rfl, h1, h2⟩ | ⟨rfl, h1, h2⟩
  · exact rterm_iri (isIRI_sign h1)
  · exact rterm_blank (label_all h1).2.2
  · exact rterm_plain t
  · exact rterm_lang h1
  · exact rterm_typed (isIRI_sign h1)
theorem show_inj {n m : Nat} {t x u y : List UInt8} (h : Tm.is (n : Int) t x = true) (h2 : Tm.is (m : Int) u y = true) : showT n t x = showT m u y ↔ (n = m ∧ t = u ∧ x = y) := by
  constructor
  · intro e
    have := show_read h
    rw [e, show_read h2] at this
    simp only [Option.some.injEq, Prod.mk.injEq] at this
    exact ⟨this.1.symm, this.2.1.symm, this.2.2.1.symm⟩
  · rintro ⟨rfl, rfl, rfl⟩; rfl
end Tm
/-- A term, as an argument reads. -/
theorem arg_term {H : Type} {enc : TypeId × Value → H} {W : World} {base : Nat} {v : Value} {d : DataW H} {p : List MemPlace} (hv : Value.okWide Tryz.prog W .any base 23 v) (h : DataW.Trod enc Tryz.prog W 0 (fun _ => true) true 23 v d p) :
    ∃ (k : Int) (t x : List UInt8), v = tmV k t x ∧ (-9223372036854775808 ≤ k ∧ k ≤ 9223372036854775807) ∧ t.length ≤ 9223372036854775807 ∧ x.length ≤ 9223372036854775807 := by
  obtain ⟨v0, v1, v2, y0, y1, y2, n, rfl, _, _, h0, h1, h2⟩ := Go.Joins.open_agg3 Tryz.underlying23 (by kernel_rfl) (by kernel_rfl) hv h
  obtain ⟨k, e0, _, w0⟩ := DataW.trod_int Tryz.underlying3 h0
  obtain ⟨t, e1, _, w1⟩ := DataW.trod_string Tryz.underlying9 h1
  obtain ⟨x, e2, _, w2⟩ := DataW.trod_string Tryz.underlying9 h2
  simp only [List.cons.injEq, and_true] at e0 e1 e2
  have l1 : t.data.toList.length = t.size := Array.length_toList
  have l2 : x.data.toList.length = x.size := Array.length_toList
  unfold maxLen at w1 w2
  exact ⟨k, t.data.toList, x.data.toList, by rw [e0, e1, e2, str_of t, str_of x], bounds_i64 w0, by omega, by omega⟩
end Go.Proofs.YtemkbmhcohijnaaGreatDoor
