/- What the document's reader reads of a term's text: plain facts. -/
import Derived.Test.YtmfnbmbedplgcaaGreatDoorTmMath
import Derived.Test.YtmfnbmbedplgcaaGreatDoorTmRead
namespace Go.Proofs.YtmfnbmbedplgcaaGreatDoor.Tm
set_option linter.unusedVariables false
set_option maxRecDepth 100000
set_option linter.unusedSimpArgs false
open Go Go.RowKit

def alnum (c : UInt8) : Bool := small c || (decide (65 ≤ c.toNat) && decide (c.toNat ≤ 90)) || digit c
/-- A capital letter as a small one. -/
def lower (c : UInt8) : UInt8 := if 65 ≤ c.toNat ∧ c.toNat ≤ 90 then (c.toNat + 32).toUInt8 else c
def alnumD (c : UInt8) : Bool := alnum c || c == 45
/-- A term that stands at a text's head: its kind, text, what is beside, and what is left. -/
def rterm (s : T) : Option (Nat × T × T × T) :=
  match s with
  | [] => none
  | c :: r =>
    if c = 60 then (up (r.length + 1) 62 false r).map (fun q => (1, q.1, [], q.2))
    else if c = 95 then (if r.headD 0 = 58 then some (2, r.tail.takeWhile alnum, [], r.tail.dropWhile alnum) else none)
    else if c = 34 then (match up (r.length + 1) 34 true r with
      | none => none
      | some (t, v) => if v.headD 0 = 64 then some (4, t, (v.tail.takeWhile alnumD).map lower, v.tail.dropWhile alnumD)
        else if v.take 3 = [94, 94, 60] then (up (v.length + 1) 62 false (v.drop 3)).map (fun q => (5, t, q.1, q.2))
        else some (3, t, [], v))
    else none

theorem takeWhile_all {p : UInt8 → Bool} : ∀ {l : T}, (∀ c ∈ l, p c = true) → l.takeWhile p = l ∧ l.dropWhile p = []
  | [], _ => ⟨rfl, rfl⟩
  | c :: l, h => by
    have hc := h c (by simp)
    have ih := takeWhile_all (l := l) (fun d hd => h d (by simp [hd]))
    simp [List.takeWhile, List.dropWhile, hc, ih.1, ih.2]
/-- A language's bytes. -/
theorem pass_bytes : ∀ (s : T) (d : Bool) (n : Nat), pass d n s = true → ∀ c ∈ s, (small c || digit c || c == 45) = true
  | [], _, _, _, _, hc => by simp at hc
  | b :: t, d, n, h, c, hc => by
    unfold pass at h
    by_cases h1 : b = 45 ∧ 1 ≤ n
    · rw [if_pos h1] at h
      rcases List.mem_cons.1 hc with rfl | hc
      · simp [h1.1]
      · exact pass_bytes t true 0 h c hc
    · rw [if_neg h1] at h
      by_cases h2 : (small b || (digit b && d)) = true
      · rw [if_pos h2] at h
        by_cases h3 : 8 < n + 1
        · simp [h3] at h
        · rw [if_neg h3] at h
          rcases List.mem_cons.1 hc with rfl | hc
          · cases hs : small c
            · simp [hs] at h2
              simp [h2.1]
            · simp
          · exact pass_bytes t d (n + 1) h c hc
      · rw [if_neg h2] at h; cases h
theorem lower_small {c : UInt8} (h : (small c || digit c || c == 45) = true) : lower c = c := by
  unfold lower
  rw [if_neg]
  intro e
  simp only [small, digit, Bool.or_eq_true, Bool.and_eq_true, decide_eq_true_eq, beq_iff_eq] at h
  rcases h with (h | h) | h
  · omega
  · omega
  · subst h; revert e; decide
theorem alnumD_small {c : UInt8} (h : (small c || digit c || c == 45) = true) : alnumD c = true := by
  unfold alnumD alnum
  revert h
  cases small c <;> cases digit c <;> cases (c == 45) <;> simp
theorem map_lower {s : T} (h : ∀ c ∈ s, (small c || digit c || c == 45) = true) : s.map lower = s := by
  induction s with
  | nil => rfl
  | cons c s ih => rw [List.map_cons, ih (fun d hd => h d (by simp [hd])), lower_small (h c (by simp))]
/-- Bytes that stand in no IRI. -/
def noSign (t : T) : Prop := ∀ c ∈ t, c ≠ 62 ∧ c ≠ 92 ∧ c ≠ 10 ∧ c ≠ 13
theorem rterm_iri {t : T} (h : noSign t) : rterm (showT 1 t []) = some (1, t, [], []) := by
  have := up_plain 62 false t [] (t.length + 1 + 1) (by omega) h
  simp [rterm, showT, this]
theorem rterm_blank {t : T} (h : ∀ c ∈ t, alnum c = true) : rterm (showT 2 t []) = some (2, t, [], []) := by
  have := takeWhile_all h
  simp [rterm, showT, this.1, this.2]
theorem rterm_plain (t : T) : rterm (showT 3 t []) = some (3, t, [], []) := by
  have hl := escs_len t
  have := up_escs t [] ((escs t).length + 1 + 1) (by omega)
  simp [rterm, showT, this]
theorem rterm_lang {t x : T} (h : lang x = true) : rterm (showT 4 t x) = some (4, t, x, []) := by
  have hb := pass_bytes x false 0 (by unfold lang at h; simp at h; exact h.1)
  have hl := escs_len t
  have h1 := up_escs t (64 :: x) ((escs t ++ 34 :: 64 :: x).length + 1) (by simp; omega)
  have h2 := takeWhile_all (p := alnumD) (l := x) (fun c hc => alnumD_small (hb c hc))
  have h3 := map_lower hb
  have h4 := h2.1
  have h5 := h2.2
  clear hb h2
  simp at h1
  simp [rterm, showT, h1, h4, h5, h3]
theorem rterm_typed {t x : T} (h : noSign x) : rterm (showT 5 t x) = some (5, t, x, []) := by
  have hl := escs_len t
  have h1 := up_escs t (94 :: 94 :: 60 :: (x ++ [62])) ((escs t ++ 34 :: 94 :: 94 :: 60 :: (x ++ [62])).length + 1) (by simp <;> omega)
  have h2 := up_plain 62 false x [] ((94 :: 94 :: 60 :: (x ++ [62])).length + 1) (by simp <;> omega) h
  simp at h1 h2
  simp [rterm, showT, h1, h2]
end Go.Proofs.YtmfnbmbedplgcaaGreatDoor.Tm
