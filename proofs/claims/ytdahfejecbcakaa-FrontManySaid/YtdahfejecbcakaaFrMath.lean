/- Texts in order, and what a dictionary of them tells: plain facts. -/
import Derived.WalkKit
namespace Go.Proofs.Ytdahfejecbcakaa.Fr
set_option linter.unusedVariables false
set_option linter.unusedSimpArgs false
open Go Go.RowKit

abbrev T := List UInt8
/-- a stands ahead of b. -/
abbrev lt (a b : T) : Bool := Op.bytesLess a b
theorem lt_nil (a : T) : lt a [] = false := by cases a <;> rfl
theorem lt_nil_cons (b : UInt8) (y : T) : lt [] (b :: y) = true := rfl
theorem lt_cons (a b : UInt8) (x y : T) : lt (a :: x) (b :: y) = (decide (a < b) || (a == b && lt x y)) := rfl
theorem lt_irrefl : ∀ a : T, lt a a = false
  | [] => rfl
  | a :: x => by
    rw [lt_cons, lt_irrefl x]
    simp
theorem lt_trans : ∀ {a b c : T}, lt a b = true → lt b c = true → lt a c = true
  | _, _, [], _, h => by rw [lt_nil] at h; cases h
  | _, [], _ :: _, h, _ => by rw [lt_nil] at h; cases h
  | [], _ :: _, _ :: _, _, _ => rfl
  | a :: x, b :: y, c :: z, h1, h2 => by
    rw [lt_cons] at *
    simp only [Bool.or_eq_true, decide_eq_true_eq, Bool.and_eq_true, beq_iff_eq] at *
    rcases h1 with h1 | ⟨rfl, h1⟩
    · rcases h2 with h2 | ⟨rfl, h2⟩
      · exact .inl (UInt8.lt_trans h1 h2)
      · exact .inl h1
    · rcases h2 with h2 | ⟨rfl, h2⟩
      · exact .inl h2
      · exact .inr ⟨rfl, lt_trans h1 h2⟩
theorem lt_tri : ∀ {a b : T}, lt a b = false → lt b a = false → a = b
  | [], [], _, _ => rfl
  | [], _ :: _, h, _ => by cases h
  | _ :: _, [], _, h => by cases h
  | a :: x, b :: y, h1, h2 => by
    rw [lt_cons] at *
    simp only [Bool.or_eq_false_iff, decide_eq_false_iff_not, Bool.and_eq_false_iff, beq_eq_false_iff_ne, ne_eq] at *
    obtain ⟨h1, h3⟩ := h1
    obtain ⟨h2, h4⟩ := h2
    have e : a = b := UInt8.le_antisymm (UInt8.not_lt.1 h2) (UInt8.not_lt.1 h1)
    subst e
    simp only [not_true_eq_false, false_or] at h3 h4
    rw [lt_tri h3 h4]
theorem lt_asymm {a b : T} (h : lt a b = true) : lt b a = false := by
  cases h2 : lt b a with
  | false => rfl
  | true => have := lt_trans h h2; rw [lt_irrefl] at this; cases this
theorem lt_of_not {a b c : T} (h1 : lt b a = false) (h2 : lt b c = true) : lt a c = true := by
  cases h : lt a b with
  | true => exact lt_trans h h2
  | false => rw [lt_tri h h1]; exact h2
theorem lt_of_not' {a b c : T} (h1 : lt a b = true) (h2 : lt c b = false) : lt a c = true := by
  cases h : lt b c with
  | true => exact lt_trans h1 h
  | false => rw [← lt_tri h h2]; exact h1

/-- A text begins with p. -/
def hasP (p s : T) : Bool := decide (p.length ≤ s.length) && (s.take p.length == p)
theorem hasP_iff {p s : T} : hasP p s = true ↔ ∃ t, s = p ++ t := by
  unfold hasP
  rw [Bool.and_eq_true, decide_eq_true_eq, beq_iff_eq]
  constructor
  · rintro ⟨h1, h2⟩
    refine ⟨s.drop p.length, ?_⟩
    have := (List.take_append_drop p.length s).symm
    rwa [h2] at this
  · rintro ⟨t, rfl⟩; simp
theorem hasP_self (p : T) : hasP p p = true := hasP_iff.2 ⟨[], by simp⟩
theorem hasP_nil (s : T) : hasP [] s = true := hasP_iff.2 ⟨s, rfl⟩
theorem not_lt_hasP : ∀ {p s : T}, hasP p s = true → lt s p = false := by
  intro p s h
  obtain ⟨t, rfl⟩ := hasP_iff.1 h
  clear h
  induction p with
  | nil => exact lt_nil _
  | cons c p ih => rw [List.cons_append, lt_cons, ih]; simp
/-- What stands between p and a text that begins with p begins with p. -/
theorem hasP_between : ∀ {p a b : T}, lt a p = false → lt b a = false → hasP p b = true → hasP p a = true
  | [], a, _, _, _, _ => hasP_nil a
  | c :: p, a, b, h1, h2, h3 => by
    obtain ⟨t, rfl⟩ := hasP_iff.1 h3
    cases a with
    | nil => cases h1
    | cons d x =>
      rw [List.cons_append, lt_cons] at h2
      rw [lt_cons] at h1
      simp only [Bool.or_eq_false_iff, decide_eq_false_iff_not, Bool.and_eq_false_iff, beq_eq_false_iff_ne, ne_eq] at h1 h2
      obtain ⟨h1, k1⟩ := h1
      obtain ⟨h2, k2⟩ := h2
      have e : d = c := UInt8.le_antisymm (UInt8.not_lt.1 h2) (UInt8.not_lt.1 h1)
      subst e
      simp only [not_true_eq_false, false_or] at k1 k2
      have := hasP_between (p := p) (a := x) (b := p ++ t) k1 k2 (hasP_iff.2 ⟨t, rfl⟩)
      obtain ⟨u, rfl⟩ := hasP_iff.1 this
      exact hasP_iff.2 ⟨u, rfl⟩

/-! ### texts that may be -/
def at_ (L : List T) (i : Nat) : T := L.getD i []
def OkAt (L : List T) (i : Nat) : Prop := 1 ≤ (at_ L i).length ∧ (at_ L i).length ≤ 250 ∧ (0 < i → lt (at_ L (i - 1)) (at_ L i) = true)
instance (L : List T) (i : Nat) : Decidable (OkAt L i) := by unfold OkAt; infer_instance
def May (L : List T) : Prop := L.length ≤ 300 ∧ ∀ i, i < L.length → OkAt L i
instance (L : List T) : Decidable (May L) := by unfold May; infer_instance
theorem May.lt {L : List T} (h : May L) : ∀ {j i : Nat}, i < j → j < L.length → lt (at_ L i) (at_ L j) = true := by
  intro j
  induction j with
  | zero => intro i hi; omega
  | succ j ih =>
    intro i hi hj
    have h1 := (h.2 (j + 1) hj).2.2 (by omega)
    rw [show j + 1 - 1 = j by omega] at h1
    by_cases he : i = j
    · rw [he]; exact h1
    · exact lt_trans (ih (by omega) (by omega)) h1
theorem May.inj {L : List T} (h : May L) {i j : Nat} (hi : i < L.length) (hj : j < L.length) (e : at_ L i = at_ L j) : i = j := by
  rcases Nat.lt_trichotomy i j with h1 | h1 | h1
  · have := h.lt h1 hj; rw [e, lt_irrefl] at this; cases this
  · exact h1
  · have := h.lt h1 hi; rw [e, lt_irrefl] at this; cases this

/-! ### a text's number -/
def loc : List T → T → Nat
  | [], _ => 0
  | a :: L, s => if a = s then 1 else if loc L s = 0 then 0 else loc L s + 1
def ext (L : List T) (id : Int) : T := if id < 1 ∨ (L.length : Int) < id then [] else at_ L (id.toNat - 1)
theorem at_get {L : List T} {i : Nat} (h : i < L.length) : L[i] = at_ L i := by unfold at_; simp [List.getD, h]
theorem at_zero (a : T) (L : List T) : at_ (a :: L) 0 = a := rfl
theorem at_succ (a : T) (L : List T) (i : Nat) : at_ (a :: L) (i + 1) = at_ L i := by unfold at_; simp [List.getD]
theorem loc_none : ∀ {L : List T} {s : T}, (∀ j, j < L.length → at_ L j ≠ s) → loc L s = 0
  | [], _, _ => rfl
  | a :: L, s, h => by
    unfold loc
    rw [if_neg (show ¬ a = s from h 0 (by simp)), if_pos (loc_none fun j hj => by have := h (j + 1) (by simpa using hj); rwa [at_succ] at this)]
/-- The first place of a text. -/
theorem loc_first : ∀ {L : List T} {s : T} {k : Nat}, k < L.length → at_ L k = s → (∀ j, j < k → at_ L j ≠ s) → loc L s = k + 1
  | [], _, k, h, _, _ => by simp at h
  | a :: L, s, 0, _, h, _ => by unfold loc; rw [if_pos (show a = s from h)]
  | a :: L, s, k + 1, hk, h, hn => by
    have := loc_first (L := L) (s := s) (k := k) (by simpa using hk) (by rwa [at_succ] at h) (fun j hj => by have := hn (j + 1) (by omega); rwa [at_succ] at this)
    unfold loc
    rw [if_neg (show ¬ a = s from hn 0 (by omega)), this, if_neg (by omega)]
/-! ### those that begin so -/
def prefK (L : List T) (p : T) : Nat → Nat × Nat
  | 0 => (0, 0)
  | k + 1 => if hasP p (at_ L k) then (if (prefK L p k).1 = 0 then k + 1 else (prefK L p k).1, k + 1) else prefK L p k
theorem prefK_eq {L : List T} {p : T} {f n : Nat} (h : ∀ j, j < L.length → hasP p (at_ L j) = decide (f ≤ j ∧ j < f + n)) :
    ∀ k, k ≤ L.length → prefK L p k = if k ≤ f ∨ n = 0 then (0, 0) else (f + 1, min k (f + n)) := by
  intro k
  induction k with
  | zero => intro _; rw [if_pos (by omega)]; rfl
  | succ k ih =>
    intro hk
    have e := h k (by omega)
    unfold prefK
    rw [ih (by omega), e]
    by_cases h1 : f ≤ k ∧ k < f + n
    · rw [decide_eq_true h1, if_pos rfl, if_neg (show ¬ (k + 1 ≤ f ∨ n = 0) by omega)]
      by_cases h2 : k ≤ f
      · rw [if_pos (show k ≤ f ∨ n = 0 from .inl h2)]
        have e1 : min (k + 1) (f + n) = k + 1 := by omega
        have e2 : k = f := by omega
        rw [e1]
        simp only [if_true, e2]
      · have e1 : min (k + 1) (f + n) = k + 1 := by omega
        rw [if_neg (show ¬ (k ≤ f ∨ n = 0) by omega), e1]
        simp
    · rw [decide_eq_false h1, if_neg (by simp)]
      by_cases h2 : k ≤ f ∨ n = 0
      · rw [if_pos h2, if_pos (by omega)]
      · rw [if_neg h2, if_neg (by omega), show min k (f + n) = min (k + 1) (f + n) by omega]
/-! ### shared beginnings; all bytes -/
def sh : T → T → Nat
  | a :: x, b :: y => if a = b then sh x y + 1 else 0
  | _, _ => 0
theorem sh_le : ∀ a b : T, sh a b ≤ a.length ∧ sh a b ≤ b.length
  | [], [] => ⟨Nat.le_refl _, Nat.le_refl _⟩
  | [], _ :: _ => ⟨Nat.le_refl _, Nat.zero_le _⟩
  | _ :: _, [] => ⟨Nat.zero_le _, Nat.le_refl _⟩
  | a :: x, b :: y => by
    unfold sh
    have := sh_le x y
    split
    · simp only [List.length_cons]; omega
    · exact ⟨Nat.zero_le _, Nat.zero_le _⟩
theorem sh_same : ∀ {a b : T} {i : Nat}, i < sh a b → ∃ c, a[i]? = some c ∧ b[i]? = some c
  | [], [], i, h => by simp [sh] at h
  | [], _ :: _, i, h => by simp [sh] at h
  | _ :: _, [], i, h => by simp [sh] at h
  | a :: x, b :: y, i, h => by
    unfold sh at h
    split at h
    · rename_i e
      subst e
      cases i with
      | zero => exact ⟨a, rfl, rfl⟩
      | succ i => exact sh_same (a := x) (b := y) (by omega)
    · omega
theorem sh_stop : ∀ {a b : T} {c d : UInt8}, a[sh a b]? = some c → b[sh a b]? = some d → c ≠ d
  | [], b, c, d, h, _ => by simp at h
  | _ :: _, [], c, d, _, h => by simp at h
  | a :: x, b :: y, c, d, h1, h2 => by
    by_cases e : a = b
    · have h3 : sh (a :: x) (b :: y) = sh x y + 1 := by rw [sh, if_pos e]
      rw [h3] at h1 h2
      exact sh_stop (a := x) (b := y) (by simpa using h1) (by simpa using h2)
    · have h3 : sh (a :: x) (b :: y) = 0 := by rw [sh, if_neg e]
      rw [h3] at h1 h2
      simp at h1 h2
      rw [← h1, ← h2]; exact e
/-- How many bytes entry i shares with the one ahead. -/
def shAt (L : List T) (i : Nat) : Nat := if i % 4 = 0 then 0 else sh (at_ L (i - 1)) (at_ L i)
def nats (s : T) : List Nat := s.map UInt8.toNat
def enc (L : List T) (i : Nat) : List Nat := [shAt L i, (at_ L i).length - shAt L i] ++ nats ((at_ L i).drop (shAt L i))
/-- The bytes of the first k entries. -/
def byt (L : List T) : Nat → List Nat
  | 0 => [L.length / 256 % 256, L.length % 256]
  | k + 1 => byt L k ++ enc L k
theorem shAt_le (L : List T) (i : Nat) : shAt L i ≤ (at_ L i).length := by
  unfold shAt
  split
  · exact Nat.zero_le _
  · exact (sh_le _ _).2
theorem enc_len (L : List T) (i : Nat) : (enc L i).length = 2 + ((at_ L i).length - shAt L i) := by
  unfold enc nats
  rw [List.length_append, List.length_map, List.length_drop]; rfl
theorem byt_len {L : List T} (h : May L) : ∀ k, k ≤ L.length → (byt L k).length ≤ 2 + 252 * k
  | 0, _ => Nat.le_refl _
  | k + 1, hk => by
    have := byt_len h k (by omega)
    have h1 := (h.2 k (by omega)).2.1
    unfold byt
    rw [List.length_append, enc_len]; omega
theorem nats_lt (s : T) : ∀ x ∈ nats s, x < 256 := by
  intro x hx
  obtain ⟨c, _, rfl⟩ := List.mem_map.1 hx
  exact c.toNat_lt
theorem byt_lt {L : List T} (h : May L) : ∀ k, k ≤ L.length → ∀ x ∈ byt L k, x < 256
  | 0, _, x, hx => by
    simp [byt] at hx
    rcases hx with rfl | rfl <;> omega
  | k + 1, hk, x, hx => by
    have h1 := (h.2 k (by omega)).2.1
    have h2 := shAt_le L k
    unfold byt at hx
    rcases List.mem_append.1 hx with hx | hx
    · exact byt_lt h k (by omega) x hx
    · unfold enc at hx
      rcases List.mem_append.1 hx with hx | hx
      · simp at hx
        rcases hx with rfl | rfl <;> omega
      · exact nats_lt _ x hx
end Go.Proofs.Ytdahfejecbcakaa.Fr
