/- Paths as regular words; which place may follow which: plain facts. -/
import Derived.WalkKit
namespace Go.Proofs.YtagmgkplfhlifaaDoor.Au
set_option linter.unusedVariables false
set_option maxRecDepth 100000
set_option linter.unusedSimpArgs false
open Go Go.RowKit

abbrev T := List UInt8
/-- What a place is along. -/
structure Lb where
  back : Bool
  not : Bool
  texts : List T
deriving DecidableEq, Inhabited
/-- A step of a word: back?, its text. -/
abbrev S := Bool × T
/-- Does a step go along it? -/
def Lb.takes (l : Lb) (s : S) : Bool := (s.1 == l.back) && (l.texts.contains s.2 != l.not)
/-- A path without its Backs. -/
inductive Rx where
  | leaf (l : Lb)
  | seq (a b : Rx)
  | alt (a b : Rx)
  | star (a : Rx)
  | plus (a : Rx)
  | maybe (a : Rx)
namespace Rx
/-- What its places are along. -/
def labs : Rx → List Lb
  | leaf l => [l]
  | seq a b | alt a b => a.labs ++ b.labs
  | star a | plus a | maybe a => a.labs
/-- How many places. -/
def n (r : Rx) : Nat := r.labs.length
def emp : Rx → Bool
  | leaf _ => false
  | seq a b => a.emp && b.emp
  | alt a b => a.emp || b.emp
  | star _ | maybe _ => true
  | plus a => a.emp
/-- Which places may be first; m: the first place's number. -/
def fst : Rx → Nat → Nat → Bool
  | leaf _, m, j => decide (j = m)
  | seq a b, m, j => a.fst m j || (a.emp && b.fst (m + a.n) j)
  | alt a b, m, j => a.fst m j || b.fst (m + a.n) j
  | star a, m, j | plus a, m, j | maybe a, m, j => a.fst m j
def lst : Rx → Nat → Nat → Bool
  | leaf _, m, j => decide (j = m)
  | seq a b, m, j => b.lst (m + a.n) j || (b.emp && a.lst m j)
  | alt a b, m, j => a.lst m j || b.lst (m + a.n) j
  | star a, m, j | plus a, m, j | maybe a, m, j => a.lst m j
/-- Which place may follow which. -/
def fol : Rx → Nat → Nat → Nat → Bool
  | leaf _, _, _, _ => false
  | seq a b, m, i, j => a.fol m i j || b.fol (m + a.n) i j || (a.lst m i && b.fst (m + a.n) j)
  | alt a b, m, i, j => a.fol m i j || b.fol (m + a.n) i j
  | star a, m, i, j | plus a, m, i, j => a.fol m i j || (a.lst m i && a.fst m j)
  | maybe a, m, i, j => a.fol m i j
theorem n_leaf (l : Lb) : (leaf l).n = 1 := rfl
theorem n_seq (a b : Rx) : (seq a b).n = a.n + b.n := by simp [n, labs]
theorem n_alt (a b : Rx) : (alt a b).n = a.n + b.n := by simp [n, labs]
theorem n_star (a : Rx) : (star a).n = a.n := rfl
theorem n_plus (a : Rx) : (plus a).n = a.n := rfl
theorem n_maybe (a : Rx) : (maybe a).n = a.n := rfl
theorem fst_range : ∀ (r : Rx) (m j : Nat), r.fst m j = true → m ≤ j ∧ j < m + r.n
  | leaf l, m, j, h => by simp [fst] at h; simp [n, labs]; omega
  | seq a b, m, j, h => by
    have i1 := fst_range a m j; have i2 := fst_range b (m + a.n) j
    simp only [fst, Bool.or_eq_true, Bool.and_eq_true] at h
    rw [n_seq]
    rcases h with h | ⟨_, h⟩
    · have := i1 h; omega
    · have := i2 h; omega
  | alt a b, m, j, h => by
    have i1 := fst_range a m j; have i2 := fst_range b (m + a.n) j
    simp only [fst, Bool.or_eq_true] at h
    rw [n_alt]
    rcases h with h | h
    · have := i1 h; omega
    · have := i2 h; omega
  | star a, m, j, h | plus a, m, j, h | maybe a, m, j, h => fst_range a m j h
theorem lst_range : ∀ (r : Rx) (m j : Nat), r.lst m j = true → m ≤ j ∧ j < m + r.n
  | leaf l, m, j, h => by simp [lst] at h; simp [n, labs]; omega
  | seq a b, m, j, h => by
    have i1 := lst_range a m j; have i2 := lst_range b (m + a.n) j
    simp only [lst, Bool.or_eq_true, Bool.and_eq_true] at h
    rw [n_seq]
    rcases h with h | ⟨_, h⟩
    · have := i2 h; omega
    · have := i1 h; omega
  | alt a b, m, j, h => by
    have i1 := lst_range a m j; have i2 := lst_range b (m + a.n) j
    simp only [lst, Bool.or_eq_true] at h
    rw [n_alt]
    rcases h with h | h
    · have := i1 h; omega
    · have := i2 h; omega
  | star a, m, j, h | plus a, m, j, h | maybe a, m, j, h => lst_range a m j h
theorem fol_range : ∀ (r : Rx) (m i j : Nat), r.fol m i j = true → (m ≤ i ∧ i < m + r.n) ∧ (m ≤ j ∧ j < m + r.n)
  | leaf l, m, i, j, h => by simp [fol] at h
  | seq a b, m, i, j, h => by
    have i1 := fol_range a m i j; have i2 := fol_range b (m + a.n) i j; have i3 := lst_range a m i; have i4 := fst_range b (m + a.n) j
    simp only [fol, Bool.or_eq_true, Bool.and_eq_true] at h
    rw [n_seq]
    rcases h with (h | h) | ⟨h, h'⟩
    · have := i1 h; omega
    · have := i2 h; omega
    · have := i3 h; have := i4 h'; omega
  | alt a b, m, i, j, h => by
    have i1 := fol_range a m i j; have i2 := fol_range b (m + a.n) i j
    simp only [fol, Bool.or_eq_true] at h
    rw [n_alt]
    rcases h with h | h
    · have := i1 h; omega
    · have := i2 h; omega
  | star a, m, i, j, h | plus a, m, i, j, h => by
    have i1 := fol_range a m i j; have i3 := lst_range a m i; have i4 := fst_range a m j
    simp only [fol, Bool.or_eq_true, Bool.and_eq_true] at h
    show (m ≤ i ∧ i < m + a.n) ∧ (m ≤ j ∧ j < m + a.n)
    rcases h with h | ⟨h, h'⟩
    · exact i1 h
    · exact ⟨i3 h, i4 h'⟩
  | maybe a, m, i, j, h => fol_range a m i j h

/-! ### words -/
abbrev Lg := List S → Prop
def cat (A B : Lg) : Lg := fun w => ∃ u v, w = u ++ v ∧ A u ∧ B v
/-- Words of A, one behind the other. -/
inductive Many (A : Lg) : Lg
  | nil : Many A []
  | step {u v : List S} : A u → Many A v → Many A (u ++ v)
def lang : Rx → Lg
  | leaf l => fun w => ∃ s, w = [s] ∧ l.takes s = true
  | seq a b => cat a.lang b.lang
  | alt a b => fun w => a.lang w ∨ b.lang w
  | star a => Many a.lang
  | plus a => cat a.lang (Many a.lang)
  | maybe a => fun w => w = [] ∨ a.lang w
/-- What place j is along. -/
def lab (r : Rx) (m j : Nat) : Lb := r.labs.getD (j - m) default
/-- The words that lead on from a place to an end. -/
def rl : Rx → Nat → Nat → Lg
  | leaf _, _, _ => fun w => w = []
  | seq a b, m, i => if i < m + a.n then cat (a.rl m i) b.lang else b.rl (m + a.n) i
  | alt a b, m, i => if i < m + a.n then a.rl m i else b.rl (m + a.n) i
  | star a, m, i | plus a, m, i => cat (a.rl m i) (Many a.lang)
  | maybe a, m, i => a.rl m i
theorem lab_left {a b : List Lb} {m j : Nat} (h : j < m + a.length) (hm : m ≤ j) : (a ++ b).getD (j - m) default = a.getD (j - m) default := by
  simp [List.getD, List.getElem?_append_left (show j - m < a.length by omega)]
theorem lab_right {a b : List Lb} {m j : Nat} (h : m + a.length ≤ j) : (a ++ b).getD (j - m) default = b.getD (j - (m + a.length)) default := by
  simp only [List.getD]
  rw [List.getElem?_append_right (by omega), show j - m - a.length = j - (m + a.length) by omega]
theorem cat_nil {A B : Lg} : cat A B [] ↔ A [] ∧ B [] := by
  constructor
  · rintro ⟨u, v, h, ha, hb⟩
    have := List.append_eq_nil_iff.1 h.symm
    rw [this.1] at ha; rw [this.2] at hb; exact ⟨ha, hb⟩
  · rintro ⟨h1, h2⟩; exact ⟨[], [], rfl, h1, h2⟩
theorem cat_cons {A B : Lg} {s : S} {w : List S} : cat A B (s :: w) ↔ (cat (fun u => A (s :: u)) B w ∨ (A [] ∧ B (s :: w))) := by
  constructor
  · rintro ⟨u, v, h, ha, hb⟩
    cases u with
    | nil => simp at h; subst h; exact Or.inr ⟨ha, hb⟩
    | cons x u =>
      simp only [List.cons_append, List.cons.injEq] at h
      obtain ⟨rfl, rfl⟩ := h
      exact Or.inl ⟨u, v, rfl, ha, hb⟩
  · rintro (⟨u, v, rfl, ha, hb⟩ | ⟨ha, hb⟩)
    · exact ⟨s :: u, v, rfl, ha, hb⟩
    · exact ⟨[], s :: w, rfl, ha, hb⟩
theorem many_cons {A : Lg} {s : S} {w : List S} : Many A (s :: w) ↔ cat (fun u => A (s :: u)) (Many A) w := by
  constructor
  · intro h
    generalize hx : s :: w = x at h
    induction h with
    | nil => cases hx
    | @step u v hu hv ih =>
      cases u with
      | nil => exact ih (by simpa using hx)
      | cons y u =>
        simp only [List.cons_append, List.cons.injEq] at hx
        obtain ⟨rfl, rfl⟩ := hx
        exact ⟨u, v, rfl, hu, hv⟩
  · rintro ⟨u, v, rfl, hu, hv⟩
    exact Many.step (u := s :: u) hu hv
theorem many_cat {A : Lg} {u v : List S} (hu : Many A u) (hv : Many A v) : Many A (u ++ v) := by
  induction hu with
  | nil => exact hv
  | step ha _ ih => rw [List.append_assoc]; exact Many.step ha ih
theorem lang_nil : ∀ r : Rx, r.lang [] ↔ r.emp = true
  | leaf l => by simp [lang, emp]
  | seq a b => by simp [lang, emp, cat_nil, lang_nil a, lang_nil b]
  | alt a b => by simp [lang, emp, lang_nil a, lang_nil b]
  | star a => by simp [lang, emp]; exact Many.nil
  | plus a => by simp [lang, emp, cat_nil, lang_nil a]; exact fun _ => Many.nil
  | maybe a => by simp [lang, emp]
theorem cat_or {A : Nat → Prop} {B : Nat → Lg} {C : Lg} {w : List S} : cat (fun u => ∃ j, A j ∧ B j u) C w ↔ ∃ j, A j ∧ cat (B j) C w := by
  constructor
  · rintro ⟨u, v, h, ⟨j, h1, h2⟩, h3⟩; exact ⟨j, h1, u, v, h, h2, h3⟩
  · rintro ⟨j, h1, u, v, h, h2, h3⟩; exact ⟨u, v, h, ⟨j, h1, h2⟩, h3⟩
theorem cat_congr {A A' B : Lg} (h : ∀ u, A u ↔ A' u) (w : List S) : cat A B w ↔ cat A' B w := by
  have : A = A' := funext fun u => propext (h u)
  rw [this]
/-- A word's first step goes to a first place. -/
theorem lang_cons : ∀ (r : Rx) (m : Nat) (s : S) (w : List S), r.lang (s :: w) ↔ ∃ j, (r.fst m j = true ∧ (r.lab m j).takes s = true) ∧ r.rl m j w
  | leaf l, m, s, w => by
    simp only [lang, fst, rl, decide_eq_true_eq]
    constructor
    · rintro ⟨t, h, ht⟩
      simp only [List.cons.injEq] at h
      obtain ⟨rfl, rfl⟩ := h
      exact ⟨m, ⟨rfl, by simp [lab, labs, List.getD]; exact ht⟩, rfl⟩
    · rintro ⟨j, ⟨rfl, ht⟩, rfl⟩
      refine ⟨s, rfl, ?_⟩
      simpa [lab, labs, List.getD] using ht
  | seq a b, m, s, w => by
    have i1 := lang_cons a m s
    have i2 := lang_cons b (m + a.n) s w
    simp only [lang]
    rw [cat_cons, cat_congr i1, cat_or, lang_nil a, i2]
    constructor
    · rintro (⟨j, ⟨h1, h2⟩, h3⟩ | ⟨h0, j, ⟨h1, h2⟩, h3⟩)
      · have hr := fst_range a m j h1
        refine ⟨j, ⟨by simp [fst, h1], ?_⟩, ?_⟩
        · unfold lab at h2 ⊢; simp only [labs]; rw [lab_left hr.2 hr.1]; exact h2
        · simp only [rl, if_pos hr.2]; exact h3
      · have hr := fst_range b _ j h1
        refine ⟨j, ⟨by simp [fst, h0, h1], ?_⟩, ?_⟩
        · unfold lab at h2 ⊢; simp only [labs]; rw [lab_right hr.1]; exact h2
        · simp only [rl, if_neg (show ¬ j < m + a.n by omega)]; exact h3
    · rintro ⟨j, ⟨h1, h2⟩, h3⟩
      simp only [fst, Bool.or_eq_true, Bool.and_eq_true] at h1
      rcases h1 with h1 | ⟨h0, h1⟩
      · have hr := fst_range a m j h1
        refine Or.inl ⟨j, ⟨h1, ?_⟩, ?_⟩
        · unfold lab at h2 ⊢; simp only [labs] at h2; rw [lab_left hr.2 hr.1] at h2; exact h2
        · simp only [rl, if_pos hr.2] at h3; exact h3
      · have hr := fst_range b _ j h1
        refine Or.inr ⟨h0, j, ⟨h1, ?_⟩, ?_⟩
        · unfold lab at h2 ⊢; simp only [labs] at h2; rw [lab_right hr.1] at h2; exact h2
        · simp only [rl, if_neg (show ¬ j < m + a.n by omega)] at h3; exact h3
  | alt a b, m, s, w => by
    have i1 := lang_cons a m s w
    have i2 := lang_cons b (m + a.n) s w
    simp only [lang]
    rw [i1, i2]
    constructor
    · rintro (⟨j, ⟨h1, h2⟩, h3⟩ | ⟨j, ⟨h1, h2⟩, h3⟩)
      · have hr := fst_range a m j h1
        refine ⟨j, ⟨by simp [fst, h1], ?_⟩, ?_⟩
        · unfold lab at h2 ⊢; simp only [labs]; rw [lab_left hr.2 hr.1]; exact h2
        · simp only [rl, if_pos hr.2]; exact h3
      · have hr := fst_range b _ j h1
        refine ⟨j, ⟨by simp [fst, h1], ?_⟩, ?_⟩
        · unfold lab at h2 ⊢; simp only [labs]; rw [lab_right hr.1]; exact h2
        · simp only [rl, if_neg (show ¬ j < m + a.n by omega)]; exact h3
    · rintro ⟨j, ⟨h1, h2⟩, h3⟩
      simp only [fst, Bool.or_eq_true] at h1
      rcases h1 with h1 | h1
      · have hr := fst_range a m j h1
        refine Or.inl ⟨j, ⟨h1, ?_⟩, ?_⟩
        · unfold lab at h2 ⊢; simp only [labs] at h2; rw [lab_left hr.2 hr.1] at h2; exact h2
        · simp only [rl, if_pos hr.2] at h3; exact h3
      · have hr := fst_range b _ j h1
        refine Or.inr ⟨j, ⟨h1, ?_⟩, ?_⟩
        · unfold lab at h2 ⊢; simp only [labs] at h2; rw [lab_right hr.1] at h2; exact h2
        · simp only [rl, if_neg (show ¬ j < m + a.n by omega)] at h3; exact h3
  | star a, m, s, w => by
    have i1 := lang_cons a m s
    simp only [lang]
    rw [many_cons, cat_congr i1, cat_or]
    rfl
  | plus a, m, s, w => by
    have i1 := lang_cons a m s
    simp only [lang]
    rw [cat_cons, many_cons]
    have : (cat (fun u => a.lang (s :: u)) (Many a.lang) w ∨ a.lang [] ∧ cat (fun u => a.lang (s :: u)) (Many a.lang) w) ↔ cat (fun u => a.lang (s :: u)) (Many a.lang) w :=
      ⟨fun h => h.elim id (fun h => h.2), Or.inl⟩
    rw [this, cat_congr i1, cat_or]
    rfl
  | maybe a, m, s, w => by
    have i1 := lang_cons a m s w
    simp only [lang]
    rw [i1]
    simp [fst, rl, lab, labs]
theorem rl_nil : ∀ (r : Rx) (m i : Nat), m ≤ i → i < m + r.n → (r.rl m i [] ↔ r.lst m i = true)
  | leaf l, m, i, h, h' => by simp [rl, lst]; rw [n_leaf] at h'; omega
  | seq a b, m, i, h, h' => by
    rw [n_seq] at h'
    by_cases hi : i < m + a.n
    · have i1 := rl_nil a m i h hi
      have hb : b.lst (m + a.n) i = false := by
        cases hc : b.lst (m + a.n) i
        · rfl
        · have := lst_range b _ _ hc; omega
      simp only [rl, if_pos hi, cat_nil, i1, lang_nil, lst, hb, Bool.false_or, Bool.and_eq_true]
      exact ⟨fun h => ⟨h.2, h.1⟩, fun h => ⟨h.2, h.1⟩⟩
    · have i2 := rl_nil b (m + a.n) i (by omega) (by omega)
      have ha : a.lst m i = false := by
        cases hc : a.lst m i
        · rfl
        · have := lst_range a _ _ hc; omega
      simp only [rl, if_neg hi, i2, lst, ha, Bool.and_false, Bool.or_false]
  | alt a b, m, i, h, h' => by
    rw [n_alt] at h'
    by_cases hi : i < m + a.n
    · have i1 := rl_nil a m i h hi
      have hb : b.lst (m + a.n) i = false := by
        cases hc : b.lst (m + a.n) i
        · rfl
        · have := lst_range b _ _ hc; omega
      simp only [rl, if_pos hi, i1, lst, hb, Bool.or_false]
    · have i2 := rl_nil b (m + a.n) i (by omega) (by omega)
      have ha : a.lst m i = false := by
        cases hc : a.lst m i
        · rfl
        · have := lst_range a _ _ hc; omega
      simp only [rl, if_neg hi, i2, lst, ha, Bool.false_or]
  | star a, m, i, h, h' | plus a, m, i, h, h' => by
    have i1 := rl_nil a m i h h'
    simp only [rl, cat_nil, i1, lst]
    exact ⟨fun h => h.1, fun h => ⟨h, Many.nil⟩⟩
  | maybe a, m, i, h, h' => rl_nil a m i h h'
/-- From a place a word's first step goes to one that may follow. -/
theorem rl_cons : ∀ (r : Rx) (m i : Nat) (s : S) (w : List S), m ≤ i → i < m + r.n → (r.rl m i (s :: w) ↔ ∃ j, (r.fol m i j = true ∧ (r.lab m j).takes s = true) ∧ r.rl m j w)
  | leaf l, m, i, s, w, h, h' => by simp [rl, fol]
  | seq a b, m, i, s, w, h, h' => by
    rw [n_seq] at h'
    have j2 := lang_cons b (m + a.n) s
    by_cases hi : i < m + a.n
    · have i1 := fun w => rl_cons a m i s w h hi
      have hb : ∀ j, b.fol (m + a.n) i j = false := fun j => by
        cases hc : b.fol (m + a.n) i j
        · rfl
        · have := fol_range b _ _ _ hc; omega
      rw [show (seq a b).rl m i = cat (a.rl m i) b.lang from by simp only [rl, if_pos hi]]
      rw [cat_cons, cat_congr i1, cat_or, rl_nil a m i h hi, j2]
      simp only [fol, hb, Bool.or_false, Bool.or_eq_true, Bool.and_eq_true]
      constructor
      · rintro (⟨j, ⟨h1, h2⟩, h3⟩ | ⟨h0, j, ⟨h1, h2⟩, h3⟩)
        · have hr := (fol_range a m i j h1).2
          refine ⟨j, ⟨Or.inl h1, ?_⟩, ?_⟩
          · unfold lab at h2 ⊢; simp only [labs]; rw [lab_left hr.2 hr.1]; exact h2
          · simp only [rl, if_pos hr.2]; exact h3
        · have hr := fst_range b _ j h1
          refine ⟨j, ⟨Or.inr ⟨h0, h1⟩, ?_⟩, ?_⟩
          · unfold lab at h2 ⊢; simp only [labs]; rw [lab_right hr.1]; exact h2
          · simp only [rl, if_neg (show ¬ j < m + a.n by omega)]; exact h3
      · rintro ⟨j, ⟨h1 | ⟨h0, h1⟩, h2⟩, h3⟩
        · have hr := (fol_range a m i j h1).2
          refine Or.inl ⟨j, ⟨h1, ?_⟩, ?_⟩
          · unfold lab at h2 ⊢; simp only [labs] at h2; rw [lab_left hr.2 hr.1] at h2; exact h2
          · simp only [rl, if_pos hr.2] at h3; exact h3
        · have hr := fst_range b _ j h1
          refine Or.inr ⟨h0, j, ⟨h1, ?_⟩, ?_⟩
          · unfold lab at h2 ⊢; simp only [labs] at h2; rw [lab_right hr.1] at h2; exact h2
          · simp only [rl, if_neg (show ¬ j < m + a.n by omega)] at h3; exact h3
    · have i2 := rl_cons b (m + a.n) i s w (by omega) (by omega)
      have ha : ∀ j, a.fol m i j = false := fun j => by
        cases hc : a.fol m i j
        · rfl
        · have := fol_range a _ _ _ hc; omega
      have hl : a.lst m i = false := by
        cases hc : a.lst m i
        · rfl
        · have := lst_range a _ _ hc; omega
      rw [show (seq a b).rl m i = b.rl (m + a.n) i from by simp only [rl, if_neg hi]]
      rw [i2]
      simp only [fol, ha, hl, Bool.false_and, Bool.or_false, Bool.false_or]
      constructor
      · rintro ⟨j, ⟨h1, h2⟩, h3⟩
        have hr := (fol_range b _ i j h1).2
        refine ⟨j, ⟨h1, ?_⟩, ?_⟩
        · unfold lab at h2 ⊢; simp only [labs]; rw [lab_right hr.1]; exact h2
        · simp only [rl, if_neg (show ¬ j < m + a.n by omega)]; exact h3
      · rintro ⟨j, ⟨h1, h2⟩, h3⟩
        have hr := (fol_range b _ i j h1).2
        refine ⟨j, ⟨h1, ?_⟩, ?_⟩
        · unfold lab at h2 ⊢; simp only [labs] at h2; rw [lab_right hr.1] at h2; exact h2
        · simp only [rl, if_neg (show ¬ j < m + a.n by omega)] at h3; exact h3
  | alt a b, m, i, s, w, h, h' => by
    rw [n_alt] at h'
    by_cases hi : i < m + a.n
    · have i1 := rl_cons a m i s w h hi
      have hb : ∀ j, b.fol (m + a.n) i j = false := fun j => by
        cases hc : b.fol (m + a.n) i j
        · rfl
        · have := fol_range b _ _ _ hc; omega
      rw [show (alt a b).rl m i = a.rl m i from by simp only [rl, if_pos hi]]
      rw [i1]
      simp only [fol, hb, Bool.or_false]
      constructor
      · rintro ⟨j, ⟨h1, h2⟩, h3⟩
        have hr := (fol_range a m i j h1).2
        refine ⟨j, ⟨h1, ?_⟩, ?_⟩
        · unfold lab at h2 ⊢; simp only [labs]; rw [lab_left hr.2 hr.1]; exact h2
        · simp only [rl, if_pos hr.2]; exact h3
      · rintro ⟨j, ⟨h1, h2⟩, h3⟩
        have hr := (fol_range a m i j h1).2
        refine ⟨j, ⟨h1, ?_⟩, ?_⟩
        · unfold lab at h2 ⊢; simp only [labs] at h2; rw [lab_left hr.2 hr.1] at h2; exact h2
        · simp only [rl, if_pos hr.2] at h3; exact h3
    · have i2 := rl_cons b (m + a.n) i s w (by omega) (by omega)
      have ha : ∀ j, a.fol m i j = false := fun j => by
        cases hc : a.fol m i j
        · rfl
        · have := fol_range a _ _ _ hc; omega
      rw [show (alt a b).rl m i = b.rl (m + a.n) i from by simp only [rl, if_neg hi]]
      rw [i2]
      simp only [fol, ha, Bool.false_or]
      constructor
      · rintro ⟨j, ⟨h1, h2⟩, h3⟩
        have hr := (fol_range b _ i j h1).2
        refine ⟨j, ⟨h1, ?_⟩, ?_⟩
        · unfold lab at h2 ⊢; simp only [labs]; rw [lab_right hr.1]; exact h2
        · simp only [rl, if_neg (show ¬ j < m + a.n by omega)]; exact h3
      · rintro ⟨j, ⟨h1, h2⟩, h3⟩
        have hr := (fol_range b _ i j h1).2
        refine ⟨j, ⟨h1, ?_⟩, ?_⟩
        · unfold lab at h2 ⊢; simp only [labs] at h2; rw [lab_right hr.1] at h2; exact h2
        · simp only [rl, if_neg (show ¬ j < m + a.n by omega)] at h3; exact h3
  | star a, m, i, s, w, h, h' | plus a, m, i, s, w, h, h' => by
    have i1 := fun w => rl_cons a m i s w h h'
    have j1 := lang_cons a m s
    simp only [rl]
    rw [cat_cons, cat_congr i1, cat_or, rl_nil a m i h h', many_cons, cat_congr j1, cat_or]
    simp only [fol, Bool.or_eq_true, Bool.and_eq_true]
    constructor
    · rintro (⟨j, ⟨h1, h2⟩, h3⟩ | ⟨h0, j, ⟨h1, h2⟩, h3⟩)
      · exact ⟨j, ⟨Or.inl h1, h2⟩, h3⟩
      · exact ⟨j, ⟨Or.inr ⟨h0, h1⟩, h2⟩, h3⟩
    · rintro ⟨j, ⟨h1 | ⟨h0, h1⟩, h2⟩, h3⟩
      · exact Or.inl ⟨j, ⟨h1, h2⟩, h3⟩
      · exact Or.inr ⟨h0, j, ⟨h1, h2⟩, h3⟩
  | maybe a, m, i, s, w, h, h' => rl_cons a m i s w h h'

/-! ### all steps of a path; places are numbered from 1, 0 is the beginning -/
/-- May j stand right behind i? -/
def nxt (r : Rx) (i j : Nat) : Bool := if i = 0 then r.fst 1 j else r.fol 1 i j
/-- May a word end there? -/
def endd (r : Rx) (i : Nat) : Bool := if i = 0 then r.emp else r.lst 1 i
/-- What is left of a word leads from a place to an end. -/
def go (r : Rx) : Nat → List S → Prop
  | i, [] => r.endd i = true
  | i, s :: w => ∃ j, (r.nxt i j = true ∧ (r.lab 1 j).takes s = true) ∧ r.go j w
theorem nxt_range (r : Rx) (i j : Nat) (h : r.nxt i j = true) : i < 1 + r.n ∧ 1 ≤ j ∧ j < 1 + r.n := by
  unfold nxt at h
  split at h
  · have := fst_range r 1 j h; omega
  · have := fol_range r 1 i j h; omega
theorem endd_range (r : Rx) (i : Nat) (h : r.endd i = true) : i < 1 + r.n := by
  unfold endd at h
  split at h
  · omega
  · have := lst_range r 1 i h; omega
theorem go_rl (r : Rx) : ∀ (w : List S) (i : Nat), 1 ≤ i → i < 1 + r.n → (r.go i w ↔ r.rl 1 i w)
  | [], i, h, h' => by rw [rl_nil r 1 i h h']; simp [go, endd, show ¬ i = 0 by omega]
  | s :: w, i, h, h' => by
    rw [rl_cons r 1 i s w h h']
    simp only [go, nxt, if_neg (show ¬ i = 0 by omega)]
    constructor
    · rintro ⟨j, ⟨h1, h2⟩, h3⟩
      have := (fol_range r 1 i j h1).2
      exact ⟨j, ⟨h1, h2⟩, (go_rl r w j this.1 this.2).1 h3⟩
    · rintro ⟨j, ⟨h1, h2⟩, h3⟩
      have := (fol_range r 1 i j h1).2
      exact ⟨j, ⟨h1, h2⟩, (go_rl r w j this.1 this.2).2 h3⟩
/-- What the places take is what the words are. -/
theorem go_lang (r : Rx) : ∀ w : List S, r.go 0 w ↔ r.lang w
  | [] => by rw [lang_nil]; simp [go, endd]
  | s :: w => by
    rw [lang_cons r 1 s w]
    simp only [go, nxt, if_pos]
    constructor
    · rintro ⟨j, ⟨h1, h2⟩, h3⟩
      have := fst_range r 1 j h1
      exact ⟨j, ⟨h1, h2⟩, (go_rl r w j this.1 this.2).1 h3⟩
    · rintro ⟨j, ⟨h1, h2⟩, h3⟩
      have := fst_range r 1 j h1
      exact ⟨j, ⟨h1, h2⟩, (go_rl r w j this.1 this.2).2 h3⟩
/-- The places that a step leads to. -/
def along (r : Rx) (now : Nat → Bool) (s : S) : Nat → Bool := fun j => (List.range (1 + r.n)).any (fun i => now i && r.nxt i j) && (r.lab 1 j).takes s
/-- Is one of them an end? -/
def ends (r : Rx) (now : Nat → Bool) : Bool := (List.range (1 + r.n)).any fun i => now i && r.endd i
def sim (r : Rx) : (Nat → Bool) → List S → Bool
  | now, [] => r.ends now
  | now, s :: w => r.sim (r.along now s) w
theorem sim_go (r : Rx) : ∀ (w : List S) (now : Nat → Bool), r.sim now w = true ↔ ∃ i, now i = true ∧ r.go i w
  | [], now => by
    simp only [sim, ends, go, List.any_eq_true, List.mem_range, Bool.and_eq_true]
    constructor
    · rintro ⟨i, _, h1, h2⟩; exact ⟨i, h1, h2⟩
    · rintro ⟨i, h1, h2⟩; exact ⟨i, endd_range r i h2, h1, h2⟩
  | s :: w, now => by
    simp only [sim, go]
    rw [sim_go r w]
    simp only [along, List.any_eq_true, List.mem_range, Bool.and_eq_true]
    constructor
    · rintro ⟨j, ⟨⟨i, _, h1, h2⟩, h3⟩, h4⟩; exact ⟨i, h1, j, ⟨h2, h3⟩, h4⟩
    · rintro ⟨i, h1, j, ⟨h2, h3⟩, h4⟩; exact ⟨j, ⟨⟨i, (nxt_range r i j h2).1, h1, h2⟩, h3⟩, h4⟩
/-- Does a path have the word? -/
def has (r : Rx) (w : List S) : Bool := r.sim (fun i => decide (i = 0)) w
theorem has_lang (r : Rx) (w : List S) : r.has w = true ↔ r.lang w := by
  unfold has
  rw [sim_go, ← go_lang]
  simp
end Rx
end Go.Proofs.YtagmgkplfhlifaaDoor.Au
