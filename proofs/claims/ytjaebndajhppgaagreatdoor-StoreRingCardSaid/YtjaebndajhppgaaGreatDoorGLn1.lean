/- LnRd, LnHex, LnEsc, LnUp, LnSmall, LnLit, LnTerm, LnMath. -/
import Derived.Test.YtjaebndajhppgaaGreatDoorTmRIs
import Derived.Deep.LoopGhost
import Derived.Test.YtjaebndajhppgaaGreatDoorGTm2
import Derived.Laws.Cover4
import Derived.Laws.IdiomStrings
namespace Go.Proofs.YtjaebndajhppgaaGreatDoor
set_option linter.unusedVariables false
set_option linter.unusedSimpArgs false
set_option maxRecDepth 100000
open Go.ChangeShapes Go.WideShapes Go.ChangeAt Go.RowKit

abbrev rdp (q : Nat) : Value := .pointer (some ⟨q, 0, none⟩)
def But (q : Nat) (w w' : World) : Prop := w.grownBy w' (some q)
theorem But.refl (q : Nat) (w : World) : But q w w := ⟨rfl, rfl, rfl, Nat.le_refl _, fun _ _ _ => rfl⟩
theorem But.trans {q : Nat} {a b c : World} (h : But q a b) (k : But q b c) : But q a c :=
  ⟨k.os.trans h.os, k.tape.trans h.tape, k.output.trans h.output, Nat.le_trans h.size k.size, fun i hi hn => (k.block i (Nat.lt_of_lt_of_le hi h.size) hn).trans (h.block i hi hn)⟩
theorem But.below {q : Nat} {a b : World} (h : Below a.heap.size a b) : But q a b := ⟨h.os, h.tape, h.output, h.size, fun i hi _ => h.block i hi⟩
theorem But.set (q : Nat) (w : World) (i : Nat) (v : Value) : But q w (w.setCell ⟨q, i, none⟩ v) :=
  ⟨rfl, rfl, rfl, by simp, fun k hk hn => Below.heap_setCell _ _ _ _ (by simpa using fun e => hn (by rw [e]))⟩
theorem But.drawn (q : Nat) (w : World) (n : Nat) : But q w (w.drewN n) := ⟨rfl, rfl, rfl, Nat.le_refl _, fun _ _ _ => rfl⟩
theorem But.into {q : Nat} {a b c : World} (hb : Below a.heap.size a b) (h : But q b c) (hq : a.heap.size ≤ q) : Below a.heap.size a c :=
  hb.grown h hb.size (fun k hk => by cases hk; exact hq)
theorem But.blk {q k : Nat} {w w' : World} {A : List Value} {t : TypeId} (h : Blk w k A t) (hb : But q w w') (hk : k ≠ q) : Blk w' k A t := by
  unfold Blk; rw [hb.block k h.lt (by simpa using hk)]; exact h
def blankC (c : UInt8) : Bool := c == 32 || c == 9
theorem blankC_true {c : UInt8} (h : c.toNat = 32 ∨ c.toNat = 9) : blankC c = true := by
  unfold blankC
  rcases h with h | h
  · rw [UInt8.toNat_inj.1 (show c.toNat = (32 : UInt8).toNat from h)]; rfl
  · rw [UInt8.toNat_inj.1 (show c.toNat = (9 : UInt8).toNat from h)]; rfl
theorem blankC_false {c : UInt8} (h : c.toNat ≠ 32 ∧ c.toNat ≠ 9) : blankC c = false := by
  unfold blankC
  rw [Bool.or_eq_false_iff, beq_eq_false_iff_ne, beq_eq_false_iff_ne]
  exact ⟨fun e => h.1 (by rw [e]; rfl), fun e => h.2 (by rw [e]; rfl)⟩
theorem takeWhile_at (p : UInt8 → Bool) : ∀ (s : List UInt8) (n : Nat), n ≤ s.length → (s.take n).all p = true → (∀ c, s[n]? = some c → p c = false) → s.takeWhile p = s.take n ∧ s.dropWhile p = s.drop n
  | [], 0, _, _, _ => ⟨rfl, rfl⟩
  | [], n + 1, h, _, _ => by simp at h
  | c :: s, 0, _, _, h => by have := h c rfl; simp [this]
  | c :: s, n + 1, hn, ha, h => by
    rw [List.take_succ_cons, List.all_cons, Bool.and_eq_true] at ha
    have ih := takeWhile_at p s n (by simpa using hn) ha.2 (fun d hd => h d (by simpa using hd))
    simp [ha.1, ih.1, ih.2]
end Go.Proofs.YtjaebndajhppgaaGreatDoor
namespace Go.Proofs.YtjaebndajhppgaaGreatDoor
set_option linter.unusedVariables false
set_option linter.unusedSimpArgs false
set_option maxRecDepth 100000
open Go.ChangeShapes Go.WideShapes Go.ChangeAt Go.RowKit

theorem pow16 (i : Nat) (h : i < 8) : 16 ^ i ≤ 268435456 := by
  rcases (show i = 0 ∨ i = 1 ∨ i = 2 ∨ i = 3 ∨ i = 4 ∨ i = 5 ∨ i = 6 ∨ i = 7 by omega) with rfl | rfl | rfl | rfl | rfl | rfl | rfl | rfl <;> decide
theorem hexL_step (k : Nat) (s : List UInt8) (i x : Nat) (c : UInt8) (h : s[i]? = some c) : Tm.hexL (k + 1) (s.drop i) x = match Tm.hexc c with
    | none => none
    | some d => Tm.hexL k (s.drop (i + 1)) (x * 16 + d) := by
  obtain ⟨hl, e⟩ := List.getElem?_eq_some_iff.1 h
  rw [List.drop_eq_getElem_cons hl, e]
  rfl
theorem hexL_short : ∀ (n : Nat) (s : List UInt8) (x : Nat), s.length < n → Tm.hexL n s x = none
  | 0, s, x, h => by omega
  | n + 1, [], x, h => rfl
  | n + 1, c :: t, x, h => by
    unfold Tm.hexL
    cases Tm.hexc c with
    | none => rfl
    | some d => exact hexL_short n t _ (by simpa using h)
theorem hexc_dig {c : UInt8} (h : 48 ≤ c.toNat ∧ c.toNat ≤ 57) : Tm.hexc c = some (c.toNat - 48) := by unfold Tm.hexc; rw [if_pos h]
theorem hexc_low {c : UInt8} (h : 97 ≤ c.toNat ∧ c.toNat ≤ 102) : Tm.hexc c = some (c.toNat - 87) := by unfold Tm.hexc; rw [if_neg (by omega), if_pos h]
theorem hexc_cap {c : UInt8} (h : 65 ≤ c.toNat ∧ c.toNat ≤ 70) : Tm.hexc c = some (c.toNat - 55) := by unfold Tm.hexc; rw [if_neg (by omega), if_neg (by omega), if_pos h]
theorem hexc_no {c : UInt8} (h : c.toNat < 48 ∨ (57 < c.toNat ∧ c.toNat < 65) ∨ (70 < c.toNat ∧ c.toNat < 97) ∨ 102 < c.toNat) : Tm.hexc c = none := by unfold Tm.hexc; rw [if_neg (by omega), if_neg (by omega), if_neg (by omega)]
end Go.Proofs.YtjaebndajhppgaaGreatDoor
namespace Go.Proofs.YtjaebndajhppgaaGreatDoor
set_option linter.unusedVariables false
set_option linter.unusedSimpArgs false
set_option maxRecDepth 100000
open Go.ChangeShapes Go.WideShapes Go.ChangeAt Go.RowKit

end Go.Proofs.YtjaebndajhppgaaGreatDoor
namespace Go.Proofs.YtjaebndajhppgaaGreatDoor
set_option linter.unusedVariables false
set_option linter.unusedSimpArgs false
set_option maxRecDepth 100000
open Go.ChangeShapes Go.WideShapes Go.ChangeAt Go.RowKit

namespace Tm
theorem up_fuel (e : UInt8) (lit : Bool) : ∀ (f g : Nat) (s : T), s.length < f → s.length < g → up f e lit s = up g e lit s
  | 0, g, s, h, _ => by omega
  | f + 1, 0, s, _, h => by omega
  | f + 1, g + 1, [], _, _ => rfl
  | f + 1, g + 1, c :: t, hf, hg => by
    unfold up
    simp only [List.length_cons] at hf hg
    rw [up_fuel e lit f g t (by omega) (by omega)]
    cases h : esc1 lit t with
    | none => rfl
    | some p =>
      obtain ⟨x, n⟩ := p
      simp only
      rw [up_fuel e lit f g (t.drop n) (by rw [List.length_drop]; omega) (by rw [List.length_drop]; omega)]
def upU (e : UInt8) (lit : Bool) (s : T) : Option (T × T) := up (s.length + 1) e lit s
theorem upU_cons (e : UInt8) (lit : Bool) (c : UInt8) (t : T) : upU e lit (c :: t) = if c = e then some ([], t) else if c = 92 then (match esc1 lit t with
      | none => none
      | some (x, n) => (upU e lit (t.drop n)).map (fun r => (x ++ r.1, r.2)))
    else if c = 10 ∨ c = 13 then none else (upU e lit t).map (fun r => (c :: r.1, r.2)) := by
  show up (t.length + 1 + 1) e lit (c :: t) = _
  rw [up]
  unfold upU
  cases h : esc1 lit t with
  | none => rfl
  | some p =>
    obtain ⟨x, n⟩ := p
    simp only
    rw [up_fuel e lit (t.length + 1) ((t.drop n).length + 1) (t.drop n) (by rw [List.length_drop]; omega) (by omega)]
theorem runeT_len (x : Nat) : (runeT x).length ≤ 4 := by
  have := encode_size_le (x : Int)
  unfold runeT
  simpa using this
theorem hexR_len {n : Nat} {s : T} {x : Nat} (h : hexR n s = some x) : n ≤ s.length := by
  rcases Nat.lt_or_ge s.length n with hl | hl
  · unfold hexR at h; rw [hexL_short n s 0 hl] at h; cases h
  · exact hl
theorem esc1_len {lit : Bool} {s x : T} {n : Nat} (h : esc1 lit s = some (x, n)) : 1 ≤ n ∧ n ≤ s.length ∧ x.length ≤ 4 := by
  cases s with
  | nil => cases h
  | cons c t =>
    have e0 : esc1 lit (c :: t) = if c = 117 then (hexR 4 t).map (fun x => (runeT x, 5)) else if c = 85 then (hexR 8 t).map (fun x => (runeT x, 9)) else if lit then (letter c).map (fun d => ([d], 1)) else none := rfl
    rw [e0] at h
    split at h
    · cases hr : hexR 4 t with
      | none => rw [hr] at h; cases h
      | some y =>
        rw [hr] at h
        simp only [Option.map_some, Option.some.injEq, Prod.mk.injEq] at h
        have := hexR_len hr
        have := runeT_len y
        obtain ⟨rfl, rfl⟩ := h
        simp only [List.length_cons]; omega
    · split at h
      · cases hr : hexR 8 t with
        | none => rw [hr] at h; cases h
        | some y =>
          rw [hr] at h
          simp only [Option.map_some, Option.some.injEq, Prod.mk.injEq] at h
          have := hexR_len hr
          have := runeT_len y
          obtain ⟨rfl, rfl⟩ := h
          simp only [List.length_cons]; omega
      · split at h
        · cases hr : letter c with
          | none => rw [hr] at h; cases h
          | some y =>
            rw [hr] at h
            simp only [Option.map_some, Option.some.injEq, Prod.mk.injEq] at h
            obtain ⟨rfl, rfl⟩ := h
            simp
        · cases h
end Tm
def upT (r : Option (List UInt8 × List UInt8)) : List UInt8 := match r with
  | none => []
  | some p => p.1
def upR (r : Option (List UInt8 × List UInt8)) : List UInt8 := match r with
  | none => []
  | some p => p.2
end Go.Proofs.YtjaebndajhppgaaGreatDoor
namespace Go.Proofs.YtjaebndajhppgaaGreatDoor
set_option linter.unusedVariables false
set_option linter.unusedSimpArgs false
set_option maxRecDepth 100000
open Go.ChangeShapes Go.WideShapes Go.ChangeAt Go.RowKit

end Go.Proofs.YtjaebndajhppgaaGreatDoor
namespace Go.Proofs.YtjaebndajhppgaaGreatDoor
set_option linter.unusedVariables false
set_option linter.unusedSimpArgs false
set_option maxRecDepth 100000
open Go.ChangeShapes Go.WideShapes Go.ChangeAt Go.RowKit

namespace Tm
def rlit (r : T) : Option (Nat × T × T × T) := match upU 34 true r with
  | none => none
  | some (t, v) => if v.headD 0 = 64 then some (4, t, (v.tail.takeWhile alnumD).map lower, v.tail.dropWhile alnumD)
    else if v.take 3 = [94, 94, 60] then (upU 62 false (v.drop 3)).map (fun q => (5, t, q.1, q.2))
    else some (3, t, [], v)
theorem upU_len {e : UInt8} {lit : Bool} : ∀ (n : Nat) {s t v : T}, s.length ≤ n → upU e lit s = some (t, v) → t.length ≤ 4 * s.length ∧ v.length < s.length
  | _, [], t, v, _, h => by cases h
  | 0, c :: s, t, v, hn, _ => by simp at hn
  | n + 1, c :: s, t, v, hn, h => by
    rw [upU_cons] at h
    simp only [List.length_cons] at hn ⊢
    split at h
    · simp only [Option.some.injEq, Prod.mk.injEq] at h
      obtain ⟨rfl, rfl⟩ := h
      simp
    · split at h
      · cases he : esc1 lit s with
        | none => rw [he] at h; cases h
        | some p =>
          obtain ⟨x, k⟩ := p
          rw [he] at h
          obtain ⟨h1, h2, h3⟩ := esc1_len he
          simp only at h
          cases hu : upU e lit (s.drop k) with
          | none => rw [hu] at h; cases h
          | some z =>
            obtain ⟨t', v'⟩ := z
            rw [hu] at h
            simp only [Option.map_some, Option.some.injEq, Prod.mk.injEq] at h
            obtain ⟨rfl, rfl⟩ := h
            have := upU_len n (s := s.drop k) (by rw [List.length_drop]; omega) hu
            rw [List.length_drop] at this
            rw [List.length_append]; omega
      · split at h
        · cases h
        · cases hu : upU e lit s with
          | none => rw [hu] at h; cases h
          | some z =>
            obtain ⟨t', v'⟩ := z
            rw [hu] at h
            simp only [Option.map_some, Option.some.injEq, Prod.mk.injEq] at h
            obtain ⟨rfl, rfl⟩ := h
            have := upU_len n (by omega) hu
            simp only [List.length_cons]; omega
end Tm
theorem tw_len (p : UInt8 → Bool) (l : List UInt8) : (l.takeWhile p).length ≤ l.length := by
  have := congrArg List.length (List.takeWhile_append_dropWhile (p := p) (l := l))
  rw [List.length_append] at this; omega
theorem But.fresh {q b : Nat} {w X : World} (h : But q w X) (hb : w.heap.size ≤ b) (i : Nat) (v : Value) : But q w (X.setCell ⟨b, i, none⟩ v) :=
  ⟨h.os, h.tape, h.output, by have := h.size; simpa using this, fun k hk hn => by rw [Below.heap_setCell _ _ _ _ (by show k ≠ b; omega)]; exact h.block k hk hn⟩
end Go.Proofs.YtjaebndajhppgaaGreatDoor
namespace Go.Proofs.YtjaebndajhppgaaGreatDoor
set_option linter.unusedVariables false
set_option linter.unusedSimpArgs false
set_option maxRecDepth 100000
open Go.ChangeShapes Go.WideShapes Go.ChangeAt Go.RowKit

namespace Tm
theorem rterm_up62 (r : T) : rterm (60 :: r) = (upU 62 false r).map (fun q : T × T => ((1 : Nat), q.1, ([] : T), q.2)) := rfl
theorem rterm_95 (r : T) : rterm (95 :: 58 :: r) = some (2, r.takeWhile alnum, [], r.dropWhile alnum) := rfl
theorem rterm_34 (r : T) : rterm (34 :: r) = rlit r := by
  unfold rlit
  show (match up (r.length + 1) 34 true r with
      | none => none
      | some (t, v) => if v.headD 0 = 64 then some (4, t, (v.tail.takeWhile alnumD).map lower, v.tail.dropWhile alnumD)
        else if v.take 3 = [94, 94, 60] then (up (v.length + 1) 62 false (v.drop 3)).map (fun q : T × T => ((5 : Nat), t, q.1, q.2))
        else some (3, t, [], v)) = _
  unfold upU
  cases up (r.length + 1) 34 true r with
  | none => rfl
  | some p =>
    obtain ⟨t, v⟩ := p
    simp only
    rw [up_fuel 62 false (v.length + 1) ((v.drop 3).length + 1) (v.drop 3) (by rw [List.length_drop]; omega) (by omega)]
theorem rterm_none {s : T} (h1 : s.take 1 ≠ [60]) (h2 : s.take 2 ≠ [95, 58]) (h3 : s.take 1 ≠ [34]) : rterm s = none := by
  cases s with
  | nil => rfl
  | cons c r =>
    have a1 : c ≠ 60 := fun e => h1 (by rw [e]; rfl)
    have a3 : c ≠ 34 := fun e => h3 (by rw [e]; rfl)
    show (if c = 60 then _ else if c = 95 then _ else if c = 34 then _ else none) = none
    rw [if_neg a1]
    by_cases a2 : c = 95
    · rw [if_pos a2, if_neg]
      intro e
      cases r with
      | nil => exact absurd e (by decide)
      | cons d r => simp only [List.headD_cons] at e; exact h2 (by rw [a2, e]; rfl)
    · rw [if_neg a2, if_neg a3]
theorem rlit_len {s : T} {k : Nat} {t x v : T} (h : rlit s = some (k, t, x, v)) : t.length ≤ 4 * s.length ∧ x.length ≤ 4 * s.length ∧ v.length ≤ s.length := by
  unfold rlit at h
  cases hu : upU 34 true s with
  | none => rw [hu] at h; cases h
  | some p =>
    obtain ⟨t', v'⟩ := p
    rw [hu] at h
    have h1 := upU_len s.length (Nat.le_refl _) hu
    simp only at h
    split at h
    · simp only [Option.some.injEq, Prod.mk.injEq] at h
      obtain ⟨rfl, rfl, rfl, rfl⟩ := h
      have h2 := tw_len alnumD v'.tail
      have h3 := congrArg List.length (List.takeWhile_append_dropWhile (p := alnumD) (l := v'.tail))
      rw [List.length_append] at h3
      rw [List.length_tail] at h2 h3
      rw [List.length_map]; omega
    · split at h
      · cases hv : upU 62 false (v'.drop 3) with
        | none => rw [hv] at h; cases h
        | some z =>
          obtain ⟨a, b⟩ := z
          rw [hv] at h
          simp only [Option.map_some, Option.some.injEq, Prod.mk.injEq] at h
          obtain ⟨rfl, rfl, rfl, rfl⟩ := h
          have h2 := upU_len _ (Nat.le_refl _) hv
          rw [List.length_drop] at h2; omega
      · simp only [Option.some.injEq, Prod.mk.injEq] at h
        obtain ⟨rfl, rfl, rfl, rfl⟩ := h
        simp; omega
end Tm
theorem dw_len (p : UInt8 → Bool) (l : List UInt8) : (l.dropWhile p).length ≤ l.length := by
  have := congrArg List.length (List.takeWhile_append_dropWhile (p := p) (l := l))
  rw [List.length_append] at this; omega
end Go.Proofs.YtjaebndajhppgaaGreatDoor
namespace Go.Proofs.YtjaebndajhppgaaGreatDoor.Tm
set_option linter.unusedVariables false
set_option linter.unusedSimpArgs false
set_option maxRecDepth 100000
open Go Go.RowKit

abbrev T3 := Nat × T × T
def rt (s : T) : Option (T3 × T) := match rterm s with
  | none => none
  | some (k, t, x, v) => some ((k, t, x), v.dropWhile blankC)
def isT (a : T3) : Bool := is (a.1 : Int) a.2.1 a.2.2
def point (s : T) : Option T := match s with
  | [] => none
  | c :: r => if c = 46 then some (r.dropWhile blankC) else none
def rtri (s : T) : Option ((T3 × T3 × T3) × T) := match rt s with
  | none => none
  | some (a, r) => match rt r with
    | none => none
    | some (b, u) => match rt u with
      | none => none
      | some (c, v) => match point v with
        | none => none
        | some z => some ((a, b, c), z)
def endd (s : T) : Bool := decide (s = [] ∨ s.head? = some 35)
def isTri (p : T3 × T3 × T3) : Bool := decide (p.1.1 = 1 ∨ p.1.1 = 2) && decide (p.2.1.1 = 1) && (isT p.1 && isT p.2.1 && isT p.2.2)
def one (s : T) : Option (Option (T3 × T3 × T3)) :=
  if Lib.validD s = false then none
  else if endd (s.dropWhile blankC) = true then some none
  else match rtri (s.dropWhile blankC) with
    | none => none
    | some (p, r) => if endd r = true ∧ isTri p = true then some (some p) else none
theorem up_len' {e : UInt8} {lit : Bool} {s t v : T} (h : upU e lit s = some (t, v)) : t.length ≤ 4 * s.length ∧ v.length < s.length := upU_len s.length (Nat.le_refl _) h
theorem rterm_len {s : T} {k : Nat} {t x v : T} (h : rterm s = some (k, t, x, v)) : t.length ≤ 4 * s.length ∧ x.length ≤ 4 * s.length ∧ v.length ≤ s.length ∧ 1 ≤ k ∧ k ≤ 5 := by
  by_cases h1 : s.take 1 = [60]
  · obtain ⟨u, rfl⟩ : ∃ u, s = 60 :: u := ⟨s.drop 1, by have := List.take_append_drop 1 s; rw [h1] at this; exact this.symm⟩
    rw [rterm_up62] at h
    cases hu : upU 62 false u with
    | none => rw [hu] at h; cases h
    | some p =>
      obtain ⟨a, b⟩ := p
      rw [hu] at h
      simp only [Option.map_some, Option.some.injEq, Prod.mk.injEq] at h
      obtain ⟨rfl, rfl, rfl, rfl⟩ := h
      have := up_len' hu
      simp only [List.length_cons, List.length_nil]; omega
  · by_cases h2 : s.take 2 = [95, 58]
    · obtain ⟨u, rfl⟩ : ∃ u, s = 95 :: 58 :: u := ⟨s.drop 2, by have := List.take_append_drop 2 s; rw [h2] at this; exact this.symm⟩
      rw [rterm_95] at h
      simp only [Option.some.injEq, Prod.mk.injEq] at h
      obtain ⟨rfl, rfl, rfl, rfl⟩ := h
      have a1 := tw_len alnum u
      have a2 := dw_len alnum u
      simp only [List.length_cons, List.length_nil]; omega
    · by_cases h3 : s.take 1 = [34]
      · obtain ⟨u, rfl⟩ : ∃ u, s = 34 :: u := ⟨s.drop 1, by have := List.take_append_drop 1 s; rw [h3] at this; exact this.symm⟩
        rw [rterm_34] at h
        have a1 := rlit_len h
        have a2 : 1 ≤ k ∧ k ≤ 5 := by
          unfold rlit at h
          cases hu : upU 34 true u with
          | none => rw [hu] at h; cases h
          | some p =>
            obtain ⟨t', v'⟩ := p
            rw [hu] at h
            simp only at h
            split at h
            · simp only [Option.some.injEq, Prod.mk.injEq] at h; omega
            · split at h
              · cases hv : upU 62 false (v'.drop 3) with
                | none => rw [hv] at h; cases h
                | some z => rw [hv] at h; simp only [Option.map_some, Option.some.injEq, Prod.mk.injEq] at h; omega
              · simp only [Option.some.injEq, Prod.mk.injEq] at h; omega
        simp only [List.length_cons]; omega
      · rw [rterm_none h1 h2 h3] at h; cases h
theorem rt_len {s : T} {a : T3} {r : T} (h : rt s = some (a, r)) : a.2.1.length ≤ 4 * s.length ∧ a.2.2.length ≤ 4 * s.length ∧ r.length ≤ s.length ∧ 1 ≤ a.1 ∧ a.1 ≤ 5 := by
  unfold rt at h
  cases hr : rterm s with
  | none => rw [hr] at h; cases h
  | some p =>
    obtain ⟨k, t, x, v⟩ := p
    rw [hr] at h
    simp only [Option.some.injEq, Prod.mk.injEq] at h
    obtain ⟨rfl, rfl⟩ := h
    have h1 := rterm_len hr
    have h2 := dw_len blankC v
    simp only; omega
end Go.Proofs.YtjaebndajhppgaaGreatDoor.Tm
