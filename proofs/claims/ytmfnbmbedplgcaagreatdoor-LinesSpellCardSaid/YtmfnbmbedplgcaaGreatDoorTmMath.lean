/- A language by its parts, and in one pass: plain facts. -/
import Derived.WalkKit
import Derived.Lib.SplitLaws
namespace Go.Proofs.YtmfnbmbedplgcaaGreatDoor.Tm
set_option linter.unusedVariables false
set_option maxRecDepth 100000
set_option linter.unusedSimpArgs false
open Go

/-- A text's parts between a byte. -/
def parts (c : UInt8) : List UInt8 → List (List UInt8)
  | [] => [[]]
  | b :: t => if b = c then [] :: parts c t else (b :: (parts c t).headD []) :: (parts c t).tail
theorem parts_ne (c : UInt8) : ∀ l, parts c l ≠ []
  | [] => by simp [parts]
  | b :: t => by unfold parts; split <;> simp
theorem parts_len (c : UInt8) : ∀ l, (parts c l).length = l.count c + 1
  | [] => by simp [parts]
  | b :: t => by
    have ih := parts_len c t
    unfold parts
    by_cases h : b = c
    · subst h; simp [ih]
    · rw [if_neg h, List.count_cons_of_ne (by simpa using h)]
      simp only [List.length_cons, List.length_tail, ih]
      omega
theorem index_cons_ne {b c : UInt8} {l : List UInt8} (h : b ≠ c) : Lib.index (b :: l) [c] = if Lib.index l [c] == -1 then -1 else Lib.index l [c] + 1 := by
  have hp : ([c] : List UInt8).isPrefixOf (b :: l) = false := by simp [List.isPrefixOf, Ne.symm h]
  rw [Lib.index, hp]; simp
theorem index_cons_eq (c : UInt8) (l : List UInt8) : Lib.index (c :: l) [c] = 0 := by
  rw [Lib.index]; simp [List.isPrefixOf]
theorem splitK_count (c : UInt8) : ∀ l, Lib.splitK [c] 0 (l.count c) l = parts c l
  | [] => by simp [Lib.splitK, parts]
  | b :: t => by
    have ih := splitK_count c t
    by_cases h : b = c
    · subst h
      rw [List.count_cons_self, Lib.splitK, index_cons_eq]
      simp [parts, ih]
    · rw [List.count_cons_of_ne (by simpa using h)]
      unfold parts
      rw [if_neg h, ← ih]
      have ix := index_cons_ne (l := t) h
      cases hk : t.count c with
      | zero => simp [Lib.splitK]
      | succ k =>
        rw [Lib.splitK, Lib.splitK, ix]
        by_cases hm : Lib.index t [c] = -1
        · simp [hm]
        · have hge := Lib.index_ge t [c]
          obtain ⟨j, hj⟩ : ∃ j : Nat, Lib.index t [c] = j := ⟨(Lib.index t [c]).toNat, by omega⟩
          have e1 : ((j : Int) == -1) = false := by simp <;> omega
          have e2 : ((j : Int) + 1 == -1) = false := by simp <;> omega
          have e3 : ((j : Int) + 1).toNat = j + 1 := by omega
          rw [hj]
          simp [e1, e2, e3]
theorem split_parts (c : UInt8) (l : List UInt8) : Lib.split l [c] = parts c l := by
  unfold Lib.split
  rw [Lib.count_one, splitK_count]

/-- A small letter, a digit. -/
def small (c : UInt8) : Bool := decide (97 ≤ c.toNat) && decide (c.toNat ≤ 122)
def digit (c : UInt8) : Bool := decide (48 ≤ c.toNat) && decide (c.toNat ≤ 57)
/-- May a text be a language's part (d: with digits)? -/
def partOk (d : Bool) (p : List UInt8) : Bool := decide (1 ≤ p.length) && decide (p.length ≤ 8) && p.all (fun c => small c || (d && digit c))
/-- Parts, the first with digits just where d says so. -/
def partsOk (d : Bool) : List (List UInt8) → Bool
  | [] => true
  | p :: r => partOk d p && r.all (partOk true)
/-- In one pass: d, does a part stand ahead; n, how many bytes of this one do. -/
def pass : Bool → Nat → List UInt8 → Bool
  | d, n, [] => decide (1 ≤ n)
  | d, n, c :: t => if c = 45 ∧ 1 ≤ n then pass true 0 t else if small c || (digit c && d) then (if 8 < n + 1 then false else pass d (n + 1) t) else false
def lang (s : List UInt8) : Bool := pass false 0 s && decide (s.length ≤ 16)

/-- The pass, n bytes of the first part ahead, is the parts' own. -/
theorem pass_parts : ∀ (s : List UInt8) (d : Bool) (n : Nat), n ≤ 8 →
    pass d n s = (decide (1 ≤ n + ((parts 45 s).headD []).length) && decide (n + ((parts 45 s).headD []).length ≤ 8) && ((parts 45 s).headD []).all (fun c => small c || (d && digit c)) && (parts 45 s).tail.all (partOk true))
  | [], d, n, hn => by
    simp [pass, parts, hn]
  | c :: t, d, n, hn => by
    have hne := parts_ne 45 t
    by_cases h : c = 45
    · subst h
      have hs : small 45 = false := by decide
      have hd : digit 45 = false := by decide
      unfold pass
      by_cases h1 : 1 ≤ n
      · rw [if_pos ⟨rfl, h1⟩, pass_parts t true 0 (by omega)]
        obtain ⟨p, r, e⟩ : ∃ p r, parts 45 t = p :: r := by
          cases hp : parts 45 t with
          | nil => exact absurd hp hne
          | cons p r => exact ⟨p, r, rfl⟩
        have : parts 45 ((45 : UInt8) :: t) = [] :: parts 45 t := by simp [parts]
        rw [this, e]
        simp [partOk, h1, hn]
      · have hn0 : n = 0 := by omega
        subst hn0
        simp [parts, hs, hd]
    · have hp : parts 45 (c :: t) = (c :: (parts 45 t).headD []) :: (parts 45 t).tail := by simp [parts, h]
      rw [hp]
      unfold pass
      rw [if_neg (fun e => h e.1)]
      by_cases hc : (small c || (digit c && d)) = true
      · rw [if_pos hc]
        have hc' : (small c || (d && digit c)) = true := by rw [Bool.and_comm d]; exact hc
        by_cases h8 : 8 < n + 1
        · rw [if_pos h8]
          have hx : decide (n + ((parts 45 t).headD []).length + 1 ≤ 8) = false := by simp; omega
          have hy : n + (((parts 45 t).headD []).length + 1) = n + ((parts 45 t).headD []).length + 1 := by omega
          simp only [List.headD_cons, List.length_cons, hy, hx, Bool.and_false, Bool.false_and]
        · rw [if_neg h8, pass_parts t d (n + 1) (by omega)]
          have hy : n + 1 + ((parts 45 t).headD []).length = n + (((parts 45 t).headD []).length + 1) := by omega
          simp only [List.headD_cons, List.length_cons, List.all_cons, hc', Bool.true_and, List.tail_cons, hy]
          rfl
      · rw [if_neg hc]
        have hc' : (small c || (d && digit c)) = false := by rw [Bool.and_comm d]; simpa using hc
        simp only [List.headD_cons, List.all_cons, hc', Bool.false_and, Bool.and_false]
theorem lang_parts (s : List UInt8) : lang s = (decide (s.length ≤ 16) && partsOk false (parts 45 s)) := by
  unfold lang
  rw [pass_parts s false 0 (by omega)]
  cases hp : parts 45 s with
  | nil => exact absurd hp (parts_ne 45 s)
  | cons p r =>
    simp only [List.headD_cons, List.tail_cons, partsOk, partOk, Nat.zero_add]
    rw [Bool.and_comm]
end Go.Proofs.YtmfnbmbedplgcaaGreatDoor.Tm
