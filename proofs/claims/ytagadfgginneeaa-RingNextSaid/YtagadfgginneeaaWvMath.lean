/- Plain facts on rows of numbers, digit by digit: what lies in a range, what lies below a number, the k-th least. -/
import Derived.Test.YtagadfgginneeaaBitsMath
namespace Go.Proofs.Ytagadfgginneeaa.Wv
set_option linter.unusedVariables false
set_option linter.unusedSimpArgs false
open Go Go.RowKit
open Go.Proofs.Ytagadfgginneeaa.Bm (cnt)
/-- The digits at d of a row. -/
def digs (l : List Nat) (d : Nat) : List Bool := l.map fun n => n.testBit d
/-- The row of the level below: those with a nought first. -/
def part (l : List Nat) (d : Nat) : List Nat := l.filter (fun n => !n.testBit d) ++ l.filter (fun n => n.testBit d)
/-- How many with a nought. -/
def zeros (l : List Nat) (d : Nat) : Nat := l.length - cnt (digs l d) l.length
/-- Where a place lies on the level below. -/
def down (l : List Nat) (d i : Nat) (one : Bool) : Nat := if one then zeros l d + cnt (digs l d) i else i - cnt (digs l d) i
/-- The numbers of a range. -/
def seg (l : List Nat) (a b : Nat) : List Nat := (l.take b).drop a

theorem part_length (l : List Nat) (d : Nat) : (part l d).length = l.length := by
  unfold part
  rw [List.length_append, ← List.countP_eq_length_filter, ← List.countP_eq_length_filter]
  have h := List.length_eq_countP_add_countP (fun n : Nat => n.testBit d) (l := l)
  have e : List.countP (fun n : Nat => !n.testBit d) l = List.countP (fun a : Nat => decide ¬a.testBit d = true) l := by
    congr 1; funext a; cases a.testBit d <;> rfl
  omega
theorem cnt_digs (l : List Nat) (d i : Nat) : cnt (digs l d) i = ((l.take i).filter fun n => n.testBit d).length := by
  unfold cnt digs
  rw [← List.map_take, List.count_eq_countP, List.countP_map, ← List.countP_eq_length_filter]
  congr 1; funext a; simp [Function.comp]
theorem filter_split (l : List Nat) (d : Nat) : (l.filter fun n => n.testBit d).length + (l.filter fun n => !n.testBit d).length = l.length := by
  have := part_length l d
  unfold part at this
  rw [List.length_append] at this; omega
theorem down_ff (l : List Nat) (d i : Nat) (h : i ≤ l.length) : down l d i false = ((l.take i).filter fun n => !n.testBit d).length := by
  have e : down l d i false = i - cnt (digs l d) i := by simp [down]
  have := filter_split (l.take i) d
  rw [e, cnt_digs]; rw [List.length_take, Nat.min_eq_left h] at this; omega
theorem zeros_eq (l : List Nat) (d : Nat) : zeros l d = (l.filter fun n => !n.testBit d).length := by
  have := filter_split l d
  unfold zeros; rw [cnt_digs, List.take_length]; omega
theorem drop_filter (p : Nat → Bool) (l : List Nat) (i : Nat) : (l.filter p).drop ((l.take i).filter p).length = (l.drop i).filter p := by
  conv => lhs; rw [← List.take_append_drop i l, List.filter_append]
  rw [List.take_append_drop]
  exact List.drop_left
theorem take_filter (p : Nat → Bool) (l : List Nat) (i : Nat) : (l.filter p).take ((l.take i).filter p).length = (l.take i).filter p := by
  conv => lhs; rw [← List.take_append_drop i l, List.filter_append]
  rw [List.take_append_drop]
  exact List.take_left
theorem seg_filter (p : Nat → Bool) (l : List Nat) (a b : Nat) (h : a ≤ b) :
    seg (l.filter p) ((l.take a).filter p).length ((l.take b).filter p).length = (seg l a b).filter p := by
  unfold seg
  rw [take_filter]
  have : ((l.take a).filter p) = (((l.take b).take a).filter p) := by rw [List.take_take, Nat.min_eq_left h]
  rw [this, drop_filter]
theorem seg_low (x y : List Nat) (a b : Nat) (hb : b ≤ x.length) : seg (x ++ y) a b = seg x a b := by
  unfold seg; rw [List.take_append_of_le_length hb]
theorem seg_high (x y : List Nat) (a b : Nat) : seg (x ++ y) (x.length + a) (x.length + b) = seg y a b := by
  unfold seg; rw [List.take_length_add_append, List.drop_length_add_append]
theorem filter_take_le (p : Nat → Bool) (l : List Nat) (i : Nat) : ((l.take i).filter p).length ≤ (l.filter p).length := by
  conv => rhs; rw [← List.take_append_drop i l, List.filter_append, List.length_append]
  exact Nat.le_add_right _ _
/-- A range's numbers with that digit are a range on the level below. -/
theorem seg_down (l : List Nat) (d a b : Nat) (one : Bool) (h : a ≤ b) (hb : b ≤ l.length) :
    seg (part l d) (down l d a one) (down l d b one) = (seg l a b).filter fun n => n.testBit d == one := by
  cases one with
  | false =>
    rw [down_ff l d a (by omega), down_ff l d b hb]
    unfold part
    rw [seg_low _ _ _ _ (filter_take_le _ _ _), seg_filter _ _ _ _ h]
    congr 1; funext n; cases n.testBit d <;> rfl
  | true =>
    have e : ∀ i, down l d i true = (l.filter fun n => !n.testBit d).length + ((l.take i).filter fun n => n.testBit d).length := by
      intro i; simp only [down, if_pos, zeros_eq, cnt_digs]
    rw [e, e]
    unfold part
    rw [seg_high, seg_filter _ _ _ _ h]
    congr 1; funext n; cases n.testBit d <;> rfl
theorem seg_length (l : List Nat) (a b : Nat) (hb : b ≤ l.length) : (seg l a b).length = b - a := by
  unfold seg; rw [List.length_drop, List.length_take, Nat.min_eq_left hb]
theorem down_le (l : List Nat) (d i : Nat) (one : Bool) (h : i ≤ l.length) : down l d i one ≤ l.length := by
  cases one with
  | false => rw [down_ff l d i h]; have := filter_take_le (fun n => !n.testBit d) l i; have := filter_split l d; omega
  | true =>
    have e : down l d i true = zeros l d + cnt (digs l d) i := by simp [down]
    rw [e, zeros_eq, cnt_digs]; have := filter_take_le (fun n => n.testBit d) l i; have := filter_split l d; omega
theorem down_mono (l : List Nat) (d a b : Nat) (one : Bool) (h : a ≤ b) (hb : b ≤ l.length) : down l d a one ≤ down l d b one := by
  have m : ∀ p : Nat → Bool, ((l.take a).filter p).length ≤ ((l.take b).filter p).length := by
    intro p
    have := filter_take_le p (l.take b) a
    rwa [List.take_take, Nat.min_eq_left h] at this
  cases one with
  | false => rw [down_ff l d a (by omega), down_ff l d b hb]; exact m _
  | true => simp only [down, if_pos, cnt_digs]; have := m (fun n => n.testBit d); omega
/-- How many of a range have the digit. -/
theorem down_sub (l : List Nat) (d a b : Nat) (one : Bool) (h : a ≤ b) (hb : b ≤ l.length) :
    down l d b one - down l d a one = ((seg l a b).filter fun n => n.testBit d == one).length := by
  rw [← seg_down l d a b one h hb, seg_length _ _ _ (by rw [part_length]; exact down_le l d b one hb)]

/-- How many numbers lie below v, by their low d digits. -/
def low (s : List Nat) (d v : Nat) : Nat := s.countP fun n => n % 2 ^ d < v % 2 ^ d
theorem mod_succ (n d : Nat) : n % 2 ^ (d + 1) = 2 ^ d * (if n.testBit d then 1 else 0) + n % 2 ^ d := by
  rw [Nat.mod_pow_succ, Nat.add_comm]
  congr 2
  rw [Nat.testBit_eq_decide_div_mod_eq]
  have := Nat.mod_two_eq_zero_or_one (n / 2 ^ d)
  rcases this with h | h <;> simp [h]
theorem low_zero (s : List Nat) (v : Nat) : low s 0 v = 0 := by
  unfold low; rw [List.countP_eq_zero]; intro a _; simp [Nat.mod_one]
theorem countP_filter_split (p q : Nat → Bool) (s : List Nat) : s.countP p = (s.filter q).countP p + (s.filter fun n => !q n).countP p := by
  induction s with
  | nil => rfl
  | cons a s ih =>
    cases hq : q a <;> cases hp : p a <;> simp [hq, hp, List.filter_cons, List.countP_cons, ih] <;> omega
theorem low_succ (s : List Nat) (d v : Nat) : low s (d + 1) v =
    (if v.testBit d then (s.filter fun n => n.testBit d == false).length else 0) + low (s.filter fun n => n.testBit d == v.testBit d) d v := by
  unfold low
  have hv := mod_succ v d
  have h2 : v % 2 ^ d < 2 ^ d := Nat.mod_lt _ (Nat.two_pow_pos d)
  induction s with
  | nil => simp
  | cons a s ih =>
    have ha := mod_succ a d
    have h1 : a % 2 ^ d < 2 ^ d := Nat.mod_lt _ (Nat.two_pow_pos d)
    cases hb : v.testBit d <;> cases hc : a.testBit d <;>
      simp only [hb, hc, if_pos, if_neg, List.filter_cons, List.countP_cons, List.length_cons, beq_self_eq_true, Bool.false_eq_true, Nat.mul_one, Nat.mul_zero, reduceCtorEq, if_false, if_true, beq_iff_eq, Nat.zero_add] at ih ha hv ⊢ <;>
      rw [ih] <;> (repeat' split) <;> simp_all <;> omega
theorem low_le (s : List Nat) (d v : Nat) : low s d v ≤ s.length := List.countP_le_length
/-- The number that k others come ahead of, by the low d digits. -/
def least : Nat → List Nat → Nat → Nat
  | 0, _, _ => 0
  | d + 1, s, k =>
    if (s.filter fun n => n.testBit d == false).length ≤ k then
      2 ^ d + least d (s.filter fun n => n.testBit d == true) (k - (s.filter fun n => n.testBit d == false).length)
    else least d (s.filter fun n => n.testBit d == false) k
theorem least_lt (d : Nat) : ∀ (s : List Nat) (k : Nat), least d s k < 2 ^ d := by
  induction d with
  | zero => intro s k; simp [least]
  | succ d ih =>
    intro s k
    unfold least
    have := ih (s.filter fun n => n.testBit d == true) (k - (s.filter fun n => n.testBit d == false).length)
    have := ih (s.filter fun n => n.testBit d == false) k
    rw [Nat.pow_succ]
    split <;> omega
theorem filter_two (s : List Nat) (d : Nat) : (s.filter fun n => n.testBit d == false).length + (s.filter fun n => n.testBit d == true).length = s.length := by
  have := filter_split s d
  have e1 : (s.filter fun n => n.testBit d == false) = (s.filter fun n => !n.testBit d) := by congr 1; funext n; cases n.testBit d <;> rfl
  have e2 : (s.filter fun n => n.testBit d == true) = (s.filter fun n => n.testBit d) := by congr 1; funext n; cases n.testBit d <;> rfl
  rw [e1, e2]; omega
/-- What the least is: it is there, k at most lie below it, and more than k up to it. -/
theorem least_spec (d : Nat) : ∀ (s : List Nat) (k : Nat), k < s.length →
    (∃ x ∈ s, x % 2 ^ d = least d s k) ∧ s.countP (fun n => n % 2 ^ d < least d s k) ≤ k ∧ k < s.countP (fun n => n % 2 ^ d ≤ least d s k) := by
  induction d with
  | zero =>
    intro s k hk
    refine ⟨?_, ?_, ?_⟩
    · match s, hk with
      | a :: s, _ => exact ⟨a, List.mem_cons_self .., by simp [least, Nat.mod_one]⟩
    · rw [List.countP_eq_zero.2 (by intro a _; simp [least])]; exact Nat.zero_le _
    · rw [List.countP_eq_length.2 (by intro a _; simp [Nat.mod_one])]; exact hk
  | succ d ih =>
    intro s k hk
    have h2 := filter_two s d
    unfold least
    have hP := Nat.two_pow_pos d
    split
    case isTrue hz =>
      have := ih (s.filter fun n => n.testBit d == true) (k - (s.filter fun n => n.testBit d == false).length) (by omega)
      generalize hr : least d (s.filter fun n => n.testBit d == true) (k - (s.filter fun n => n.testBit d == false).length) = r at this ⊢
      have hlt : r < 2 ^ d := by rw [← hr]; exact least_lt d _ _
      obtain ⟨⟨x, hx, hxr⟩, hle, hgt⟩ := this
      rw [List.mem_filter] at hx
      have hxb : x.testBit d = true := by simpa using hx.2
      have hodd : ∀ q : Nat → Bool, (∀ n, n.testBit d = false → q n = true) →
          s.countP q = (s.filter fun n => n.testBit d == false).length + (s.filter fun n => n.testBit d == true).countP q := by
        intro q hq
        rw [countP_filter_split q (fun n => n.testBit d == false) s]
        congr 1
        · rw [List.countP_eq_length]; intro a ha; rw [List.mem_filter] at ha; exact hq a (by simpa using ha.2)
        · congr 2; funext n; cases n.testBit d <;> rfl
      refine ⟨⟨x, hx.1, ?_⟩, ?_, ?_⟩
      · rw [mod_succ, hxb, hxr]; simp
      · rw [hodd _ (by
          intro n hn
          have := mod_succ n d; rw [hn] at this
          have := Nat.mod_lt n hP
          simp at this ⊢; simp_all; omega)]
        have : (s.filter fun n => n.testBit d == true).countP (fun n => decide (n % 2 ^ (d + 1) < 2 ^ d + r)) = (s.filter fun n => n.testBit d == true).countP (fun n => decide (n % 2 ^ d < r)) := by
          apply List.countP_congr
          intro a ha; rw [List.mem_filter] at ha
          have hb : a.testBit d = true := by simpa using ha.2
          have := mod_succ a d; rw [hb] at this; simp at this; simp [this]
        rw [this]; omega
      · rw [hodd _ (by
          intro n hn
          have := mod_succ n d; rw [hn] at this
          have := Nat.mod_lt n hP
          simp at this ⊢; simp_all; omega)]
        have : (s.filter fun n => n.testBit d == true).countP (fun n => decide (n % 2 ^ (d + 1) ≤ 2 ^ d + r)) = (s.filter fun n => n.testBit d == true).countP (fun n => decide (n % 2 ^ d ≤ r)) := by
          apply List.countP_congr
          intro a ha; rw [List.mem_filter] at ha
          have hb : a.testBit d = true := by simpa using ha.2
          have := mod_succ a d; rw [hb] at this; simp at this; simp [this]
        rw [this]; omega
    case isFalse hz =>
      have := ih (s.filter fun n => n.testBit d == false) k (by omega)
      generalize hr : least d (s.filter fun n => n.testBit d == false) k = r at this ⊢
      have hlt : r < 2 ^ d := by rw [← hr]; exact least_lt d _ _
      obtain ⟨⟨x, hx, hxr⟩, hle, hgt⟩ := this
      rw [List.mem_filter] at hx
      have hxb : x.testBit d = false := by simpa using hx.2
      have heven : ∀ q : Nat → Bool, (∀ n, n.testBit d = true → q n = false) →
          s.countP q = (s.filter fun n => n.testBit d == false).countP q := by
        intro q hq
        rw [countP_filter_split q (fun n => n.testBit d == false) s]
        have : (s.filter fun n => !(n.testBit d == false)).countP q = 0 := by
          rw [List.countP_eq_zero]; intro a ha; rw [List.mem_filter] at ha
          have : q a = false := hq a (by simpa using ha.2)
          simp [this]
        rw [this]; rfl
      have hcongr : ∀ q q' : Nat → Bool, (∀ n, n.testBit d = false → q n = q' n) → (s.filter fun n => n.testBit d == false).countP q = (s.filter fun n => n.testBit d == false).countP q' := by
        intro q q' h
        apply List.countP_congr
        intro a ha; rw [List.mem_filter] at ha
        rw [h a (by simpa using ha.2)]
      have hlow : ∀ n : Nat, n.testBit d = false → n % 2 ^ (d + 1) = n % 2 ^ d := by
        intro n hn; have := mod_succ n d; rw [hn] at this; simpa using this
      have hhigh : ∀ n : Nat, n.testBit d = true → 2 ^ d ≤ n % 2 ^ (d + 1) := by
        intro n hn; have := mod_succ n d; rw [hn] at this; simp at this; omega
      refine ⟨⟨x, hx.1, by rw [hlow x hxb]; exact hxr⟩, ?_, ?_⟩
      · rw [heven _ (by intro n hn; have := hhigh n hn; simp; omega),
          hcongr _ (fun n => decide (n % 2 ^ d < r)) (by intro n hn; rw [hlow n hn])]; exact hle
      · rw [heven _ (by intro n hn; have := hhigh n hn; simp; omega),
          hcongr _ (fun n => decide (n % 2 ^ d ≤ r)) (by intro n hn; rw [hlow n hn])]; exact hgt
/-- The row of a level: how many levels above it have been parted. -/
def rows (l : List Nat) (w : Nat) : Nat → List Nat
  | 0 => l
  | k + 1 => part (rows l w k) (w - 1 - k)
theorem rows_length (l : List Nat) (w k : Nat) : (rows l w k).length = l.length := by
  induction k with
  | zero => rfl
  | succ k ih => unfold rows; rw [part_length, ih]
theorem part_mem (l : List Nat) (d x : Nat) : x ∈ part l d ↔ x ∈ l := by
  unfold part
  rw [List.mem_append, List.mem_filter, List.mem_filter]
  cases h : x.testBit d <;> simp
theorem rows_mem (l : List Nat) (w k x : Nat) : x ∈ rows l w k ↔ x ∈ l := by
  induction k with
  | zero => rfl
  | succ k ih => unfold rows; rw [part_mem, ih]
/-- Where a range of the first level's row has come on the level k, led by v's digits. -/
def at' (l : List Nat) (w v : Nat) (i : Nat) : Nat → Nat
  | 0 => i
  | k + 1 => down (rows l w k) (w - 1 - k) (at' l w v i k) (v.testBit (w - 1 - k))
theorem at_le (l : List Nat) (w v i k : Nat) (h : i ≤ l.length) : at' l w v i k ≤ l.length := by
  induction k with
  | zero => exact h
  | succ k ih => unfold at'; have := down_le (rows l w k) (w - 1 - k) (at' l w v i k) (v.testBit (w - 1 - k)) (by rw [rows_length]; exact ih); rwa [rows_length] at this
theorem at_mono (l : List Nat) (w v a b k : Nat) (h : a ≤ b) (hb : b ≤ l.length) : at' l w v a k ≤ at' l w v b k := by
  induction k with
  | zero => exact h
  | succ k ih => unfold at'; exact down_mono _ _ _ _ _ ih (by rw [rows_length]; exact at_le l w v b k hb)
/-- The numbers of a range that go with v down to the level k. -/
def with' (s : List Nat) (w v k : Nat) : List Nat := s.filter fun n => (List.range k).all fun j => n.testBit (w - 1 - j) == v.testBit (w - 1 - j)
theorem with_succ (s : List Nat) (w v k : Nat) : with' s w v (k + 1) = (with' s w v k).filter fun n => n.testBit (w - 1 - k) == v.testBit (w - 1 - k) := by
  unfold with'
  rw [List.filter_filter]
  congr 1; funext n
  rw [List.range_succ, List.all_append]; simp [Bool.and_comm]
theorem seg_rows (l : List Nat) (w v a b k : Nat) (h : a ≤ b) (hb : b ≤ l.length) :
    seg (rows l w k) (at' l w v a k) (at' l w v b k) = with' (seg l a b) w v k := by
  induction k with
  | zero => simp only [rows, at', with', List.range_zero, List.all_nil]; exact (List.filter_eq_self.2 (by simp)).symm
  | succ k ih =>
    unfold rows at'
    rw [seg_down _ _ _ _ _ (at_mono l w v a b k h hb) (by rw [rows_length]; exact at_le l w v b k hb), ih, with_succ]
/-- A range's numbers below v, whole: rows of numbers of w digits. -/
theorem low_all (s : List Nat) (w v : Nat) (hs : ∀ x ∈ s, x < 2 ^ w) (hv : v < 2 ^ w) : low s w v = s.countP fun n => n < v := by
  unfold low
  apply List.countP_congr
  intro a ha
  rw [Nat.mod_eq_of_lt (hs a ha), Nat.mod_eq_of_lt hv]
/-- The next one: the least one after those below v. -/
theorem least_next (s : List Nat) (w v : Nat) (hs : ∀ x ∈ s, x < 2 ^ w) (hk : (s.countP fun n => n < v) < s.length) :
    least w s (s.countP fun n => n < v) ∈ s ∧ v ≤ least w s (s.countP fun n => n < v) ∧
      ∀ x ∈ s, v ≤ x → least w s (s.countP fun n => n < v) ≤ x := by
  obtain ⟨⟨x, hx, hxr⟩, hle, hgt⟩ := least_spec w s _ hk
  generalize hr : least w s (s.countP fun n => n < v) = r at hle hgt hxr ⊢
  have e1 : (s.countP fun n => decide (n % 2 ^ w < r)) = s.countP fun n => decide (n < r) := by
    apply List.countP_congr; intro a ha; rw [Nat.mod_eq_of_lt (hs a ha)]
  have e2 : (s.countP fun n => decide (n % 2 ^ w ≤ r)) = s.countP fun n => decide (n ≤ r) := by
    apply List.countP_congr; intro a ha; rw [Nat.mod_eq_of_lt (hs a ha)]
  rw [e1] at hle; rw [e2] at hgt
  rw [Nat.mod_eq_of_lt (hs x hx)] at hxr
  refine ⟨hxr ▸ hx, ?_, ?_⟩
  · apply Nat.le_of_not_lt; intro hlt
    have : (s.countP fun n => decide (n ≤ r)) ≤ s.countP fun n => decide (n < v) := by
      apply List.countP_mono_left; intro a _ ha
      have ha : a ≤ r := by simpa using ha
      simp; omega
    omega
  · intro y hy hvy
    apply Nat.le_of_not_lt; intro hlt
    have hsub : (s.countP fun n => decide (n < v)) < s.countP fun n => decide (n < r) := by
      have h1 : (s.countP fun n => decide (n < v)) + (s.countP fun n => n == y) ≤ s.countP fun n => decide (n < r) := by
        clear hle hgt hxr hr e1 e2 hk hx hy hs
        have hvr : v ≤ r := by omega
        induction s with
        | nil => simp
        | cons a s ih =>
          simp only [List.countP_cons]
          simp only [decide_eq_true_eq, beq_iff_eq] at ih ⊢
          (repeat' split) <;> omega
      have h2 : 0 < s.countP fun n => n == y := by
        rw [List.countP_pos_iff]; exact ⟨y, hy, by simp⟩
      omega
    omega
/-! ### what is asked of a range -/
/-- How many lie between. -/
def cntR (s : List Nat) (lo hi : Int) : Nat := s.countP fun n : Nat => decide (lo ≤ (n : Int)) && decide ((n : Int) ≤ hi)
theorem cntR_eq (s : List Nat) (lo hi : Int) : cntR s lo hi = (s.countP fun n : Nat => decide ((n : Int) < hi + 1)) - (s.countP fun n : Nat => decide ((n : Int) < lo)) := by
  unfold cntR
  by_cases h : lo ≤ hi + 1
  · have : (s.countP fun n : Nat => decide (lo ≤ (n : Int)) && decide ((n : Int) ≤ hi)) + (s.countP fun n : Nat => decide ((n : Int) < lo)) = (s.countP fun n : Nat => decide ((n : Int) < hi + 1)) := by
      induction s with
      | nil => rfl
      | cons a s ih =>
        simp only [List.countP_cons, Bool.and_eq_true, decide_eq_true_eq] at ih ⊢
        (repeat' split) <;> omega
    omega
  · have h0 : (s.countP fun n : Nat => decide (lo ≤ (n : Int)) && decide ((n : Int) ≤ hi)) = 0 := by
      rw [List.countP_eq_zero]; intro a _; simp; omega
    have : (s.countP fun n : Nat => decide ((n : Int) < hi + 1)) ≤ (s.countP fun n : Nat => decide ((n : Int) < lo)) := by
      apply List.countP_mono_left; intro a _ ha; simp at ha ⊢; omega
    omega
/-- How many are below. -/
def belowR (s : List Nat) (v : Int) : Nat := s.countP fun n : Nat => decide ((n : Int) < v)
theorem belowR_low (s : List Nat) (v : Int) (h : v ≤ 0) : belowR s v = 0 := by
  unfold belowR; rw [List.countP_eq_zero]; intro a _; simp; omega
theorem belowR_high (s : List Nat) (w : Nat) (v : Int) (hs : ∀ x ∈ s, x < 2 ^ w) (h : ((2 ^ w : Nat) : Int) ≤ v) : belowR s v = s.length := by
  unfold belowR; rw [List.countP_eq_length]; intro a ha; have := hs a ha; simp; omega
theorem belowR_nat (s : List Nat) (v : Nat) : belowR s v = s.countP fun n => n < v := by
  unfold belowR; congr 1; funext n; simp
theorem belowR_le (s : List Nat) (v : Int) : belowR s v ≤ s.length := List.countP_le_length
/-- The least from v on; -1 where there is none. -/
def nxt (s : List Nat) (v : Int) : Int := s.foldl (fun (best : Int) (x : Nat) => if v ≤ (x : Int) ∧ (best < 0 ∨ (x : Int) < best) then (x : Int) else best) (-1)
def IsNxt (s : List Nat) (v r : Int) : Prop := (r = -1 ∧ ∀ x ∈ s, (x : Int) < v) ∨ ∃ x ∈ s, r = x ∧ v ≤ x ∧ ∀ y ∈ s, v ≤ (y : Int) → x ≤ y
theorem isNxt_unique {s : List Nat} {v r r' : Int} (h : IsNxt s v r) (h' : IsNxt s v r') : r = r' := by
  rcases h with ⟨h1, h2⟩ | ⟨x, hx, h1, h2, h3⟩ <;> rcases h' with ⟨k1, k2⟩ | ⟨y, hy, k1, k2, k3⟩
  · omega
  · have := h2 y hy; omega
  · have := k2 x hx; omega
  · have := h3 y hy k2; have := k3 x hx h2; omega
theorem nxt_step {s : List Nat} {v b : Int} (h : IsNxt s v b) (x : Nat) : IsNxt (s ++ [x]) v (if v ≤ (x : Int) ∧ (b < 0 ∨ (x : Int) < b) then (x : Int) else b) := by
  split
  · rename_i hc
    refine Or.inr ⟨x, by simp, rfl, hc.1, fun y hy hv => ?_⟩
    rw [List.mem_append] at hy
    rcases hy with hy | hy
    · rcases h with ⟨h1, h2⟩ | ⟨z, hz, h1, h2, h3⟩
      · have := h2 y hy; omega
      · have := h3 y hy hv; omega
    · simp at hy; omega
  · rename_i hc
    rcases h with ⟨h1, h2⟩ | ⟨z, hz, h1, h2, h3⟩
    · refine Or.inl ⟨h1, fun y hy => ?_⟩
      rw [List.mem_append] at hy
      rcases hy with hy | hy
      · exact h2 y hy
      · simp at hy; omega
    · refine Or.inr ⟨z, by simp [hz], h1, h2, fun y hy hv => ?_⟩
      rw [List.mem_append] at hy
      rcases hy with hy | hy
      · exact h3 y hy hv
      · simp at hy; omega
theorem nxt_take (s : List Nat) (v : Int) (i : Nat) (h : i < s.length) : nxt (s.take (i + 1)) v = if v ≤ ((s.getD i 0 : Nat) : Int) ∧ (nxt (s.take i) v < 0 ∨ ((s.getD i 0 : Nat) : Int) < nxt (s.take i) v) then ((s.getD i 0 : Nat) : Int) else nxt (s.take i) v := by
  have e : s.take (i + 1) = s.take i ++ [s.getD i 0] := by
    rw [List.take_add_one, List.getD, List.getElem?_eq_getElem h]; rfl
  rw [e]; unfold nxt; rw [List.foldl_append]; rfl
theorem nxt_is (s : List Nat) (v : Int) : IsNxt s v (nxt s v) := by
  have : ∀ i, i ≤ s.length → IsNxt (s.take i) v (nxt (s.take i) v) := by
    intro i
    induction i with
    | zero => intro _; exact Or.inl ⟨rfl, by simp⟩
    | succ i ih =>
      intro hi
      have e : s.take (i + 1) = s.take i ++ [s.getD i 0] := by
        rw [List.take_add_one, List.getD, List.getElem?_eq_getElem (by omega)]; rfl
      rw [nxt_take s v i (by omega), e]
      exact nxt_step (ih (by omega)) _
  have := this s.length (Nat.le_refl _)
  rwa [List.take_length] at this
theorem nxt_ge (s : List Nat) (v : Int) : -1 ≤ nxt s v := by
  rcases nxt_is s v with ⟨h, _⟩ | ⟨x, _, h, _⟩ <;> omega
theorem nxt_lt (s : List Nat) (v : Int) (w : Nat) (hs : ∀ x ∈ s, x < 2 ^ w) : nxt s v < ((2 ^ w : Nat) : Int) := by
  rcases nxt_is s v with ⟨h, _⟩ | ⟨x, hx, h, _⟩
  · have := Nat.two_pow_pos w; omega
  · have := hs x hx; omega
/-- All from v on, each once, rising. -/
def disF : Nat → List Nat → Int → List Int
  | 0, _, _ => []
  | f + 1, s, v => if nxt s v = -1 then [] else nxt s v :: disF f s (nxt s v + 1)
def fromR (s : List Nat) (v : Int) : Nat := s.countP fun n : Nat => decide (v ≤ (n : Int))
theorem fromR_next (s : List Nat) (v : Int) (h : nxt s v ≠ -1) : fromR s (nxt s v + 1) < fromR s v := by
  rcases nxt_is s v with ⟨h1, _⟩ | ⟨x, hx, h1, h2, h3⟩
  · exact absurd h1 h
  · rw [h1]
    unfold fromR
    have : (s.countP fun n : Nat => decide ((x : Int) + 1 ≤ (n : Int))) + (s.countP fun n => n == x) ≤ s.countP fun n : Nat => decide (v ≤ (n : Int)) := by
      clear h3 hx h1 h
      induction s with
      | nil => simp
      | cons a s ih =>
        simp only [List.countP_cons, decide_eq_true_eq, beq_iff_eq] at ih ⊢
        (repeat' split) <;> omega
    have h2 : 0 < s.countP fun n => n == x := by
      rw [List.countP_pos_iff]; exact ⟨x, hx, by simp⟩
    omega
theorem fromR_le (s : List Nat) (v : Int) : fromR s v ≤ s.length := List.countP_le_length
theorem disF_more (s : List Nat) : ∀ (f : Nat) (v : Int), fromR s v ≤ f → disF (f + 1) s v = disF f s v := by
  intro f
  induction f with
  | zero =>
    intro v h
    have : nxt s v = -1 := by
      apply Classical.byContradiction; intro hn
      have := fromR_next s v hn; omega
    simp [disF, this]
  | succ f ih =>
    intro v h
    rw [disF]
    conv => rhs; rw [disF]
    by_cases hn : nxt s v = -1
    · rw [if_pos hn, if_pos hn]
    · rw [if_neg hn, if_neg hn, ih _ (by have := fromR_next s v hn; omega)]
theorem disF_any (s : List Nat) (f g : Nat) (v : Int) (hf : fromR s v ≤ f) : disF (f + g) s v = disF f s v := by
  induction g with
  | zero => rfl
  | succ g ih => rw [← Nat.add_assoc, disF_more s (f + g) v (by omega), ih]
/-- All from v on. -/
def disV (s : List Nat) (v : Int) : List Int := disF s.length s v
theorem disV_none {s : List Nat} {v : Int} (h : nxt s v = -1) : disV s v = [] := by
  unfold disV
  cases hl : s.length with
  | zero => rfl
  | succ n => rw [disF, if_pos h]
theorem disV_some {s : List Nat} {v : Int} (h : nxt s v ≠ -1) : disV s v = nxt s v :: disV s (nxt s v + 1) := by
  have hp : 0 < s.length := by have := fromR_next s v h; have := fromR_le s v; omega
  obtain ⟨n, hn⟩ : ∃ n, s.length = n + 1 := ⟨s.length - 1, by omega⟩
  unfold disV
  rw [hn, disF, if_neg h]
  congr 1
  have := fromR_next s v h
  have := fromR_le s v
  rw [disF_any s n 1 _ (by omega)]
theorem disV_length (s : List Nat) : ∀ (n : Nat) (v : Int), fromR s v ≤ n → (disV s v).length ≤ n := by
  intro n
  induction n with
  | zero =>
    intro v h
    have : nxt s v = -1 := by
      apply Classical.byContradiction; intro hn
      have := fromR_next s v hn; omega
    rw [disV_none this]; exact Nat.le_refl _
  | succ n ih =>
    intro v h
    by_cases hn : nxt s v = -1
    · rw [disV_none hn]; exact Nat.zero_le _
    · rw [disV_some hn]; have := ih (nxt s v + 1) (by have := fromR_next s v hn; omega); simp; exact this
/-- A range held within. -/
def hiEnd (n : Nat) (b : Int) : Nat := (min b n).toNat
def loEnd (n : Nat) (a b : Int) : Nat := (min a (hiEnd n b)).toNat
theorem hiEnd_le (n : Nat) (b : Int) : hiEnd n b ≤ n := by unfold hiEnd; omega
theorem loEnd_le (n : Nat) (a b : Int) : loEnd n a b ≤ hiEnd n b := by unfold loEnd; omega
/-- The numbers of places from up to to. -/
def rng (l : List Nat) (a b : Int) : List Nat := seg l (loEnd l.length a b) (hiEnd l.length b)
theorem rng_length (l : List Nat) (a b : Int) : (rng l a b).length = hiEnd l.length b - loEnd l.length a b := seg_length _ _ _ (hiEnd_le _ _)
theorem rng_mem {l : List Nat} {a b : Int} {x : Nat} (h : x ∈ rng l a b) : x ∈ l := List.mem_of_mem_take (List.mem_of_mem_drop h)
theorem rng_get (l : List Nat) (a b : Int) (i : Nat) (h : i < (rng l a b).length) : (rng l a b).getD i 0 = l.getD (loEnd l.length a b + i) 0 := by
  rw [rng_length] at h
  unfold rng seg
  simp only [List.getD, List.getElem?_drop]
  rw [List.getElem?_take_of_lt (by omega)]
/-- The next one by the range's own order. -/
theorem nxt_least (s : List Nat) (w : Nat) (v : Int) (hs : ∀ x ∈ s, x < 2 ^ w) (hk : belowR s v < s.length) : nxt s v = (least w s (belowR s v) : Nat) := by
  refine isNxt_unique (nxt_is s v) ?_
  obtain ⟨u, hu, hv⟩ : ∃ u : Nat, belowR s v = (s.countP fun n => n < u) ∧ ((u : Int) = v ∨ (u = 0 ∧ v ≤ 0)) := by
    by_cases h : v ≤ 0
    · exact ⟨0, by rw [belowR_low s v h]; simp, Or.inr ⟨rfl, h⟩⟩
    · exact ⟨v.toNat, by rw [← belowR_nat]; congr 1; omega, Or.inl (by omega)⟩
  rw [hu] at hk ⊢
  obtain ⟨h1, h2, h3⟩ := least_next s w u hs hk
  exact Or.inr ⟨_, h1, rfl, by omega, fun y hy hv' => h3 y hy (by omega)⟩
theorem nxt_none (s : List Nat) (v : Int) (hk : belowR s v = s.length) : nxt s v = -1 := by
  refine isNxt_unique (nxt_is s v) (Or.inl ⟨rfl, fun x hx => ?_⟩)
  unfold belowR at hk
  rw [List.countP_eq_length] at hk
  simpa using hk x hx
/-- The way of a place: the number that stands there keeps standing at its place. -/
theorem at_get (l : List Nat) (w i k : Nat) (hi : i < l.length) : at' l w (l.getD i 0) i k < l.length ∧ (rows l w k).getD (at' l w (l.getD i 0) i k) 0 = l.getD i 0 := by
  have hs : seg l i (i + 1) = [l.getD i 0] := by
    unfold seg
    rw [List.take_add_one, List.drop_append, List.drop_of_length_le (by simp; omega), List.getD, List.getElem?_eq_getElem hi]
    simp [Nat.min_eq_left (Nat.le_of_lt hi)]
  generalize l.getD i 0 = v at hs ⊢
  have h := seg_rows l w v i (i + 1) k (by omega) (by omega)
  rw [hs] at h
  have hw : with' [v] w v k = [v] := by unfold with'; simp
  rw [hw] at h
  have hb := at_le l w v (i + 1) k (by omega)
  have hlen := congrArg List.length h
  rw [seg_length _ _ _ (by rw [rows_length]; exact hb), List.length_singleton] at hlen
  refine ⟨by omega, ?_⟩
  have h0 := congrArg (fun x : List Nat => x[0]?) h
  simp only [seg, List.getElem?_drop, Nat.add_zero] at h0
  rw [List.getElem?_take_of_lt (by omega)] at h0
  rw [List.getD, h0]; rfl
theorem testBit_digs (l : List Nat) (d i : Nat) (hi : i < l.length) : (digs l d).getD i false = (l.getD i 0).testBit d := by
  simp [digs, List.getD, List.getElem?_map, List.getElem?_eq_getElem hi]
/-- The digit of the least, and what is left. -/
theorem least_bit (d : Nat) (s : List Nat) (k : Nat) : (least (d + 1) s k).testBit d = decide ((s.filter fun n => n.testBit d == false).length ≤ k) := by
  unfold least
  split
  · rename_i h
    have := least_lt d (s.filter fun n => n.testBit d == true) (k - (s.filter fun n => n.testBit d == false).length)
    rw [Nat.testBit_two_pow_add_eq, Nat.testBit_lt_two_pow this]; rw [decide_eq_true h]; rfl
  · rename_i h
    rw [Nat.testBit_lt_two_pow (least_lt d _ _)]; rw [decide_eq_false h]
/-- The row's first i numbers of v. -/
theorem shift_digit (v d : Nat) : v / 2 ^ d = 2 * (v / 2 ^ (d + 1)) + (if v.testBit d then 1 else 0) := by
  rw [Nat.pow_succ, ← Nat.div_div_eq_div_mul, Nat.testBit_eq_decide_div_mod_eq]
  have := Nat.mod_two_eq_zero_or_one (v / 2 ^ d)
  have := Nat.div_add_mod (v / 2 ^ d) 2
  rcases Nat.mod_two_eq_zero_or_one (v / 2 ^ d) with h | h <;> simp [h] <;> omega
theorem with_zero (s : List Nat) (w v : Nat) : with' s w v 0 = s := by
  unfold with'; exact List.filter_eq_self.2 (by simp)
theorem least_step (d : Nat) (X : List Nat) (k R : Nat) (h : least (d + 1) X k = R % 2 ^ (d + 1)) :
    R.testBit d = decide ((X.filter fun n => n.testBit d == false).length ≤ k) ∧
      least d (X.filter fun n => n.testBit d == R.testBit d) (if (X.filter fun n => n.testBit d == false).length ≤ k then k - (X.filter fun n => n.testBit d == false).length else k) = R % 2 ^ d := by
  have hb : R.testBit d = decide ((X.filter fun n => n.testBit d == false).length ≤ k) := by
    rw [← least_bit, h, Nat.testBit_mod_two_pow]; simp
  refine ⟨hb, ?_⟩
  have hm := mod_succ R d
  rw [← h, least] at hm
  by_cases hz : (X.filter fun n => n.testBit d == false).length ≤ k
  · rw [if_pos hz] at hm ⊢
    rw [decide_eq_true hz] at hb
    rw [hb] at hm ⊢
    rw [if_pos rfl] at hm; omega
  · rw [if_neg hz] at hm ⊢
    rw [decide_eq_false hz] at hb
    rw [hb] at hm ⊢
    rw [if_neg (by simp)] at hm; omega
theorem cntR_take (s : List Nat) (lo hi : Int) (i : Nat) (h : i < s.length) : cntR (s.take (i + 1)) lo hi = cntR (s.take i) lo hi + (if lo ≤ ((s.getD i 0 : Nat) : Int) ∧ ((s.getD i 0 : Nat) : Int) ≤ hi then 1 else 0) := by
  have e : s.take (i + 1) = s.take i ++ [s.getD i 0] := by
    rw [List.take_add_one, List.getD, List.getElem?_eq_getElem h]; rfl
  rw [e]; unfold cntR
  rw [List.countP_append, List.countP_singleton]
  congr 1
  simp only [Bool.and_eq_true, decide_eq_true_eq]
theorem cntR_le (s : List Nat) (lo hi : Int) : cntR s lo hi ≤ s.length := List.countP_le_length
theorem rng_zero (l : List Nat) (i : Int) : rng l 0 i = l.take (hiEnd l.length i) := by
  unfold rng seg
  have : loEnd l.length 0 i = 0 := by unfold loEnd; omega
  rw [this]; rfl
/-- Which numbers are v. -/
def eqs (l : List Nat) (v : Int) : List Bool := l.map fun x : Nat => decide ((x : Int) = v)
theorem eqs_length (l : List Nat) (v : Int) : (eqs l v).length = l.length := by simp [eqs]
theorem eqs_get (l : List Nat) (v : Int) (i : Nat) (h : i < l.length) : (eqs l v).getD i false = decide (((l.getD i 0 : Nat) : Int) = v) := by
  simp [eqs, List.getD, List.getElem?_map, List.getElem?_eq_getElem h]
theorem cnt_eqs (l : List Nat) (v : Int) (i : Nat) : cnt (eqs l v) i = cntR (l.take i) v v := by
  unfold cnt eqs cntR
  rw [← List.map_take, List.count_eq_countP, List.countP_map]
  apply List.countP_congr
  intro x _
  simp only [Function.comp, Bool.and_eq_true, decide_eq_true_eq, beq_iff_eq]
  omega
end Go.Proofs.Ytagadfgginneeaa.Wv
