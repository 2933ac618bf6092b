/- Plain facts on lists of bits and on binary numbers: counting, finding, clearing the lowest one, the count of ones by parallel sums. -/
import Derived.WalkKit
import Derived.Lib.TrailingZeros
namespace Go.Proofs.Ytagadfgginneeaa.Bm
set_option linter.unusedVariables false
set_option linter.unusedSimpArgs false
open Go Go.RowKit
/-- How many ones stand ahead of i. -/
def cnt (l : List Bool) (i : Nat) : Nat := (l.take i).count true

theorem cnt_zero (l : List Bool) : cnt l 0 = 0 := by simp [cnt]
theorem cnt_succ (l : List Bool) (i : Nat) : cnt l (i + 1) = cnt l i + (if l.getD i false = true then 1 else 0) := by
  unfold cnt
  rw [List.take_add_one, List.count_append]
  congr 1
  by_cases h : i < l.length
  · simp [List.getD, h]
    cases l[i] <;> simp
  · simp [List.getD, List.getElem?_eq_none (Nat.le_of_not_lt h)]
theorem cnt_mono (l : List Bool) {i j : Nat} (h : i ≤ j) : cnt l i ≤ cnt l j := by
  induction h with
  | refl => exact Nat.le_refl _
  | step _ ih => rw [cnt_succ]; omega
theorem cnt_le (l : List Bool) (i : Nat) : cnt l i ≤ i := by
  induction i with
  | zero => simp [cnt_zero]
  | succ n ih => rw [cnt_succ]; split <;> omega
theorem cnt_over (l : List Bool) {i : Nat} (h : l.length ≤ i) : cnt l i = cnt l l.length := by
  unfold cnt; rw [List.take_of_length_le h, List.take_of_length_le (Nat.le_refl _)]
theorem cnt_le_all (l : List Bool) (i : Nat) : cnt l i ≤ cnt l l.length := by
  by_cases h : i ≤ l.length
  · exact cnt_mono l h
  · rw [cnt_over l (by omega)]; exact Nat.le_refl _

/-- Rank by a whole number. -/
def rank (l : List Bool) (i : Int) : Nat := cnt l i.toNat

/-- The place of the one that has k ones ahead of it, or -1. -/
def sel (l : List Bool) (k : Int) : Int :=
  match (List.range l.length).find? (fun i => l.getD i false && decide ((cnt l i : Int) = k)) with
  | some i => (i : Int)
  | none => -1
theorem sel_eq {l : List Bool} {k : Int} {i : Nat} (h : l.getD i false = true) (hk : (cnt l i : Int) = k) : sel l k = i := by
  have hi : i < l.length := by
    rcases Nat.lt_or_ge i l.length with h' | h'
    · exact h'
    · simp [List.getD, List.getElem?_eq_none h'] at h
  unfold sel
  cases hf : (List.range l.length).find? (fun i => l.getD i false && decide ((cnt l i : Int) = k)) with
  | none =>
    rw [List.find?_eq_none] at hf
    have := hf i (by simpa using hi)
    simp only [h, hk, decide_true, Bool.and_self, not_true_eq_false] at this
  | some j =>
    have hj := List.find?_some hf
    simp only [Bool.and_eq_true, decide_eq_true_eq] at hj
    have : j = i := by
      rcases Nat.lt_trichotomy j i with h1 | h1 | h1
      · have h2 := cnt_succ l j
        rw [if_pos hj.1] at h2
        have := cnt_mono l (show j + 1 ≤ i by omega)
        omega
      · exact h1
      · have h2 := cnt_succ l i
        rw [if_pos h] at h2
        have := cnt_mono l (show i + 1 ≤ j by omega)
        omega
    simp [this]
theorem sel_none {l : List Bool} {k : Int} (h : ∀ i, i < l.length → l.getD i false = true → (cnt l i : Int) ≠ k) : sel l k = -1 := by
  unfold sel
  cases hf : (List.range l.length).find? (fun i => l.getD i false && decide ((cnt l i : Int) = k)) with
  | none => rfl
  | some j =>
    have hj := List.find?_some hf
    simp only [Bool.and_eq_true, decide_eq_true_eq] at hj
    exact absurd hj.2 (h j (by simpa using List.mem_of_find?_eq_some hf) hj.1)
theorem sel_low {l : List Bool} {k : Int} (h : k < 0 ∨ (cnt l l.length : Int) ≤ k) : sel l k = -1 := by
  refine sel_none fun i hi h1 he => ?_
  have h2 := cnt_succ l i
  rw [if_pos h1] at h2
  have := cnt_mono l (show i + 1 ≤ l.length by omega)
  omega
theorem sel_some {l : List Bool} {k : Int} (h0 : 0 ≤ k) (h1 : k < cnt l l.length) : ∃ i, i < l.length ∧ l.getD i false = true ∧ (cnt l i : Int) = k ∧ sel l k = i := by
  have key : ∀ n, n ≤ l.length → k < cnt l n → ∃ i, i < n ∧ l.getD i false = true ∧ (cnt l i : Int) = k := by
    intro n
    induction n with
    | zero => intro _ h; simp [cnt_zero] at h; omega
    | succ n ih =>
      intro hn h
      by_cases h' : k < cnt l n
      · obtain ⟨i, hi, h2⟩ := ih (by omega) h'
        exact ⟨i, by omega, h2⟩
      · rw [cnt_succ] at h
        by_cases hb : l.getD n false = true
        · rw [if_pos hb] at h
          exact ⟨n, by omega, hb, by omega⟩
        · rw [if_neg hb] at h; omega
  obtain ⟨i, hi, hb, hc⟩ := key _ (Nat.le_refl _) h1
  exact ⟨i, hi, hb, hc, sel_eq hb hc⟩
theorem sel_ge (l : List Bool) (k : Int) : -1 ≤ sel l k := by unfold sel; split <;> omega
theorem sel_lt (l : List Bool) (k : Int) : sel l k < l.length ∨ sel l k = -1 := by
  unfold sel
  split
  · rename_i i h
    have := List.mem_of_find?_eq_some h
    simp at this
    exact Or.inl (by omega)
  · exact Or.inr rfl

/-- The first place from i on that has a one, or -1. -/
def next (l : List Bool) (i : Int) : Int := sel l (rank l i)
theorem next_eq {l : List Bool} {i : Int} {j : Nat} (hij : i ≤ j) (hj : l.getD j false = true) (hno : ∀ t : Nat, i ≤ t → t < j → l.getD t false = false) : next l i = j := by
  unfold next
  refine sel_eq hj ?_
  unfold rank
  have : ∀ n, i.toNat ≤ n → n ≤ j → cnt l n = cnt l i.toNat := by
    intro n
    induction n with
    | zero => intro h _; have : i.toNat = 0 := by omega
              rw [this]
    | succ n ih =>
      intro h1 h2
      by_cases he : i.toNat = n + 1
      · rw [he]
      · rw [cnt_succ, ih (by omega) (by omega), hno n (by omega) (by omega)]; simp
  have hj' : i.toNat ≤ j := by omega
  rw [this j hj' (Nat.le_refl _)]
theorem next_none {l : List Bool} {i : Int} (hno : ∀ t : Nat, i ≤ t → t < l.length → l.getD t false = false) : next l i = -1 := by
  unfold next
  refine sel_none fun t ht h1 he => ?_
  unfold rank at he
  by_cases hit : i ≤ t
  · rw [hno t hit ht] at h1; cases h1
  · have h2 := cnt_succ l t
    rw [if_pos h1] at h2
    have := cnt_mono l (show t + 1 ≤ i.toNat by omega)
    omega

/-! ### binary numbers -/

/-- How many ones a number has among its lowest n digits. -/
def pop : Nat → Nat → Nat
  | 0, _ => 0
  | n + 1, x => x % 2 + pop n (x / 2)
/-- The place of the one of x that has m ones below it (n digits looked at). -/
def nth : Nat → Nat → Nat → Nat
  | 0, _, _ => 0
  | n + 1, x, m => if x % 2 = 1 then (if m = 0 then 0 else nth n (x / 2) (m - 1) + 1) else nth n (x / 2) m + 1
/-- x without its lowest one. -/
def clr (x : Nat) : Nat := x &&& (x - 1)

theorem clr_even (y : Nat) (h : 0 < y) : clr (2 * y) = 2 * clr y := by
  unfold clr
  apply Nat.eq_of_testBit_eq
  intro i
  cases i with
  | zero => simp [Nat.testBit_zero, Nat.mul_mod_right]
  | succ i =>
    rw [Nat.testBit_and, Nat.testBit_succ, Nat.testBit_succ, Nat.testBit_succ, show (2 * y) / 2 = y by omega, show (2 * y - 1) / 2 = y - 1 by omega, show 2 * (y &&& (y - 1)) / 2 = (y &&& (y - 1)) by omega, Nat.testBit_and]
theorem clr_odd (y : Nat) : clr (2 * y + 1) = 2 * y := by
  unfold clr
  apply Nat.eq_of_testBit_eq
  intro i
  cases i with
  | zero => simp [Nat.testBit_zero, Nat.mul_mod_right]
  | succ i =>
    rw [Nat.testBit_and, Nat.testBit_succ, Nat.testBit_succ, Nat.testBit_succ, show (2 * y + 1) / 2 = y by omega, show (2 * y + 1 - 1) / 2 = y by omega, show 2 * y / 2 = y by omega, Bool.and_self]
theorem clr_zero : clr 0 = 0 := rfl
theorem clr_le (x : Nat) : clr x ≤ x := Nat.and_le_left
theorem pop_zero (n : Nat) : pop n 0 = 0 := by induction n with | zero => rfl | succ n ih => simp [pop, ih]
theorem pop_le (n x : Nat) : pop n x ≤ n := by
  induction n generalizing x with
  | zero => simp [pop]
  | succ n ih => simp only [pop]; have := ih (x / 2); omega

theorem nth_clr (n : Nat) : ∀ (x m : Nat), x < 2 ^ n → m + 1 < pop n x → nth n (clr x) m = nth n x (m + 1) := by
  induction n with
  | zero => intro x m _ h; simp [pop] at h
  | succ n ih =>
    intro x m hx hp
    rw [Nat.pow_succ] at hx
    rcases Nat.mod_two_eq_zero_or_one x with h | h
    · obtain ⟨y, rfl⟩ : ∃ y, x = 2 * y := ⟨x / 2, by omega⟩
      have h0 : 0 < y := by
        rcases Nat.eq_zero_or_pos y with rfl | h
        · simp [pop_zero] at hp
        · exact h
      simp only [pop, show 2 * y / 2 = y by omega, show 2 * y % 2 = 0 by omega, Nat.zero_add] at hp
      rw [clr_even y h0]
      simp only [nth, show 2 * clr y / 2 = clr y by omega, show 2 * clr y % 2 = 0 by omega, show 2 * y / 2 = y by omega, show 2 * y % 2 = 0 by omega]
      simp only [Nat.zero_ne_one, if_false]
      rw [ih y m (by omega) hp]
    · obtain ⟨y, rfl⟩ : ∃ y, x = 2 * y + 1 := ⟨x / 2, by omega⟩
      rw [clr_odd]
      simp only [nth, show 2 * y / 2 = y by omega, show 2 * y % 2 = 0 by omega, show (2 * y + 1) / 2 = y by omega, show (2 * y + 1) % 2 = 1 by omega]
      simp
theorem pop_clr (n : Nat) : ∀ x : Nat, x < 2 ^ n → pop n (clr x) = pop n x - 1 := by
  induction n with
  | zero => intro x _; simp [pop]
  | succ n ih =>
    intro x hx
    rw [Nat.pow_succ] at hx
    rcases Nat.mod_two_eq_zero_or_one x with h | h
    · obtain ⟨y, rfl⟩ : ∃ y, x = 2 * y := ⟨x / 2, by omega⟩
      rcases Nat.eq_zero_or_pos y with rfl | h0
      · simp [clr_zero, pop_zero]
      · rw [clr_even y h0]
        simp only [pop, show 2 * clr y / 2 = clr y by omega, show 2 * clr y % 2 = 0 by omega, show 2 * y / 2 = y by omega, show 2 * y % 2 = 0 by omega]
        rw [ih y (by omega)]; omega
    · obtain ⟨y, rfl⟩ : ∃ y, x = 2 * y + 1 := ⟨x / 2, by omega⟩
      rw [clr_odd]
      simp only [pop, show 2 * y / 2 = y by omega, show 2 * y % 2 = 0 by omega, show (2 * y + 1) / 2 = y by omega, show (2 * y + 1) % 2 = 1 by omega]
      omega
theorem nth_lt (n : Nat) : ∀ (x m : Nat), m < pop n x → nth n x m < n ∧ x.testBit (nth n x m) = true ∧ pop (nth n x m) x = m := by
  induction n with
  | zero => intro x m h; simp [pop] at h
  | succ n ih =>
    intro x m h
    simp only [pop] at h
    unfold nth
    split
    · rename_i h1
      split
      · rename_i h2; subst h2
        exact ⟨by omega, by simp [Nat.testBit_zero, h1], rfl⟩
      · obtain ⟨a, b, c⟩ := ih (x / 2) (m - 1) (by omega)
        refine ⟨by omega, by rw [Nat.testBit_succ]; exact b, ?_⟩
        simp only [pop]; omega
    · obtain ⟨a, b, c⟩ := ih (x / 2) m (by omega)
      refine ⟨by omega, by rw [Nat.testBit_succ]; exact b, ?_⟩
      simp only [pop]; omega

/-- The number that n bits spell, the first one lowest. -/
def val (f : Nat → Bool) : Nat → Nat
  | 0 => 0
  | n + 1 => (if f 0 then 1 else 0) + 2 * val (fun j => f (j + 1)) n
theorem val_lt (n : Nat) : ∀ f : Nat → Bool, val f n < 2 ^ n := by
  induction n with
  | zero => intro f; simp [val]
  | succ n ih => intro f; simp only [val, Nat.pow_succ]; have := ih (fun j => f (j + 1)); split <;> omega
theorem testBit_val (n : Nat) : ∀ (f : Nat → Bool) (j : Nat), (val f n).testBit j = (decide (j < n) && f j) := by
  induction n with
  | zero => intro f j; simp [val]
  | succ n ih =>
    intro f j
    cases j with
    | zero => simp only [val, Nat.testBit_zero]; cases f 0 <;> simp
    | succ j =>
      rw [Nat.testBit_succ]
      have : val f (n + 1) / 2 = val (fun j => f (j + 1)) n := by simp only [val]; split <;> omega
      rw [this, ih]; simp
theorem val_congr {n : Nat} {f g : Nat → Bool} (h : ∀ j, j < n → f j = g j) : val f n = val g n := by
  apply Nat.eq_of_testBit_eq
  intro j
  rw [testBit_val, testBit_val]
  by_cases hj : j < n
  · rw [h j hj]
  · simp [hj]
theorem pop_val (n : Nat) : ∀ (k : Nat) (l : List Bool) (a : Nat), k ≤ n → pop k (val (fun j => l.getD (a + j) false) n) + cnt l a = cnt l (a + k) := by
  induction n with
  | zero => intro k l a h; obtain rfl : k = 0 := by omega
            simp [pop]
  | succ n ih =>
    intro k l a h
    cases k with
    | zero => simp [pop]
    | succ k =>
      have e1 : val (fun j => l.getD (a + j) false) (n + 1) % 2 = (if l.getD a false = true then 1 else 0) := by simp only [val, Nat.add_zero]; split <;> omega
      have e2 : val (fun j => l.getD (a + j) false) (n + 1) / 2 = val (fun j => l.getD (a + 1 + j) false) n := by
        simp only [val]
        rw [show (fun j => l.getD (a + (j + 1)) false) = (fun j => l.getD (a + 1 + j) false) from funext fun j => by rw [show a + (j + 1) = a + 1 + j by omega]]
        split <;> omega
      have := ih k l (a + 1) (by omega)
      simp only [pop, e1, e2]
      rw [cnt_succ] at this
      rw [show a + (k + 1) = a + 1 + k by omega, ← this]; omega

/-- Word i of the bits. -/
def word (l : List Bool) (i : Nat) : Nat := val (fun j => l.getD (64 * i + j) false) 64
theorem word_lt (l : List Bool) (i : Nat) : word l i < 18446744073709551616 := val_lt 64 _
theorem testBit_word (l : List Bool) (i j : Nat) (hj : j < 64) : (word l i).testBit j = l.getD (64 * i + j) false := by
  unfold word; rw [testBit_val]; simp [hj]
theorem pop_word (l : List Bool) (i k : Nat) (hk : k ≤ 64) : cnt l (64 * i) + pop k (word l i) = cnt l (64 * i + k) := by
  have := pop_val 64 k l (64 * i) hk; unfold word; omega
theorem getD_take (l : List Bool) (k i : Nat) : (l.take k).getD i false = if i < k then l.getD i false else false := by
  simp only [List.getD, List.getElem?_take]; split <;> simp_all
theorem word_step_no (l : List Bool) (k i : Nat) (h : l.getD k false = false) : word (l.take (k + 1)) i = word (l.take k) i := by
  unfold word
  refine val_congr fun j _ => ?_
  rw [getD_take, getD_take]
  by_cases h1 : 64 * i + j < k
  · rw [if_pos h1, if_pos (by omega)]
  · rw [if_neg h1]
    split
    · rw [show 64 * i + j = k by omega, h]
    · rfl
theorem word_step_other (l : List Bool) (k i : Nat) (h : i ≠ k / 64) : word (l.take (k + 1)) i = word (l.take k) i := by
  unfold word
  refine val_congr fun j hj => ?_
  rw [getD_take, getD_take]
  by_cases h1 : 64 * i + j < k
  · rw [if_pos h1, if_pos (by omega)]
  · rw [if_neg h1, if_neg (by omega)]
theorem word_step_yes (l : List Bool) (k : Nat) (h : l.getD k false = true) : word (l.take (k + 1)) (k / 64) = word (l.take k) (k / 64) ||| 2 ^ (k % 64) := by
  apply Nat.eq_of_testBit_eq
  intro j
  unfold word
  rw [Nat.testBit_or, testBit_val, testBit_val, Nat.testBit_two_pow, getD_take, getD_take]
  by_cases hj : j < 64
  · by_cases he : k % 64 = j
    · rw [if_pos (show 64 * (k / 64) + j < k + 1 by omega), show 64 * (k / 64) + j = k by omega, h]; simp [hj, he]
    · simp only [hj, he, decide_true, Bool.true_and, decide_false, Bool.or_false]
      by_cases h1 : 64 * (k / 64) + j < k
      · rw [if_pos h1, if_pos (by omega)]
      · rw [if_neg h1, if_neg (by omega)]
  · have : k % 64 ≠ j := by omega
    simp [hj, this]
theorem word_nil (i : Nat) : word [] i = 0 := by
  unfold word
  apply Nat.eq_of_testBit_eq
  intro j
  rw [testBit_val]; simp
theorem word_all (l : List Bool) (i : Nat) : word (l.take l.length) i = word l i := by rw [List.take_length]

theorem pop_add (a b x : Nat) : pop (a + b) x = pop a x + pop b (x / 2 ^ a) := by
  induction a generalizing x with
  | zero => simp [pop]
  | succ a ih => rw [show a + 1 + b = (a + b) + 1 by omega]; simp only [pop]; rw [ih, Nat.pow_succ, Nat.div_div_eq_div_mul, Nat.mul_comm 2]; omega

theorem dig (r q M t s : Nat) (ht : t < 2 ^ r) (hs : s < 2 ^ r) : (2 ^ r * q + t) &&& (2 ^ r * M + s) = 2 ^ r * (q &&& M) + (t &&& s) := by
  have h1 := Nat.and_div_two_pow (a := 2 ^ r * q + t) (b := 2 ^ r * M + s) (n := r)
  have h2 := Nat.and_mod_two_pow (a := 2 ^ r * q + t) (b := 2 ^ r * M + s) (n := r)
  have e1 : (2 ^ r * q + t) / 2 ^ r = q := by rw [Nat.mul_add_div (Nat.two_pow_pos r), Nat.div_eq_of_lt ht]; rfl
  have e2 : (2 ^ r * M + s) / 2 ^ r = M := by rw [Nat.mul_add_div (Nat.two_pow_pos r), Nat.div_eq_of_lt hs]; rfl
  have e3 : (2 ^ r * q + t) % 2 ^ r = t := by rw [Nat.mul_add_mod, Nat.mod_eq_of_lt ht]
  have e4 : (2 ^ r * M + s) % 2 ^ r = s := by rw [Nat.mul_add_mod, Nat.mod_eq_of_lt hs]
  rw [e1, e2] at h1
  rw [e3, e4] at h2
  rw [← h1, ← h2]
  exact (Nat.div_add_mod _ _).symm

def M0 : Nat → Nat | 0 => 0 | n + 1 => 4 * M0 n + 1
def M1 : Nat → Nat | 0 => 0 | n + 1 => 16 * M1 n + 3
def M2 : Nat → Nat | 0 => 0 | n + 1 => 256 * M2 n + 15

/-- What n digits of base 4 (16, 256), each at most 2 (4, 8), come to. -/
def S4 : Nat → Nat → Nat → Prop | 0, y, s => y = 0 ∧ s = 0 | n + 1, y, s => y % 4 ≤ 2 ∧ ∃ s', S4 n (y / 4) s' ∧ s = y % 4 + s'
def S16 : Nat → Nat → Nat → Prop | 0, y, s => y = 0 ∧ s = 0 | n + 1, y, s => y % 16 ≤ 4 ∧ ∃ s', S16 n (y / 16) s' ∧ s = y % 16 + s'
def S256 : Nat → Nat → Nat → Prop | 0, y, s => y = 0 ∧ s = 0 | n + 1, y, s => y % 256 ≤ 8 ∧ ∃ s', S256 n (y / 256) s' ∧ s = y % 256 + s'

theorem and_two_cases (x q t M s r : Nat) (hx : x = 2 ^ r * q + t) (ht : t < 2 ^ r) (hs : s < 2 ^ r) : x &&& (2 ^ r * M + s) = 2 ^ r * (q &&& M) + (t &&& s) := by rw [hx, dig r q M t s ht hs]

theorem step1 (n : Nat) : ∀ x, x < 4 ^ n → S4 n ((x / 2 &&& M0 n) + (x &&& M0 n)) (pop (2 * n) x) := by
  induction n with
  | zero => intro x h; simp [S4, M0, pop]
  | succ n ih =>
    intro x hx
    rw [Nat.pow_succ] at hx
    have h := ih (x / 4) (by omega)
    have a1 := and_two_cases (x / 2) (x / 4 / 2) (x / 2 % 4) (M0 n) 1 2 (by omega) (by omega) (by omega)
    have a2 := and_two_cases x (x / 4) (x % 4) (M0 n) 1 2 (by omega) (by omega) (by omega)
    have b1 : x / 2 % 4 &&& 1 = x / 2 % 2 := by rw [Nat.and_one_is_mod]; omega
    have b2 : x % 4 &&& 1 = x % 2 := by rw [Nat.and_one_is_mod]; omega
    rw [b1] at a1; rw [b2] at a2
    simp only [Nat.reducePow] at a1 a2
    simp only [M0, a1, a2, S4]
    generalize hA : (x / 4 / 2 &&& M0 n) = A at *
    generalize hB : (x / 4 &&& M0 n) = B at *
    rw [show (4 * A + x / 2 % 2 + (4 * B + x % 2)) / 4 = A + B by omega, show (4 * A + x / 2 % 2 + (4 * B + x % 2)) % 4 = x / 2 % 2 + x % 2 by omega]
    refine ⟨by omega, _, h, ?_⟩
    rw [show 2 * (n + 1) = 2 + 2 * n by omega, pop_add]
    simp only [pop, Nat.reducePow]; omega

theorem step2 (n : Nat) : ∀ y s, S4 (2 * n) y s → S16 n ((y / 4 &&& M1 n) + (y &&& M1 n)) s := by
  induction n with
  | zero => intro y s h; simp only [S4] at h; simp [S16, M1, h.1, h.2]
  | succ n ih =>
    intro y s h
    rw [show 2 * (n + 1) = 2 * n + 1 + 1 by omega] at h
    simp only [S4] at h
    obtain ⟨h1, s1, ⟨h2, s2, h3, rfl⟩, rfl⟩ := h
    rw [Nat.div_div_eq_div_mul] at h3
    have h := ih _ _ h3
    have a1 := and_two_cases (y / 4) (y / (4 * 4) / 4) (y / 4 % 16) (M1 n) 3 4 (by omega) (by omega) (by omega)
    have a2 := and_two_cases y (y / (4 * 4)) (y % 16) (M1 n) 3 4 (by omega) (by omega) (by omega)
    have b1 : y / 4 % 16 &&& 3 = y / 4 % 4 := by rw [show 3 = 2 ^ 2 - 1 by rfl, Nat.and_two_pow_sub_one_eq_mod]; omega
    have b2 : y % 16 &&& 3 = y % 4 := by rw [show 3 = 2 ^ 2 - 1 by rfl, Nat.and_two_pow_sub_one_eq_mod]; omega
    rw [b1] at a1; rw [b2] at a2
    simp only [Nat.reducePow] at a1 a2
    simp only [M1, a1, a2, S16]
    generalize hA : (y / (4 * 4) / 4 &&& M1 n) = A at *
    generalize hB : (y / (4 * 4) &&& M1 n) = B at *
    rw [show (16 * A + y / 4 % 4 + (16 * B + y % 4)) / 16 = A + B by omega, show (16 * A + y / 4 % 4 + (16 * B + y % 4)) % 16 = y / 4 % 4 + y % 4 by omega]
    exact ⟨by omega, _, h, by omega⟩

theorem step3 (n : Nat) : ∀ y s, S16 (2 * n) y s → S256 n ((y / 16 + y) &&& M2 n) s := by
  induction n with
  | zero => intro y s h; simp only [S16] at h; simp [S256, M2, h.1, h.2]
  | succ n ih =>
    intro y s h
    rw [show 2 * (n + 1) = 2 * n + 1 + 1 by omega] at h
    simp only [S16] at h
    obtain ⟨h1, s1, ⟨h2, s2, h3, rfl⟩, rfl⟩ := h
    rw [Nat.div_div_eq_div_mul] at h3
    have hd : y / (16 * 16) % 16 ≤ 4 := by
      cases n with
      | zero => simp only [S16] at h3; omega
      | succ n => rw [show 2 * (n + 1) = 2 * n + 1 + 1 by omega] at h3; exact h3.1
    have h := ih _ _ h3
    have hcd : y / 16 / 16 = y / (16 * 16) := Nat.div_div_eq_div_mul _ _ _
    have a1 := and_two_cases (y / 16 + y) (y / (16 * 16) / 16 + y / (16 * 16)) ((y / 16 + y) % 256) (M2 n) 15 8 (by omega) (by omega) (by omega)
    have b1 : (y / 16 + y) % 256 &&& 15 = y / 16 % 16 + y % 16 := by rw [show 15 = 2 ^ 4 - 1 by rfl, Nat.and_two_pow_sub_one_eq_mod]; omega
    rw [b1] at a1
    simp only [Nat.reducePow] at a1
    simp only [M2, a1, S256]
    generalize hA : (y / (16 * 16) / 16 + y / (16 * 16) &&& M2 n) = A at *
    rw [show (256 * A + (y / 16 % 16 + y % 16)) / 256 = A by omega, show (256 * A + (y / 16 % 16 + y % 16)) % 256 = y / 16 % 16 + y % 16 by omega]
    exact ⟨by omega, _, h, by omega⟩

theorem S256_cons {n y s : Nat} (h : S256 (n + 1) y s) : ∃ d y' s', d ≤ 8 ∧ y = d + 256 * y' ∧ s = d + s' ∧ S256 n y' s' := by
  obtain ⟨h0, s', h1, h2⟩ := h
  exact ⟨_, _, s', h0, by omega, h2, h1⟩
theorem div_of {B r q m : Nat} (h : B = r + m * q) (hr : r < m) : B / m = q := by
  rw [h, Nat.add_mul_div_left _ _ (by omega), Nat.div_eq_of_lt hr, Nat.zero_add]
theorem step4 (y s : Nat) (h : S256 8 y s) : y < 2 ^ 60 ∧
    (y + y / 256 + (y + y / 256) / 65536 + (y + y / 256 + (y + y / 256) / 65536) / 4294967296) % 128 = s := by
  obtain ⟨a, Y1, s1, ha, h0, g0, h⟩ := S256_cons h
  obtain ⟨b, Y2, s2, hb, h1, g1, h⟩ := S256_cons h
  obtain ⟨c, Y3, s3, hc, h2, g2, h⟩ := S256_cons h
  obtain ⟨d, Y4, s4, hd, h3, g3, h⟩ := S256_cons h
  obtain ⟨e, Y5, s5, he, h4, g4, h⟩ := S256_cons h
  obtain ⟨f, Y6, s6, hf, h5, g5, h⟩ := S256_cons h
  obtain ⟨g, Y7, s7, hg, h6, g6, h⟩ := S256_cons h
  obtain ⟨k, Y8, s8, hk, h7, g7, h⟩ := S256_cons h
  obtain ⟨h8, g8⟩ := h
  have hs : s = a + b + c + d + e + f + g + k := by omega
  clear g0 g1 g2 g3 g4 g5 g6 g7 g8
  have e1 : y / 256 = Y1 := div_of h0 (by omega)
  rw [e1]
  have e2 : (y + Y1) / 65536 = Y2 + Y3 := div_of (r := (a + b) + 256 * (b + c)) (by omega) (by omega)
  rw [e2]
  have e3 : (y + Y1 + (Y2 + Y3)) / 4294967296 = Y4 + Y5 + Y6 + Y7 :=
    div_of (r := (a + b + c + d) + 256 * (b + c + d + e) + 65536 * (c + d + e + f) + 16777216 * (d + e + f + g)) (by omega) (by omega)
  rw [e3]
  refine ⟨by clear e1 e2 e3; omega, ?_⟩
  have e4 : y + Y1 + (Y2 + Y3) + (Y4 + Y5 + Y6 + Y7) = 128 * (2 * (Y1 + Y2 + Y3 + Y4 + Y5 + Y6 + Y7 + Y8)) + s := by clear e1 e2 e3; omega
  rw [e4, Nat.mul_add_mod]
  exact Nat.mod_eq_of_lt (by clear e1 e2 e3 e4 h0 h1 h2 h3 h4 h5 h6 h7; omega)

def o1 (x : Int) : Int := IntKind.u64.wrap (bits .and .u64 (x / 2) 6148914691236517205 + bits .and .u64 x 6148914691236517205)
def o2 (x : Int) : Int := IntKind.u64.wrap (bits .and .u64 (x / 4) 3689348814741910323 + bits .and .u64 x 3689348814741910323)
def o3 (x : Int) : Int := bits .and .u64 (IntKind.u64.wrap (x / 16 + x)) 1085102592571150095
def o4 (x : Int) : Int := IntKind.u64.wrap (x + x / 256)
def o5 (x : Int) : Int := IntKind.u64.wrap (x + x / 65536)
def o6 (x : Int) : Int := IntKind.u64.wrap (x + x / 4294967296)
def ones (x : Int) : Int := bits .and .i64 (wrap64 (o6 (o5 (o4 (o3 (o2 (o1 x))))))) 127

theorem wrap_u64_small (n : Nat) (h : n < 18446744073709551616) : IntKind.u64.wrap (n : Int) = n := by
  have : IntKind.u64.wrap (n : Int) = (n : Int) % 18446744073709551616 := by simp [IntKind.wrap, IntKind.bits, IntKind.signed]
  rw [this]; omega
theorem S4_lt : ∀ (n y s : Nat), S4 n y s → y < 4 ^ n := by
  intro n; induction n with
  | zero => intro y s h; simp only [S4] at h; simp [h.1]
  | succ n ih => intro y s h; obtain ⟨_, s', h2, _⟩ := h; have := ih _ _ h2; rw [Nat.pow_succ]; omega
theorem S16_small : ∀ (n y s : Nat), S16 n y s → 3 * y < 16 ^ n := by
  intro n; induction n with
  | zero => intro y s h; simp only [S16] at h; simp [h.1]
  | succ n ih => intro y s h; obtain ⟨h0, s', h2, _⟩ := h; have := ih _ _ h2; rw [Nat.pow_succ]; omega

theorem ones_eq (x : Nat) (h : x < 18446744073709551616) : ones x = (pop 64 x : Nat) := by
  have s1 := step1 32 x (by simpa using h)
  have l1 := S4_lt _ _ _ s1
  have s2 := step2 16 _ _ s1
  have l2 := S16_small _ _ _ s2
  have s3 := step3 8 _ _ s2
  obtain ⟨l3, s4⟩ := step4 _ _ s3
  clear s1 s2 s3
  have m0 : M0 32 = 6148914691236517205 := by decide
  have m1 : M1 16 = 3689348814741910323 := by decide
  have m2 : M2 8 = 1085102592571150095 := by decide
  simp only [m0, m1, m2] at l1 l2 l3 s4
  clear m0 m1 m2
  have hp' : pop (2 * 32) x = pop 64 x := rfl
  rw [hp'] at s4
  generalize pop 64 x = p at *
  have e1 : o1 x = ((x / 2 &&& 6148914691236517205) + (x &&& 6148914691236517205) : Nat) := by
    unfold o1
    rw [show (x : Int) / 2 = ((x / 2 : Nat) : Int) by omega, show (6148914691236517205 : Int) = ((6148914691236517205 : Nat) : Int) by rfl, u64_and_nat _ _ (by omega) (by omega), u64_and_nat _ _ (by omega) (by omega), ← Int.natCast_add, wrap_u64_small _ (by simpa using l1)]
  generalize (x / 2 &&& 6148914691236517205) + (x &&& 6148914691236517205) = y at *
  have ly : y < 18446744073709551616 := by simpa using l1
  have e2 : o2 y = ((y / 4 &&& 3689348814741910323) + (y &&& 3689348814741910323) : Nat) := by
    unfold o2
    rw [show (y : Int) / 4 = ((y / 4 : Nat) : Int) by omega, show (3689348814741910323 : Int) = ((3689348814741910323 : Nat) : Int) by rfl, u64_and_nat _ _ (by omega) (by omega), u64_and_nat _ _ (by omega) (by omega), ← Int.natCast_add, wrap_u64_small _ (by simp at l2; omega)]
  generalize (y / 4 &&& 3689348814741910323) + (y &&& 3689348814741910323) = z at *
  simp only [Nat.reducePow] at l2 l3
  have e3 : o3 z = ((z / 16 + z &&& 1085102592571150095) : Nat) := by
    unfold o3
    rw [show (z : Int) / 16 + z = ((z / 16 + z : Nat) : Int) by omega, wrap_u64_small _ (by omega), show (1085102592571150095 : Int) = ((1085102592571150095 : Nat) : Int) by rfl, u64_and_nat _ _ (by omega) (by omega)]
  generalize (z / 16 + z &&& 1085102592571150095) = u at *
  have e4 : o4 u = (u + u / 256 : Nat) := by
    unfold o4
    rw [show (u : Int) + u / 256 = ((u + u / 256 : Nat) : Int) by omega, wrap_u64_small _ (by omega)]
  generalize hv : u + u / 256 = v at *
  have e5 : o5 v = (v + v / 65536 : Nat) := by
    unfold o5
    rw [show (v : Int) + v / 65536 = ((v + v / 65536 : Nat) : Int) by omega, wrap_u64_small _ (by omega)]
  generalize hq : v + v / 65536 = q at *
  have e6 : o6 q = (q + q / 4294967296 : Nat) := by
    unfold o6
    rw [show (q : Int) + q / 4294967296 = ((q + q / 4294967296 : Nat) : Int) by omega, wrap_u64_small _ (by omega)]
  unfold ones
  rw [e1, e2, e3, e4, e5, e6, i64_and127]
  have : wrap64 ((q + q / 4294967296 : Nat) : Int) = ((q + q / 4294967296 : Nat) : Int) := IntWalk.wrap64_in _ ⟨by omega, by omega⟩
  rw [this]; omega
theorem bit_test (x k : Nat) (hx : x < 18446744073709551616) : (bits BinOp.and IntKind.u64 ((x : Int) / 2 ^ k) 1 == 1) = x.testBit k := by
  have e : (x : Int) / 2 ^ k = ((x / 2 ^ k : Nat) : Int) := by rw [Int.natCast_ediv, Int.natCast_pow]; rfl
  have hk : x / 2 ^ k < 18446744073709551616 := Nat.lt_of_le_of_lt (Nat.div_le_self _ _) hx
  have h := u64_and_nat (x / 2 ^ k) 1 hk (by omega)
  rw [e, show (1 : Int) = ((1 : Nat) : Int) from rfl, h, Nat.and_one_is_mod, Nat.testBit_eq_decide_div_mod_eq]
  generalize x / 2 ^ k % 2 = y
  by_cases hy : y = 1
  · subst hy; rfl
  · simp [hy]; omega
theorem low_lt (x k : Nat) (hx : x < 18446744073709551616) : x % 2 ^ k < 18446744073709551616 := Nat.lt_of_le_of_lt (Nat.mod_le _ _) hx
theorem pop_mod (n k : Nat) : ∀ x, k ≤ n → pop n (x % 2 ^ k) = pop k x := by
  induction n generalizing k with
  | zero => intro x h; obtain rfl : k = 0 := by omega
            rfl
  | succ n ih =>
    intro x h
    cases k with
    | zero => simp [pop, pop_zero, Nat.mod_one]
    | succ k =>
      simp only [pop]
      have e1 : x % 2 ^ (k + 1) % 2 = x % 2 := by rw [Nat.pow_succ, Nat.mod_mul_left_mod]
      have e2 : x % 2 ^ (k + 1) / 2 = x / 2 % 2 ^ k := by rw [Nat.pow_succ, Nat.mod_mul_left_div_self]
      rw [e1, e2, ih k _ (by omega)]
/-- The lowest k digits, as Go reckons them. -/
theorem pop_low (x k : Nat) (hx : x < 18446744073709551616) (hk : k < 64) :
    bits BinOp.and IntKind.u64 (x : Int) (IntKind.u64.wrap (IntKind.u64.wrap (2 ^ k) - 1)) = ((x % 2 ^ k : Nat) : Int) ∧ pop 64 (x % 2 ^ k) = pop k x := by
  have h64 : 2 ^ k < 18446744073709551616 := by
    have h := Nat.pow_lt_pow_right (a := 2) (by omega) hk
    simpa using h
  have hp := Nat.two_pow_pos k
  refine ⟨?_, pop_mod 64 k x (by omega)⟩
  rw [show ((2 : Int) ^ k) = ((2 ^ k : Nat) : Int) from (Int.natCast_pow 2 k).symm, wrap_u64_small _ h64, show ((2 ^ k : Nat) : Int) - 1 = ((2 ^ k - 1 : Nat) : Int) by omega, wrap_u64_small _ (by omega), u64_and_nat _ _ hx (by omega), Nat.and_two_pow_sub_one_eq_mod]
/-- The lowest one struck, as Go reckons it. -/
theorem clr_go (r : Nat) (h0 : 0 < r) (h : r < 18446744073709551616) : bits BinOp.and IntKind.u64 (r : Int) (IntKind.u64.wrap ((r : Int) - 1)) = (clr r : Nat) := by
  rw [show (r : Int) - 1 = ((r - 1 : Nat) : Int) by omega, wrap_u64_small _ (by omega), u64_and_nat _ _ h (by omega)]; rfl
theorem pop_pos (n x : Nat) (h : 0 < pop n x) : 0 < x := by
  rcases Nat.eq_zero_or_pos x with rfl | h'
  · rw [pop_zero] at h; omega
  · exact h'
theorem ctz_nth (n : Nat) : ∀ x, Lib.ctzFrom n x = nth n x 0 := by
  induction n with
  | zero => intro x; rfl
  | succ n ih => intro x; unfold Lib.ctzFrom nth; split <;> simp [ih, Nat.add_comm]
theorem ctz_nth' (x : Nat) (h : 0 < x) : Lib.ctz 64 x = nth 64 x 0 := by unfold Lib.ctz; rw [if_neg (by omega), ctz_nth]
/-- The place of a one by words: word i has it, so many ones of the word ahead. -/
theorem sel_word (l : List Bool) (i d : Nat) (k : Int) (h1 : (cnt l (64 * i) : Int) + d = k) (h2 : d < pop 64 (word l i)) : sel l k = (64 * i + nth 64 (word l i) d : Nat) ∧ nth 64 (word l i) d < 64 := by
  obtain ⟨a, b, c⟩ := nth_lt 64 (word l i) d h2
  have hp := pop_word l i (nth 64 (word l i) d) (by omega)
  rw [testBit_word l i _ a] at b
  exact ⟨sel_eq b (by omega), a⟩

/-! ### one run of ones -/
def run (a b n : Nat) : List Bool := (List.range n).map fun t => decide (a ≤ t ∧ t < a + b)
theorem run_length (a b n : Nat) : (run a b n).length = n := by simp [run]
theorem run_get (a b n t : Nat) (h : t < n) : (run a b n).getD t false = decide (a ≤ t ∧ t < a + b) := by simp [run, List.getD, h]
theorem run_cnt (a b n : Nat) (hn : a + b ≤ n) : ∀ i, i ≤ n → cnt (run a b n) i = min (i - a) b := by
  intro i
  induction i with
  | zero => intro _; rw [cnt_zero]; omega
  | succ i ih =>
    intro hi
    rw [cnt_succ, ih (by omega), run_get a b n i (by omega)]
    by_cases h : a ≤ i ∧ i < a + b
    · rw [if_pos (by simpa using h)]; omega
    · rw [if_neg (by simpa using h)]; omega
theorem run_rank (a b n : Nat) (hn : a + b ≤ n) (i : Nat) (hi : i ≤ n) : rank (run a b n) (i : Int) = min (i - a) b := by
  unfold rank; rw [Int.toNat_natCast]; exact run_cnt a b n hn i hi
theorem run_sel (a b n k : Nat) (hn : a + b ≤ n) (hk : k < b) : sel (run a b n) (k : Int) = (a + k : Nat) :=
  sel_eq (by rw [run_get a b n _ (by omega)]; simp; omega) (by rw [run_cnt a b n hn _ (by omega)]; omega)
theorem run_sel_no (a b n : Nat) (hn : a + b ≤ n) : sel (run a b n) (b : Int) = -1 :=
  sel_low (Or.inr (by rw [run_length, run_cnt a b n hn n (Nat.le_refl _)]; omega))
theorem run_next (a b n : Nat) (hn : a + b ≤ n) (hb : 0 < b) : next (run a b n) 0 = a := by
  unfold next
  have h := run_rank a b n hn 0 (by omega)
  rw [show ((0 : Nat) : Int) = 0 from rfl] at h
  rw [h, show min (0 - a) b = 0 by omega, run_sel a b n 0 hn hb]; rfl
theorem run_next_no (a b n i : Nat) (hn : a + b ≤ n) (hi : i ≤ n) (h : a + b ≤ i ∨ b = 0) : next (run a b n) (i : Int) = -1 := by
  unfold next
  rw [run_rank a b n hn i hi, show min (i - a) b = b by omega, run_sel_no a b n hn]

/-! ### two rows, one behind the other -/
theorem cnt_join (k l : List Bool) (t : Nat) : cnt (k ++ l) (k.length + t) = cnt k k.length + cnt l t := by
  unfold cnt
  rw [List.take_length_add_append, List.count_append, List.take_length]
theorem cnt_join_low (k l : List Bool) (t : Nat) (h : t ≤ k.length) : cnt (k ++ l) t = cnt k t := by
  unfold cnt; rw [List.take_append_of_le_length h]
theorem rank_join (k l : List Bool) (t : Nat) : rank (k ++ l) ((k.length + t : Nat) : Int) = cnt k k.length + rank l t := by
  unfold rank; rw [Int.toNat_natCast, Int.toNat_natCast, cnt_join]
theorem sel_join (k l : List Bool) (t : Nat) : sel (k ++ l) ((cnt k k.length + t : Nat) : Int) = if 0 ≤ sel l t then sel l t + (k.length : Int) else -1 := by
  by_cases h : t < cnt l l.length
  · obtain ⟨i, hi, hb, hc, hs⟩ := sel_some (l := l) (k := t) (by omega) (by omega)
    rw [hs, if_pos (by omega)]
    have := sel_eq (l := k ++ l) (k := ((cnt k k.length + t : Nat) : Int)) (i := k.length + i) (by
      rw [show (k ++ l).getD (k.length + i) false = l.getD i false by simp [List.getD, List.getElem?_append_right (show k.length ≤ k.length + i by omega)]]
      exact hb) (by rw [cnt_join]; omega)
    rw [this]; omega
  · have e : sel l t = -1 := sel_low (Or.inr (by omega))
    rw [e, if_neg (by omega)]
    exact sel_low (Or.inr (by rw [List.length_append, cnt_join]; omega))
end Go.Proofs.Ytagadfgginneeaa.Bm
