/- What CRC-24 reckons: one digit, one byte, rows of bytes; it is linear, and no two states come to one. -/
import Derived.Test.YtgbhnkiballeeaaBin
namespace Go.Proofs.Ytgbhnkiballeeaa.Cr
set_option linter.unusedVariables false
set_option linter.unusedSimpArgs false
open Go Go.RowKit Go.Proofs.Ytgbhnkiballeeaa.Bn

/-- One digit more. -/
def T (x : Nat) : Nat := (2 * x) ^^^ (if x.testBit 23 then 25578747 else 0)
/-- k digits more. -/
def Tn : Nat → Nat → Nat
  | 0, x => x
  | k + 1, x => T (Tn k x)
/-- One byte more. -/
def step (s c : Nat) : Nat := Tn 8 (s ^^^ (65536 * c))
/-- Bytes more. -/
def run (s : Nat) (l : List Nat) : Nat := l.foldl step s
def start : Nat := 11994318
/-- The sum of bytes. -/
def sum (l : List Nat) : Nat := run start l

theorem two_testBit (x j : Nat) : (2 * x).testBit j = (decide (0 < j) && x.testBit (j - 1)) := by
  cases j with
  | zero => simp [Nat.testBit_zero]
  | succ j => rw [Nat.testBit_succ, Nat.mul_div_cancel_left _ (by omega : 0 < 2)]; simp
theorem two_xor (x y : Nat) : 2 * (x ^^^ y) = (2 * x) ^^^ (2 * y) := by
  apply Nat.eq_of_testBit_eq
  intro j
  rw [Nat.testBit_xor, two_testBit, two_testBit, two_testBit, Nat.testBit_xor]
  cases decide (0 < j) <;> simp
theorem mul_xor (k x y : Nat) : 2 ^ k * (x ^^^ y) = (2 ^ k * x) ^^^ (2 ^ k * y) := by
  induction k with
  | zero => simp
  | succ k ih => rw [Nat.pow_succ, Nat.mul_comm (2 ^ k) 2, Nat.mul_assoc, Nat.mul_assoc, Nat.mul_assoc, ih, two_xor]
theorem mul16_xor (x y : Nat) : 65536 * (x ^^^ y) = (65536 * x) ^^^ (65536 * y) := mul_xor 16 x y
theorem T_xor (x y : Nat) : T (x ^^^ y) = T x ^^^ T y := by
  unfold T
  rw [two_xor, Nat.testBit_xor]
  cases x.testBit 23 <;> cases y.testBit 23 <;> simp
  · rw [Nat.xor_assoc]
  · rw [Nat.xor_assoc, Nat.xor_assoc, Nat.xor_comm (2 * y)]
  · rw [Nat.xor_assoc, Nat.xor_comm 25578747, Nat.xor_assoc, Nat.xor_self, Nat.xor_zero]
theorem T_zero : T 0 = 0 := by decide
theorem big_bit (j : Nat) (h : 25 ≤ j) : Nat.testBit 25578747 j = false :=
  Nat.testBit_lt_two_pow (Nat.lt_of_lt_of_le (show 25578747 < 2 ^ 25 by decide) (Nat.pow_le_pow_right (by omega) h))
theorem T_lt (x : Nat) (h : x < 2 ^ 24) : T x < 2 ^ 24 := by
  apply Nat.lt_pow_two_of_testBit
  intro j hj
  unfold T
  rw [Nat.testBit_xor, two_testBit]
  rcases Nat.lt_or_ge 24 j with h1 | h1
  · have h2 : x.testBit (j - 1) = false := Nat.testBit_lt_two_pow (Nat.lt_of_lt_of_le h (Nat.pow_le_pow_right (by omega) (by omega)))
    rw [h2]
    split
    · rw [big_bit j (by omega)]; simp
    · simp
  · obtain rfl : j = 24 := by omega
    cases hb : x.testBit 23
    · simp [hb]
    · simp [hb]; decide
theorem T_zero_of (x : Nat) (h : T x = 0) : x = 0 := by
  unfold T at h
  have h0 := congrArg (fun z => Nat.testBit z 0) h
  simp only [Nat.testBit_xor, two_testBit] at h0
  cases hb : x.testBit 23
  · rw [hb] at h; simp at h; omega
  · have h1 : Nat.testBit 25578747 0 = true := by decide
    simp [hb, h1] at h0
theorem T_inj {x y : Nat} (h : T x = T y) : x = y := by
  have h1 : T (x ^^^ y) = 0 := by rw [T_xor, h, Nat.xor_self]
  have h2 := T_zero_of _ h1
  have h3 := congrArg (fun z => x ^^^ z) h2
  simp only [← Nat.xor_assoc, Nat.xor_self, Nat.zero_xor, Nat.xor_zero] at h3
  exact h3.symm
theorem Tn_lt (k x : Nat) (h : x < 2 ^ 24) : Tn k x < 2 ^ 24 := by
  induction k with
  | zero => exact h
  | succ k ih => exact T_lt _ ih
theorem Tn_xor (k x y : Nat) : Tn k (x ^^^ y) = Tn k x ^^^ Tn k y := by
  induction k with
  | zero => rfl
  | succ k ih => simp only [Tn, ih, T_xor]
theorem Tn_inj {k x y : Nat} (h : Tn k x = Tn k y) : x = y := by
  induction k with
  | zero => exact h
  | succ k ih => exact ih (T_inj h)
theorem Tn_zero (k : Nat) : Tn k 0 = 0 := by
  induction k with
  | zero => rfl
  | succ k ih => simp only [Tn, ih, T_zero]
theorem T_double (x : Nat) (h : x < 2 ^ 23) : T x = 2 * x := by
  unfold T
  rw [Nat.testBit_lt_two_pow h]; simp
theorem Tn_double (k x : Nat) (hk : k ≤ 24) (h : x < 2 ^ (24 - k)) : Tn k x = 2 ^ k * x := by
  induction k with
  | zero => simp [Tn]
  | succ k ih =>
    have h1 : 2 ^ (24 - k) = 2 * 2 ^ (24 - (k + 1)) := by rw [show 24 - k = (24 - (k + 1)) + 1 by omega, Nat.pow_succ, Nat.mul_comm]
    simp only [Tn]
    rw [ih (by omega) (by omega), T_double _ ?_, Nat.pow_succ]
    · rw [Nat.mul_comm (2 ^ k) 2, Nat.mul_assoc]
    · have : 2 ^ k * x < 2 ^ k * 2 ^ (24 - (k + 1)) := Nat.mul_lt_mul_of_pos_left h (Nat.two_pow_pos k)
      rw [← Nat.pow_add, show k + (24 - (k + 1)) = 23 by omega] at this
      exact this

theorem in_lt (s c : Nat) (hs : s < 2 ^ 24) (hc : c < 256) : s ^^^ (65536 * c) < 2 ^ 24 := Nat.xor_lt_two_pow hs (by omega)
theorem step_lt (s c : Nat) (hs : s < 2 ^ 24) (hc : c < 256) : step s c < 2 ^ 24 := Tn_lt _ _ (in_lt s c hs hc)
theorem run_lt (l : List Nat) : ∀ (s : Nat), s < 2 ^ 24 → (∀ i, l.getD i 0 < 256) → run s l < 2 ^ 24 := by
  induction l with
  | nil => intro s hs _; exact hs
  | cons c l ih =>
    intro s hs hl
    exact ih (step s c) (step_lt s c hs (by have := hl 0; simpa [List.getD] using this)) (fun i => by have := hl (i + 1); simpa [List.getD] using this)
theorem sum_lt (l : List Nat) (h : ∀ i, l.getD i 0 < 256) : sum l < 16777216 := run_lt l start (by decide) h
theorem run_append (s : Nat) (k l : List Nat) : run s (k ++ l) = run (run s k) l := List.foldl_append
theorem run_take (s : Nat) (l : List Nat) (i : Nat) (h : i < l.length) : run s (l.take (i + 1)) = step (run s (l.take i)) (l.getD i 0) := by
  rw [List.take_succ_eq_append_getElem h, run_append]
  show step _ _ = _
  simp [List.getD, h]
theorem take_lt {l : List Nat} (i : Nat) (h : ∀ i, l.getD i 0 < 256) : ∀ j, (l.take i).getD j 0 < 256 := by
  intro j
  have := h j
  simp only [List.getD, List.getElem?_take] at this ⊢
  split
  · exact this
  · decide
theorem step_inj {s s' c : Nat} (h : step s c = step s' c) : s = s' := by
  have := Tn_inj h
  have h2 := congrArg (fun z => z ^^^ (65536 * c)) this
  simpa [Nat.xor_assoc] using h2
theorem step_inj2 {s c c' : Nat} (h : step s c = step s c') : c = c' := by
  have := Tn_inj h
  have h2 := congrArg (fun z => s ^^^ z) this
  have h3 : (65536 * c) = (65536 * c') := by
    rw [← Nat.xor_assoc, ← Nat.xor_assoc, Nat.xor_self, Nat.zero_xor, Nat.zero_xor] at h2
    exact h2
  omega
theorem run_inj {s s' : Nat} (l : List Nat) : run s l = run s' l → s = s' := by
  induction l generalizing s s' with
  | nil => exact id
  | cons c l ih => intro h; exact step_inj (ih h)
/-- A byte that is another one makes another sum. -/
theorem sum_set (l : List Nat) (q c c' : Nat) (hq : q < l.length) (h : sum (l.set q c) = sum (l.set q c')) : c = c' := by
  have e : ∀ x, l.set q x = l.take q ++ x :: l.drop (q + 1) := fun x => List.set_eq_take_append_cons_drop .. |>.trans (by rw [if_pos hq])
  rw [e, e] at h
  unfold sum at h
  rw [run_append, run_append] at h
  exact step_inj2 (run_inj _ h)
theorem step_xor (s t c d : Nat) : step (s ^^^ t) (c ^^^ d) = step s c ^^^ step t d := by
  unfold step
  rw [← Tn_xor, mul16_xor]
  congr 1
  rw [Nat.xor_assoc, Nat.xor_assoc, ← Nat.xor_assoc t, Nat.xor_comm t, Nat.xor_assoc]
theorem step_zero (s : Nat) : step s 0 = Tn 8 s := by unfold step; simp
/-- Three digits of eight bits that spell the sum take it to nought. -/
theorem seal0 (n : Nat) (h : n < 16777216) : run n [n / 65536 % 256, n / 256 % 256, n % 256] = 0 := by
  show step (step (step n (n / 65536 % 256)) (n / 256 % 256)) (n % 256) = 0
  have x1 : n ^^^ (65536 * (n / 65536 % 256)) = n % 65536 := by
    have h1 : n = 2 ^ 16 * (n / 65536) + n % 65536 := by omega
    have h2 := Nat.two_pow_add_eq_or_of_lt (i := 16) (b := n % 65536) (by omega) (n / 65536)
    rw [show n / 65536 % 256 = n / 65536 by omega]
    conv => lhs; lhs; rw [h1]
    apply Nat.eq_of_testBit_eq
    intro j
    rw [Nat.testBit_xor, Nat.testBit_two_pow_mul_add _ (by omega : n % 65536 < 2 ^ 16), show 65536 = 2 ^ 16 by rfl, Nat.testBit_two_pow_mul]
    by_cases hj : j < 16
    · simp [hj, show ¬ 16 ≤ j by omega]
    · have : (n % 2 ^ 16).testBit j = false := Nat.testBit_lt_two_pow (Nat.lt_of_lt_of_le (by omega : n % 2 ^ 16 < 2 ^ 16) (Nat.pow_le_pow_right (by omega) (by omega)))
      simp [hj, this, show 16 ≤ j by omega]
  have s1 : step n (n / 65536 % 256) = 256 * (n % 65536) := by
    unfold step
    rw [x1, Tn_double 8 _ (by omega) (by show _ < 65536; omega)]
  have x2 : 256 * (n % 65536) ^^^ (65536 * (n / 256 % 256)) = 256 * (n % 256) := by
    have h1 : 256 * (n % 65536) = 2 ^ 16 * (n / 256 % 256) + 256 * (n % 256) := by omega
    rw [h1]
    apply Nat.eq_of_testBit_eq
    intro j
    rw [Nat.testBit_xor, Nat.testBit_two_pow_mul_add _ (by omega : 256 * (n % 256) < 2 ^ 16), show 65536 = 2 ^ 16 by rfl, Nat.testBit_two_pow_mul]
    by_cases hj : j < 16
    · simp [hj, show ¬ 16 ≤ j by omega]
    · have : (256 * (n % 256)).testBit j = false := Nat.testBit_lt_two_pow (Nat.lt_of_lt_of_le (by omega : 256 * (n % 256) < 2 ^ 16) (Nat.pow_le_pow_right (by omega) (by omega)))
      simp [hj, this, show 16 ≤ j by omega]
  have s2 : step (256 * (n % 65536)) (n / 256 % 256) = 65536 * (n % 256) := by
    unfold step
    rw [x2, Tn_double 8 _ (by omega) (by show _ < 65536; omega)]
    omega
  rw [s1, s2]
  unfold step
  rw [Nat.xor_self, Tn_zero]
/-- Three rows side by side. -/
theorem run_xor3 (l : List Nat) (f g : Nat → Nat) : ∀ (s t u : Nat), run (s ^^^ t ^^^ u) (l.map fun c => c ^^^ f c ^^^ g c) = run s l ^^^ run t (l.map f) ^^^ run u (l.map g) := by
  induction l with
  | nil => intro s t u; rfl
  | cons c l ih =>
    intro s t u
    show run (step (s ^^^ t ^^^ u) (c ^^^ f c ^^^ g c)) _ = _
    rw [step_xor, step_xor, ih]
    rfl
end Go.Proofs.Ytgbhnkiballeeaa.Cr
