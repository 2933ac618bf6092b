/- Plain facts on binary numbers: what n digits spell, a digit more at either end, groups of c digits. -/
import Derived.WalkKit
namespace Go.Proofs.Ytagadfgginneeaa.Bn
set_option linter.unusedVariables false
set_option linter.unusedSimpArgs false
open Go Go.RowKit

/-- The number that n digits spell, the first one lowest. -/
def val (f : Nat → Bool) : Nat → Nat
  | 0 => 0
  | n + 1 => (if f 0 then 1 else 0) + 2 * val (fun j => f (j + 1)) n
theorem val_lt (n : Nat) : ∀ f : Nat → Bool, val f n < 2 ^ n := by
  induction n with
  | zero => intro f; simp [val]
  | succ n ih => intro f; simp only [val, Nat.pow_succ]; have := ih (fun j => f (j + 1)); split <;> omega
theorem testBit_val (n : Nat) : ∀ (f : Nat → Bool) (j : Nat), (val f n).testBit j = (decide (j < n) && f j) := by
  induction n with
  | zero => intro f j; simp [val]
  | succ n ih =>
    intro f j
    cases j with
    | zero => simp only [val, Nat.testBit_zero]; cases f 0 <;> simp
    | succ j =>
      rw [Nat.testBit_succ]
      have : val f (n + 1) / 2 = val (fun j => f (j + 1)) n := by simp only [val]; split <;> omega
      rw [this, ih]; simp
theorem val_congr {n : Nat} {f g : Nat → Bool} (h : ∀ j, j < n → f j = g j) : val f n = val g n := by
  apply Nat.eq_of_testBit_eq
  intro j
  rw [testBit_val, testBit_val]
  by_cases hj : j < n
  · rw [h j hj]
  · simp [hj]
theorem val_inj {n : Nat} {f g : Nat → Bool} (h : val f n = val g n) : ∀ j, j < n → f j = g j := by
  intro j hj
  have := congrArg (fun x => Nat.testBit x j) h
  simpa [testBit_val, hj] using this
/-- A digit more at the upper end. -/
theorem val_snoc (f : Nat → Bool) (n : Nat) : val f (n + 1) = val f n ||| (if f n then 2 ^ n else 0) := by
  apply Nat.eq_of_testBit_eq
  intro j
  rw [Nat.testBit_or, testBit_val, testBit_val]
  by_cases hj : j = n
  · subst hj
    cases hf : f j <;> simp
  · have h1 : (if f n then 2 ^ n else 0).testBit j = false := by
      split
      · rw [Nat.testBit_two_pow]; simp; omega
      · simp
    rw [h1, Bool.or_false]
    congr 1
    rw [decide_eq_decide]; omega
theorem val_of_testBit (n x : Nat) (h : x < 2 ^ n) : val (fun j => x.testBit j) n = x := by
  apply Nat.eq_of_testBit_eq
  intro j
  rw [testBit_val]
  by_cases hj : j < n
  · simp [hj]
  · have : x.testBit j = false := Nat.testBit_lt_two_pow (Nat.lt_of_lt_of_le h (Nat.pow_le_pow_right (by omega) (by omega)))
    simp [hj, this]

/-- Group t of c digits, of the first k digits alone. -/
def grp (bit : Nat → Bool) (c k t : Nat) : Nat := val (fun j => decide (c * t + j < k) && bit (c * t + j)) c
theorem grp_lt (bit : Nat → Bool) (c k t : Nat) : grp bit c k t < 2 ^ c := val_lt _ _
theorem grp_zero (bit : Nat → Bool) (c t : Nat) : grp bit c 0 t = 0 := by
  unfold grp
  rw [val_congr (g := fun _ => false) (fun j _ => by simp)]
  apply Nat.eq_of_testBit_eq
  intro j; rw [testBit_val]; simp
theorem grp_other (bit : Nat → Bool) {c k t : Nat} (hc : 0 < c) (h : t ≠ k / c) : grp bit c (k + 1) t = grp bit c k t := by
  unfold grp
  refine val_congr fun j hj => ?_
  have h1 : c * t + j ≠ k := fun he => h (by rw [← he, Nat.mul_add_div hc, Nat.div_eq_of_lt hj]; omega)
  congr 1
  rw [decide_eq_decide]; omega
theorem grp_step (bit : Nat → Bool) {c k : Nat} (hc : 0 < c) : grp bit c (k + 1) (k / c) = grp bit c k (k / c) ||| (if bit k then 2 ^ (k % c) else 0) := by
  apply Nat.eq_of_testBit_eq
  intro j
  have hk := Nat.div_add_mod k c
  have hm := Nat.mod_lt k hc
  unfold grp
  rw [Nat.testBit_or, testBit_val, testBit_val]
  by_cases hj : j < c
  · by_cases he : j = k % c
    · subst he
      rw [hk]
      cases hb : bit k <;> simp [hj, Nat.testBit_two_pow]
    · have h1 : (if bit k then 2 ^ (k % c) else 0).testBit j = false := by
        split
        · rw [Nat.testBit_two_pow]; simp; omega
        · simp
      rw [h1, Bool.or_false]
      congr 2
      rw [decide_eq_decide]; omega
  · have h1 : (if bit k then 2 ^ (k % c) else 0).testBit j = false := by
      split
      · rw [Nat.testBit_two_pow]; simp; omega
      · simp
    simp [hj, h1]
/-- How many digits a number has. -/
def width (n : Nat) : Nat := if n = 0 then 0 else n.log2 + 1
theorem width_le (n w : Nat) : width n ≤ w ↔ n < 2 ^ w := by
  unfold width
  split
  · rename_i h; subst h; simp [Nat.two_pow_pos]
  · rename_i h
    rw [← Nat.log2_lt h]; omega
theorem width_zero : width 0 = 0 := rfl
theorem width_half (n : Nat) (h : 0 < n) : width n = width (n / 2) + 1 := by
  have key : ∀ w, width n ≤ w ↔ width (n / 2) + 1 ≤ w := by
    intro w
    cases w with
    | zero =>
      rw [width_le]; simp; omega
    | succ w =>
      rw [width_le, Nat.pow_succ]
      have := width_le (n / 2) w
      omega
  have h1 := (key (width n)).1 (Nat.le_refl _)
  have h2 := (key (width (n / 2) + 1)).2 (Nat.le_refl _)
  omega

/-- A digit as a number. -/
def dig (b : Bool) : Nat := if b then 1 else 0
theorem dig_lt (b : Bool) : dig b < 2 := by cases b <;> simp [dig]

/-! ### int's and bytes' digits, as Go reckons them -/
theorem ofInt_i64 (a : Nat) (ha : a < 9223372036854775808) : (BitVec.ofInt 64 (a : Int)).toNat = a := by
  rw [BitVec.ofInt_natCast, BitVec.toNat_ofNat]; exact Nat.mod_eq_of_lt (by omega)
theorem i64_and_nat (a b : Nat) (ha : a < 9223372036854775808) (hb : b < 9223372036854775808) : bits .and .i64 (a : Int) (b : Int) = ((a &&& b : Nat) : Int) := by
  have hx : a &&& b < 2 ^ 63 := Nat.and_lt_two_pow _ (by omega)
  show IntKind.i64.wrap ((BitVec.ofInt 64 (a : Int) &&& BitVec.ofInt 64 (b : Int)).toNat : Int) = _
  rw [BitVec.toNat_and, ofInt_i64 a ha, ofInt_i64 b hb, IntKind.wrap_i64]
  omega
theorem i64_or_nat (a b : Nat) (ha : a < 9223372036854775808) (hb : b < 9223372036854775808) : bits .or .i64 (a : Int) (b : Int) = ((a ||| b : Nat) : Int) := by
  have hx : a ||| b < 2 ^ 63 := Nat.or_lt_two_pow (by omega) (by omega)
  show IntKind.i64.wrap ((BitVec.ofInt 64 (a : Int) ||| BitVec.ofInt 64 (b : Int)).toNat : Int) = _
  rw [BitVec.toNat_or, ofInt_i64 a ha, ofInt_i64 b hb, IntKind.wrap_i64]
  omega
theorem i64_xor_nat (a b : Nat) (ha : a < 9223372036854775808) (hb : b < 9223372036854775808) : bits .xor .i64 (a : Int) (b : Int) = ((a ^^^ b : Nat) : Int) := by
  have hx : a ^^^ b < 2 ^ 63 := Nat.xor_lt_two_pow (by omega) (by omega)
  show IntKind.i64.wrap ((BitVec.ofInt 64 (a : Int) ^^^ BitVec.ofInt 64 (b : Int)).toNat : Int) = _
  rw [BitVec.toNat_xor, ofInt_i64 a ha, ofInt_i64 b hb, IntKind.wrap_i64]
  omega
theorem natCast_shr (x d : Nat) : (x : Int) / 2 ^ d = ((x / 2 ^ d : Nat) : Int) := by rw [Int.natCast_ediv, Int.natCast_pow]; rfl
theorem and_one_bit (x d : Nat) : x / 2 ^ d &&& 1 = if x.testBit d then 1 else 0 := by
  rw [Nat.and_one_is_mod, Nat.testBit_eq_decide_div_mod_eq]
  have hy : x / 2 ^ d % 2 < 2 := Nat.mod_lt _ (by omega)
  generalize x / 2 ^ d % 2 = y at *
  by_cases h : y = 1
  · simp [h]
  · simp [h]; omega
theorem i64_bit (x d : Nat) (h : x < 9223372036854775808) : bits BinOp.and IntKind.i64 ((x : Int) / 2 ^ d) 1 = ((dig (x.testBit d) : Nat) : Int) := by
  have hd : x / 2 ^ d < 9223372036854775808 := Nat.lt_of_le_of_lt (Nat.div_le_self _ _) h
  have := i64_and_nat (x / 2 ^ d) 1 hd (by omega)
  rw [natCast_shr, show (1 : Int) = ((1 : Nat) : Int) from rfl, this, and_one_bit]; rfl
theorem u8_bit (x d : Nat) (h : x < 256) : bits BinOp.and IntKind.u8 ((x : Int) / 2 ^ d) 1 = ((dig (x.testBit d) : Nat) : Int) := by
  have hd : x / 2 ^ d < 256 := Nat.lt_of_le_of_lt (Nat.div_le_self _ _) h
  have := u8_and_nat (x / 2 ^ d) 1 hd (by omega)
  rw [natCast_shr, show (1 : Int) = ((1 : Nat) : Int) from rfl, this, and_one_bit]; rfl
theorem wrap_u8_small (n : Nat) (h : n < 256) : IntKind.u8.wrap (n : Int) = n := by
  rw [IntKind.wrap_u8']; omega
end Go.Proofs.Ytagadfgginneeaa.Bn
