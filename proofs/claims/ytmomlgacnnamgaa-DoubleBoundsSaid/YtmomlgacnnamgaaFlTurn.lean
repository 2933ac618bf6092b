/- The other number below nought: its place in the order. -/
import Derived.Test.YtmomlgacnnamgaaFlOrd
namespace Go.Proofs.Ytmomlgacnnamgaa.Fl
set_option linter.unusedVariables false
set_option linter.unusedSimpArgs false
open Go Go.RowKit Ieee
theorem read_turn {x : Nat} (hx : x < 9223372036854775808) : F.read (x + 9223372036854775808) = (F.read x).opposite := by
  have e1 : ((x + 9223372036854775808) / F.signWeight % 2 == 1) = true := by rw [f_sw, beq_iff_eq]; omega
  have e2 : (x / F.signWeight % 2 == 1) = false := by rw [f_sw, beq_eq_false_iff_ne]; omega
  have e3 : (x + 9223372036854775808) % F.signWeight = x := by rw [f_sw]; omega
  have e4 : x % F.signWeight = x := by rw [f_sw]; omega
  unfold Format.read
  simp only [e1, e2, e3, e4]
  split
  · rfl
  · split
    · rfl
    · split <;> rfl
theorem keyD_opposite (d : Datum) : keyD d.opposite = (keyD d).map fun a => -a := by
  cases d with
  | number s m p => cases s <;> simp [Datum.opposite, keyD, signed]
  | infinity s => cases s <;> simp [Datum.opposite, keyD]
  | nan s t => rfl
theorem key_turn {x : Nat} (hx : x < 9223372036854775808) : key (x + 9223372036854775808) = (key x).map fun a => -a := by
  unfold key; rw [read_turn hx, keyD_opposite]
theorem neg_turn {x : Nat} : neg (x + 9223372036854775808) = true := by
  unfold neg
  rw [decide_eq_true_eq]
  omega
theorem neg_low {x : Nat} (hx : x < 9223372036854775808) : neg x = false := by
  unfold neg
  rw [decide_eq_false_iff_not]
  omega
/-- Numbers with the other sign stand the other way round. -/
theorem ordr_opp {x y X Y : Nat} {a b : Int} (ha : key x = some a) (hb : key y = some b) (hA : key X = some (-a)) (hB : key Y = some (-b)) (n1 : neg x = false) (n2 : neg y = false) (n3 : neg X = true) (n4 : neg Y = true) :
    ordr X Y = -ordr x y := by
  have e1 : ordr X Y = if -a < -b then -1 else if -b < -a then 1 else cmpb (!neg X) (!neg Y) := by unfold ordr; rw [hA, hB]
  have e2 : ordr x y = if a < b then -1 else if b < a then 1 else cmpb (!neg x) (!neg y) := by unfold ordr; rw [ha, hb]
  have e3 : cmpb (!neg X) (!neg Y) = 0 := by rw [n3, n4]; rfl
  have e4 : cmpb (!neg x) (!neg y) = 0 := by rw [n1, n2]; rfl
  rw [e1, e2, e3, e4]
  by_cases h1 : a < b
  · rw [if_pos h1, if_neg (by omega), if_pos (by omega)]; rfl
  · by_cases h2 : b < a
    · rw [if_pos (by omega), if_neg h1, if_pos h2]
    · rw [if_neg (by omega), if_neg (by omega), if_neg h1, if_neg h2]; rfl
theorem order_refl {x : Nat} {a : Int} (h : key x = some a) : (F.order x x == some Ordering.eq) = true := by
  rw [order_some h h, Int.compare_eq_eq.2 rfl]; rfl
theorem negFloat_low {x : Nat} (hx : x < 9223372036854775808) : Op.negFloat .f64 x = x + 9223372036854775808 := by
  show x ^^^ 2 ^ 63 = _
  have h := Nat.two_pow_add_eq_or_of_lt (i := 63) (show x < 2 ^ 63 from hx) 1
  rw [Nat.add_comm x]
  show x ^^^ 2 ^ 63 = 2 ^ 63 + x
  rw [show (2 : Nat) ^ 63 + x = 2 ^ 63 * 1 + x by omega, h, Nat.mul_one]
  apply Nat.eq_of_testBit_eq
  intro i
  rw [Nat.testBit_xor, Nat.testBit_or, Nat.testBit_two_pow]
  by_cases hi : 63 = i
  · subst hi
    rw [Nat.testBit_lt_two_pow (show x < 2 ^ 63 from hx)]; rfl
  · simp [hi]
end Go.Proofs.Ytmomlgacnnamgaa.Fl
