/- How two float64 stand: by whole numbers. -/
import Derived.Test.YtmooppakneoidaaDoorFloat
namespace Go.Proofs.YtmooppakneoidaaDoor.Fl
set_option linter.unusedVariables false
set_option linter.unusedSimpArgs false
open Go Go.RowKit Ieee

def E : Nat := 2200
def INF : Nat := 2 ^ E
theorem INF_pos : (0 : Int) < (INF : Int) := by have := Nat.two_pow_pos E; unfold INF; omega
/-- A datum as a whole number of least units; a NaN has none. -/
def keyD : Datum → Option Int
  | .number s m p => some (signed s m (p + 1074).toNat)
  | .infinity s => some (if s then -(INF : Nat) else (INF : Nat))
  | .nan _ _ => none
def key (x : Nat) : Option Int := keyD (F.read x)
/-- A finite one that a word stands for. -/
def Fin (d : Datum) : Prop := ∀ s m p, d = .number s m p → -1074 ≤ p ∧ p ≤ 971 ∧ m < 9007199254740992
theorem read_fin (x : Nat) : Fin (F.read x) := by
  intro s m p h
  unfold Format.read at h
  simp only [f_bin, f_inf, f_least] at h
  split at h
  · simp only [Datum.number.injEq] at h
    obtain ⟨_, rfl, rfl⟩ := h
    omega
  · split at h
    · rename_i h1 h2
      simp only [Datum.number.injEq] at h
      obtain ⟨_, rfl, rfl⟩ := h
      have := Nat.mod_lt (x % F.signWeight) (show 0 < 4503599627370496 by omega)
      omega
    · by_cases h3 : x % F.signWeight = 9218868437227405312
      · simp [h3] at h
      · simp [h3] at h
theorem signed_mul (s : Bool) (m a b : Nat) : signed s m (a + b) = signed s m a * ((2 ^ b : Nat) : Int) := by
  unfold signed
  rw [Nat.shiftLeft_eq, Nat.shiftLeft_eq, Nat.pow_add, ← Nat.mul_assoc]
  split
  · rw [Int.natCast_mul, Int.neg_mul]
  · rw [Int.natCast_mul]
theorem compare_mul (a b : Int) (c : Nat) (hc : 0 < c) : compare (a * (c : Int)) (b * (c : Int)) = compare a b := by
  have hc' : (0 : Int) < c := by omega
  rcases Int.lt_trichotomy a b with h | h | h
  · rw [Int.compare_eq_lt.2 h, Int.compare_eq_lt.2 (Int.mul_lt_mul_of_pos_right h hc')]
  · rw [h, Int.compare_eq_eq.2 rfl, Int.compare_eq_eq.2 rfl]
  · rw [Int.compare_eq_gt.2 h, Int.compare_eq_gt.2 (Int.mul_lt_mul_of_pos_right h hc')]
theorem mul_pow_le {m k A B : Nat} (hm : m ≤ 2 ^ A) (hk : k ≤ B) : m * 2 ^ k ≤ 2 ^ (A + B) := by
  rw [Nat.pow_add]
  exact Nat.mul_le_mul hm (Nat.pow_le_pow_right (by decide) hk)
theorem mul_pow_lt {m k A B C : Nat} (hm : m ≤ 2 ^ A) (hk : k ≤ B) (h : A + B < C) : m * 2 ^ k < 2 ^ C := Nat.lt_of_le_of_lt (mul_pow_le hm hk) (Nat.pow_lt_pow_right (by decide) h)
theorem signed_lt {s : Bool} {m : Nat} {p : Int} (h : -1074 ≤ p ∧ p ≤ 971 ∧ m < 9007199254740992) : -((INF : Nat) : Int) < signed s m (p + 1074).toNat ∧ signed s m (p + 1074).toNat < ((INF : Nat) : Int) := by
  obtain ⟨h1, h2, h3⟩ := h
  have h4 : m <<< (p + 1074).toNat < INF := by
    rw [Nat.shiftLeft_eq]
    unfold INF
    have hm : m ≤ 2 ^ 53 := by omega
    have ha : (p + 1074).toNat ≤ 2045 := by omega
    exact mul_pow_lt (A := 53) (B := 2045) (C := E) hm ha (by decide)
  unfold signed
  generalize m <<< (p + 1074).toNat = y at h4
  generalize INF = z at h4
  split <;> omega
theorem order_key (x y : Nat) : F.order x y = match key x, key y with | some a, some b => some (compare a b) | _, _ => none := by
  unfold Format.order key
  have hx := read_fin x
  have hy := read_fin y
  generalize F.read x = dx at hx
  generalize F.read y = dy at hy
  have hbig : (0 : Int) < ((INF : Nat) : Int) := INF_pos
  cases dx with
  | nan s m => cases dy <;> rfl
  | infinity s =>
    cases dy with
    | nan t n => rfl
    | infinity t =>
      simp only [Datum.order, keyD]
      generalize ((INF : Nat) : Int) = z at hbig
      cases s <;> cases t
      · rw [Int.compare_eq_eq.2 rfl]; rfl
      · simp only [if_true, Bool.false_eq_true, if_false]; rw [Int.compare_eq_gt.2 (by omega)]; rfl
      · simp only [if_true, Bool.false_eq_true, if_false]; rw [Int.compare_eq_lt.2 (by omega)]; rfl
      · rw [Int.compare_eq_eq.2 rfl]; rfl
    | number t n j =>
      have hb := signed_lt (s := t) (hy t n j rfl)
      simp only [Datum.order, keyD]
      generalize signed t n (j + 1074).toNat = y at hb
      generalize ((INF : Nat) : Int) = z at hbig hb
      cases s
      · simp only [Bool.false_eq_true, if_false]; rw [Int.compare_eq_gt.2 (by omega)]
      · simp only [if_true]; rw [Int.compare_eq_lt.2 (by omega)]
  | number s m i =>
    have ha := signed_lt (s := s) (hx s m i rfl)
    obtain ⟨hi1, hi2, _⟩ := hx s m i rfl
    cases dy with
    | nan t n => rfl
    | infinity t =>
      simp only [Datum.order, keyD]
      generalize signed s m (i + 1074).toNat = y at ha
      generalize ((INF : Nat) : Int) = z at hbig ha
      cases t
      · simp only [Bool.false_eq_true, if_false]; rw [Int.compare_eq_lt.2 (by omega)]
      · simp only [if_true]; rw [Int.compare_eq_gt.2 (by omega)]
    | number t n j =>
      obtain ⟨hj1, hj2, _⟩ := hy t n j rfl
      simp only [Datum.order, keyD]
      have e1 : (i + 1074).toNat = (i - min i j).toNat + (min i j + 1074).toNat := by omega
      have e2 : (j + 1074).toNat = (j - min i j).toNat + (min i j + 1074).toNat := by omega
      rw [e1, e2, signed_mul, signed_mul, compare_mul _ _ _ (Nat.two_pow_pos _)]
/-- The sign bit. -/
def neg (x : Nat) : Bool := decide (9223372036854775808 ≤ x)
theorem read_neg (x : Nat) (hx : x < 18446744073709551616) : (F.read x).neg = neg x := by
  have e : (x / F.signWeight % 2 == 1) = neg x := by
    unfold neg
    rw [f_sw]
    by_cases h : 9223372036854775808 ≤ x
    · rw [decide_eq_true h, beq_iff_eq]; omega
    · rw [decide_eq_false h, beq_eq_false_iff_ne]; omega
  unfold Format.read
  simp only [e]
  split
  · rfl
  · split
    · rfl
    · split <;> rfl
theorem key_neg {x : Nat} {a : Int} (hx : x < 18446744073709551616) (h : key x = some a) : (a < 0 → neg x = true) ∧ (0 < a → neg x = false) := by
  rw [← read_neg x hx]
  unfold key at h
  generalize F.read x = d at h
  have hbig : (0 : Int) < ((INF : Nat) : Int) := INF_pos
  cases d with
  | nan s m => cases h
  | infinity s =>
    simp only [keyD, Option.some.injEq] at h
    generalize ((INF : Nat) : Int) = z at hbig h
    cases s
    · simp only [Bool.false_eq_true, if_false] at h
      exact ⟨fun h2 => by omega, fun _ => rfl⟩
    · simp only [if_true] at h
      exact ⟨fun _ => rfl, fun h2 => by omega⟩
  | number s m p =>
    simp only [keyD, Option.some.injEq] at h
    unfold signed at h
    generalize m <<< (p + 1074).toNat = y at h
    cases s
    · simp only [Bool.false_eq_true, if_false] at h
      exact ⟨fun h2 => by omega, fun _ => rfl⟩
    · simp only [if_true] at h
      exact ⟨fun _ => rfl, fun h2 => by omega⟩
/-- false ahead of true. -/
def cmpb (a b : Bool) : Int := if a = b then 0 else if b then -1 else 1
/-- The order of all. -/
def ordr (x y : Nat) : Int :=
  match key x, key y with
  | none, none => 0
  | none, some _ => -1
  | some _, none => 1
  | some a, some b => if a < b then -1 else if b < a then 1 else cmpb (!neg x) (!neg y)
theorem ordr_self (x : Nat) : ordr x x = 0 := by
  unfold ordr
  cases key x with
  | none => rfl
  | some a => simp [cmpb]
theorem ordr_swap (x y : Nat) : ordr x y = -ordr y x := by
  unfold ordr
  cases key x with
  | none => cases key y <;> rfl
  | some a =>
    cases key y with
    | none => rfl
    | some b =>
      simp only
      rcases Int.lt_trichotomy a b with h | h | h
      · rw [if_pos h, if_neg (by omega), if_pos h]
      · subst h
        simp only [Int.lt_irrefl, if_false]
        cases neg x <;> cases neg y <;> rfl
      · rw [if_neg (by omega), if_pos h, if_pos h]; rfl
theorem ordr_trans (x y z : Nat) (h1 : ordr x y ≤ 0) (h2 : ordr y z ≤ 0) : ordr x z ≤ 0 := by
  unfold ordr at *
  cases hx : key x with
  | none => rw [hx] at h1; cases key z <;> simp
  | some a =>
    rw [hx] at h1
    cases hy : key y with
    | none => rw [hy] at h1; simp at h1
    | some b =>
      rw [hy] at h1 h2
      cases hz : key z with
      | none => rw [hz] at h2; simp at h2
      | some c =>
        rw [hz] at h2
        simp only at h1 h2 ⊢
        rcases Int.lt_trichotomy a b with h | h | h
        · rcases Int.lt_trichotomy b c with k | k | k
          · rw [if_pos (by omega)]; omega
          · rw [if_pos (by omega)]; omega
          · rw [if_neg (by omega), if_pos k] at h2; omega
        · subst h
          simp only [Int.lt_irrefl, if_false] at h1
          rcases Int.lt_trichotomy a c with k | k | k
          · rw [if_pos k]; omega
          · subst k
            simp only [Int.lt_irrefl, if_false] at h2 ⊢
            revert h1 h2
            cases neg x <;> cases neg y <;> cases neg z <;> decide
          · rw [if_neg (by omega), if_pos k] at h2; omega
        · rw [if_neg (by omega), if_pos h] at h1; omega
theorem key_zero : key 0 = some 0 := by
  have : F.read 0 = .number false 0 (-1074) := by decide +kernel
  unfold key
  rw [this]; rfl
theorem ordr_lt {x y : Nat} {a b : Int} (hx : x < 18446744073709551616) (hy : y < 18446744073709551616) (h1 : key x = some a) (h2 : key y = some b) (h0 : a ≠ 0 ∨ b ≠ 0) : ordr x y < 0 ↔ a < b := by
  unfold ordr
  rw [h1, h2]
  simp only
  rcases Int.lt_trichotomy a b with h | h | h
  · rw [if_pos h]; omega
  · subst h
    simp only [Int.lt_irrefl, if_false]
    have k1 := key_neg hx h1
    have k2 := key_neg hy h2
    have : neg x = neg y := by
      rcases Int.lt_trichotomy a 0 with h | h | h
      · rw [k1.1 h, k2.1 h]
      · omega
      · rw [k1.2 h, k2.2 h]
    rw [this]
    simp [cmpb]
  · rw [if_neg (by omega), if_pos h]; omega
/-- The order and the sum of all that a comparison can say. -/
theorem order_none (x y : Nat) : F.order x y = none ↔ key x = none ∨ key y = none := by
  rw [order_key]
  cases key x <;> cases key y <;> simp
theorem order_some {x y : Nat} {a b : Int} (h1 : key x = some a) (h2 : key y = some b) : F.order x y = some (compare a b) := by rw [order_key, h1, h2]
end Go.Proofs.YtmooppakneoidaaDoor.Fl
