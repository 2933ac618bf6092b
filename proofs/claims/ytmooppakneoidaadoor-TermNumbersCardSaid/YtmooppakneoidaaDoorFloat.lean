/- Plain facts on float64: whole numbers that it has, their products and quotients, what stands above nought. -/
import Derived.WalkKit
import Derived.Laws.FloatArith
namespace Go.Proofs.YtmooppakneoidaaDoor.Fl
set_option linter.unusedVariables false
set_option linter.unusedSimpArgs false
open Go Go.RowKit Ieee

abbrev F : Format := Ieee.double
theorem f_sw : F.signWeight = 9223372036854775808 := rfl
theorem f_bin : F.binade = 4503599627370496 := rfl
theorem f_inf : F.infRung = 9218868437227405312 := rfl
theorem f_least : F.leastPlace = -1074 := by decide
theorem f_frac : F.fractionBits = 52 := rfl
/-- The word of the digits q at place e - 1074. -/
def canon (s : Bool) (q e : Nat) : Nat := F.word s (e * 4503599627370496 + q)
theorem read_word (s : Bool) (r : Nat) (h : r < 9223372036854775808) : F.word s r / F.signWeight % 2 = (if s then 1 else 0) ∧ F.word s r % F.signWeight = r := by
  unfold Format.word
  rw [f_sw]
  cases s
  · simp; omega
  · simp; omega
theorem read_canon (s : Bool) (q e : Nat) (h1 : 4503599627370496 ≤ q) (h2 : q < 9007199254740992) (h3 : e ≤ 2045) : F.read (canon s q e) = .number s q ((e : Int) - 1074) := by
  obtain ⟨k1, k2⟩ := read_word s (e * 4503599627370496 + q) (by omega)
  unfold Format.read canon
  simp only [k1, k2, f_bin, f_inf, f_least]
  rw [if_neg (by omega), if_pos (by omega)]
  have e1 : 4503599627370496 + (e * 4503599627370496 + q) % 4503599627370496 = q := by omega
  have e2 : (e * 4503599627370496 + q) / 4503599627370496 - 1 = e := by omega
  rw [e1, e2]
  cases s <;> rfl
theorem cut_zero (s : Bool) (n : Nat) : Toward.even.cut s n 0 = n := by
  unfold Toward.cut
  simp [Nat.mod_one]
theorem cut_exact (s : Bool) (q d : Nat) (hq : 0 < q) : Toward.even.cut s (q * 2 ^ d) d = q := by
  have hd : d ≤ (q * 2 ^ d).log2 := by
    rw [Nat.le_log2 (Nat.mul_ne_zero (by omega) (by have := Nat.two_pow_pos d; omega))]
    exact Nat.le_mul_of_pos_left _ hq
  unfold Toward.cut
  have hm : min d ((q * 2 ^ d).log2 + 2) = d := by omega
  have hg : 1 <<< d = 2 ^ d := by rw [Nat.shiftLeft_eq, Nat.one_mul]
  have hp := Nat.two_pow_pos d
  simp only [hm, hg, Nat.mul_mod_left, Nat.mul_div_cancel _ hp]
  simp
/-- m at place p is q at place e - 1074. -/
theorem log2_mul_pow {m : Nat} (hm : m ≠ 0) (a : Nat) : (m * 2 ^ a).log2 = m.log2 + a := by
  induction a with
  | zero => simp
  | succ a ih =>
    have h0 : m * 2 ^ a ≠ 0 := Nat.mul_ne_zero hm (by have := Nat.two_pow_pos a; omega)
    rw [Nat.pow_succ, ← Nat.mul_assoc, Nat.mul_comm _ 2, Nat.log2_two_mul h0, ih]; omega
theorem log_eq {m q a b : Nat} (hm : m ≠ 0) (h1 : 4503599627370496 ≤ q) (h2 : q < 9007199254740992) (h : m * 2 ^ a = q * 2 ^ b) : m.log2 + a = 52 + b := by
  have hq : q ≠ 0 := by omega
  have l1 : (m * 2 ^ a).log2 = m.log2 + a := log2_mul_pow hm a
  have l2 : (q * 2 ^ b).log2 = q.log2 + b := log2_mul_pow hq b
  have l3 : q.log2 = 52 := by
    have h3 : 52 ≤ q.log2 := (Nat.le_log2 hq).2 h1
    have h4 : q.log2 < 53 := (Nat.log2_lt hq).2 h2
    omega
  rw [h, l2] at l1
  omega
theorem nearest_exact (s : Bool) (m q e a b : Nat) (p : Int) (hm : m ≠ 0) (h1 : 4503599627370496 ≤ q) (h2 : q < 9007199254740992) (h3 : e ≤ 2045) (h : m * 2 ^ a = q * 2 ^ b) (hp : p + b = (e : Int) - 1074 + a) :
    F.nearest s m p = canon s q e := by
  have hl := log_eq hm h1 h2 h
  unfold Format.nearest canon
  rw [if_neg hm]
  simp only [f_frac, f_least, f_bin, f_inf]
  have hlast : max (p + (m.log2 : Int) - 52) (-1074) = (e : Int) - 1074 := by omega
  have hc : ((52 : Nat) : Int) = 52 := rfl
  rw [hc, hlast]
  have hk : Toward.even.cut s (m <<< (p - ((e : Int) - 1074)).toNat) (((e : Int) - 1074) - p).toNat = q := by
    rcases Nat.le_total b a with hab | hab
    · have e1 : (p - ((e : Int) - 1074)).toNat = a - b := by omega
      have e2 : (((e : Int) - 1074) - p).toNat = 0 := by omega
      rw [e1, e2, cut_zero, Nat.shiftLeft_eq]
      have : m * 2 ^ (a - b) * 2 ^ b = q * 2 ^ b := by rw [Nat.mul_assoc, ← Nat.pow_add, Nat.sub_add_cancel hab, h]
      exact Nat.eq_of_mul_eq_mul_right (Nat.two_pow_pos b) this
    · have e1 : (p - ((e : Int) - 1074)).toNat = 0 := by omega
      have e2 : (((e : Int) - 1074) - p).toNat = b - a := by omega
      rw [e1, e2, Nat.shiftLeft_eq, Nat.pow_zero, Nat.mul_one]
      have : m * 2 ^ a = q * 2 ^ (b - a) * 2 ^ a := by rw [Nat.mul_assoc, ← Nat.pow_add, Nat.sub_add_cancel hab, h]
      have hmq := Nat.eq_of_mul_eq_mul_right (Nat.two_pow_pos a) this
      rw [hmq]
      exact cut_exact s q (b - a) (by omega)
  rw [hk]
  have e3 : ((e : Int) - 1074 - -1074).toNat = e := by omega
  rw [e3, Nat.min_eq_left (by omega)]
/-- x is the float64 of the whole number v, exactly. -/
def IsN (v x : Nat) : Prop := ∃ q e a b : Nat, 4503599627370496 ≤ q ∧ q < 9007199254740992 ∧ e ≤ 2045 ∧ x = canon false q e ∧ v * 2 ^ a = q * 2 ^ b ∧ (b : Int) = (e : Int) - 1074 + a
theorem IsN.pos {v x : Nat} (h : IsN v x) : v ≠ 0 := by
  obtain ⟨q, e, a, b, h1, _, _, _, h, _⟩ := h
  rintro rfl
  have := Nat.two_pow_pos b
  have : 0 < q * 2 ^ b := Nat.mul_pos (by omega) this
  omega
theorem IsN.nearest {v x : Nat} (h : IsN v x) : F.nearest false v 0 = x := by
  have h0 := h.pos
  obtain ⟨q, e, a, b, h1, h2, h3, rfl, h, h4⟩ := h
  exact nearest_exact false v q e a b 0 h0 h1 h2 h3 h (by omega)
theorem IsN.same {v x y : Nat} (h : IsN v x) (k : IsN v y) : x = y := h.nearest.symm.trans k.nearest
/-- Whole numbers of few digits, at whatever place. -/
theorem isN_of (n t : Nat) (h0 : 0 < n) (h1 : n < 9007199254740992) (ht : t ≤ 900) : IsN (n * 2 ^ t) (F.nearest false (n * 2 ^ t) 0) := by
  have hn : n ≠ 0 := by omega
  have hk : n.log2 < 53 := (Nat.log2_lt hn).2 h1
  have hle := Nat.log2_self_le hn
  have hlt := @Nat.lt_log2_self n
  have hp : 2 ^ n.log2 * 2 ^ (52 - n.log2) = 2 ^ 52 := by rw [← Nat.pow_add]; congr 1; omega
  have hp2 : 2 ^ (n.log2 + 1) * 2 ^ (52 - n.log2) = 2 ^ 53 := by rw [← Nat.pow_add]; congr 1; omega
  have q1 : 2 ^ 52 ≤ n * 2 ^ (52 - n.log2) := by rw [← hp]; exact Nat.mul_le_mul_right _ hle
  have q2 : n * 2 ^ (52 - n.log2) < 2 ^ 53 := by rw [← hp2]; exact Nat.mul_lt_mul_of_pos_right hlt (Nat.two_pow_pos _)
  have key : IsN (n * 2 ^ t) (canon false (n * 2 ^ (52 - n.log2)) (1022 + n.log2 + t)) :=
    ⟨n * 2 ^ (52 - n.log2), 1022 + n.log2 + t, 52 - n.log2, t, q1, q2, by omega, rfl, by rw [Nat.mul_assoc, Nat.mul_assoc, Nat.mul_comm (2 ^ t)], by omega⟩
  rw [key.nearest]
  exact key
theorem isN_small (n : Nat) (h0 : 0 < n) (h1 : n < 9007199254740992) : IsN n (F.nearest false n 0) := by
  have := isN_of n 0 h0 h1 (by omega)
  simpa using this
theorem IsN.read {v x : Nat} (h : IsN v x) : ∃ q e : Nat, F.read x = .number false q ((e : Int) - 1074) ∧ 4503599627370496 ≤ q ∧ q < 9007199254740992 ∧ e ≤ 2045 ∧ ∃ a b : Nat, v * 2 ^ a = q * 2 ^ b ∧ (b : Int) = (e : Int) - 1074 + a := by
  obtain ⟨q, e, a, b, h1, h2, h3, rfl, h, h4⟩ := h
  exact ⟨q, e, read_canon false q e h1 h2 h3, h1, h2, h3, a, b, h, h4⟩
theorem mul_isN {u v x y z : Nat} (hx : IsN u x) (hy : IsN v y) (hz : IsN (u * v) z) : F.mul x y = some z := by
  obtain ⟨q1, e1, r1, _, _, _, a1, b1, k1, l1⟩ := hx.read
  obtain ⟨q2, e2, r2, _, _, _, a2, b2, k2, l2⟩ := hy.read
  obtain ⟨q, e, a, b, h1, h2, h3, rfl, h, h4⟩ := hz
  unfold Format.mul
  rw [r1, r2]
  simp only [Datum.product, Option.map_some, Format.write]
  congr 1
  refine nearest_exact false (q1 * q2) q e (a + b1 + b2) (b + a1 + a2) _ (Nat.mul_ne_zero (by omega) (by omega)) h1 h2 h3 ?_ (by omega)
  have e1 : q1 * q2 * 2 ^ (a + b1 + b2) = (q1 * 2 ^ b1) * (q2 * 2 ^ b2) * 2 ^ a := by
    rw [Nat.pow_add, Nat.pow_add]
    simp only [Nat.mul_assoc, Nat.mul_left_comm, Nat.mul_comm]
  have e2 : q * 2 ^ (b + a1 + a2) = (q * 2 ^ b) * 2 ^ a1 * 2 ^ a2 := by
    rw [Nat.pow_add, Nat.pow_add]
    simp only [Nat.mul_assoc]
  rw [e1, e2, ← k1, ← k2, ← h]
  simp only [Nat.mul_assoc, Nat.mul_left_comm, Nat.mul_comm]
theorem quot_hi {q1 q2 q A B : Nat} (c1 : 4503599627370496 ≤ q1) (d2 : q2 < 9007199254740992) (h2 : q < 9007199254740992) (h : q1 * 2 ^ A = q2 * q * 2 ^ B) : A ≤ B + 53 := by
  rcases Nat.lt_or_ge (B + 53) A with hlt | hge
  · have t0 : 2 ^ (B + 54) ≤ 2 ^ A := Nat.pow_le_pow_right (by omega) hlt
    have t3 : 2 ^ (B + 54) = 2 ^ B * 18014398509481984 := by rw [Nat.pow_add]
    have t1 := Nat.mul_le_mul c1 t0
    have t2 : q2 * q ≤ 9007199254740991 * 9007199254740991 := Nat.mul_le_mul (by omega) (by omega)
    have t4 := Nat.mul_le_mul_right (2 ^ B) t2
    have t5 := Nat.two_pow_pos B
    rw [h, t3] at t1
    generalize 2 ^ B = Y at t1 t4 t5
    generalize q2 * q * Y = Z at t1 t4
    omega
  · exact hge
theorem quot_lo {q1 q2 q A B : Nat} (d1 : q1 < 9007199254740992) (c2 : 4503599627370496 ≤ q2) (h1 : 4503599627370496 ≤ q) (h : q1 * 2 ^ A = q2 * q * 2 ^ B) : B ≤ A := by
  rcases Nat.lt_or_ge A B with hlt | hge
  · have t0 : 2 ^ A ≤ 2 ^ B := Nat.pow_le_pow_right (by omega) (by omega)
    have t1 : q1 * 2 ^ A ≤ 9007199254740991 * 2 ^ B := Nat.mul_le_mul (by omega) t0
    have t2 := Nat.mul_le_mul_right (2 ^ B) (Nat.mul_le_mul c2 h1)
    have t5 := Nat.two_pow_pos B
    rw [h] at t1
    generalize 2 ^ B = Y at t1 t2 t5
    generalize q2 * q * Y = Z at t1 t2
    omega
  · exact hge
theorem div_isN {u v w x y z : Nat} (hx : IsN u x) (hy : IsN v y) (hz : IsN w z) (huv : u = v * w) : F.div x y = some z := by
  obtain ⟨q1, e1, r1, c1, d1, _, a1, b1, k1, l1⟩ := hx.read
  obtain ⟨q2, e2, r2, c2, d2, _, a2, b2, k2, l2⟩ := hy.read
  obtain ⟨q, e, a, b, h1, h2, h3, rfl, h, h4⟩ := hz
  have g1 : q1.log2 = 52 := by
    have h3 : 52 ≤ q1.log2 := (Nat.le_log2 (by omega)).2 c1
    have h4 : q1.log2 < 53 := (Nat.log2_lt (by omega)).2 d1
    omega
  have g2 : q2.log2 = 52 := by
    have h3 : 52 ≤ q2.log2 := (Nat.le_log2 (by omega)).2 c2
    have h4 : q2.log2 < 53 := (Nat.log2_lt (by omega)).2 d2
    omega
  -- q1 * 2 ^ (b1 + a + a2) = q2 * q * 2 ^ (a1 + b2 + b)
  have hmain : q1 * 2 ^ (b1 + a + a2) = q2 * q * 2 ^ (a1 + b2 + b) := by
    have s1 : q1 * 2 ^ (b1 + a + a2) = (q1 * 2 ^ b1) * 2 ^ a * 2 ^ a2 := by rw [Nat.pow_add, Nat.pow_add]; simp only [Nat.mul_assoc]
    have s2 : q2 * q * 2 ^ (a1 + b2 + b) = (q2 * 2 ^ b2) * (q * 2 ^ b) * 2 ^ a1 := by rw [Nat.pow_add, Nat.pow_add]; simp only [Nat.mul_assoc, Nat.mul_left_comm, Nat.mul_comm]
    rw [s1, s2, ← k1, ← k2, ← h, huv]
    simp only [Nat.mul_assoc, Nat.mul_left_comm, Nat.mul_comm]
  obtain ⟨A, hA⟩ : ∃ A, A = b1 + a + a2 := ⟨_, rfl⟩
  obtain ⟨B, hB⟩ : ∃ B, B = a1 + b2 + b := ⟨_, rfl⟩
  rw [← hA, ← hB] at hmain
  have hA1 := quot_hi c1 d2 h2 hmain
  have hB1 := quot_lo d1 c2 h1 hmain
  have hq1 : q1 * 2 ^ (A - B) = q2 * q := by
    have : q1 * 2 ^ (A - B) * 2 ^ B = q2 * q * 2 ^ B := by rw [Nat.mul_assoc, ← Nat.pow_add, Nat.sub_add_cancel hB1, hmain]
    exact Nat.eq_of_mul_eq_mul_right (Nat.two_pow_pos B) this
  unfold Format.div
  rw [r1, r2]
  have hq2 : q2 ≠ 0 := by omega
  have hmore : F.fractionBits + 2 + q2.log2 - q1.log2 = 54 := by rw [g1, g2]; rfl
  simp only [Datum.quotient, if_neg hq2, hmore, Option.map_some, Format.write]
  have hdiv : q1 <<< 54 = q2 * (q * 2 ^ (54 - (A - B))) := by
    rw [Nat.shiftLeft_eq, ← Nat.mul_assoc, ← hq1, Nat.mul_assoc, ← Nat.pow_add]
    congr 2; omega
  have hq2p : 0 < q2 := by omega
  rw [hdiv, Nat.mul_div_cancel_left _ hq2p, Nat.mul_mod_right]
  obtain ⟨C, hC⟩ : ∃ C, C = 54 - (A - B) := ⟨_, rfl⟩
  rw [← hC]
  have hCp := Nat.two_pow_pos C
  obtain ⟨Y, hY⟩ : ∃ Y, Y = q * 2 ^ C := ⟨_, rfl⟩
  have hYp : 0 < Y := by rw [hY]; exact Nat.mul_pos (by omega) hCp
  rw [← hY]
  have hm : 2 * Y + ((0 : Nat) != 0).toNat = 2 * Y := rfl
  rw [hm]
  have hval : 2 * Y * 2 ^ 0 = q * 2 ^ (1 + C) := by rw [hY, Nat.pow_zero, Nat.mul_one, Nat.pow_add, Nat.pow_one, Nat.mul_left_comm]
  have hb : (false ^^ false) = false := rfl
  rw [hb]
  exact congrArg some (nearest_exact false (2 * Y) q e 0 (1 + C) _ (by omega) h1 h2 h3 hval (by omega))
end Go.Proofs.YtmooppakneoidaaDoor.Fl
