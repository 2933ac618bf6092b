/- Digits as exact floats. -/
import Derived.Test.YtmomlgacnnamgaaDigMath
namespace Go.Proofs.Ytmomlgacnnamgaa.Db
set_option linter.unusedVariables false
set_option linter.unusedSimpArgs false
open Go Go.RowKit
theorem fl_lt (n : Nat) (h : n < 9007199254740992) : fl n < 9223372036854775808 := by
  rcases Nat.eq_zero_or_pos n with rfl | h0
  · decide +kernel
  · obtain ⟨q, e, a, b, h1, h2, h3, hx, _⟩ := Fl.isN_small n h0 h
    show Fl.F.nearest false n 0 < _
    rw [hx]
    show e * 4503599627370496 + q < _
    omega
theorem mag_zero {d : List UInt8} {n : Nat} (hd : val d = n) (h : n < 9007199254740992) : mag d 0 = fl n := by
  unfold mag
  rw [if_neg (by omega), hd]
  show (Fl.F.mul (fl n) one).getD 0 = fl n
  rcases Nat.eq_zero_or_pos n with rfl | h0
  · decide +kernel
  · have h1 : Fl.IsN 1 one := isN_pw 0 (by omega)
    have h2 : Fl.IsN n (fl n) := Fl.isN_small n h0 h
    rw [Fl.mul_isN h2 h1 (by rw [Nat.mul_one]; exact h2)]
    rfl
theorem mag_tenth {d : List UInt8} {n : Nat} (hd : val d = n * 10) (h : n * 10 < 9007199254740992) : mag d (-1) = fl n := by
  unfold mag
  rw [if_pos (by omega), hd]
  show (Fl.F.div (fl (n * 10)) (pw 1)).getD 0 = fl n
  rcases Nat.eq_zero_or_pos n with rfl | h0
  · decide +kernel
  · have h1 : Fl.IsN (10 ^ 1) (pw 1) := isN_pw 1 (by omega)
    have h2 : Fl.IsN n (fl n) := Fl.isN_small n h0 (by omega)
    have h3 : Fl.IsN (n * 10) (fl (n * 10)) := Fl.isN_small (n * 10) (by omega) h
    rw [Fl.div_isN h3 h1 h2 (by omega)]
    rfl
theorem csign_fl (s : Bool) (n : Nat) (h : n < 9007199254740992) : csign s (fl n) = fl n + (if s then 9223372036854775808 else 0) := by
  unfold csign; rw [Nat.mod_eq_of_lt (fl_lt n h)]
theorem val_snoc0 (l : List UInt8) : val (l ++ [48]) = val l * 10 := by rw [val_snoc]; rfl
theorem val_00 (l : List UInt8) : val (48 :: 48 :: l) = val l := rfl
theorem all48 : AllDig [48] := by
  intro i c h
  cases i with
  | zero => obtain rfl : 48 = c := by simpa using h
            decide
  | succ i => simp at h
/-- The six ways to write a whole number. -/
theorem whole_ways (n : Nat) (hn : n ≤ 99999999) :
    parse (dgs n) = some (fl n) ∧ parse (43 :: dgs n) = some (fl n) ∧ parse (48 :: 48 :: dgs n) = some (fl n) ∧ parse (dgs n ++ [46, 48]) = some (fl n) ∧ parse (dgs n ++ [101, 48]) = some (fl n) ∧ parse (dgs n ++ [48, 101, 45, 49]) = some (fl n) ∧ parse (45 :: dgs n) = some (fl n + 9223372036854775808) := by
  have ha := dgs_all n
  have hp := dgs_pos n
  have hl : (dgs n).length ≤ 8 := dgs_len_le 7 n (by omega)
  have hv := dgs_val n
  have hf : ∀ s, csign s (fl n) = fl n + (if s then 9223372036854775808 else 0) := fun s => csign_fl s n (by omega)
  have m0 : ∀ d, val d = n → mag d 0 = fl n := fun d h => mag_zero h (by omega)
  have n0 : nm (dgs n) = some (dgs n, 0) := by
    unfold nm; rw [cut_all ha]; simp only; rw [num_plain (by simp; omega) (by simp; omega)]; simp
  refine ⟨?_, ?_, ?_, ?_, ?_, ?_, ?_⟩
  · have := parse_dig (r := []) ha hp
    rw [List.append_nil] at this
    rw [this, n0]
    show some (csign false (mag (dgs n) 0)) = _
    rw [m0 _ hv, hf]; rfl
  · have := parse_sgn false (r := []) ha hp
    rw [List.append_nil] at this
    show parse ((if false = true then 45 else 43) :: dgs n) = _
    rw [this, n0]
    show some (csign false (mag (dgs n) 0)) = _
    rw [m0 _ hv, hf]; rfl
  · have h00 : AllDig (48 :: 48 :: dgs n) := (all48.append all48).append ha
    have := parse_dig (r := []) h00 (by simp)
    rw [List.append_nil] at this
    rw [this]
    have e : nm (48 :: 48 :: dgs n) = some (48 :: 48 :: dgs n, 0) := by
      unfold nm; rw [cut_all h00]; simp only; rw [num_plain (by simp) (by simp; omega)]; simp
    rw [e]
    show some (csign false (mag (48 :: 48 :: dgs n) 0)) = _
    rw [m0 _ (by rw [val_00, hv]), hf]; rfl
  · rw [parse_dig ha hp]
    have e : nm (dgs n ++ [46, 48]) = some (dgs n ++ [48], -1) := by
      unfold nm
      rw [show dgs n ++ [46, 48] = dgs n ++ 46 :: ([48] ++ []) from rfl, cut_dot ha all48 rfl]
      simp only
      rw [num_plain (by simp) (by simp; omega)]; rfl
    rw [e]
    show some (csign false (mag (dgs n ++ [48]) (-1))) = _
    rw [mag_tenth (n := n) (by rw [val_snoc0, hv]) (by omega), hf]; rfl
  · rw [parse_dig ha hp]
    have e : nm (dgs n ++ [101, 48]) = some (dgs n, 0) := by
      unfold nm
      rw [cut_oth ha (by decide) (by decide)]
      unfold num'
      rw [if_neg (by simp only [List.length_nil]; omega)]
      have : expo [101, 48] = some 0 := by decide
      simp only [this]
      simp
    rw [e]
    show some (csign false (mag (dgs n) 0)) = _
    rw [m0 _ hv, hf]; rfl
  · have h0 : AllDig (dgs n ++ [48]) := ha.append all48
    have e0 : dgs n ++ [48, 101, 45, 49] = (dgs n ++ [48]) ++ [101, 45, 49] := by simp
    rw [e0, parse_dig h0 (by simp)]
    have e : nm ((dgs n ++ [48]) ++ [101, 45, 49]) = some (dgs n ++ [48], -1) := by
      unfold nm
      rw [cut_oth h0 (by decide) (by decide)]
      unfold num'
      rw [if_neg (by rw [List.length_append]; simp only [List.length_cons, List.length_nil]; omega)]
      have : expo [101, 45, 49] = some (-1) := by decide
      simp only [this]
      simp
    rw [e]
    show some (csign false (mag (dgs n ++ [48]) (-1))) = _
    rw [mag_tenth (n := n) (by rw [val_snoc0, hv]) (by omega), hf]; rfl
  · have := parse_sgn true (r := []) ha hp
    rw [List.append_nil] at this
    show parse ((if true = true then 45 else 43) :: dgs n) = _
    rw [this, n0]
    show some (csign true (mag (dgs n) 0)) = _
    rw [m0 _ hv, hf]; rfl
end Go.Proofs.Ytmomlgacnnamgaa.Db
