/- Powers of ten more. -/
import Derived.Test.YtmomlgacnnamgaaDigFl
import Derived.Test.YtmomlgacnnamgaaDblSign
namespace Go.Proofs.Ytmomlgacnnamgaa.Db
set_option linter.unusedVariables false
set_option linter.unusedSimpArgs false
open Go Go.RowKit
theorem mag_mul {d : List UInt8} {n k : Nat} (hd : val d = n) (h0 : 0 < n) (h1 : n ≤ 10000) (hk : k ≤ 13) : mag d k = fl (n * 10 ^ k) := by
  unfold mag
  rw [if_neg (by omega), hd, Int.toNat_natCast]
  show (Fl.F.mul (fl n) (pw k)).getD 0 = _
  have h5 : 5 ^ k ≤ 1220703125 := Nat.le_trans (Nat.pow_le_pow_right (by omega) hk) (by decide)
  have hb : n * 5 ^ k < 9007199254740992 := Nat.lt_of_le_of_lt (Nat.mul_le_mul h1 h5) (by decide)
  have hx : Fl.IsN n (fl n) := Fl.isN_small n h0 (by omega)
  rw [Fl.mul_isN hx (isN_pw k (by omega)) (isN_pow10 n k h0 hb (by omega))]
  rfl
theorem ten_mul {n k : Nat} (h0 : 0 < n) (h1 : n ≤ 1000) (hk : k ≤ 12) : Fl.F.mul ten (fl (n * 10 ^ k)) = some (fl (n * 10 ^ (k + 1))) := by
  have h5 : 5 ^ k ≤ 244140625 := Nat.le_trans (Nat.pow_le_pow_right (by omega) hk) (by decide)
  have h6 : 5 ^ (k + 1) ≤ 1220703125 := Nat.le_trans (Nat.pow_le_pow_right (by omega) (show k + 1 ≤ 13 by omega)) (by decide)
  have hb : n * 5 ^ k < 9007199254740992 := Nat.lt_of_le_of_lt (Nat.mul_le_mul h1 h5) (by decide)
  have hc : n * 5 ^ (k + 1) < 9007199254740992 := Nat.lt_of_le_of_lt (Nat.mul_le_mul h1 h6) (by decide)
  have hx := isN_pow10 n k h0 hb (by omega)
  have hy := isN_pow10 n (k + 1) h0 hc (by omega)
  refine Fl.mul_isN isN_ten hx ?_
  rw [show 10 * (n * 10 ^ k) = n * 10 ^ (k + 1) by rw [Nat.pow_succ, Nat.mul_left_comm, Nat.mul_comm 10]]
  exact hy
theorem dgs_sign (k : Nat) : sign (dgs k) = (false, dgs k) := by
  have ha := dgs_all k
  have hp := dgs_pos k
  cases h : dgs k with
  | nil => rw [h] at hp; simp at hp
  | cons c l =>
    rw [h] at ha
    exact sign_dig ha.cons.1
theorem dgs_digs (k : Nat) : digs (dgs k) = (dgs k).length := by
  have := digs_append (dgs k) [] (dgs_all k)
  simpa [digs] using this
theorem expo_e {k : Nat} (hk : k < 100) : expo (101 :: dgs k) = some (k : Int) := by
  have hl : (dgs k).length ≤ 2 := dgs_len_le 1 k (by omega)
  have hp := dgs_pos k
  have hn : dgs k ≠ [] := by intro h; rw [h] at hp; simp at hp
  simp only [expo]
  rw [if_pos (Or.inl trivial), dgs_sign]
  simp only
  rw [if_pos ⟨dgs_digs k, hn, by omega⟩, dgs_val]
  simp [sg]
theorem expo_E {k : Nat} (hk : k < 100) : expo (69 :: dgs k) = some (k : Int) := by
  have hl : (dgs k).length ≤ 2 := dgs_len_le 1 k (by omega)
  have hp := dgs_pos k
  have hn : dgs k ≠ [] := by intro h; rw [h] at hp; simp at hp
  simp only [expo]
  rw [if_pos (Or.inr trivial), dgs_sign]
  simp only
  rw [if_pos ⟨dgs_digs k, hn, by omega⟩, dgs_val]
  simp [sg]
theorem expo_Ep {k : Nat} (hk : k < 100) : expo (69 :: 43 :: dgs k) = some (k : Int) := by
  have hl : (dgs k).length ≤ 2 := dgs_len_le 1 k (by omega)
  have hp := dgs_pos k
  have hn : dgs k ≠ [] := by intro h; rw [h] at hp; simp at hp
  have hs : sign (43 :: dgs k) = (false, dgs k) := rfl
  simp only [expo]
  rw [if_pos (Or.inr trivial), hs]
  simp only
  rw [if_pos ⟨dgs_digs k, hn, by omega⟩, dgs_val]
  simp [sg]
theorem expo_Em {k : Nat} (hk : k < 100) : expo (69 :: 45 :: dgs k) = some (-(k : Int)) := by
  have hl : (dgs k).length ≤ 2 := dgs_len_le 1 k (by omega)
  have hp := dgs_pos k
  have hn : dgs k ≠ [] := by intro h; rw [h] at hp; simp at hp
  have hs : sign (45 :: dgs k) = (true, dgs k) := rfl
  simp only [expo]
  rw [if_pos (Or.inr trivial), hs]
  simp only
  rw [if_pos ⟨dgs_digs k, hn, by omega⟩, dgs_val]
  simp [sg]
/-- The three texts of a number and a power of ten. -/
theorem ten_ways (n e : Nat) (h0 : 0 < n) (hn : n ≤ 1000) (he : e ≤ 12) :
    parse (dgs n ++ 101 :: dgs e) = some (fl (n * 10 ^ e)) ∧ parse (dgs n ++ 69 :: 43 :: dgs (e + 1)) = some (fl (n * 10 ^ (e + 1))) ∧ parse (dgs n ++ 46 :: 48 :: 101 :: dgs e) = some (fl (n * 10 ^ e)) := by
  have ha := dgs_all n
  have hp := dgs_pos n
  have hl : (dgs n).length ≤ 4 := dgs_len_le 3 n (by omega)
  have hv := dgs_val n
  have hlow : ∀ x, fl x ≤ 9218868437227405312 := fun x => Fl.nearest_le x 0
  have hf : ∀ x, csign false (fl x) = fl x := by intro x; unfold csign; have := hlow x; rw [Nat.mod_eq_of_lt (by omega)]; rfl
  refine ⟨?_, ?_, ?_⟩
  · rw [parse_dig ha hp]
    have e1 : nm (dgs n ++ 101 :: dgs e) = some (dgs n, (e : Int)) := by
      unfold nm
      rw [cut_oth ha (by decide) (by decide)]
      unfold num'
      rw [if_neg (by simp only [List.length_nil]; omega)]
      simp only [expo_e (show e < 100 by omega)]
      rw [if_neg (by simp only [List.length_nil]; omega)]
      simp
    rw [e1]
    show some (csign false (mag (dgs n) e)) = _
    rw [mag_mul hv h0 (by omega) (by omega), hf]
  · rw [parse_dig ha hp]
    have e1 : nm (dgs n ++ 69 :: 43 :: dgs (e + 1)) = some (dgs n, ((e + 1 : Nat) : Int)) := by
      unfold nm
      rw [cut_oth ha (by decide) (by decide)]
      unfold num'
      rw [if_neg (by simp only [List.length_nil]; omega)]
      simp only [expo_Ep (show e + 1 < 100 by omega)]
      rw [if_neg (by simp only [List.length_nil]; omega)]
      simp
    rw [e1]
    show some (csign false (mag (dgs n) ((e + 1 : Nat) : Int))) = _
    rw [mag_mul hv h0 (by omega) (by omega), hf]
  · rw [parse_dig ha hp]
    have e1 : nm (dgs n ++ 46 :: 48 :: 101 :: dgs e) = some (dgs n ++ [48], (e : Int) - 1) := by
      unfold nm
      rw [show dgs n ++ 46 :: 48 :: 101 :: dgs e = dgs n ++ 46 :: ([48] ++ 101 :: dgs e) from rfl, cut_dot ha all48 rfl]
      unfold num'
      rw [if_neg (by simp only [List.length_cons, List.length_nil]; omega)]
      simp only [expo_e (show e < 100 by omega)]
      rw [if_neg (by simp only [List.length_cons, List.length_nil]; omega)]
      simp
    rw [e1]
    show some (csign false (mag (dgs n ++ [48]) ((e : Int) - 1))) = _
    have hv2 : val (dgs n ++ [48]) = n * 10 := by rw [val_snoc0, hv]
    cases e with
    | zero =>
      show some (csign false (mag (dgs n ++ [48]) (-1))) = _
      rw [mag_tenth hv2 (by omega), hf, Nat.pow_zero, Nat.mul_one]
    | succ e =>
      rw [show ((e + 1 : Nat) : Int) - 1 = (e : Int) by omega, mag_mul hv2 (by omega) (by omega) (by omega), hf, Nat.mul_assoc, ← Nat.pow_succ']
end Go.Proofs.Ytmomlgacnnamgaa.Db
