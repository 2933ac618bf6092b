/- Digits as numbers, and what Parse makes of texts of digits. -/
import Derived.Test.YtmomlgacnnamgaaDigits
namespace Go.Proofs.Ytmomlgacnnamgaa.Db
set_option linter.unusedVariables false
set_option linter.unusedSimpArgs false
open Go Go.RowKit
theorem dg_toNat {n : Nat} (h : n < 10) : (dg n).toNat = 48 + n := by
  show (UInt8.ofNat (48 + n)).toNat = 48 + n
  rw [UInt8.toNat_ofNat', Nat.mod_eq_of_lt (by omega)]
theorem dgs_all (n : Nat) : AllDig (dgs n) := by
  induction n using Nat.strongRecOn with
  | _ n ih =>
    have h1 : ∀ k, k < 10 → AllDig [dg k] := by
      intro k hk i c h
      cases i with
      | zero =>
        obtain rfl : dg k = c := by simpa using h
        rw [dg_toNat hk]; omega
      | succ i => simp at h
    by_cases h : n < 10
    · rw [dgs_lo h]; exact h1 n h
    · rw [dgs_hi h]; exact (ih (n / 10) (by omega)).append (h1 _ (by omega))
theorem dgs_val (n : Nat) : val (dgs n) = n := by
  induction n using Nat.strongRecOn with
  | _ n ih =>
    by_cases h : n < 10
    · rw [dgs_lo h]
      show step 0 (dg n) = n
      unfold step; rw [dg_toNat h]; omega
    · rw [dgs_hi h, val_snoc, ih (n / 10) (by omega), dg_toNat (by omega)]; omega
theorem dgs_pos (n : Nat) : 1 ≤ (dgs n).length := by
  by_cases h : n < 10
  · rw [dgs_lo h]; exact Nat.le_refl _
  · rw [dgs_hi h, List.length_append]; simp
theorem dgs_len_le : ∀ (k n : Nat), n < 10 ^ (k + 1) → (dgs n).length ≤ k + 1 := by
  intro k
  induction k with
  | zero => intro n h; rw [dgs_lo (by simpa using h)]; simp
  | succ k ih =>
    intro n h
    by_cases h1 : n < 10
    · rw [dgs_lo h1]; simp
    · rw [dgs_hi h1, List.length_append]
      have := ih (n / 10) (by rw [Nat.pow_succ] at h; omega)
      simp only [List.length_cons, List.length_nil]; omega
theorem AllDig.cons {c : UInt8} {l : List UInt8} (h : AllDig (c :: l)) : isDig c = true ∧ AllDig l := by
  refine ⟨?_, fun i d hd => h (i + 1) d (by simpa using hd)⟩
  have := h 0 c rfl
  simp [isDig, this.1, this.2]
theorem digs_append : ∀ (a r : List UInt8), AllDig a → digs (a ++ r) = a.length + digs r
  | [], r, _ => by simp
  | c :: a, r, h => by
    obtain ⟨h1, h2⟩ := h.cons
    show (if isDig c = true then digs (a ++ r) + 1 else 0) = _
    rw [if_pos h1, digs_append a r h2, List.length_cons]; omega
theorem AllDig.nil : AllDig [] := fun i c h => by simp at h
theorem cut_all {a : List UInt8} (ha : AllDig a) : cut a = (a, [], []) := by
  have hd : digs a = a.length := by have := digs_append a [] ha; simpa [digs] using this
  have : a.drop (digs a) = [] := by rw [hd]; simp
  rw [cut_nil this, hd, List.take_length]
theorem cut_dot {a b r : List UInt8} (ha : AllDig a) (hb : AllDig b) (hr : digs r = 0) : cut (a ++ 46 :: (b ++ r)) = (a, b, r) := by
  have hd : digs (a ++ 46 :: (b ++ r)) = a.length := by rw [digs_append a _ ha]; simp [digs, isDig]
  have h1 : (a ++ 46 :: (b ++ r)).drop (digs (a ++ 46 :: (b ++ r))) = 46 :: (b ++ r) := by rw [hd, List.drop_left']; rfl
  have hd2 : digs (b ++ r) = b.length := by rw [digs_append b _ hb, hr]; rfl
  rw [cut_pt h1, hd, hd2]
  simp
theorem cut_oth {a r : List UInt8} {c : UInt8} (ha : AllDig a) (hc : isDig c = false) (h46 : c ≠ 46) : cut (a ++ c :: r) = (a, [], c :: r) := by
  have hd : digs (a ++ c :: r) = a.length := by rw [digs_append a _ ha]; simp [digs, hc]
  have h1 : (a ++ c :: r).drop (digs (a ++ c :: r)) = c :: r := by rw [hd, List.drop_left']; rfl
  rw [cut_no h1 h46, hd]
  simp
/-- The sign of a text that begins with a digit. -/
theorem sign_dig {l : List UInt8} {c : UInt8} (h : isDig c = true) : sign (c :: l) = (false, c :: l) := by
  have h2 : 48 ≤ c.toNat := by simp [isDig] at h; omega
  simp only [sign]
  rw [if_neg (fun e => by subst e; revert h2; decide), if_neg (fun e => by subst e; revert h2; decide)]
/-- A text that begins with a digit is no word. -/
theorem parse_dig {a r : List UInt8} (ha : AllDig a) (h1 : 1 ≤ a.length) : parse (a ++ r) = (nm (a ++ r)).map fun q => csign false (mag q.1 q.2) := by
  cases a with
  | nil => simp at h1
  | cons c a =>
    obtain ⟨hc, _⟩ := ha.cons
    have e := sign_dig (l := a ++ r) hc
    show parse (c :: (a ++ r)) = _
    unfold parse
    have n1 : c :: (a ++ r) ≠ [78, 97, 78] := by intro e; cases (List.cons.inj e).1; revert hc; decide
    have n2 : c :: (a ++ r) ≠ [73, 78, 70] := by intro e; cases (List.cons.inj e).1; revert hc; decide
    rw [if_neg n1, e]
    simp only
    rw [if_neg n2]
    show _ = (nm (c :: (a ++ r))).map _
    cases nm (c :: (a ++ r)) with
    | none => rfl
    | some q => rfl
theorem parse_sgn (s : Bool) {a r : List UInt8} (ha : AllDig a) (h1 : 1 ≤ a.length) : parse ((if s then 45 else 43) :: (a ++ r)) = (nm (a ++ r)).map fun q => csign s (mag q.1 q.2) := by
  cases a with
  | nil => simp at h1
  | cons c a =>
    obtain ⟨hc, _⟩ := ha.cons
    have n2 : (c :: a) ++ r ≠ [73, 78, 70] := by intro e; cases (List.cons.inj e).1; revert hc; decide
    have es : sign ((if s then 45 else 43) :: ((c :: a) ++ r)) = (s, (c :: a) ++ r) := by cases s <;> rfl
    unfold parse
    rw [if_neg (by intro e; have := (List.cons.inj e).1; cases s <;> revert this <;> decide), es]
    simp only
    rw [if_neg n2]
    cases nm ((c :: a) ++ r) with
    | none => rfl
    | some q => rfl
/-- No exponent. -/
theorem num_plain {a b : List UInt8} (h1 : 1 ≤ a.length + b.length) (h2 : a.length + b.length ≤ 15) : num' a b [] = some (a ++ b, -(b.length : Int)) := by
  unfold num'
  rw [if_neg (by omega)]
  simp only [expo]
  rw [if_neg (by omega)]
  simp
end Go.Proofs.Ytmomlgacnnamgaa.Db
