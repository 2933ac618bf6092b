/- Texts of ones, with a point, and an exponent. -/
import Derived.Test.YtmomlgacnnamgaaDigTen
namespace Go.Proofs.Ytmomlgacnnamgaa.Db
set_option linter.unusedVariables false
set_option linter.unusedSimpArgs false
open Go Go.RowKit
def ones (n : Nat) : List UInt8 := List.replicate n 49
theorem ones_len (n : Nat) : (ones n).length = n := List.length_replicate
theorem ones_snoc (n : Nat) : ones n ++ [49] = ones (n + 1) := by unfold ones; rw [List.replicate_succ']
theorem ones_add (a b : Nat) : ones a ++ ones b = ones (a + b) := List.replicate_append_replicate
theorem ones_all (n : Nat) : AllDig (ones n) := by
  intro i c h
  have := List.mem_of_getElem? h
  rw [ones, List.mem_replicate] at this
  rw [this.2]; decide
/-- The text of so many ones, c of them ahead of the point. -/
def bt (c k : Nat) : List UInt8 := if k ≤ c then ones k else ones c ++ 46 :: ones (k - c)
theorem bt_zero (c : Nat) : bt c 0 = [] := by unfold bt; rw [if_pos (by omega)]; rfl
theorem bt_at (c : Nat) : bt c c ++ [46] ++ [49] = bt c (c + 1) := by
  unfold bt
  rw [if_pos (by omega), if_neg (by omega), show c + 1 - c = 1 by omega, List.append_assoc]; rfl
theorem bt_step {c k : Nat} (h : k ≠ c) : bt c k ++ [49] = bt c (k + 1) := by
  unfold bt
  by_cases h1 : k ≤ c
  · rw [if_pos h1, if_pos (by omega), ones_snoc]
  · rw [if_neg h1, if_neg (by omega), List.append_assoc, List.cons_append, ones_snoc, show k + 1 - c = k - c + 1 by omega]
theorem bt_len (c k : Nat) : (bt c k).length ≤ k + 1 := by
  unfold bt
  split
  · rw [ones_len]; omega
  · rw [List.length_append, List.length_cons, ones_len, ones_len]; omega
theorem parse_pln {c : UInt8} {r : List UInt8} (h1 : c ≠ 78) (h2 : c ≠ 45) (h3 : c ≠ 43) (h4 : c ≠ 73) : parse (c :: r) = (nm (c :: r)).map fun q => csign false (mag q.1 q.2) := by
  have es : sign (c :: r) = (false, c :: r) := by simp only [sign]; rw [if_neg h2, if_neg h3]
  unfold parse
  rw [if_neg (by intro e; exact h1 (List.cons.inj e).1), es]
  simp only
  rw [if_neg (by intro e; exact h4 (List.cons.inj e).1)]
  cases nm (c :: r) with
  | none => rfl
  | some q => rfl
theorem bt_cut {n b : Nat} (hb : b ≤ n) (r : List UInt8) : cut (bt (n - b) n ++ 69 :: r) = (ones (n - b), ones b, 69 :: r) := by
  unfold bt
  by_cases h : n ≤ n - b
  · obtain rfl : b = 0 := by omega
    rw [if_pos h, cut_oth (ones_all n) (by decide) (by decide)]; rfl
  · rw [if_neg h, List.append_assoc, List.cons_append, cut_dot (ones_all _) (ones_all _) rfl, show n - (n - b) = b by omega]
theorem bt_head {n b : Nat} (h1 : 1 ≤ n) (hb : b ≤ n) (r : List UInt8) : ∃ c l, bt (n - b) n ++ 69 :: r = c :: l ∧ (c = 49 ∨ c = 46) := by
  unfold bt
  by_cases h : n ≤ n - b
  · rw [if_pos h]
    obtain ⟨m, rfl⟩ : ∃ m, n = m + 1 := ⟨n - 1, by omega⟩
    exact ⟨49, _, rfl, .inl rfl⟩
  · rw [if_neg h]
    cases hc : n - b with
    | zero => exact ⟨46, _, rfl, .inr rfl⟩
    | succ m => exact ⟨49, _, rfl, .inl rfl⟩
theorem ones_pos : ∀ n, n < 15 → ∀ k : Nat, k < 45 → (Fl.F.order (mag (ones (n + 1)) ((k : Int) - 22)) 0 == some Ordering.gt) = true := by decide +kernel
theorem mag_ones {n : Nat} {x : Int} (h1 : 1 ≤ n) (h2 : n ≤ 15) (h3 : -22 ≤ x) (h4 : x ≤ 22) : (Fl.F.order (mag (ones n) x) 0 == some Ordering.gt) = true := by
  have := ones_pos (n - 1) (by omega) (x + 22).toNat (by omega)
  rw [show n - 1 + 1 = n by omega, show (((x + 22).toNat : Nat) : Int) - 22 = x by omega] at this
  exact this
/-- What Parse makes of such a text. -/
theorem bt_parse {n b : Nat} (h1 : 1 ≤ n) (hb : b ≤ n) {r : List UInt8} {e : Int} (he : expo (69 :: r) = some e) :
    parse (bt (n - b) n ++ 69 :: r) = if n ≤ 15 ∧ -22 ≤ e - b ∧ e - b ≤ 22 then some (mag (ones n) (e - b)) else none := by
  have hp : parse (bt (n - b) n ++ 69 :: r) = (nm (bt (n - b) n ++ 69 :: r)).map fun q => csign false (mag q.1 q.2) := by
    obtain ⟨c, l, e1, hc⟩ := bt_head h1 hb r
    rw [e1]
    rcases hc with rfl | rfl
    · exact parse_pln (by decide) (by decide) (by decide) (by decide)
    · exact parse_pln (by decide) (by decide) (by decide) (by decide)
  rw [hp]
  have hn : nm (bt (n - b) n ++ 69 :: r) = if n ≤ 15 ∧ -22 ≤ e - b ∧ e - b ≤ 22 then some (ones n, e - b) else none := by
    unfold nm
    rw [bt_cut hb]
    unfold num'
    simp only [ones_len]
    by_cases h15 : n ≤ 15
    · rw [if_neg (by omega), he]
      simp only
      by_cases h : e - b < -22 ∨ 22 < e - b
      · rw [if_pos h, if_neg (by omega)]
      · rw [if_neg h, if_pos (by omega), ones_add, show n - b + b = n by omega]
    · rw [if_pos (by omega), if_neg (by omega)]
  rw [hn]
  by_cases h : n ≤ 15 ∧ -22 ≤ e - b ∧ e - b ≤ 22
  · rw [if_pos h, if_pos h]
    have hv : val (ones n) < 9007199254740992 := by
      have h3 := val_lt' _ (ones_all n)
      rw [ones_len] at h3
      have h4 : 10 ^ n ≤ 10 ^ 15 := Nat.pow_le_pow_right (by omega) h.1
      exact Nat.lt_of_lt_of_le h3 (Nat.le_trans h4 (by decide))
    have hm := mag_le (ones n) (e - b) hv h.2.1 h.2.2
    show some (csign false (mag (ones n) (e - b))) = _
    unfold csign
    rw [Nat.mod_eq_of_lt (by omega)]; rfl
  · rw [if_neg h, if_neg h]; rfl
end Go.Proofs.Ytmomlgacnnamgaa.Db
