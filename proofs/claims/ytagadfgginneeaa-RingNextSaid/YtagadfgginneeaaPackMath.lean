/- What Pack and Unpack reckon: digits of numbers, bytes of digits. -/
import Derived.Test.YtagadfgginneeaaBin
namespace Go.Proofs.Ytagadfgginneeaa.Pm
set_option linter.unusedVariables false
set_option linter.unusedSimpArgs false
open Go Go.RowKit Go.Proofs.Ytagadfgginneeaa.Bn

/-- Digit k of the numbers l, each in w digits. -/
def nbit (l : List Int) (w k : Nat) : Bool := (l.getD (k / w) 0).toNat.testBit (k % w)
/-- How many bytes n numbers of w digits take. -/
def size (n w : Nat) : Nat := (n * w + 7) / 8
/-- Byte t of what Pack answers. -/
def byte (l : List Int) (w t : Nat) : Nat := grp (nbit l w) 8 (l.length * w) t
theorem byte_lt (l : List Int) (w t : Nat) : byte l w t < 256 := grp_lt _ 8 _ _
/-- May these numbers be packed? -/
def May (l : List Int) (w : Int) : Prop := 0 ≤ w ∧ w ≤ 20 ∧ l.length ≤ 1000 ∧ ∀ i, i < l.length → 0 ≤ l.getD i 0 ∧ (l.getD i 0).toNat < 2 ^ w.toNat
theorem nbit_at (l : List Int) (w i d : Nat) (hd : d < w) : nbit l w (i * w + d) = (l.getD i 0).toNat.testBit d := by
  unfold nbit
  have h1 : (i * w + d) / w = i := by
    rw [Nat.mul_comm, Nat.mul_add_div (by omega), Nat.div_eq_of_lt hd]; rfl
  have h2 : (i * w + d) % w = d := by rw [Nat.mul_comm, Nat.mul_add_mod, Nat.mod_eq_of_lt hd]
  rw [h1, h2]
theorem at_lt {i w d n : Nat} (hi : i < n) (hd : d < w) : i * w + d < n * w := by
  have : (i + 1) * w ≤ n * w := Nat.mul_le_mul_right w (by omega)
  rw [Nat.add_mul] at this; omega
theorem at_div {i w d n : Nat} (hi : i < n) (hd : d < w) : (i * w + d) / 8 < size n w := by
  have := at_lt hi hd; unfold size; omega

/-- A digit laid into its byte, as Go reckons it. -/
theorem byte_or (x d g k : Nat) (hx : x < 9223372036854775808) (hg : g < 256) (hk : k < 8) :
    bits BinOp.or IntKind.u8 (g : Int) (bits BinOp.and IntKind.i64 ((x : Int) / 2 ^ d) 1 % 256 * 2 ^ k % 256) = ((g ||| (if x.testBit d then 2 ^ k else 0) : Nat) : Int) := by
  have h2 : 2 ^ k ≤ 128 := by
    have := Nat.pow_le_pow_right (n := 2) (by omega) (show k ≤ 7 by omega)
    simpa using this
  rw [← IntKind.wrap_u8' (_ * _), ← IntKind.wrap_u8', i64_bit x d hx]
  unfold dig
  have e : ((if x.testBit d then 1 else 0 : Nat) : Int) * 2 ^ k = ((if x.testBit d then 2 ^ k else 0 : Nat) : Int) := by
    split
    · rw [Int.natCast_pow]; simp
    · simp
  rw [wrap_u8_small _ (by split <;> omega), e, wrap_u8_small _ (by split <;> omega), u8_or_nat _ _ hg (by split <;> omega)]

/-- Digit k of bytes. -/
def bitB (l : List Nat) (k : Nat) : Bool := (l.getD (k / 8) 0).testBit (k % 8)
/-- Number i of bytes, of w digits. -/
def num (l : List Nat) (w i : Nat) : Nat := val (fun j => bitB l (i * w + j)) w
theorem num_lt (l : List Nat) (w i : Nat) : num l w i < 2 ^ w := val_lt _ _
/-- A digit of a byte, as Go reckons it. -/
theorem bit_at (x k : Nat) (hx : x < 256) : bits BinOp.and IntKind.u8 ((x : Int) / 2 ^ k) 1 = ((dig (x.testBit k) : Nat) : Int) := u8_bit x k hx
/-- A digit laid into its number, as Go reckons it. -/
theorem num_or (g d : Nat) (b : Bool) (hg : g < 1048576) (hd : d < 20) :
    bits BinOp.or IntKind.i64 (g : Int) (wrap64 (((dig b : Nat) : Int) * 2 ^ d)) = ((g ||| (if b then 2 ^ d else 0) : Nat) : Int) := by
  have h2 : 2 ^ d ≤ 524288 := by
    have := Nat.pow_le_pow_right (n := 2) (by omega) (show d ≤ 19 by omega)
    simpa using this
  have e : ((dig b : Nat) : Int) * 2 ^ d = ((if b then 2 ^ d else 0 : Nat) : Int) := by
    unfold dig
    cases b
    · simp
    · simp only [if_true]; rw [Int.natCast_pow]; simp
  have e2 : wrap64 ((if b then 2 ^ d else 0 : Nat) : Int) = ((if b then 2 ^ d else 0 : Nat) : Int) := by
    have h3 : (if b then 2 ^ d else 0) ≤ 524288 := by split <;> omega
    exact IntWalk.wrap64_in _ ⟨by omega, by omega⟩
  rw [e, e2, i64_or_nat _ _ (by omega) (by split <;> omega)]
theorem val_zero (f : Nat → Bool) : val f 0 = 0 := rfl

/-- A digit shifted in from below, as Go reckons it. -/
theorem shift_in (g : Nat) (b : Bool) (hg : g < 1048576) : bits BinOp.or IntKind.i64 ((g : Int) * 2) ((dig b : Nat) : Int) = (((if b then 1 else 0) + 2 * g : Nat) : Int) := by
  have hd := dig_lt b
  rw [show (g : Int) * 2 = ((2 * g : Nat) : Int) by omega, i64_or_nat _ _ (by omega) (by omega)]
  congr 1
  have : 2 * g ||| dig b = 2 * g + dig b := by
    apply Nat.eq_of_testBit_eq
    intro j
    rw [Nat.testBit_or]
    cases b
    · simp [dig]
    · simp only [dig, if_true]
      cases j with
      | zero => simp [Nat.testBit_zero]
      | succ j =>
        rw [Nat.testBit_succ, Nat.testBit_succ, Nat.testBit_succ, show (2 * g + 1) / 2 = g by omega, show 2 * g / 2 = g by omega]
        simp
  rw [this, Nat.add_comm]; rfl
/-- The numbers that bytes spell. -/
def nums (l : List Nat) (w n : Nat) : List Int := (List.range n).map fun t => (num l w t : Int)
theorem nums_length (l : List Nat) (w n : Nat) : (nums l w n).length = n := by simp [nums]
theorem nums_get (l : List Nat) (w n t : Nat) (h : t < n) : (nums l w n).getD t 0 = (num l w t : Int) := by simp [nums, List.getD, h]
theorem nums_may (l : List Nat) (w n : Nat) (hn : n ≤ 1000) (hw : w ≤ 20) : May (nums l w n) w := by
  refine ⟨by omega, by omega, by rw [nums_length]; exact hn, fun i hi => ?_⟩
  rw [nums_length] at hi
  rw [nums_get l w n i hi]
  exact ⟨by omega, by simpa using num_lt l w i⟩
theorem nbit_nums (l : List Nat) (w n k : Nat) (h : k < n * w) : nbit (nums l w n) w k = bitB l k := by
  have hw : 0 < w := by
    rcases Nat.eq_zero_or_pos w with h0 | h0
    · rw [h0] at h; simp at h
    · exact h0
  have hk : k / w < n := by rw [Nat.div_lt_iff_lt_mul hw]; exact h
  unfold nbit
  rw [nums_get l w n _ hk, Int.toNat_natCast]
  unfold num
  rw [testBit_val, Nat.mul_comm (k / w) w, Nat.div_add_mod]
  simp [Nat.mod_lt k hw]
/-- What Pack makes of the numbers that bytes spell are the bytes, just if only noughts stand behind. -/
theorem bytes_back (l : List Nat) (w n : Nat) (hb : ∀ i, l.getD i 0 < 256) (hN : n * w ≤ 8 * l.length) :
    ((List.range l.length).map fun t => grp (nbit (nums l w n) w) 8 (n * w) t) = l ↔ ∀ j, n * w ≤ j → j < 8 * l.length → bitB l j = false := by
  have one : ∀ t, grp (nbit (nums l w n) w) 8 (n * w) t = val (fun j => decide (8 * t + j < n * w) && bitB l (8 * t + j)) 8 := by
    intro t
    unfold grp
    refine val_congr fun j _ => ?_
    by_cases h : 8 * t + j < n * w
    · rw [nbit_nums l w n _ h]
    · simp [h]
  have two : ∀ t, t < l.length → val (fun j => bitB l (8 * t + j)) 8 = l.getD t 0 := by
    intro t _
    rw [← val_of_testBit 8 (l.getD t 0) (by simpa using hb t)]
    refine val_congr fun j hj => ?_
    unfold bitB
    rw [show (8 * t + j) / 8 = t by omega, show (8 * t + j) % 8 = j by omega]
  constructor
  · intro h j hj1 hj2
    have ht : j / 8 < l.length := by omega
    have h2 := congrArg (fun s => s.getD (j / 8) 0) h
    simp only [List.getD, List.getElem?_map, List.getElem?_range ht, Option.map_some, Option.getD_some] at h2
    have h3 := two (j / 8) ht
    simp only [List.getD] at h3
    rw [one, ← h3] at h2
    have h4 := val_inj h2 (j % 8) (by omega)
    rw [show 8 * (j / 8) + j % 8 = j by omega] at h4
    rw [← h4]; simp; omega
  · intro h
    refine List.ext_getElem (by simp) fun t h1 h2 => ?_
    simp only [List.getElem_map, List.getElem_range]
    rw [one]
    have h3 := two t h2
    simp only [List.getD, List.getElem?_eq_getElem h2, Option.getD_some] at h3
    rw [← h3]
    refine val_congr fun j hj => ?_
    by_cases h4 : 8 * t + j < n * w
    · simp [h4]
    · rw [h (8 * t + j) (by omega) (by omega)]; simp
end Go.Proofs.Ytagadfgginneeaa.Pm
