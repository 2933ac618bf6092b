/- How many digits a number has. -/
import Derived.Test.YtagadfgginneeaaBase
import Derived.Test.YtagadfgginneeaaBin
import Derived.Lib.BitFns
namespace Go.Proofs.Ytagadfgginneeaa
set_option linter.unusedVariables false
set_option linter.unusedSimpArgs false
open Go.ChangeShapes Go.WideShapes Go.ChangeAt Go.RowKit

theorem bitLenAux_width (f : Nat) : ∀ x : Nat, x < 2 ^ f → Lib.bitLenAux f x = Bn.width x := by
  induction f with
  | zero => intro x h; obtain rfl : x = 0 := by simpa using h
            rfl
  | succ f ih =>
    intro x h
    unfold Lib.bitLenAux
    split
    · rename_i h0; subst h0; rfl
    · rename_i h0
      rw [Nat.pow_succ] at h
      rw [ih _ (by omega), Bn.width_half x (by omega), Nat.add_comm]
theorem len8_width (n : Nat) (h : n < 256) : Lib.len8 (n : Int) = (Bn.width n : Nat) := by
  have := Lib.len8_eq ⟨n, h⟩
  rw [show ((⟨n, h⟩ : Fin 256).val : Int) = (n : Int) from rfl] at this
  rw [this]
  unfold Lib.bitLen
  rw [bitLenAux_width 64 n (by omega)]
theorem width_shift (x k : Nat) (h : 2 ^ k ≤ x) : Bn.width x = Bn.width (x / 2 ^ k) + k := by
  induction k with
  | zero => simp
  | succ k ih =>
    have h2 : 2 ^ k ≤ x := by rw [Nat.pow_succ] at h; omega
    rw [ih h2, Bn.width_half (x / 2 ^ k) (Nat.div_pos h2 (Nat.two_pow_pos k)), Nat.div_div_eq_div_mul, Nat.pow_succ]; omega
theorem width_lt {x k : Nat} (h : x < 2 ^ k) : Bn.width x ≤ k := (Bn.width_le x k).2 h

theorem len8tab_at (i : Nat) (p : i < Lib.len8tab.size) : ((Lib.len8tab[i]'p).toNat : Int) = (Bn.width i : Nat) := by
  have h : i < 256 := by rw [Lib.len8tab_size] at p; exact p
  rw [← len8_width i h]
  unfold Lib.len8
  rw [Int.toNat_natCast, ByteArray.getElem?_lt' _ _ p]
  rfl
theorem len_close (x : Int) (i k : Nat) (h0 : 0 ≤ x) (h1 : x ≤ 18446744073709551615) (hk : k ≤ 56) (p : i < Lib.len8tab.size) (hi : i = x.toNat / 2 ^ k) (h : 2 ^ k ≤ x.toNat ∨ k = 0) :
    wrap64 ((k : Int) + wrap64 ((Lib.len8tab[i]'p).toNat : Int)) = (Bn.width x.toNat : Nat) := by
  have h8 : i < 256 := by rw [Lib.len8tab_size] at p; exact p
  have hw := (Bn.width_le i 8).2 (by simpa using h8)
  have e1 : wrap64 ((Bn.width i : Nat) : Int) = (Bn.width i : Nat) := IntWalk.wrap64_in _ ⟨by omega, by omega⟩
  rw [len8tab_at, e1, IntWalk.wrap64_in _ ⟨by omega, by omega⟩]
  rcases h with h | rfl
  · rw [width_shift x.toNat k h, ← hi]; omega
  · simp at hi; rw [← hi]; omega

set_option maxRecDepth 100000 in
set_option maxHeartbeats 1000000 in
theorem len64_any (x : Int) (w : World) (h0 : 0 ≤ x) (h1 : x ≤ 18446744073709551615) : Calls Try.prog 72 #[.int .u64 x] w fun e w' => e = .returned (.int .i64 (Bn.width x.toNat : Nat)) ∧ w = w' := by
  have hs := Lib.len8tab_size
  go_enter Try.func72, Try.ntmps72
  go_wp2
  all_goals (go_ret; refine ⟨congrArg Ending.returned (congrArg (Value.int IntKind.i64) ?_), rfl⟩)
  · exact len_close x _ 56 h0 h1 (by omega) _ (by simp; omega) (by simp; omega)
  · exact len_close x _ 48 h0 h1 (by omega) _ (by simp; omega) (by simp; omega)
  · exact len_close x _ 40 h0 h1 (by omega) _ (by simp; omega) (by simp; omega)
  · exact len_close x _ 32 h0 h1 (by omega) _ (by simp; omega) (by simp; omega)
  · exact len_close x _ 24 h0 h1 (by omega) _ (by simp; omega) (by simp; omega)
  · exact len_close x _ 16 h0 h1 (by omega) _ (by simp; omega) (by simp; omega)
  · exact len_close x _ 8 h0 h1 (by omega) _ (by simp; omega) (by simp; omega)
  · have := len_close x _ 0 h0 h1 (by omega) (by rw [hs]; omega) rfl (Or.inr rfl)
    simpa using this

theorem blen_any (x : Int) (w : World) (h0 : 0 ≤ x) (h1 : x ≤ 18446744073709551615) : Calls Try.prog 48 #[.int .u64 x] w fun e w' => e = .returned (.int .i64 (Bn.width x.toNat : Nat)) ∧ w = w' := by
  go_enter Try.func48, Try.ntmps48
  go_wp2_with (go_at_call 72; refine (len64_any x _ h0 h1).mono ?_; rintro e w' ⟨rfl, rfl⟩)
  go_ret
  exact ⟨rfl, rfl⟩
theorem width_any (n : Int) (w : World) (h : n ≤ 9223372036854775807) : Calls Try.prog 54 #[.int .i64 n] w fun e w' => e = .returned (.int .i64 (Bn.width n.toNat : Nat)) ∧ w = w' := by
  by_cases h0 : n < 0
  · have B := hid (blen_any 0 w (by omega) (by omega))
    have e : n.toNat = 0 := by omega
    rw [e]
    go_enter Try.func54, Try.ntmps54
    go_wp2_with (go_at_call 48; refine B.out.mono ?_; rintro e w' ⟨rfl, rfl⟩)
    go_ret
    exact ⟨rfl, rfl⟩
  · have h0' : 0 ≤ n := by omega
    have B := hid (blen_any n w h0' (by omega))
    go_enter Try.func54, Try.ntmps54
    go_wp2_with (go_at_call 48; refine B.out.mono ?_; rintro e w' ⟨rfl, rfl⟩)
    all_goals
      go_ret
      exact ⟨rfl, rfl⟩
end Go.Proofs.Ytagadfgginneeaa
