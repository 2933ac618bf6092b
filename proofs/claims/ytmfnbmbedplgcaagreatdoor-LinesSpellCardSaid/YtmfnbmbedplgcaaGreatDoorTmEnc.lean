/- A rune's bytes are read back as it: plain facts. -/
import Derived.Test.YtmfnbmbedplgcaaGreatDoorTmRune
namespace Go.Proofs.YtmfnbmbedplgcaaGreatDoor.Tm
set_option linter.unusedVariables false
set_option linter.unusedSimpArgs false
open Go
set_option maxRecDepth 200000

def enc (r : Nat) : List UInt8 := (Utf8.encode (r : Int)).data.toList
/-- A rune that may be written. -/
def okRune (r : Nat) : Prop := r < 55296 ∨ (57344 ≤ r ∧ r ≤ 1114111)
theorem enc_eq (r : Nat) (h : okRune r) : enc r =
    if r < 128 then [UInt8.ofNat r] else if r < 2048 then [UInt8.ofNat (192 + r / 64), UInt8.ofNat (128 + r % 64)]
    else if r < 65536 then [UInt8.ofNat (224 + r / 4096), UInt8.ofNat (128 + r / 64 % 64), UInt8.ofNat (128 + r % 64)]
    else [UInt8.ofNat (240 + r / 262144), UInt8.ofNat (128 + r / 4096 % 64), UInt8.ofNat (128 + r / 64 % 64), UInt8.ofNat (128 + r % 64)] := by
  have hv : Utf8.valid (r : Int) = true := by
    unfold Utf8.valid; unfold okRune at h
    simp only [Bool.or_eq_true, Bool.and_eq_true, decide_eq_true_eq]
    omega
  unfold enc Utf8.encode
  simp only [hv, if_true, Int.toNat_natCast]
  by_cases h1 : r < 128
  · rw [if_pos h1, if_pos h1]
  rw [if_neg h1, if_neg h1]
  by_cases h2 : r < 2048
  · rw [if_pos h2, if_pos h2]
  rw [if_neg h2, if_neg h2]
  by_cases h3 : r < 65536
  · rw [if_pos h3, if_pos h3]
  rw [if_neg h3, if_neg h3]
theorem nat_of (n : Nat) (h : n < 256) : (UInt8.ofNat n).toNat = n := by simp; omega
theorem enc_len (r : Nat) (h : okRune r) : 1 ≤ (enc r).length ∧ (enc r).length ≤ 4 ∧ ((enc r).length = 1 → r < 128) := by
  rw [enc_eq r h]
  repeat' split
  all_goals simp <;> omega
theorem decN1 (n b1 b2 b3 r : Nat) (h : r < 128) : Lib.decodeN n r b1 b2 b3 = (r, 1) := by unfold Lib.decodeN; rw [if_pos h]
theorem decN2 (n b2 b3 r : Nat) (h1 : 128 ≤ r) (h2 : r < 2048) (hn : 1 < n) : Lib.decodeN n (192 + r / 64) (128 + r % 64) b2 b3 = (r, 2) := by
  unfold Lib.decodeN
  have c1 : ¬ (192 + r / 64 < 128) := by omega
  have c2 : (192 + r / 64) / 32 = 6 ∧ (1 < n ∧ (128 + r % 64) / 64 = 2) := ⟨by omega, hn, by omega⟩
  have e : (192 + r / 64) % 32 * 64 + (128 + r % 64) % 64 = r := by omega
  rw [if_neg c1, if_pos c2, e, if_pos h1]
theorem decN3 (n b3 r : Nat) (h1 : 2048 ≤ r) (h2 : r < 65536) (hr : okRune r) (hn : 2 < n) : Lib.decodeN n (224 + r / 4096) (128 + r / 64 % 64) (128 + r % 64) b3 = (r, 3) := by
  unfold Lib.decodeN
  unfold okRune at hr
  have c1 : ¬ (224 + r / 4096 < 128) := by omega
  have c2 : ¬ ((224 + r / 4096) / 32 = 6 ∧ (1 < n ∧ (128 + r / 64 % 64) / 64 = 2)) := by omega
  have c3 : (224 + r / 4096) / 16 = 14 ∧ (1 < n ∧ (128 + r / 64 % 64) / 64 = 2) ∧ (2 < n ∧ (128 + r % 64) / 64 = 2) := ⟨by omega, ⟨by omega, by omega⟩, by omega, by omega⟩
  have e : (224 + r / 4096) % 16 * 4096 + (128 + r / 64 % 64) % 64 * 64 + (128 + r % 64) % 64 = r := by omega
  rw [if_neg c1, if_neg c2, if_pos c3, e, if_pos ⟨h1, hr⟩]
theorem decN4 (n r : Nat) (h1 : 65536 ≤ r) (hr : okRune r) (hn : 3 < n) : Lib.decodeN n (240 + r / 262144) (128 + r / 4096 % 64) (128 + r / 64 % 64) (128 + r % 64) = (r, 4) := by
  unfold Lib.decodeN
  unfold okRune at hr
  have c1 : ¬ (240 + r / 262144 < 128) := by omega
  have c2 : ¬ ((240 + r / 262144) / 32 = 6 ∧ (1 < n ∧ (128 + r / 4096 % 64) / 64 = 2)) := by omega
  have c3 : ¬ ((240 + r / 262144) / 16 = 14 ∧ (1 < n ∧ (128 + r / 4096 % 64) / 64 = 2) ∧ (2 < n ∧ (128 + r / 64 % 64) / 64 = 2)) := by omega
  have c4 : (240 + r / 262144) / 8 = 30 ∧ (1 < n ∧ (128 + r / 4096 % 64) / 64 = 2) ∧ (2 < n ∧ (128 + r / 64 % 64) / 64 = 2) ∧ (3 < n ∧ (128 + r % 64) / 64 = 2) := ⟨by omega, ⟨by omega, by omega⟩, ⟨by omega, by omega⟩, by omega, by omega⟩
  have e : (240 + r / 262144) % 8 * 262144 + (128 + r / 4096 % 64) % 64 * 4096 + (128 + r / 64 % 64) % 64 * 64 + (128 + r % 64) % 64 = r := by omega
  rw [if_neg c1, if_neg c2, if_neg c3, if_pos c4, e, if_pos ⟨h1, hr⟩]
theorem dec_enc (r : Nat) (h : okRune r) : Lib.decodeL (enc r) = (r, (enc r).length) := by
  rw [enc_eq r h, Lib.decodeL_N]
  have hr : r < 1114112 := by unfold okRune at h; omega
  by_cases h1 : r < 128
  · rw [if_pos h1]
    simp only [List.length_cons, List.length_nil, List.getD_cons_zero]
    rw [nat_of r (by omega), decN1 _ _ _ _ r h1]
  rw [if_neg h1]
  by_cases h2 : r < 2048
  · rw [if_pos h2]
    simp only [List.length_cons, List.length_nil, List.getD_cons_zero, List.getD_cons_succ]
    rw [nat_of (192 + r / 64) (by omega), nat_of (128 + r % 64) (by omega), decN2 _ _ _ r (by omega) h2 (by omega)]
  rw [if_neg h2]
  by_cases h3 : r < 65536
  · rw [if_pos h3]
    simp only [List.length_cons, List.length_nil, List.getD_cons_zero, List.getD_cons_succ]
    rw [nat_of (224 + r / 4096) (by omega), nat_of (128 + r / 64 % 64) (by omega), nat_of (128 + r % 64) (by omega), decN3 _ _ r (by omega) h3 h (by omega)]
  rw [if_neg h3]
  simp only [List.length_cons, List.length_nil, List.getD_cons_zero, List.getD_cons_succ]
  rw [nat_of (240 + r / 262144) (by omega), nat_of (128 + r / 4096 % 64) (by omega), nat_of (128 + r / 64 % 64) (by omega), nat_of (128 + r % 64) (by omega), decN4 _ r (by omega) h (by omega)]
theorem enc_ne (r : Nat) (h : okRune r) : enc r ≠ [] := by have := (enc_len r h).1; intro e; rw [e] at this; simp at this
theorem valid_enc (r : Nat) (h : okRune r) : Lib.validD (enc r) = true := by
  have hl := enc_len r h
  rw [Lib.validD_step _ (enc_ne r h), dec_enc r h, if_neg (by simp only; omega), List.drop_length]
  rfl
theorem runes_enc (f : Nat → Bool) (n : Nat) (r : Nat) (h : okRune r) (hn : 1 ≤ n) : runesAll f n (enc r) = f r := by
  obtain ⟨m, rfl⟩ : ∃ m, n = m + 1 := ⟨n - 1, by omega⟩
  rw [runesAll_step _ _ _ (enc_ne r h), dec_enc r h, List.drop_length, runesAll_nil, Bool.and_true]
/-- A letter, and a rune behind it. -/
theorem valid_aenc (r : Nat) (h : okRune r) : Lib.validD (97 :: enc r) = true := by
  rw [Lib.validD_cons _ _ (by decide), valid_enc r h]
theorem iri_aenc (r : Nat) (h : okRune r) : isIRI (97 :: enc r) = irune r := by
  have hl := enc_len r h
  unfold isIRI
  rw [valid_aenc r h, decide_eq_true (show 1 ≤ (97 :: enc r).length by simp), decide_eq_true (show (97 :: enc r).length ≤ 60 by simp; omega)]
  have e : (97 :: enc r).length = (enc r).length + 1 := rfl
  rw [e, runesAll_step _ _ _ (by simp), Lib.decodeL_ascii _ _ (by decide)]
  simp only [List.drop_succ_cons, List.drop_zero]
  rw [runes_enc irune _ r h hl.1]
  rfl
end Go.Proofs.YtmfnbmbedplgcaaGreatDoor.Tm
