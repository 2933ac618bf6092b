/- What Parse makes of a text behind a sign: a number, and with the other sign the one below nought. -/
import Derived.Test.YtmomlgacnnamgaaFlTurn
import Derived.Test.YtmomlgacnnamgaaDbl3
namespace Go.Proofs.Ytmomlgacnnamgaa.Fl
set_option linter.unusedVariables false
set_option linter.unusedSimpArgs false
open Go Go.RowKit Ieee
theorem nearest_le (m : Nat) (p : Int) : F.nearest false m p ≤ 9218868437227405312 := by
  unfold Format.nearest Format.word
  simp only [Bool.false_eq_true, if_false]
  rw [f_inf]
  split
  · exact Nat.zero_le _
  · exact Nat.min_le_right _ _
theorem key_low {x : Nat} (h : x ≤ 9218868437227405312) : ∃ a, key x = some a := by
  unfold key Format.read
  have e : x % F.signWeight = x := by rw [f_sw]; omega
  simp only [e, f_bin, f_inf]
  split
  · exact ⟨_, rfl⟩
  · split
    · exact ⟨_, rfl⟩
    · rw [if_pos (by omega)]; exact ⟨_, rfl⟩
end Go.Proofs.Ytmomlgacnnamgaa.Fl
namespace Go.Proofs.Ytmomlgacnnamgaa.Db
set_option linter.unusedVariables false
set_option linter.unusedSimpArgs false
open Go Go.RowKit
theorem pw_read (k : Nat) (h : k ≤ 22) : ∃ m p, Fl.F.read (pw k) = .number false m p ∧ m ≠ 0 := by
  obtain ⟨q, x, hr, hq, _⟩ := (isN_pw k h).read
  exact ⟨_, _, hr, by omega⟩
theorem mag_le (d : List UInt8) (e : Int) (hd : val d < 9007199254740992) (h1 : -22 ≤ e) (h2 : e ≤ 22) : mag d e ≤ 9218868437227405312 := by
  obtain ⟨m, p, hm⟩ := fl_read (val d) hd
  unfold mag
  by_cases h : e < 0
  · rw [if_pos h]
    obtain ⟨q, x, hq, h0⟩ := pw_read (-e).toNat (by omega)
    unfold Ieee.Format.div
    rw [hm, hq]
    simp only [Ieee.Datum.quotient, if_neg h0]
    exact Fl.nearest_le _ _
  · rw [if_neg h]
    obtain ⟨q, x, hq, h0⟩ := pw_read e.toNat (by omega)
    unfold Ieee.Format.mul
    rw [hm, hq]
    exact Fl.nearest_le _ _
/-- What Parse makes of a sign and a text. -/
def psg (s : Bool) (t : List UInt8) : Option Nat :=
  if t = [73, 78, 70] then some (if s then 18442240474082181120 else 9218868437227405312) else (nm t).map fun q => csign s (mag q.1 q.2)
theorem parse_psg (s : Bool) (t : List UInt8) : parse ((if s then 45 else 43) :: t) = psg s t := by
  have es : sign ((if s then 45 else 43) :: t) = (s, t) := by cases s <;> rfl
  unfold parse psg
  rw [if_neg (by intro e; have := (List.cons.inj e).1; cases s <;> revert this <;> decide), es]
  by_cases h : t = [73, 78, 70]
  · rw [if_pos h, if_pos h]
  · rw [if_neg h, if_neg h]
    show (match nm t with | none => none | some (d, e) => some (csign s (mag d e))) = _
    cases nm t with
    | none => rfl
    | some q => rfl
theorem nm_bd {t d : List UInt8} {e : Int} (h : nm t = some (d, e)) : val d < 9007199254740992 ∧ -22 ≤ e ∧ e ≤ 22 := by
  unfold nm num' at h
  split at h
  · cases h
  · rename_i h1
    split at h
    · cases h
    · split at h
      · cases h
      · rename_i h2
        simp only [Option.some.injEq, Prod.mk.injEq] at h
        obtain ⟨rfl, rfl⟩ := h
        refine ⟨?_, by omega, by omega⟩
        have hd : AllDig ((cut t).1 ++ (cut t).2.1) := by
          refine AllDig.append ?_ ?_
          · unfold cut
            split
            · exact digs_dig t
            · split <;> exact digs_dig t
          · unfold cut
            split
            · exact fun i c h => by simp at h
            · split
              · exact digs_dig _
              · exact fun i c h => by simp at h
        have h3 := val_lt' _ hd
        rw [List.length_append] at h3
        have h4 : 10 ^ ((cut t).1.length + (cut t).2.1.length) ≤ 10 ^ 15 := Nat.pow_le_pow_right (by omega) (by omega)
        exact Nat.lt_of_lt_of_le h3 (Nat.le_trans h4 (by decide))
/-- With a minus it is the same number below nought. -/
theorem psg_turn {t : List UInt8} {x : Nat} (h : psg false t = some x) : psg true t = some (x + 9223372036854775808) ∧ x < 9223372036854775808 ∧ ∃ a, Fl.key x = some a := by
  unfold psg at h ⊢
  by_cases h1 : t = [73, 78, 70]
  · rw [if_pos h1] at h ⊢
    obtain rfl : 9218868437227405312 = x := by simpa using h
    exact ⟨rfl, by omega, Fl.key_low (by omega)⟩
  · rw [if_neg h1] at h ⊢
    cases hn : nm t with
    | none => rw [hn] at h; cases h
    | some q =>
      obtain ⟨d, e⟩ := q
      rw [hn] at h
      obtain ⟨b1, b2, b3⟩ := nm_bd hn
      have hm := mag_le d e b1 b2 b3
      obtain rfl : csign false (mag d e) = x := by simpa using h
      have e1 : ∀ s, csign s (mag d e) = mag d e + (if s then 9223372036854775808 else 0) := by
        intro s; unfold csign; rw [Nat.mod_eq_of_lt (by omega)]
      have e2 : csign false (mag d e) = mag d e := by rw [e1]; rfl
      rw [e2]
      refine ⟨?_, by omega, Fl.key_low hm⟩
      show some (csign true (mag d e)) = _
      rw [e1]; rfl
end Go.Proofs.Ytmomlgacnnamgaa.Db
