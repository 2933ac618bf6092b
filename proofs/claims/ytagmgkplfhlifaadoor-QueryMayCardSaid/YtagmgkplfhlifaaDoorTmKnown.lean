/- The laws' known, and the variables that a row lists. -/
import Derived.Test.YtagmgkplfhlifaaDoorTmIs
import Derived.Test.YtagmgkplfhlifaaDoorTmRIri
namespace Go.Proofs.YtagmgkplfhlifaaDoor
set_option linter.unusedVariables false
set_option linter.unusedSimpArgs false
set_option maxRecDepth 100000
open Go.ChangeShapes Go.WideShapes Go.ChangeAt Go.RowKit

/-- The pass from place i on, so many parts and bytes ahead. -/
theorem pass_step (s : List UInt8) (i n : Nat) (d : Bool) (c : UInt8) (h : s[i]? = some c) : Tm.pass d n (s.drop i) =
    if c = 45 ∧ 1 ≤ n then Tm.pass true 0 (s.drop (i + 1)) else if Tm.small c || (Tm.digit c && d) then (if 8 < n + 1 then false else Tm.pass d (n + 1) (s.drop (i + 1))) else false := by
  obtain ⟨hl, e⟩ := List.getElem?_eq_some_iff.1 h
  rw [List.drop_eq_getElem_cons hl, e, Tm.pass]
/-- A byte that may not stand there. -/
theorem rl_bad (c : UInt8) (n k : Nat) (ANS : Bool) {s s' : List UInt8} (hs : Tm.pass (decide (0 < k)) n s = if c = 45 ∧ 1 ≤ n then Tm.pass true 0 s' else if Tm.small c || (Tm.digit c && decide (0 < k)) then (if 8 < n + 1 then false else Tm.pass (decide (0 < k)) (n + 1) s') else false)
    (h : ANS = Tm.pass (decide (0 < k)) n s) (hc : (¬ (c.toNat = 45 ∧ 1 ≤ n) ∧ ¬ (97 ≤ c.toNat ∧ c.toNat ≤ 122) ∧ ¬ (48 ≤ c.toNat ∧ c.toNat ≤ 57 ∧ 1 ≤ k)) ∨ (c.toNat ≠ 45 ∧ n = 8)) : ANS = false := by
  have e45 : ¬ (c = 45 ∧ 1 ≤ n) := by
    rintro ⟨rfl, hn⟩
    rcases hc with ⟨h1, _⟩ | ⟨h1, _⟩
    · exact h1 ⟨rfl, hn⟩
    · exact h1 rfl
  rw [h, hs, if_neg e45]
  rcases hc with ⟨_, h2, h3⟩ | ⟨_, h8⟩
  · rw [if_neg]
    unfold Tm.small Tm.digit
    simp only [Bool.or_eq_true, Bool.and_eq_true, decide_eq_true_eq]
    omega
  · split
    · rw [if_pos (by omega)]
    · rfl
/-- One that may. -/
theorem rl_on (c : UInt8) (n k : Nat) (ANS : Bool) {s s' : List UInt8} (hs : Tm.pass (decide (0 < k)) n s = if c = 45 ∧ 1 ≤ n then Tm.pass true 0 s' else if Tm.small c || (Tm.digit c && decide (0 < k)) then (if 8 < n + 1 then false else Tm.pass (decide (0 < k)) (n + 1) s') else false)
    (h : ANS = Tm.pass (decide (0 < k)) n s) (hc : (97 ≤ c.toNat ∧ c.toNat ≤ 122) ∨ (48 ≤ c.toNat ∧ c.toNat ≤ 57 ∧ 1 ≤ k)) (hn : n < 8) : ANS = Tm.pass (decide (0 < k)) (n + 1) s' := by
  have e45 : ¬ (c = 45 ∧ 1 ≤ n) := by
    rintro ⟨rfl, hn⟩
    rcases hc with h | h
    · exact absurd h.1 (by decide)
    · exact absurd h.1 (by decide)
  have e2 : (Tm.small c || (Tm.digit c && decide (0 < k))) = true := by
    unfold Tm.small Tm.digit
    simp only [Bool.or_eq_true, Bool.and_eq_true, decide_eq_true_eq]
    omega
  rw [h, hs, if_neg e45, if_pos e2, if_neg (by omega)]
theorem rl_dash (c : UInt8) (n k : Nat) (ANS : Bool) {s s' : List UInt8} (hs : Tm.pass (decide (0 < k)) n s = if c = 45 ∧ 1 ≤ n then Tm.pass true 0 s' else if Tm.small c || (Tm.digit c && decide (0 < k)) then (if 8 < n + 1 then false else Tm.pass (decide (0 < k)) (n + 1) s') else false)
    (h : ANS = Tm.pass (decide (0 < k)) n s) (hc : c.toNat = 45) (hn : 1 ≤ n) : ANS = Tm.pass (decide (0 < k + 1)) 0 s' := by
  rw [h, hs, if_pos ⟨UInt8.toNat_inj.1 hc, hn⟩, decide_eq_true (show 0 < k + 1 by omega)]
set_option maxHeartbeats 2000000 in
theorem rlang_any (p : List UInt8) (w : World) (hl : p.length ≤ 9223372036854775807) :
    Calls Tryd.prog 77 #[str p] w fun e w' => e = .returned (.bool (Tm.lang p)) ∧ ∃ q, w' = w.drewN q := by
  obtain ⟨ANS, hA⟩ : ∃ a, a = Tm.pass false 0 p := ⟨_, rfl⟩
  unfold Tm.lang
  rw [← hA]
  have HA := hid (show ANS = Tm.pass (decide (0 < 0)) 0 (p.drop 0) from hA)
  clear hA
  go_enter Tryd.func77, Tryd.ntmps77
  go_wp2
  go_loopw [3, 4, 5, 6, 7, 34] (fun s3 s4 s5 _ _ _ wr => ∃ (k n i : Nat), s3 = .int .i64 k ∧ s4 = .int .i64 n ∧ s5 = .int .i64 i ∧ i ≤ p.length ∧ k ≤ i ∧ n ≤ 8 ∧ Hid (ANS = Tm.pass (decide (0 < k)) n (p.drop i)) ∧ Hid (∃ q, wr = w.drewN q)) (fun _ _ s5 _ _ _ _ => p.length - (intOf s5).toNat)
  case atStart => exact ⟨0, 0, 0, rfl, rfl, rfl, by omega, by omega, by omega, HA, 0, rfl⟩
  case round =>
    obtain ⟨k, n, i, rfl, rfl, rfl, hi, hk, hn, HP, HQ⟩ := hrel
    by_cases hlt : i < p.length
    · obtain ⟨c, hc⟩ : ∃ c, p[i]? = some c := ⟨_, List.getElem?_eq_getElem hlt⟩
      have hcc := fun q => ba_get p i c hc q
      have HS := hid (pass_step p i n (decide (0 < k)) c hc)
      obtain ⟨q0, hq0⟩ := HQ.out
      subst hq0
      clear hc
      rcases (show (c.toNat < 48 ∧ c.toNat ≠ 45) ∨ (c.toNat = 45 ∧ n = 0) ∨ (c.toNat = 45 ∧ 1 ≤ n) ∨ ((48 ≤ c.toNat ∧ c.toNat ≤ 57) ∧ k = 0) ∨ ((48 ≤ c.toNat ∧ c.toNat ≤ 57) ∧ 1 ≤ k ∧ n = 8) ∨ ((48 ≤ c.toNat ∧ c.toNat ≤ 57) ∧ 1 ≤ k ∧ n < 8) ∨ (57 < c.toNat ∧ c.toNat < 97) ∨ ((97 ≤ c.toNat ∧ c.toNat ≤ 122) ∧ n = 8) ∨ ((97 ≤ c.toNat ∧ c.toNat ≤ 122) ∧ n < 8) ∨ 122 < c.toNat by omega) with h | h | h | h | h | h | h | h | h | h
      · have HF := hid (rl_bad c n k ANS HS.out HP.out (.inl (by omega)))
        have g1 : decide ((97 : Int) ≤ (c.toNat : Int)) = false := by simp <;> omega
        have g3 : decide ((48 : Int) ≤ (c.toNat : Int)) = false := by simp <;> omega
        have b1 : ((c.toNat : Int) == 45) = false := beq_eq_false_iff_ne.2 (by omega)
        clear h HS HP
        go_wp2
        go_quiet (fail)
        go_wp2
        go_ret
        exact ⟨by rw [HF.out]; rfl, q0 + nq, by first | rfl | rw [World.drewN_drewN]⟩
      · have HF := hid (rl_bad c n k ANS HS.out HP.out (.inl (by omega)))
        have g1 : decide ((97 : Int) ≤ (c.toNat : Int)) = false := by simp <;> omega
        have g3 : decide ((48 : Int) ≤ (c.toNat : Int)) = false := by simp <;> omega
        have b1 : ((c.toNat : Int) == 45) = true := beq_iff_eq.2 (by omega)
        obtain rfl : n = 0 := by omega
        clear h HS HP
        go_wp2
        go_quiet (fail)
        go_wp2
        go_ret
        exact ⟨by rw [HF.out]; rfl, q0 + nq, by first | rfl | rw [World.drewN_drewN]⟩
      · have HF := hid (rl_dash c n k ANS HS.out HP.out (by omega) (by omega))
        have g1 : decide ((97 : Int) ≤ (c.toNat : Int)) = false := by simp <;> omega
        have g3 : decide ((48 : Int) ≤ (c.toNat : Int)) = false := by simp <;> omega
        have b1 : ((c.toNat : Int) == 45) = true := beq_iff_eq.2 (by omega)
        have g5 : decide (0 < n) = true := by simp <;> omega
        have g5z : (0 : Int) < (n : Int) := by omega
        clear h HS HP
        go_wp2
        go_quiet (fail)
        go_wp2
        go_roundw
        case rel => exact ⟨k + 1, 0, i + 1, by go_num, by go_num, by go_num, by omega, by omega, by omega, HF, q0 + nq, by first | rfl | rw [World.drewN_drewN]⟩
        case measure => simp [intOf]; omega
      · have HF := hid (rl_bad c n k ANS HS.out HP.out (.inl (by omega)))
        have g1 : decide ((97 : Int) ≤ (c.toNat : Int)) = false := by simp <;> omega
        have g3 : decide ((48 : Int) ≤ (c.toNat : Int)) = true := by simp <;> omega
        have g4 : decide ((c.toNat : Int) ≤ 57) = true := by simp <;> omega
        have b1 : ((c.toNat : Int) == 45) = false := beq_eq_false_iff_ne.2 (by omega)
        obtain rfl : k = 0 := by omega
        clear h HS HP
        go_wp2
        go_quiet (fail)
        go_wp2
        go_ret
        exact ⟨by rw [HF.out]; rfl, q0 + nq, by first | rfl | rw [World.drewN_drewN]⟩
      · have HF := hid (rl_bad c n k ANS HS.out HP.out (.inr (by omega)))
        have g1 : decide ((97 : Int) ≤ (c.toNat : Int)) = false := by simp <;> omega
        have g3 : decide ((48 : Int) ≤ (c.toNat : Int)) = true := by simp <;> omega
        have g4 : decide ((c.toNat : Int) ≤ 57) = true := by simp <;> omega
        have b1 : ((c.toNat : Int) == 45) = false := beq_eq_false_iff_ne.2 (by omega)
        have g6 : decide (0 < k) = true := by simp <;> omega
        have g6z : (0 : Int) < (k : Int) := by omega
        obtain rfl : n = 8 := by omega
        clear h HS HP
        go_wp2
        go_quiet (fail)
        go_wp2
        go_ret
        exact ⟨by rw [HF.out]; rfl, q0 + nq, by first | rfl | rw [World.drewN_drewN]⟩
      · have HF := hid (rl_on c n k ANS HS.out HP.out (by omega) (by omega))
        have g1 : decide ((97 : Int) ≤ (c.toNat : Int)) = false := by simp <;> omega
        have g3 : decide ((48 : Int) ≤ (c.toNat : Int)) = true := by simp <;> omega
        have g4 : decide ((c.toNat : Int) ≤ 57) = true := by simp <;> omega
        have b1 : ((c.toNat : Int) == 45) = false := beq_eq_false_iff_ne.2 (by omega)
        have g6 : decide (0 < k) = true := by simp <;> omega
        have g6z : (0 : Int) < (k : Int) := by omega
        have g7 : n < 8 := by omega
        clear h HS HP
        go_wp2
        go_quiet (fail)
        go_wp2
        go_roundw
        case rel => exact ⟨k, n + 1, i + 1, by go_num, by go_num, by go_num, by omega, by omega, by omega, HF, q0 + nq, by first | rfl | rw [World.drewN_drewN]⟩
        case measure => simp [intOf]; omega
      · have HF := hid (rl_bad c n k ANS HS.out HP.out (.inl (by omega)))
        have g1 : decide ((97 : Int) ≤ (c.toNat : Int)) = false := by simp <;> omega
        have g3 : decide ((48 : Int) ≤ (c.toNat : Int)) = true := by simp <;> omega
        have g4 : decide ((c.toNat : Int) ≤ 57) = false := by simp <;> omega
        have b1 : ((c.toNat : Int) == 45) = false := beq_eq_false_iff_ne.2 (by omega)
        clear h HS HP
        go_wp2
        go_quiet (fail)
        go_wp2
        go_ret
        exact ⟨by rw [HF.out]; rfl, q0 + nq, by first | rfl | rw [World.drewN_drewN]⟩
      · have HF := hid (rl_bad c n k ANS HS.out HP.out (.inr (by omega)))
        have g1 : decide ((97 : Int) ≤ (c.toNat : Int)) = true := by simp <;> omega
        have g2 : decide ((c.toNat : Int) ≤ 122) = true := by simp <;> omega
        have g3 : decide ((48 : Int) ≤ (c.toNat : Int)) = true := by simp <;> omega
        have g4 : decide ((c.toNat : Int) ≤ 57) = false := by simp <;> omega
        have b1 : ((c.toNat : Int) == 45) = false := beq_eq_false_iff_ne.2 (by omega)
        obtain rfl : n = 8 := by omega
        clear h HS HP
        go_wp2
        go_quiet (fail)
        go_wp2
        go_ret
        exact ⟨by rw [HF.out]; rfl, q0 + nq, by first | rfl | rw [World.drewN_drewN]⟩
      · have HF := hid (rl_on c n k ANS HS.out HP.out (by omega) (by omega))
        have g1 : decide ((97 : Int) ≤ (c.toNat : Int)) = true := by simp <;> omega
        have g2 : decide ((c.toNat : Int) ≤ 122) = true := by simp <;> omega
        have g3 : decide ((48 : Int) ≤ (c.toNat : Int)) = true := by simp <;> omega
        have g4 : decide ((c.toNat : Int) ≤ 57) = false := by simp <;> omega
        have b1 : ((c.toNat : Int) == 45) = false := beq_eq_false_iff_ne.2 (by omega)
        have g7 : n < 8 := by omega
        clear h HS HP
        go_wp2
        go_quiet (fail)
        go_wp2
        go_roundw
        case rel => exact ⟨k, n + 1, i + 1, by go_num, by go_num, by go_num, by omega, by omega, by omega, HF, q0 + nq, by first | rfl | rw [World.drewN_drewN]⟩
        case measure => simp [intOf]; omega
      · have HF := hid (rl_bad c n k ANS HS.out HP.out (.inl (by omega)))
        have g1 : decide ((97 : Int) ≤ (c.toNat : Int)) = true := by simp <;> omega
        have g2 : decide ((c.toNat : Int) ≤ 122) = false := by simp <;> omega
        have g3 : decide ((48 : Int) ≤ (c.toNat : Int)) = true := by simp <;> omega
        have g4 : decide ((c.toNat : Int) ≤ 57) = false := by simp <;> omega
        have b1 : ((c.toNat : Int) == 45) = false := beq_eq_false_iff_ne.2 (by omega)
        clear h HS HP
        go_wp2
        go_quiet (fail)
        go_wp2
        go_ret
        exact ⟨by rw [HF.out]; rfl, q0 + nq, by first | rfl | rw [World.drewN_drewN]⟩
    · obtain rfl : i = p.length := by omega
      have HF := hid (show ANS = decide (1 ≤ n) by rw [HP.out, List.drop_length]; rfl)
      obtain ⟨q0, hq0⟩ := HQ.out
      subst hq0
      clear HP
      by_cases h0 : n = 0
      · subst h0
        go_wp2
        go_ret
        exact ⟨by rw [HF.out]; rfl, q0, rfl⟩
      · have g5 : decide (0 < n) = true := by simp <;> omega
        have g5z : (0 : Int) < (n : Int) := by omega
        have HF2 := hid (show ANS = true by rw [HF.out]; simp; omega)
        clear h0 HF
        go_wp2
        go_ret
        refine ⟨?_, q0, rfl⟩
        rw [HF2.out, Bool.true_and]
        refine ret_bool ?_
        rw [decide_eq_decide]; omega
end Go.Proofs.YtagmgkplfhlifaaDoor
