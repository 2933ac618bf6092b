/- What is valid stays so behind one another, and escaped: plain facts. -/
import Derived.Test.YtemkbmhcohijnaaGreatDoorTmEnc
import Derived.Test.YtemkbmhcohijnaaGreatDoorTmTerm
namespace Go.Proofs.YtemkbmhcohijnaaGreatDoor.Tm
set_option linter.unusedVariables false
set_option linter.unusedSimpArgs false
set_option maxRecDepth 100000
open Go

/-- A rune that may be hangs on its own bytes alone. -/
theorem decN_ext (n n' b0 b1 b2 b3 c1 c2 c3 : Nat) (hv : ¬ ((Lib.decodeN n b0 b1 b2 b3).1 = 65533 ∧ (Lib.decodeN n b0 b1 b2 b3).2 = 1)) (hn : (Lib.decodeN n b0 b1 b2 b3).2 ≤ n') (h1 : 1 < (Lib.decodeN n b0 b1 b2 b3).2 → c1 = b1) (h2 : 2 < (Lib.decodeN n b0 b1 b2 b3).2 → c2 = b2) (h3 : 3 < (Lib.decodeN n b0 b1 b2 b3).2 → c3 = b3) :
    Lib.decodeN n' b0 c1 c2 c3 = Lib.decodeN n b0 b1 b2 b3 := by
  unfold Lib.decodeN at *
  by_cases a : b0 < 128
  · rw [if_pos a, if_pos a]
  rw [if_neg a] at hv hn h1 h2 h3 ⊢
  rw [if_neg a]
  by_cases a1 : b0 / 32 = 6 ∧ (1 < n ∧ b1 / 64 = 2)
  · rw [if_pos a1] at hv hn h1 h2 h3 ⊢
    by_cases g : b0 % 32 * 64 + b1 % 64 ≥ 128
    · rw [if_pos g] at hn h1 h2 h3 ⊢
      have e := h1 (by simp)
      subst e
      simp only at hn
      rw [if_pos (show b0 / 32 = 6 ∧ (1 < n' ∧ c1 / 64 = 2) from ⟨a1.1, by omega, a1.2.2⟩), if_pos g]
    · rw [if_neg g] at hv; exact absurd ⟨rfl, rfl⟩ hv
  rw [if_neg a1] at hv hn h1 h2 h3 ⊢
  by_cases a2 : b0 / 16 = 14 ∧ (1 < n ∧ b1 / 64 = 2) ∧ (2 < n ∧ b2 / 64 = 2)
  · rw [if_pos a2] at hv hn h1 h2 h3 ⊢
    split at hv
    · rename_i g
      rw [if_pos g] at hn h1 h2 h3 ⊢
      have e := h1 (by simp)
      have e2 := h2 (by simp)
      subst e
      subst e2
      simp only at hn
      obtain ⟨p, ⟨q, r⟩, q2, r2⟩ := a2
      rw [if_neg (show ¬ (b0 / 32 = 6 ∧ (1 < n' ∧ c1 / 64 = 2)) by omega), if_pos (show b0 / 16 = 14 ∧ (1 < n' ∧ c1 / 64 = 2) ∧ (2 < n' ∧ c2 / 64 = 2) from ⟨p, ⟨by omega, r⟩, by omega, r2⟩), if_pos g]
    · exact absurd ⟨rfl, rfl⟩ hv
  rw [if_neg a2] at hv hn h1 h2 h3 ⊢
  by_cases a3 : b0 / 8 = 30 ∧ (1 < n ∧ b1 / 64 = 2) ∧ (2 < n ∧ b2 / 64 = 2) ∧ (3 < n ∧ b3 / 64 = 2)
  · rw [if_pos a3] at hv hn h1 h2 h3 ⊢
    split at hv
    · rename_i g
      rw [if_pos g] at hn h1 h2 h3 ⊢
      have e := h1 (by simp)
      have e2 := h2 (by simp)
      have e3 := h3 (by simp)
      subst e
      subst e2
      subst e3
      simp only at hn
      obtain ⟨p, ⟨q, r⟩, ⟨q2, r2⟩, q3, r3⟩ := a3
      rw [if_neg (show ¬ (b0 / 32 = 6 ∧ (1 < n' ∧ c1 / 64 = 2)) by omega), if_neg (show ¬ (b0 / 16 = 14 ∧ (1 < n' ∧ c1 / 64 = 2) ∧ (2 < n' ∧ c2 / 64 = 2)) by omega), if_pos (show b0 / 8 = 30 ∧ (1 < n' ∧ c1 / 64 = 2) ∧ (2 < n' ∧ c2 / 64 = 2) ∧ (3 < n' ∧ c3 / 64 = 2) from ⟨p, ⟨by omega, r⟩, ⟨by omega, r2⟩, by omega, r3⟩), if_pos g]
    · exact absurd ⟨rfl, rfl⟩ hv
  rw [if_neg a3] at hv
  exact absurd ⟨rfl, rfl⟩ hv
theorem getD_app {a b : List UInt8} {k : Nat} (h : k < a.length) : (a ++ b).getD k 0 = a.getD k 0 := by
  simp [List.getD, List.getElem?_append_left h]
/-- A rune that may be takes no more bytes than there are. -/
theorem decL_le (a : List UInt8) (ha : a ≠ []) (hv : ¬ ((Lib.decodeL a).1 = 65533 ∧ (Lib.decodeL a).2 = 1)) : (Lib.decodeL a).2 ≤ a.length := by
  have hl : 0 < a.length := List.length_pos_iff.2 ha
  rw [Lib.decodeL_N] at hv ⊢
  revert hv
  generalize (a.getD 0 0).toNat = b0
  generalize (a.getD 1 0).toNat = b1
  generalize (a.getD 2 0).toNat = b2
  generalize (a.getD 3 0).toNat = b3
  unfold Lib.decodeN
  repeat' split
  all_goals (intro hv; simp_all <;> omega)
theorem decL_same (a b : List UInt8) (ha : a ≠ []) (hv : ¬ ((Lib.decodeL a).1 = 65533 ∧ (Lib.decodeL a).2 = 1)) (hb : (Lib.decodeL a).2 ≤ b.length) (h : ∀ k, k < (Lib.decodeL a).2 → b.getD k 0 = a.getD k 0) : Lib.decodeL b = Lib.decodeL a := by
  have hw := Lib.decodeL_width a
  have h0 := h 0 (by omega)
  rw [Lib.decodeL_N] at hv hb h
  rw [Lib.decodeL_N, Lib.decodeL_N, h0]
  exact decN_ext _ _ _ _ _ _ _ _ _ hv hb (fun hk => by rw [h 1 hk]) (fun hk => by rw [h 2 hk]) (fun hk => by rw [h 3 hk])
theorem decL_app (a b : List UInt8) (ha : a ≠ []) (hv : ¬ ((Lib.decodeL a).1 = 65533 ∧ (Lib.decodeL a).2 = 1)) : Lib.decodeL (a ++ b) = Lib.decodeL a := by
  have hle := decL_le a ha hv
  exact decL_same a (a ++ b) ha hv (by rw [List.length_append]; omega) (fun k hk => getD_app (by omega))
theorem valid_app : ∀ (n : Nat) (a b : List UInt8), a.length ≤ n → Lib.validD a = true → Lib.validD (a ++ b) = Lib.validD b
  | _, [], b, _, _ => rfl
  | 0, c :: a, b, hn, _ => by simp at hn
  | n + 1, c :: a, b, hn, h => by
    have hne : (c :: a : List UInt8) ≠ [] := by simp
    rw [Lib.validD_step _ hne] at h
    split at h
    · cases h
    · rename_i hv
      have hd := decL_app (c :: a) b hne hv
      have hle := decL_le (c :: a) hne hv
      have hw := Lib.decodeL_width (c :: a)
      rw [Lib.validD_step (c :: a ++ b) (by simp), hd, if_neg hv, List.drop_append_of_le_length hle]
      refine valid_app n _ b ?_ h
      rw [List.length_drop]
      simp only [List.length_cons] at hn hw ⊢
      omega
theorem valid_one (c : UInt8) (h : c.toNat < 128) : Lib.validD [c] = true := by rw [Lib.validD_cons _ _ h]; rfl
theorem valid_low : ∀ (s : List UInt8), (∀ c ∈ s, c.toNat < 128) → Lib.validD s = true
  | [], _ => rfl
  | c :: s, h => by rw [Lib.validD_cons _ _ (h c (by simp)), valid_low s (fun d hd => h d (by simp [hd]))]
theorem hexd_lt : ∀ k : Fin 16, (hexd k.val).toNat < 128 := by decide
theorem esc_lo (c : UInt8) (h : c.toNat < 128) : ∀ d ∈ esc c, d.toNat < 128 := by
  unfold esc
  have h1 := hexd_lt ⟨c.toNat / 16, by omega⟩
  have h2 := hexd_lt ⟨c.toNat % 16, by omega⟩
  simp only at h1 h2
  intro d hd
  split at hd
  · simp at hd; rcases hd with rfl | rfl; decide; exact h
  repeat' (split at hd)
  all_goals (simp at hd)
  all_goals first
    | (rcases hd with rfl | rfl <;> decide)
    | (rcases hd with rfl | rfl | rfl | rfl | rfl <;> first | exact h1 | exact h2 | decide)
    | (subst hd; exact h)
theorem esc_hi (c : UInt8) (h : 128 ≤ c.toNat) : esc c = [c] :=
  esc_plain c (by omega) (fun e => by subst e; revert h; decide) (fun e => by subst e; revert h; decide) (fun e => by subst e; revert h; decide)
theorem escs_hi : ∀ (s : List UInt8), (∀ c ∈ s, 128 ≤ c.toNat) → escs s = s
  | [], _ => rfl
  | c :: s, h => by rw [escs_cons, esc_hi c (h c (by simp)), escs_hi s (fun d hd => h d (by simp [hd]))]; rfl
/-- All bytes of a rune from 128 on are so. -/
theorem decL_hi (a : List UInt8) (ha : a ≠ []) (h0 : 128 ≤ (a.getD 0 0).toNat) : ∀ c ∈ a.take (Lib.decodeL a).2, 128 ≤ c.toNat := by
  intro c hc
  obtain ⟨k, hk, e⟩ := List.mem_iff_getElem.1 hc
  have hkw : k < (Lib.decodeL a).2 := by rw [List.length_take] at hk; omega
  have hkl : k < a.length := by rw [List.length_take] at hk; omega
  have e2 : a.getD k 0 = c := by
    rw [← e, List.getElem_take]
    rw [List.getD, List.getElem?_eq_getElem hkl]
    rfl
  have ht := decodeN_tail a.length (a.getD 0 0).toNat (a.getD 1 0).toNat (a.getD 2 0).toNat (a.getD 3 0).toNat
  rw [← Lib.decodeL_N] at ht
  obtain ⟨t1, t2, t3, t4⟩ := ht
  have : k = 0 ∨ k = 1 ∨ k = 2 ∨ k = 3 := by omega
  rcases this with rfl | rfl | rfl | rfl
  · rw [← e2]; exact h0
  · have := t1 (by omega); rw [e2] at this; omega
  · have := t2 (by omega); rw [e2] at this; omega
  · have := t3 (by omega); rw [e2] at this; omega
theorem valid_escs : ∀ (n : Nat) (s : List UInt8), s.length ≤ n → Lib.validD s = true → Lib.validD (escs s) = true
  | _, [], _, _ => rfl
  | 0, c :: s, hn, _ => by simp at hn
  | n + 1, c :: s, hn, h => by
    simp only [List.length_cons] at hn
    by_cases hc : c.toNat < 128
    · rw [Lib.validD_cons _ _ hc] at h
      rw [escs_cons, valid_app _ _ _ (Nat.le_refl _) (valid_low _ (esc_lo c hc))]
      exact valid_escs n s (by omega) h
    · have hne : (c :: s : List UInt8) ≠ [] := by simp
      have h' := h
      rw [Lib.validD_step _ hne] at h'
      split at h'
      · cases h'
      · rename_i hv
        have hle := decL_le (c :: s) hne hv
        have hw := Lib.decodeL_width (c :: s)
        have hhi := decL_hi (c :: s) hne (by simp only [List.getD_cons_zero]; omega)
        have hsp := List.take_append_drop (Lib.decodeL (c :: s)).2 (c :: s)
        obtain ⟨k, hk⟩ : ∃ k, k = (Lib.decodeL (c :: s)).2 := ⟨_, rfl⟩
        rw [← hk] at hle hw hhi hsp h' hv
        have htl : ((c :: s).take k).length = k := by rw [List.length_take]; omega
        have hvt : Lib.validD ((c :: s).take k) = true := by
          have hne2 : (c :: s).take k ≠ [] := by intro e; have := congrArg List.length e; rw [htl] at this; simp at this; omega
          have hd : Lib.decodeL ((c :: s).take k) = Lib.decodeL (c :: s) := by
            refine decL_same (c :: s) _ hne (by rw [← hk]; exact hv) (by rw [htl, hk]; exact Nat.le_refl _) (fun j hj => ?_)
            rw [← hk] at hj
            simp [List.getD, List.getElem?_take, hj]
          rw [Lib.validD_step _ hne2, hd, if_neg (by rw [← hk]; exact hv), List.drop_eq_nil_of_le (by rw [htl, hk]; exact Nat.le_refl _)]
          rfl
        rw [← hsp, escs_append, escs_hi _ hhi, valid_app _ _ _ (Nat.le_refl _) hvt]
        refine valid_escs n _ ?_ h'
        rw [List.length_drop]; simp only [List.length_cons]; omega
end Go.Proofs.YtemkbmhcohijnaaGreatDoor.Tm
