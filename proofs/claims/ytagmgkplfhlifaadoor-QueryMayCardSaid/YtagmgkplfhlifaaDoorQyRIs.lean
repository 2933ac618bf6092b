/- ref12's Is: its parts. -/
import Derived.Test.YtagmgkplfhlifaaDoorQyIs2
import Derived.Test.YtagmgkplfhlifaaDoorRMay
namespace Go.Proofs.YtagmgkplfhlifaaDoor
set_option linter.unusedVariables false
set_option linter.unusedSimpArgs false
set_option maxRecDepth 100000
open Go.ChangeShapes Go.WideShapes Go.ChangeAt Go.RowKit
open Au
theorem isOp_six (s : T) : isOp s = (decide (s = [60]) || decide (s = [60, 61]) || decide (s = [62]) || decide (s = [62, 61]) || decide (s = [61]) || decide (s = [33, 61])) := by
  have o1 : od 0 0 = some .eq := by decide +kernel
  have o2 : od 0 4607182418800017408 = some .lt := by decide +kernel
  have o3 : od 4607182418800017408 0 = some .gt := by decide +kernel
  unfold isOp
  rw [o1, o2, o3]
  unfold opo
  by_cases h1 : s = [60]
  · subst h1; decide
  by_cases h2 : s = [60, 61]
  · subst h2; decide
  by_cases h3 : s = [62]
  · subst h3; decide
  by_cases h4 : s = [62, 61]
  · subst h4; decide
  by_cases h5 : s = [61]
  · subst h5; decide
  by_cases h6 : s = [33, 61]
  · subst h6; decide
  simp [h1, h2, h3, h4, h5, h6]
theorem rop_any (s : T) (w : World) : Calls Tryd.prog 44 #[str s] w fun e w' => e = .returned (.bool (isOp s)) ∧ w' = w := by
  rw [isOp_six]
  by_cases h1 : s = [60]
  · subst h1
    go_enter Tryd.func44, Tryd.ntmps44
    go_wp2
    go_ret
    exact ⟨rfl, rfl⟩
  · by_cases h2 : s = [60, 61]
    · subst h2
      go_enter Tryd.func44, Tryd.ntmps44
      go_wp2
      go_ret
      exact ⟨rfl, rfl⟩
    · by_cases h3 : s = [62]
      · subst h3
        go_enter Tryd.func44, Tryd.ntmps44
        go_wp2
        go_ret
        exact ⟨rfl, rfl⟩
      · by_cases h4 : s = [62, 61]
        · subst h4
          go_enter Tryd.func44, Tryd.ntmps44
          go_wp2
          go_ret
          exact ⟨rfl, rfl⟩
        · by_cases h5 : s = [61]
          · subst h5
            go_enter Tryd.func44, Tryd.ntmps44
            go_wp2
            go_ret
            exact ⟨rfl, rfl⟩
          · by_cases h6 : s = [33, 61]
            · subst h6
              go_enter Tryd.func44, Tryd.ntmps44
              go_wp2
              go_ret
              exact ⟨rfl, rfl⟩
            · have HF := hid (show (decide (s = [60]) || decide (s = [60, 61]) || decide (s = [62]) || decide (s = [62, 61]) || decide (s = [61]) || decide (s = [33, 61])) = false by simp [h1, h2, h3, h4, h5, h6])
              rw [HF.out]
              have b1 : (s == [60]) = false := beq_eq_false_iff_ne.2 h1
              have b2 : (s == [60, 61]) = false := beq_eq_false_iff_ne.2 h2
              have b3 : (s == [62]) = false := beq_eq_false_iff_ne.2 h3
              have b4 : (s == [62, 61]) = false := beq_eq_false_iff_ne.2 h4
              have b5 : (s == [61]) = false := beq_eq_false_iff_ne.2 h5
              have b6 : (s == [33, 61]) = false := beq_eq_false_iff_ne.2 h6
              clear h1 h2 h3 h4 h5 h6
              go_enter Tryd.func44, Tryd.ntmps44
              go_wp2
              go_ret
              exact ⟨rfl, rfl⟩
theorem rname_any (p : T) (w : World) (hl : p.length ≤ 9223372036854775807) : Calls Tryd.prog 60 #[str p] w fun e w' => e = .returned (.bool (isVar p)) ∧ w' = w := by
  unfold isVar
  go_enter Tryd.func60, Tryd.ntmps60
  go_wp2
  go_loop [3] (fun s => ∃ n : Nat, n ≤ p.length ∧ (p.take n).all small = true ∧ s = .int .i64 n) (fun s => p.length - (intOf s).toNat)
  case atStart => exact ⟨0, by omega, by simp, rfl⟩
  case round =>
    obtain ⟨n, hn, ha, rfl⟩ := hrel
    by_cases hnl : n < p.length
    · obtain ⟨c, hc⟩ : ∃ c, p[n]? = some c := ⟨_, List.getElem?_eq_getElem hnl⟩
      have hcc := fun q => ba_get p n c hc q
      have HS := hid (fun hf => vall_step (f := small) ha hc hf)
      have HN := hid (fun hf => vall_stop (f := small) hc hf)
      clear hc ha
      have H := hid (show small c = (decide (97 ≤ c.toNat) && decide (c.toNat ≤ 122)) from rfl)
      rcases (show c.toNat < 97 ∨ (97 ≤ c.toNat ∧ c.toNat ≤ 122) ∨ 122 < c.toNat by omega) with hx | ⟨hx, hy⟩ | hx
      all_goals go_wp2
      all_goals first
        | (go_round
           case rel => exact ⟨n + 1, by omega, HS.out (by rw [H.out]; simp <;> omega), by go_num⟩
           case measure => simp [intOf]; omega)
        | (go_ret
           exact ⟨by rw [HN.out (by rw [H.out]; simp <;> omega)]; simp, rfl⟩)
    · have hnn : n = p.length := by omega
      have HA := hid (show p.all small = true by rw [hnn, List.take_length] at ha; exact ha)
      clear ha hnn
      by_cases h1 : 1 ≤ p.length
      · have h1z : 1 ≤ (p.length : Int) := by omega
        by_cases h8 : p.length ≤ 8
        · have h8z : (p.length : Int) ≤ 8 := by omega
          go_wp2
          go_ret
          exact ⟨by first | rfl | (rw [HA.out]; rfl) | (rw [HA.out]; simp; omega), rfl⟩
        · have h8z : ¬ (p.length : Int) ≤ 8 := by omega
          go_wp2
          go_ret
          exact ⟨by first | rfl | (rw [HA.out]; rfl) | (rw [HA.out]; simp; omega), rfl⟩
      · have h1z : ¬ 1 ≤ (p.length : Int) := by omega
        go_wp2
        go_ret
        exact ⟨by first | rfl | (rw [HA.out]; rfl) | (rw [HA.out]; simp; omega), rfl⟩
/-- Of an end's term, where it is one, ref4's Is tells I. -/
def JOk (I : Int → T → T → Bool) (w : World) (e : En) : Prop := e.v = [] → ∀ W, Below w.heap.size w W → Calls Tryd.prog 61 #[.agg #[.int .i64 e.k, str e.t, str e.x]] W fun o W' => o = .returned (.bool (I e.k e.t e.x)) ∧ Below W.heap.size W W'
theorem JOk.keep {I : Int → T → T → Bool} {w w' : World} {e : En} (h : JOk I w e) (hb : Below w.heap.size w w') : JOk I w' e := fun h0 W hW => h h0 W (below_then hb hW)
theorem rend_any (I : Int → T → T → Bool) (e : En) (w : World) (hok : okE e) (hI : JOk I w e) :
    Calls Tryd.prog 43 #[enV e] w fun o w' => o = .returned (.bool (e.is I)) ∧ Below w.heap.size w w' := by
  obtain ⟨v, k, t, x⟩ := e
  have HB := hid (show Below w.heap.size w (w.alloc (.cells #[str v, .int .i64 k, str t, str x] 51)) from (Below.refl _ _).alloc (Nat.le_refl _) _)
  have E := hid (eq_term0 k t x)
  have hvl : v.length ≤ 9223372036854775807 := by have := hok.2.1; simp only at this; omega
  have V := hid (fun W => rname_any v W hvl)
  unfold En.is enV
  simp only
  by_cases h0 : v = []
  · subst h0
    rw [if_pos rfl]
    have C := hid (hI rfl _ HB.out)
    clear hI hok hvl
    go_enter Tryd.func43, Tryd.ntmps43
    go_wp2_with (go_at_call 61; refine C.out.mono ?_; rintro e w' ⟨rfl, hb⟩; have HC := hid hb; clear hb)
    go_ret
    exact ⟨rfl, below_then HB.out HC.out⟩
  · rw [if_neg h0]
    have hie : v.isEmpty = false := by cases v with | nil => exact absurd rfl h0 | cons c l => rfl
    generalize isVar v = b at V ⊢
    generalize decide (k = 0 ∧ t = [] ∧ x = []) = d at E ⊢
    have E1 := fun w => E.out w
    clear hI hok hvl
    cases b
    · go_enter Tryd.func43, Tryd.ntmps43
      go_wp2_with (go_at_call 60; refine (V.out _).mono ?_; rintro e w' ⟨rfl, hw⟩; subst hw)
      go_ret
      exact ⟨rfl, HB.out⟩
    · go_enter Tryd.func43, Tryd.ntmps43
      go_wp2_with (go_at_call 60; refine (V.out _).mono ?_; rintro e w' ⟨rfl, hw⟩; subst hw)
      go_ret
      exact ⟨by simp, HB.out⟩
end Go.Proofs.YtagmgkplfhlifaaDoor
