/- query.Is: its parts. -/
import Derived.Test.YtagmgkplfhlifaaDoorQyAt
import Derived.Test.YtagmgkplfhlifaaDoorRPath
import Derived.Test.YtagmgkplfhlifaaDoorQPath
namespace Go.Proofs.YtagmgkplfhlifaaDoor
set_option linter.unusedVariables false
set_option linter.unusedSimpArgs false
set_option maxRecDepth 100000
open Go.ChangeShapes Go.WideShapes Go.ChangeAt Go.RowKit
open Au
theorem sindex_any (v : Value) (L : List T) (s : T) (w : World) (h : TextsAt w v L) (hn : L.length ≤ 140737488351232) :
    Calls Tryd.prog 74 #[v, str s] w fun e w' => e = .returned (.int .i64 (placeZ L s)) ∧ w' = w := by
  obtain ⟨a, cap, rfl, q1, q2, q3, hr⟩ := h.open
  obtain ⟨N, hN⟩ : ∃ N, N = L.length := ⟨_, rfl⟩
  have HN := hid hN
  have HR := hid hr
  rw [← hN] at q1 q3 hn HR ⊢
  clear hN hr h
  go_enter Tryd.func74, Tryd.ntmps74
  go_wp2
  go_loopw [8] (fun s5 wr => ∃ i : Nat, i ≤ N ∧ s5 = .int .i64 i ∧ wr = w ∧ Hid (∀ j, j < i → L.getD j [] ≠ s)) (fun s5 _ => N - (intOf s5).toNat)
  case atStart => exact ⟨0, by omega, rfl, rfl, fun j hj => absurd hj (Nat.not_lt_zero j)⟩
  case round =>
    obtain ⟨i, hi, rfl, hww, HE⟩ := hrel
    subst hww
    by_cases hlt : i < N
    · obtain ⟨b, off, hab, hc⟩ := HR.out.get hlt
      have c0 := hc i hlt
      subst hab
      have hiL : i < L.length := by rw [← HN.out]; exact hlt
      have hg : L.getD i [] = L[i] := by simp [List.getD, hiL]
      have HG := hid (show ∀ y, y = L.getD i [] → (y = s → placeZ L s = i) ∧ (y ≠ s → ∀ j, j < i + 1 → L.getD j [] ≠ s) from fun y hy => ⟨fun h => place_hit hiL (by rw [← hg, ← hy, h]) HE.out, fun h j hj => by
        by_cases hji : j < i
        · exact HE.out j hji
        · obtain rfl : j = i := by omega
          rw [← hy]; exact h⟩)
      obtain ⟨y, hy⟩ : ∃ y, y = L.getD i [] := ⟨_, rfl⟩
      rw [← hy] at c0
      have HY := hid hy
      clear hc hg hy hiL
      by_cases hys : y = s
      · have HP := hid ((HG.out y HY.out).1 hys)
        subst hys
        go_wp2
        go_ret
        exact ⟨by rw [HP.out]; rfl, rfl⟩
      · have HP := hid ((HG.out y HY.out).2 hys)
        have hb : (y == s) = false := beq_eq_false_iff_ne.2 hys
        have hb' : (s == y) = false := beq_eq_false_iff_ne.2 (Ne.symm hys)
        go_wp2
        go_roundw
        case rel => exact ⟨i + 1, by omega, by go_num, trivial, HP.out⟩
        case measure => simp [intOf]; omega
    · have HM := hid (place_miss (L := L) (s := s) fun j hj => HE.out j (by have := HN.out; omega))
      go_wp2
      go_ret
      exact ⟨by rw [HM.out]; rfl, rfl⟩
theorem scont_any (v : Value) (L : List T) (s : T) (w : World) (h : TextsAt w v L) (hn : L.length ≤ 140737488351232) :
    Calls Tryd.prog 58 #[v, str s] w fun e w' => e = .returned (.bool (decide (s ∈ L))) ∧ w' = w := by
  have C := hid (sindex_any v L s w h hn)
  obtain ⟨a, cap, rfl, q1, q2, q3, hr⟩ := h.open
  have hz := placeZ_nonneg L s
  obtain ⟨z, hz0⟩ : ∃ z, z = placeZ L s := ⟨_, rfl⟩
  rw [← hz0] at hz C
  obtain ⟨N, hN⟩ : ∃ N, N = L.length := ⟨_, rfl⟩
  rw [← hN] at C ⊢
  clear h hr hz0 hN q1 q2 q3 hn
  by_cases hm : s ∈ L
  · have h0 := hz.2 hm
    rw [decide_eq_true hm]
    clear hz hm
    go_enter Tryd.func58, Tryd.ntmps58
    go_wp2_with (go_at_call 74; refine C.out.mono ?_; rintro e w' ⟨rfl, hw⟩; subst hw)
    go_ret
    exact ⟨rfl, rfl⟩
  · have h0 : z < 0 := by
      have : ¬ 0 ≤ z := fun h => hm (hz.1 h)
      omega
    rw [decide_eq_false hm]
    clear hz hm
    go_enter Tryd.func58, Tryd.ntmps58
    go_wp2_with (go_at_call 74; refine C.out.mono ?_; rintro e w' ⟨rfl, hw⟩; subst hw)
    go_ret
    exact ⟨(by show Ending.returned (.bool (decide (0 ≤ z))) = Ending.returned (.bool false); rw [decide_eq_false (by omega)]), rfl⟩
abbrev od (x y : Nat) : Option Ordering := FloatKind.f64.format.order x y
/-- What an op says of two that stand so. -/
def opo (s : List UInt8) (o : Option Ordering) : Bool :=
  if s = [60] then o == some .lt else if s = [60, 61] then o == some .lt || o == some .eq else if s = [62] then o == some .gt else if s = [62, 61] then o == some .gt || o == some .eq
  else if s = [61] then o == some .eq else if s = [33, 61] then o != some .eq else false
theorem holds_any (x y : Nat) (s : List UInt8) (w : World) (hs : s.length ≤ 9223372036854775807) : Calls Tryd.prog 75 #[.float .f64 x, str s, .float .f64 y] w fun e w' => e = .returned (.bool (opo s (od x y))) ∧ w = w' := by
  obtain ⟨o, ho⟩ : ∃ o, o = od x y := ⟨_, rfl⟩
  have HO := hid ho
  by_cases h1 : s = [60]
  · subst h1
    go_enter Tryd.func75, Tryd.ntmps75
    go_wp2
    go_ret
    exact ⟨rfl, rfl⟩
  · by_cases h2 : s = [60, 61]
    · subst h2
      go_enter Tryd.func75, Tryd.ntmps75
      go_wp2
      go_ret
      exact ⟨rfl, rfl⟩
    · by_cases h3 : s = [62]
      · subst h3
        go_enter Tryd.func75, Tryd.ntmps75
        go_wp2
        go_ret
        exact ⟨rfl, rfl⟩
      · by_cases h4 : s = [62, 61]
        · subst h4
          go_enter Tryd.func75, Tryd.ntmps75
          go_wp2
          go_ret
          exact ⟨rfl, rfl⟩
        · by_cases h5 : s = [61]
          · subst h5
            go_enter Tryd.func75, Tryd.ntmps75
            go_wp2
            go_ret
            exact ⟨rfl, rfl⟩
          · by_cases h6 : s = [33, 61]
            · subst h6
              go_enter Tryd.func75, Tryd.ntmps75
              go_wp2
              go_ret
              exact ⟨rfl, rfl⟩
            · have e : opo s (od x y) = false := by unfold opo; rw [if_neg h1, if_neg h2, if_neg h3, if_neg h4, if_neg h5, if_neg h6]
              rw [e]
              have b1 : (s == [60]) = false := beq_eq_false_iff_ne.2 h1
              have b2 : (s == [60, 61]) = false := beq_eq_false_iff_ne.2 h2
              have b3 : (s == [62]) = false := beq_eq_false_iff_ne.2 h3
              have b4 : (s == [62, 61]) = false := beq_eq_false_iff_ne.2 h4
              have b5 : (s == [61]) = false := beq_eq_false_iff_ne.2 h5
              have b6 : (s == [33, 61]) = false := beq_eq_false_iff_ne.2 h6
              clear h1 h2 h3 h4 h5 h6 e ho
              go_enter Tryd.func75, Tryd.ntmps75
              go_wp2
              go_ret
              exact ⟨rfl, rfl⟩
/-- May a text be an op? -/
def isOp (s : T) : Bool := opo s (od 0 0) || opo s (od 0 4607182418800017408) || opo s (od 4607182418800017408 0)
theorem qisop_any (s : T) (w : World) (hs : s.length ≤ 9223372036854775807) : Calls Tryd.prog 59 #[str s] w fun e w' => e = .returned (.bool (isOp s)) ∧ w' = w := by
  have C1 := hid (fun w => holds_any 0 0 s w hs)
  have C2 := hid (fun w => holds_any 0 4607182418800017408 s w hs)
  have C3 := hid (fun w => holds_any 4607182418800017408 0 s w hs)
  unfold isOp
  generalize opo s (od 0 0) = b1 at C1 ⊢
  generalize opo s (od 0 4607182418800017408) = b2 at C2 ⊢
  generalize opo s (od 4607182418800017408 0) = b3 at C3 ⊢
  cases b1 <;> cases b2 <;> cases b3
  all_goals
    go_enter Tryd.func59, Tryd.ntmps59
    go_wp2_with (first
      | (go_at_call 75; with_reducible refine (C1.out _).mono ?_; rintro e w' ⟨rfl, hw⟩; subst hw)
      | (go_at_call 75; with_reducible refine (C2.out _).mono ?_; rintro e w' ⟨rfl, hw⟩; subst hw)
      | (go_at_call 75; with_reducible refine (C3.out _).mono ?_; rintro e w' ⟨rfl, hw⟩; subst hw))
    go_ret
    exact ⟨rfl, rfl⟩
def small (c : UInt8) : Bool := decide (97 ≤ c.toNat) && decide (c.toNat ≤ 122)
/-- May a text be a variable's name? -/
def isVar (s : T) : Bool := decide (1 ≤ s.length) && decide (s.length ≤ 8) && s.all small
theorem vall_step {p : T} {f : UInt8 → Bool} {n : Nat} {c : UInt8} (h : (p.take n).all f = true) (hc : p[n]? = some c) (hf : f c = true) : (p.take (n + 1)).all f = true := by
  rw [List.take_add_one, hc, List.all_append, h]
  simp [hf]
theorem vall_stop {p : T} {f : UInt8 → Bool} {n : Nat} {c : UInt8} (hc : p[n]? = some c) (hf : f c = false) : p.all f = false := by
  rw [List.all_eq_false]
  exact ⟨c, List.mem_of_getElem? hc, by simp [hf]⟩
theorem qisvar_any (p : T) (w : World) (hl : p.length ≤ 9223372036854775807) : Calls Tryd.prog 57 #[str p] w fun e w' => e = .returned (.bool (isVar p)) ∧ w' = w := by
  unfold isVar
  go_enter Tryd.func57, Tryd.ntmps57
  by_cases h0 : p = []
  · subst h0
    go_wp2
    go_ret
    exact ⟨rfl, rfl⟩
  have h1 : 1 ≤ p.length := by have := List.length_pos_iff.2 h0; omega
  have he : p.isEmpty = false := by simpa using h0
  by_cases h8 : 8 < p.length
  · go_wp2
    go_ret
    exact ⟨by simp; omega, rfl⟩
  go_wp2
  go_loop [13] (fun s => ∃ n : Nat, n ≤ p.length ∧ (p.take n).all small = true ∧ s = .int .i64 n) (fun s => p.length - (intOf s).toNat)
  case atStart => exact ⟨0, by omega, by simp, rfl⟩
  case round =>
    obtain ⟨n, hn, ha, rfl⟩ := hrel
    by_cases hnl : n < p.length
    · obtain ⟨c, hc⟩ : ∃ c, p[n]? = some c := ⟨_, List.getElem?_eq_getElem hnl⟩
      have hcc := fun q => ba_get p n c hc q
      have HS := hid (fun hf => vall_step (f := small) ha hc hf)
      have HN := hid (fun hf => vall_stop (f := small) hc hf)
      clear hc ha
      have H := hid (show small c = (decide (97 ≤ c.toNat) && decide (c.toNat ≤ 122)) from rfl)
      rcases (show c.toNat < 97 ∨ (97 ≤ c.toNat ∧ c.toNat ≤ 122) ∨ 122 < c.toNat by omega) with hx | ⟨hx, hy⟩ | hx
      all_goals go_wp2
      all_goals first
        | (go_round
           case rel => exact ⟨n + 1, by omega, HS.out (by rw [H.out]; simp <;> omega), by go_num⟩
           case measure => simp [intOf]; omega)
        | (go_ret
           exact ⟨by rw [HN.out (by rw [H.out]; simp <;> omega)]; simp, rfl⟩)
    · have hnn : n = p.length := by omega
      have HA := hid (show p.all small = true by rw [hnn, List.take_length] at ha; exact ha)
      clear ha
      go_wp2
      go_ret
      exact ⟨by rw [HA.out]; simp; omega, rfl⟩
end Go.Proofs.YtagmgkplfhlifaaDoor
