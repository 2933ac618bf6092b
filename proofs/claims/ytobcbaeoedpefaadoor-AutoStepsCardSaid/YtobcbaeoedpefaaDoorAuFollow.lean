/- auto's follow. -/
import Derived.Test.YtobcbaeoedpefaaDoorAuPlace
namespace Go.Proofs.YtobcbaeoedpefaaDoor
set_option linter.unusedVariables false
set_option linter.unusedSimpArgs false
set_option maxRecDepth 100000
open Go.ChangeShapes Go.WideShapes Go.ChangeAt Go.RowKit
open Au
/-- The first i rows of steps, with those of t where f has their place. -/
def ufol (nx : List Nat) (f t i : Nat) : List Nat := (List.range nx.length).map fun j => if j < i ∧ f.testBit j = true then nx.getD j 0 ||| t else nx.getD j 0
theorem ufol_len (nx : List Nat) (f t i : Nat) : (ufol nx f t i).length = nx.length := by simp [ufol]
theorem ufol_get (nx : List Nat) (f t i j : Nat) (h : j < nx.length) : (ufol nx f t i).getD j 0 = if j < i ∧ f.testBit j = true then nx.getD j 0 ||| t else nx.getD j 0 := by simp [ufol, List.getD, h]
theorem ufol_zero (nx : List Nat) (f t : Nat) : ufol nx f t 0 = nx := by
  apply List.ext_getElem (by simp [ufol])
  intro j h1 h2
  simp [ufol, List.getD, h2]
theorem ufol_no (nx : List Nat) (f t i : Nat) (h : f.testBit i = false) : ufol nx f t (i + 1) = ufol nx f t i := by
  unfold ufol
  refine List.map_congr_left fun j _ => ?_
  by_cases hj : j = i
  · subst hj; rw [h]; simp
  · have : (j < i + 1) ↔ j < i := by omega
    simp only [this]
theorem ufol_yes (nx : List Nat) (f t i : Nat) (h : f.testBit i = true) (hi : i < nx.length) : (ufol nx f t i).set i (nx.getD i 0 ||| t) = ufol nx f t (i + 1) := by
  apply List.ext_getElem (by simp [ufol])
  intro j h1 h2
  have hj : j < nx.length := by simpa [ufol] using h2
  rw [List.getElem_set]
  split
  · rename_i e; subst e; simp [ufol, h]
  · rename_i e
    simp only [ufol, List.getElem_map, List.getElem_range]
    have : (j < i + 1) ↔ j < i := by omega
    simp only [this]
set_option maxHeartbeats 2000000 in
theorem follow_au {B : Nat} {Y : Nat → Prop} {w : World} {p lb cl nb cn : Nat} {lxs : List Value} {ls : List Lb} {nx : List Nat} {last : Nat} (f t : Nat)
    (h : AuAt B Y w p lb cl nb cn lxs ls nx last) (hn : nx.length ≤ 32) (hf : f < 2 ^ 32) (ht : t < 2 ^ 32) (hx : ∀ j, nx.getD j 0 < 2 ^ 32) :
    Calls Tryd.prog 43 #[.pointer (some ⟨p, 0, none⟩), u32v f, u32v t] w fun e w' => e = .returned (.tuple #[]) ∧ AuAt B Y w' p lb cl nb cn lxs ls (ufol nx f t nx.length) last ∧ Frm (fun k => k = nb) w w' := by
  have HA := hid fun i (hi : i < 64) w => has_any f i hf hi w
  have c1 := h.blk.cell (i := 1) rfl
  have HX := hid hx
  have H := hid h
  have HF := hid hf
  have HTT := hid ht
  have HS := hid fun i => ufol_len nx f t i
  obtain ⟨N, hN⟩ : ∃ N, N = nx.length := ⟨_, rfl⟩
  have HN := hid hN
  rw [← hN] at hn c1 ⊢
  have hq := (own_blk h.nown).2.2.1
  have hq2 := (own_blk h.nown).2.2.2.1
  rw [← hN] at hq
  clear h hx hN hf ht
  simp only [u32v] at HA
  unfold u32v
  go_enter Tryd.func43, Tryd.ntmps43
  go_wp2
  go_loopw [12] (fun s12 wr => ∃ i : Nat, i ≤ N ∧ s12 = .int .i64 i ∧ Hid (AuAt B Y wr p lb cl nb cn lxs ls (ufol nx f t i) last) ∧ Hid (Frm (fun k => k = nb) w wr)) (fun s12 _ => N - (intOf s12).toNat)
  case atStart => exact ⟨0, by omega, rfl, hid (by rw [ufol_zero]; exact H.out), Frm.refl _ _⟩
  case round =>
    obtain ⟨i, hi, rfl, HAu, HFr⟩ := hrel
    by_cases hlt : i < N
    · have hiN : i < nx.length := by rw [← HN.out]; exact hlt
      have d1 := HAu.out.blk.cell (i := 1) rfl
      rw [HS.out, ← HN.out] at d1
      have hc := HAu.out.nextCell (i := i) (by rw [HS.out]; exact hiN)
      obtain ⟨e0, fz⟩ := hc
      have hg : (ufol nx f t i).getD i 0 = nx.getD i 0 := by rw [ufol_get _ _ _ _ _ hiN]; simp
      rw [hg] at e0
      have hxi := HX.out i
      have HAi := hid fun w => HA.out i (by omega) w
      obtain ⟨x, hx⟩ : ∃ x, x = nx.getD i 0 := ⟨_, rfl⟩
      rw [← hx] at e0 hxi
      have ho := or_u32 x t hxi HTT.out
      have HX2 := hid hx
      have HIN := hid hiN
      simp only [u32v] at e0
      clear hx hg hiN
      cases hb : f.testBit i
      · rw [hb] at HAi
        have HU := hid (ufol_no nx f t i hb)
        clear hb
        go_wp2_with (go_at_call 34; refine (HAi.out _).mono ?_; rintro e w' ⟨rfl, hw⟩; subst hw)
        go_roundw
        case rel => exact ⟨i + 1, by omega, by go_num, hid (by rw [HU.out]; exact HAu.out), HFr.out⟩
        case measure => simp [intOf]; omega
      · rw [hb] at HAi
        have HU := hid (ufol_yes nx f t i hb HIN.out)
        clear hb
        go_wp2_with (go_at_call 34; refine (HAi.out _).mono ?_; rintro e w' ⟨rfl, hw⟩; subst hw)
        go_roundw
        case rel =>
          refine ⟨i + 1, by omega, by go_num, ?_, ?_⟩
          · have h := HAu.out.setNext i (x ||| t) (by rw [HS.out]; exact HIN.out)
            rw [HX2.out, HU.out] at h
            rw [HX2.out]
            exact h
          · exact Frm.set (X := fun k => k = nb) HFr.out (Or.inl rfl) _ _
        case measure => simp [intOf]; omega
    · obtain rfl : i = N := by omega
      go_wp2
      refine bodyPost_end (v := .tuple #[]) (by kernel_rfl) rfl ?_
      exact ⟨rfl, HAu.out, HFr.out⟩
end Go.Proofs.YtobcbaeoedpefaaDoor
