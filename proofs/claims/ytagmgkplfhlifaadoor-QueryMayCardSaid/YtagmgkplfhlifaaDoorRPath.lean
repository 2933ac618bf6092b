/- The document's own Kids, may, IsPath, Place; the laws' big. -/
import Derived.Test.YtagmgkplfhlifaaDoorQPath
import Derived.Test.YtagmgkplfhlifaaDoorTmRIri
namespace Go.Proofs.YtagmgkplfhlifaaDoor
set_option linter.unusedVariables false
set_option linter.unusedSimpArgs false
set_option maxRecDepth 100000
open Go.ChangeShapes Go.WideShapes Go.ChangeAt Go.RowKit
open Au
theorem rkids_any (k : Int) (w : World) : Calls Tryd.prog 52 #[.int .i64 k] w fun e w' => e = .returned (.int .i64 (Pt.kidsOf k)) ∧ w' = w := by
  rcases (show k = 1 ∨ k = 2 ∨ k = 3 ∨ k = 4 ∨ k = 5 ∨ k = 6 ∨ k = 7 ∨ k = 8 ∨ (k ≠ 1 ∧ k ≠ 2 ∧ k ≠ 3 ∧ k ≠ 4 ∧ k ≠ 5 ∧ k ≠ 6 ∧ k ≠ 7 ∧ k ≠ 8) by omega) with h | h | h | h | h | h | h | h | h
  all_goals (try subst h)
  all_goals (try (
    go_enter Tryd.func52, Tryd.ntmps52
    go_wp2
    go_ret
    exact ⟨rfl, rfl⟩))
  obtain ⟨h1, h2, h3, h4, h5, h6, h7, h8⟩ := h
  have e : Pt.kidsOf k = -1 := by unfold Pt.kidsOf; rw [if_neg (by omega), if_neg (by omega), if_neg (by omega)]
  have b1 : (k == 1) = false := beq_eq_false_iff_ne.2 h1
  have b2 : (k == 2) = false := beq_eq_false_iff_ne.2 h2
  have b3 : (k == 3) = false := beq_eq_false_iff_ne.2 h3
  have b4 : (k == 4) = false := beq_eq_false_iff_ne.2 h4
  have b5 : (k == 5) = false := beq_eq_false_iff_ne.2 h5
  have b6 : (k == 6) = false := beq_eq_false_iff_ne.2 h6
  have b7 : (k == 7) = false := beq_eq_false_iff_ne.2 h7
  have b8 : (k == 8) = false := beq_eq_false_iff_ne.2 h8
  rw [e]
  clear h1 h2 h3 h4 h5 h6 h7 h8 e
  go_enter Tryd.func52, Tryd.ntmps52
  go_wp2
  go_ret
  exact ⟨rfl, rfl⟩
/-- Where a text stands among some, as a whole number; -1. -/
def placeZ (L : List T) (s : T) : Int := if s ∈ L then (L.idxOf s : Nat) else -1
theorem place_hit {L : List T} {s : T} {i : Nat} (h : i < L.length) (h1 : L[i] = s) (h2 : ∀ j, j < i → L.getD j [] ≠ s) : placeZ L s = i := by
  have hm : s ∈ L := by rw [← h1]; exact List.getElem_mem _
  unfold placeZ
  rw [if_pos hm]
  have h3 : L.idxOf s < L.length := List.idxOf_lt_length_iff.2 hm
  have h4 : L[L.idxOf s] = s := List.getElem_idxOf h3
  rcases Nat.lt_trichotomy (L.idxOf s) i with h5 | h5 | h5
  · exact absurd (by simp [List.getD, h3, h4]) (h2 _ h5)
  · rw [h5]
  · exfalso
    have := List.not_of_lt_findIdx (p := (· == s)) (xs := L) (i := i) (by simpa [List.idxOf] using h5)
    rw [h1] at this
    simp at this
theorem place_miss {L : List T} {s : T} (h : ∀ j, j < L.length → L.getD j [] ≠ s) : placeZ L s = -1 := by
  unfold placeZ
  rw [if_neg]
  intro hm
  obtain ⟨j, hj, e⟩ := List.getElem_of_mem hm
  exact h j hj (by simpa [List.getD, hj] using e)
theorem placeZ_nonneg (L : List T) (s : T) : (0 ≤ placeZ L s) ↔ s ∈ L := by
  unfold placeZ; split <;> simp_all
theorem placeZ_neg (L : List T) (s : T) : (placeZ L s < 0) ↔ s ∉ L := by
  unfold placeZ; split <;> simp_all
theorem place_any (v : Value) (L : List T) (s : T) (w : World) (h : TextsAt w v L) (hn : L.length ≤ 140737488351232) :
    Calls Tryd.prog 28 #[v, str s] w fun e w' => e = .returned (.int .i64 (placeZ L s)) ∧ w' = w := by
  obtain ⟨a, cap, rfl, q1, q2, q3, hr⟩ := h.open
  obtain ⟨N, hN⟩ : ∃ N, N = L.length := ⟨_, rfl⟩
  have HN := hid hN
  have HR := hid hr
  rw [← hN] at q1 q3 hn HR ⊢
  clear hN hr h
  go_enter Tryd.func28, Tryd.ntmps28
  go_wp2
  go_loopw [5] (fun s5 wr => ∃ i : Nat, i ≤ N ∧ s5 = .int .i64 i ∧ wr = w ∧ Hid (∀ j, j < i → L.getD j [] ≠ s)) (fun s5 _ => N - (intOf s5).toNat)
  case atStart => exact ⟨0, by omega, rfl, rfl, fun j hj => absurd hj (Nat.not_lt_zero j)⟩
  case round =>
    obtain ⟨i, hi, rfl, hww, HE⟩ := hrel
    subst hww
    by_cases hlt : i < N
    · obtain ⟨b, off, hab, hc⟩ := HR.out.get hlt
      have c0 := hc i hlt
      subst hab
      have hiL : i < L.length := by rw [← HN.out]; exact hlt
      have hg : L.getD i [] = L[i] := by simp [List.getD, hiL]
      have HG := hid (show ∀ y, y = L.getD i [] → (y = s → placeZ L s = i) ∧ (y ≠ s → ∀ j, j < i + 1 → L.getD j [] ≠ s) from fun y hy => ⟨fun h => place_hit hiL (by rw [← hg, ← hy, h]) HE.out, fun h j hj => by
        by_cases hji : j < i
        · exact HE.out j hji
        · obtain rfl : j = i := by omega
          rw [← hy]; exact h⟩)
      obtain ⟨y, hy⟩ : ∃ y, y = L.getD i [] := ⟨_, rfl⟩
      rw [← hy] at c0
      have HY := hid hy
      clear hc hg hy hiL
      by_cases hys : y = s
      · have HP := hid ((HG.out y HY.out).1 hys)
        subst hys
        go_wp2
        go_ret
        exact ⟨by rw [HP.out]; rfl, rfl⟩
      · have HP := hid ((HG.out y HY.out).2 hys)
        have hb : (y == s) = false := beq_eq_false_iff_ne.2 hys
        go_wp2
        go_roundw
        case rel => exact ⟨i + 1, by omega, by go_num, trivial, HP.out⟩
        case measure => simp [intOf]; omega
    · have HM := hid (place_miss (L := L) (s := s) fun j hj => HE.out j (by have := HN.out; omega))
      go_wp2
      go_ret
      exact ⟨by rw [HM.out]; rfl, rfl⟩

theorem wf_size : ∀ (x : Pt) (d : Nat), x.wf d = true → d ≤ 5 ∧ x.size < 2 ^ (6 - d) := by
  intro x
  induction x using Pt.ind with
  | h k t L K ih =>
    intro d h
    rw [wf_mk] at h
    simp only [Bool.and_eq_true, decide_eq_true_eq] at h
    obtain ⟨⟨⟨h1, h2⟩, _⟩, h4⟩ := h
    have h5 := (Pt.wfs_all _ _).1 h4
    refine ⟨h1, ?_⟩
    rw [size_mk]
    have hk : K.length ≤ 2 := by unfold Pt.kidsOf at h2; split at h2 <;> (try split at h2) <;> (try split at h2) <;> omega
    have hp : (2 : Nat) ^ (6 - d) = 2 * 2 ^ (6 - (d + 1)) := by rw [show 6 - d = (6 - (d + 1)) + 1 by omega, Nat.pow_succ, Nat.mul_comm]
    have hp1 : 1 ≤ (2 : Nat) ^ (6 - (d + 1)) := Nat.one_le_two_pow
    match K, hk, ih, h5 with
    | [], _, _, _ => simp only [Pt.sizes]; omega
    | [a], _, ih, h5 =>
      have := (ih a (by simp) (d + 1) (h5 a (by simp))).2
      simp only [Pt.sizes]; omega
    | [a, b], _, ih, h5 =>
      have := (ih a (by simp) (d + 1) (h5 a (by simp))).2
      have := (ih b (by simp) (d + 1) (h5 b (by simp))).2
      simp only [Pt.sizes]; omega
theorem wf_size64 {x : Pt} {d : Nat} (h : x.wf d = true) : x.size < 64 := by
  have h1 := wf_size x d h
  have : (2 : Nat) ^ (6 - d) ≤ 2 ^ 6 := Nat.pow_le_pow_right (by omega) (by omega)
  omega
/-- What the document's may answers. -/
def rmayZ (x : Pt) (d : Nat) : Int := if x.wf d then (x.size : Nat) else -1
theorem rmayZ_may (x : Pt) : (decide (1 ≤ rmayZ x 0) && decide (rmayZ x 0 ≤ 30)) = x.may := by
  have := Pt.size_pos x
  unfold rmayZ Pt.may
  cases x.wf 0
  · rfl
  · simp only [if_true, Bool.true_and]
    rw [decide_eq_true (show (1 : Int) ≤ ((x.size : Nat) : Int) by omega), Bool.true_and, Bool.eq_iff_iff, decide_eq_true_iff, decide_eq_true_iff]
    omega
theorem wf_no (k : Int) (t : T) (L : List T) (K : List Pt) (d i : Nat) (h : i < K.length) (hno : (K.getD i default).wf (d + 1) = false) : (Pt.mk k t L K).wf d = false := by
  rw [wf_mk, Bool.eq_false_iff]
  intro hy
  simp only [Bool.and_eq_true] at hy
  have := (Pt.wfs_all _ _).1 hy.2 (K.getD i default) (by simp [List.getD, h])
  rw [this] at hno; cases hno
theorem wf_yes (k : Int) (t : T) (L : List T) (K : List Pt) (d : Nat) (h1 : d ≤ 5) (h2 : (K.length : Int) = Pt.kidsOf k) (h3 : Pt.txt k t L = true) (h4 : ∀ j, j < K.length → (K.getD j default).wf (d + 1) = true) : (Pt.mk k t L K).wf d = true := by
  rw [wf_mk]
  simp only [Bool.and_eq_true, decide_eq_true_eq]
  refine ⟨⟨⟨h1, h2⟩, h3⟩, (Pt.wfs_all _ _).2 fun x hx => ?_⟩
  obtain ⟨j, hj, rfl⟩ := List.getElem_of_mem hx
  have := h4 j hj
  simpa [List.getD, hj] using this
end Go.Proofs.YtagmgkplfhlifaaDoor
