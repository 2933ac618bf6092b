/- slices.Clone of terms, of triples. -/
import Derived.Test.YtjaebndajhppgaaGreatDoorSoTermsOf
import Derived.Test.YtjaebndajhppgaaGreatDoorGPar
namespace Go.Proofs.YtjaebndajhppgaaGreatDoor
set_option linter.unusedVariables false
set_option linter.unusedSimpArgs false
set_option maxRecDepth 100000
open Go.ChangeShapes Go.WideShapes Go.ChangeAt Go.RowKit Go.Sort
theorem terms_own {W : World} {base g cap : Nat} {E : List T3} (h : W.ownsRow base 61 3 (.slice (some ⟨g, 0, none⟩) E.length cap) E.length (rowT E)) (hc : E.length ≤ cap) (hm : cap ≤ maxLen) : TermsAt W (.slice (some ⟨g, 0, none⟩) E.length cap) E := by
  refine ⟨some ⟨g, 0, none⟩, cap, rfl, hc, hm, (fun h => by cases h), Or.inr ⟨g, 0, rfl, fun i hi c hc => ?_⟩⟩
  rw [Nat.zero_add, h.cellAt _ (by omega), rowT_get E i c hi hc]
theorem rowT_src {w : World} {b off : Nat} {E : List T3} (h : ∀ i (h : i < E.length) c, c < 3 → w.cell? ⟨b, off + i * 3 + c, none⟩ = (tm3 E[i])[c]?) : ∀ j u, (rowT E)[j]? = some u → w.cell? ⟨b, off + j, none⟩ = some u := by
  intro j u hu
  have hj : j < E.length * 3 := by rw [← rowT_len]; exact (List.getElem?_eq_some_iff.1 hu).1
  have hi : j / 3 < E.length := by omega
  have h1 := h (j / 3) hi (j % 3) (Nat.mod_lt _ (by decide))
  have h2 := rowT_get E (j / 3) (j % 3) hi (Nat.mod_lt _ (by decide))
  rw [show j / 3 * 3 + j % 3 = j by omega] at h2
  rw [show off + j / 3 * 3 + j % 3 = off + j by omega, ← h2, hu] at h1
  exact h1
set_option maxHeartbeats 2000000 in
theorem clone_terms (v0 : Value) (E : List T3) (w : World) (h : TermsAt w v0 E) (hl : E.length ≤ 1000000) :
    Calls Tryz.prog 72 #[v0] w fun e w' => ∃ v', e = .returned v' ∧ TermsAt w' v' E ∧ (0 < E.length → w'.ownsRow w.heap.size 61 3 v' E.length (rowT E)) ∧ Below w.heap.size w w' := by
  obtain ⟨i0, hi, hz0, hz1, hz2⟩ := info_term
  have hx := h
  obtain ⟨a, cap, rfl, h2, h3, h4, h5⟩ := hx
  cases a with
  | none =>
    have hcap := h4 rfl
    have h0 : E = [] := List.eq_nil_of_length_eq_zero (by omega)
    have := AnyE.slices_Clone_nil Tryz.cloneTerms E.length cap w
    change Calls Tryz.prog 72 _ _ _ at this
    refine this.mono ?_
    rintro e w' ⟨rfl, rfl⟩
    subst h0
    exact ⟨_, rfl, TermsAt.nil _, fun h => absurd h (by simp), Below.refl _ _⟩
  | some ad =>
    rcases h5 with h5 | ⟨b, off, e, h5⟩
    · have h0 : E = [] := List.eq_nil_of_length_eq_zero h5
      subst h0
      have he := fun W => Go.Lib.run_eql_slice_nil (P := Tryz.prog) W 62 61 (some ad) 0 cap 0 0 Tryz.underlying62
      simp only [List.length_nil] at *
      clear h h2 h5 hl
      go_enter Tryz.func72, Tryz.ntmps72
      go_wp2_with (at_builtin; refine wpList_append_own _ rfl _ _ 62 rfl w.heap.size 61 i0 _ 3 40 Tryz.underlying62 hi hz0 hz1 hz2 rfl (by decide) _ _ _ rfl (World.ownsRow_made w #[] 0 (Nat.le_refl _) (Nat.zero_le _) (by simp)) ad 0 cap [] rfl ?qc1 ?qc2 ?qc3 ?qc4 ?qc5 ?qc6 ?_)
      case qc1 => rfl
      case qc2 => intro j u hj; simp at hj
      case qc3 => intro u hu; cases hu
      case qc4 => unfold maxLen; omega
      case qc5 => omega
      case qc6 => simp
      intro v' w1 hown hgrow hnil
      have hb : Below w.heap.size w w1 := ((Below.refl _ w).alloc (Nat.le_refl _) _).grown hgrow (by simp) (by intro k hk; simp [Value.ownBlock] at hk; omega)
      obtain ⟨a, cp, rfl, k1, k2⟩ : ∃ a cp, v' = .slice a 0 cp ∧ 0 ≤ cp ∧ (cp ≤ maxLen ∧ (a = none → cp = 0)) := by
        rcases hown.2 with ⟨rfl, _⟩ | ⟨g, cp, cur, rfl, hg, hh, hcp, hcm, _⟩
        · exact ⟨none, 0, rfl, Nat.le_refl _, by unfold maxLen; omega, fun _ => rfl⟩
        · exact ⟨_, cp, rfl, hcp, hcm, fun h => by cases h⟩
      have HH := hid (And.intro k1 k2)
      clear hown hgrow hnil k1 k2
      have HB := hid hb
      clear hb
      go_wp2
      go_ret
      exact ⟨_, rfl, ⟨a, cp, rfl, HH.out.1, HH.out.2.1, HH.out.2.2, Or.inl rfl⟩, fun h => absurd h (by simp), HB.out⟩
    · cases e
      have hc := rowT_src h5
      have := AnyE.slices_Clone Tryz.cloneTerms i0 _ 3 40 hi hz0 hz1 hz2 rfl (by decide) Tryz.sizeOf61 b off E.length cap (rowT E) w (rowT_len E) (by unfold maxLen; omega) (by omega) hc (rowT_one E)
      change Calls Tryz.prog 72 _ _ _ at this
      refine this.mono ?_
      rintro e w' ⟨v', rfl, hO, hne, hb⟩
      have hOO := hO
      rcases hO.2 with ⟨rfl, _⟩ | ⟨g, cp, cur, rfl, hg, hh, hcp, hcm, _⟩
      · exact absurd rfl hne
      · exact ⟨_, rfl, terms_own hOO hcp hcm, fun _ => hOO, hb⟩
theorem rowC_len : ∀ (l : List TR), (rowCells l).length = l.length * 9
  | [] => rfl
  | a :: E => by
    have := rowC_len E
    show ((ofT a).cells ++ rowCells E).length = _
    rw [List.length_append, this, List.length_cons]; show 9 + _ = _; omega
theorem rowC_one (l : List TR) : ∀ u ∈ rowCells l, u.oneCell' = true := by
  intro u hu
  obtain ⟨a, _, h⟩ := List.mem_flatMap.1 hu
  exact tri_one a u h
theorem ofT_get (t : TR) (c : Nat) (hc : c < 9) : (ofT t).cells[c]? = some (ofT t).cells[c]! := by
  rw [List.getElem!_eq_getElem?_getD, List.getElem?_eq_getElem (show c < (ofT t).cells.length from hc)]; rfl
theorem rowCells_src {w : World} {b off : Nat} {l : List TR} (h : ∀ i (h : i < (l.map ofT).length), Row9 w b (off + i * 9) (l.map ofT)[i]) : ∀ j u, (rowCells l)[j]? = some u → w.cell? ⟨b, off + j, none⟩ = some u := by
  intro j u hu
  have hj : j < l.length * 9 := by rw [← rowC_len]; exact (List.getElem?_eq_some_iff.1 hu).1
  have hi : j / 9 < l.length := by omega
  have h1 := h (j / 9) (by rw [List.length_map]; exact hi) (j % 9) (Nat.mod_lt _ (by decide))
  have h2 := rowCells_get l (j / 9) (j % 9) hi (Nat.mod_lt _ (by decide))
  rw [show j / 9 * 9 + j % 9 = j by omega] at h2
  rw [List.getElem_map, show off + j / 9 * 9 + j % 9 = off + j by omega, ← h2, hu] at h1
  exact h1
set_option maxHeartbeats 2000000 in
theorem clone_tris (v0 : Value) (L : List TR) (w : World) (h : TrisAt w v0 (L.map ofT)) (hl : L.length ≤ 1000000) :
    Calls Tryz.prog 76 #[v0] w fun e w' => ∃ v', e = .returned v' ∧ TrisAt w' v' (L.map ofT) ∧ (0 < L.length → w'.ownsRow w.heap.size 67 9 v' L.length (rowCells L)) ∧ Below w.heap.size w w' := by
  obtain ⟨i0, hi, hz0, hz1, hz2⟩ := info_tri9
  have hx := h
  obtain ⟨a, cap, rfl, h2, h3, h4, h5⟩ := hx
  rw [List.length_map] at *
  cases a with
  | none =>
    have hcap := h4 rfl
    have h0 : L = [] := List.eq_nil_of_length_eq_zero (by omega)
    have := AnyE.slices_Clone_nil Tryz.cloneTris L.length cap w
    change Calls Tryz.prog 76 _ _ _ at this
    refine this.mono ?_
    rintro e w' ⟨rfl, rfl⟩
    subst h0
    exact ⟨_, rfl, TrisAt.nil _, fun h => absurd h (by simp), Below.refl _ _⟩
  | some ad =>
    rcases h5 with h5 | ⟨b, off, e, h5⟩
    · have h0 : L = [] := List.eq_nil_of_length_eq_zero (by simpa using h5)
      subst h0
      have he := fun W => Go.Lib.run_eql_slice_nil (P := Tryz.prog) W 39 67 (some ad) 0 cap 0 0 Tryz.underlying39
      simp only [List.length_nil] at *
      clear h h2 h5 hl
      go_enter Tryz.func76, Tryz.ntmps76
      go_wp2_with (at_builtin; refine wpList_append_own _ rfl _ _ 39 rfl w.heap.size 67 i0 _ 9 120 Tryz.underlying39 hi hz0 hz1 hz2 rfl (by decide) _ _ _ rfl (World.ownsRow_made w #[] 0 (Nat.le_refl _) (Nat.zero_le _) (by simp)) ad 0 cap [] rfl ?qc1 ?qc2 ?qc3 ?qc4 ?qc5 ?qc6 ?_)
      case qc1 => rfl
      case qc2 => intro j u hj; simp at hj
      case qc3 => intro u hu; cases hu
      case qc4 => unfold maxLen; omega
      case qc5 => omega
      case qc6 => simp
      intro v' w1 hown hgrow hnil
      have hb : Below w.heap.size w w1 := ((Below.refl _ w).alloc (Nat.le_refl _) _).grown hgrow (by simp) (by intro k hk; simp [Value.ownBlock] at hk; omega)
      obtain ⟨a, cp, rfl, k1, k2⟩ : ∃ a cp, v' = .slice a 0 cp ∧ 0 ≤ cp ∧ (cp ≤ maxLen ∧ (a = none → cp = 0)) := by
        rcases hown.2 with ⟨rfl, _⟩ | ⟨g, cp, cur, rfl, hg, hh, hcp, hcm, _⟩
        · exact ⟨none, 0, rfl, Nat.le_refl _, by unfold maxLen; omega, fun _ => rfl⟩
        · exact ⟨_, cp, rfl, hcp, hcm, fun h => by cases h⟩
      have HH := hid (And.intro k1 k2)
      clear hown hgrow hnil k1 k2
      have HB := hid hb
      clear hb
      go_wp2
      go_ret
      exact ⟨_, rfl, ⟨a, cp, rfl, HH.out.1, HH.out.2.1, HH.out.2.2, Or.inl rfl⟩, fun h => absurd h (by simp), HB.out⟩
    · cases e
      have hc := rowCells_src h5
      have := AnyE.slices_Clone Tryz.cloneTris i0 _ 9 120 hi hz0 hz1 hz2 rfl (by decide) Tryz.sizeOf67 b off L.length cap (rowCells L) w (rowC_len L) (by unfold maxLen; omega) (by omega) hc (rowC_one L)
      change Calls Tryz.prog 76 _ _ _ at this
      refine this.mono ?_
      rintro e w' ⟨v', rfl, hO, hne, hb⟩
      exact ⟨_, rfl, tris_own hO, fun _ => hO, hb⟩
end Go.Proofs.YtjaebndajhppgaaGreatDoor
