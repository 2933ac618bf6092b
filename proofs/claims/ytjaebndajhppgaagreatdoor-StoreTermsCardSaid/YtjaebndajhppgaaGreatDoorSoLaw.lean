/- What the laws of stage 11 call, in one form: a printed list is loaded as its store; Terms, Triples. -/
import Derived.Test.YtjaebndajhppgaaGreatDoorSoLoad
import Derived.Test.YtjaebndajhppgaaGreatDoorSoClone
import Derived.Test.YtjaebndajhppgaaGreatDoorGPar
import Derived.Test.YtjaebndajhppgaaGreatDoorGTri
namespace Go.Proofs.YtjaebndajhppgaaGreatDoor
set_option linter.unusedVariables false
set_option linter.unusedSimpArgs false
set_option maxRecDepth 100000
open Go.ChangeShapes Go.WideShapes Go.ChangeAt Go.RowKit Go.Sort
theorem print_parse (M : List TR) (hM : ∀ t ∈ M, Tm.isTri t = true) (hn : M.length ≤ 100) : Tm.plU (Tm.printL M) 0 [] = (0, M.length, Tm.addAll [] M) := by
  have h := Tm.plU_lines M [] 0 [] hM (by omega) (by simp only [List.length_nil]; omega)
  rw [List.append_nil, Nat.zero_add] at h
  rw [h]; exact Tm.plU_nil _ _
theorem addAll_all (M : List TR) (hM : ∀ t ∈ M, Tm.isTri t = true) : ∀ t ∈ Tm.addAll [] M, Tm.isTri t = true := fun t ht => by
  rcases (Tm.addAll_mem M [] t).1 ht with h | h
  · cases h
  · exact hM t h
theorem addAll_le (M : List TR) : (Tm.addAll [] M).length ≤ M.length := by
  have := addAll_len M M.length
  rwa [List.take_length] at this
theorem load_print (M : List TR) (hM : ∀ t ∈ M, Tm.isTri t = true) (hn : M.length ≤ 100) (hp : (Tm.printL M).length ≤ 20000) (W : World) (hV : Vars W) (hE : ErrAt W) :
    Calls Tryz.prog 13 #[str (Tm.printL M)] W fun e w' => ∃ p, e = .returned (.tuple #[.pointer (some ⟨p, 0, none⟩), .int .i64 (M.length : Nat), .int .i64 0]) ∧ IsStore w' p (Tm.rsort M) ∧ Below W.heap.size W w' := by
  refine (load_any _ W hV hE hp _ (print_parse M hM hn) (fun _ => ⟨addAll_all M hM, Nat.le_trans (addAll_le M) hn⟩)).mono ?_
  rintro e w' ⟨⟨p, h1, h2⟩, h3⟩
  have e2 : Tm.rsort (Tm.addAll [] M) = Tm.rsort M := Tm.rsort_addAll hM
  simp only at h2
  rw [e2] at h2
  exact ⟨p, h1, h2, h3⟩
theorem sterms_any (p : Nat) (L : List TR) (hn : L.length ≤ 1000) (w : World) (h : IsStore w p L) :
    Calls Tryz.prog 30 #[.pointer (some ⟨p, 0, none⟩)] w fun e w' => ∃ v', e = .returned v' ∧ TermsAt w' v' (So.terms L) ∧ (0 < (So.terms L).length → w'.ownsRow w.heap.size 61 3 v' (So.terms L).length (rowT (So.terms L))) ∧ Below w.heap.size w w' := by
  obtain ⟨vt, ve, r, h1, h2, h3, h4⟩ := h
  have hlen := So.terms_len L
  have CL := hid (clone_terms ve (So.terms L) w h3 (by omega))
  obtain ⟨a, c, rfl, _, _, _⟩ := h3.open
  have c0 := h1.cell (i := 1) rfl
  clear h1 h2 h3 h4 hlen
  go_enter Tryz.func30, Tryz.ntmps30
  go_wp2_with (go_at_call 72; refine CL.out.mono ?_; rintro e w1 ⟨v', rfl, hT, hO, hB⟩; have HT := hid (And.intro hT (And.intro hO hB)); clear hT hO hB)
  go_ret
  exact ⟨v', rfl, HT.out⟩
theorem stri_any (p : Nat) (L : List TR) (hn : L.length ≤ 1000) (w : World) (h : IsStore w p L) :
    Calls Tryz.prog 35 #[.pointer (some ⟨p, 0, none⟩)] w fun e w' => ∃ v', e = .returned v' ∧ TrisAt w' v' (L.map ofT) ∧ (0 < L.length → w'.ownsRow w.heap.size 67 9 v' L.length (rowCells L)) ∧ Below w.heap.size w w' := by
  obtain ⟨vt, ve, r, h1, h2, h3, h4⟩ := h
  have CL := hid (clone_tris vt L w h2 (by omega))
  obtain ⟨a, c, rfl, _, _, _⟩ := h2.open
  rw [List.length_map] at h1 CL
  have c0 := h1.cell (i := 0) rfl
  clear h1 h2 h3 h4
  go_enter Tryz.func35, Tryz.ntmps35
  go_wp2_with (go_at_call 76; refine CL.out.mono ?_; rintro e w1 ⟨v', rfl, hT, hO, hB⟩; have HT := hid (And.intro hT (And.intro hO hB)); clear hT hO hB)
  go_ret
  exact ⟨v', rfl, HT.out⟩
end Go.Proofs.YtjaebndajhppgaaGreatDoor
