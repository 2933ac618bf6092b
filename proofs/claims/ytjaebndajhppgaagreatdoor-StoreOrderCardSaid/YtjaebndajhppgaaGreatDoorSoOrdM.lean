/- plain facts: a text with an empty line ahead and a remark behind; one set in another order. -/
import Derived.Test.YtjaebndajhppgaaGreatDoorGTri
namespace Go.Proofs.YtjaebndajhppgaaGreatDoor.Tm
set_option linter.unusedVariables false
set_option linter.unusedSimpArgs false
set_option maxRecDepth 100000
theorem nl_cut (r : T) : cutP (10 :: r) = ([], r) := by
  have e : (10 :: r : T) = [] ++ 10 :: r := rfl
  rw [e]
  unfold cutP
  rw [cut_line _ _ (by decide)]
  rfl
theorem nl_one : one [] = some none := by kernel_rfl
theorem rem_cut : cutP [35, 32, 120] = ([35, 32, 120], []) := by kernel_rfl
theorem rem_one : one [35, 32, 120] = some none := by kernel_rfl
theorem plU_rem (l : List TT) (h : ∀ t ∈ l, isTri t = true) (hn : l.length ≤ 100) : plU (10 :: (printL l ++ [35, 32, 120])) 0 [] = (0, l.length + 2, addAll [] l) := by
  rw [plU_step (by simp), if_neg (by omega), nl_cut]
  simp only
  rw [nl_one]
  simp only
  rw [plU_lines l [35, 32, 120] (0 + 1) [] h (by omega) (by simp only [List.length_nil]; omega)]
  rw [plU_step (by simp), if_neg (by omega), rem_cut]
  simp only
  rw [rem_one]
  simp only
  rw [plU_nil, show 0 + 1 + l.length + 1 = l.length + 2 by omega]
theorem so_lineS_len {t : TT} (h : isTri t = true) : (lineS t).length ≤ 800 := by
  obtain ⟨_, _, a1, a2, a3⟩ := isTri_parts h
  have b1 := (show_len a1).1
  have b2 := (show_len a2).1
  have b3 := (show_len a3).1
  unfold lineS
  simp only [List.length_append, List.length_cons, List.length_nil]
  omega
theorem so_printL_len : ∀ {L : List TT}, (∀ t ∈ L, isTri t = true) → (printL L).length ≤ 801 * L.length
  | [], _ => by simp [printL]
  | t :: L, h => by
    have h1 := so_lineS_len (h t (by simp))
    have h2 := so_printL_len (L := L) (fun s hs => h s (by simp [hs]))
    rw [printL_cons]
    simp only [List.length_append, List.length_cons]
    omega
theorem so_printL_app (l m : List TT) : (printL (l ++ m)).length = (printL l).length + (printL m).length := by simp [printL]
theorem so_turn_len (l : List TT) (k : Nat) : (printL (l.drop k ++ l.take k ++ l)).length = 2 * (printL l).length := by
  have h := congrArg List.length (congrArg printL (List.take_append_drop k l))
  rw [so_printL_app] at h
  rw [so_printL_app, so_printL_app]; omega
end Go.Proofs.YtjaebndajhppgaaGreatDoor.Tm
