/- Stage 5's known: a triple without blanks. -/
import Derived.Test.YtemkbmhcohijnaaGreatDoorPrPrint
namespace Go.Proofs.YtemkbmhcohijnaaGreatDoor
set_option linter.unusedVariables false
set_option linter.unusedSimpArgs false
set_option maxRecDepth 100000
open Go.ChangeShapes Go.WideShapes Go.ChangeAt Go.RowKit
theorem known_one : Tm.one [60, 97, 62, 60, 98, 62, 34, 99, 34, 46] = some (some ((1, [97], []), (1, [98], []), (3, [99], []))) := by kernel_rfl
set_option maxHeartbeats 2000000 in
theorem known5_any (w : World) (hV : Vars w) (hE : ErrAt w) : Calls Tryz.prog 8 #[] w fun e w' => e = .returned (.bool true) ∧ Below w.heap.size w w' := by
  have ON := hid (pone_any [60, 97, 62, 60, 98, 62, 34, 99, 34, 46] w hV hE (by decide))
  rw [known_one] at ON
  have ON2 : Hid (Calls Tryz.prog 6 #[str [60, 97, 62, 60, 98, 62, 34, 99, 34, 46]] w fun e w' => e = .returned (.tuple #[triV 1 [97] [] 1 [98] [] 3 [99] [], .bool true, .bool true]) ∧ Below w.heap.size w w') := ON
  clear ON hV hE
  go_enter Tryz.func8, Tryz.ntmps8
  go_wp2_with fail
  refine ON2.out.mono ?_
  rintro e w1 ⟨rfl, hb⟩
  have HB2 := hid (show Below w.heap.size w (new9 w1 1 [97] [] 1 [98] [] 3 [99] []) from hb.alloc hb.size _)
  have HU2 := hid (new9_new w1 1 [97] [] 1 [98] [] 3 [99] [])
  clear hb
  go_wp2_with (show wpList _ _ _ _ _ (new9 w1 1 [97] [] 1 [98] [] 3 [99] []); obtain ⟨w2, hw2⟩ : ∃ w2, w2 = new9 w1 1 [97] [] 1 [98] [] 3 [99] [] := ⟨_, rfl⟩; rw [← hw2] at HB2 HU2 ⊢; clear hw2; have c0 := HU2.out.cell (i := 0) rfl; have c1 := HU2.out.cell (i := 1) rfl; have c2 := HU2.out.cell (i := 2) rfl; have c3 := HU2.out.cell (i := 3) rfl; have c4 := HU2.out.cell (i := 4) rfl; have c5 := HU2.out.cell (i := 5) rfl; have c6 := HU2.out.cell (i := 6) rfl; have c7 := HU2.out.cell (i := 7) rfl; have c8 := HU2.out.cell (i := 8) rfl)
  have PR := hid (pprint_one w2.heap.size 1 [97] [] 1 [98] [] 3 [99] [] (new9 w2 1 [97] [] 1 [98] [] 3 [99] []) (new9_new _ _ _ _ _ _ _ _ _ _) (by decide) (by decide) (by decide) (by decide) (by decide) (by decide) [60, 97, 62] [60, 98, 62] [34, 99, 34] (by decide) (by decide) (by decide) (by decide) (by decide) (by decide))
  have HB3 := hid (show Below w.heap.size w (new9 w2 1 [97] [] 1 [98] [] 3 [99] []) from HB2.out.alloc HB2.out.size _)
  refine PR.out.mono ?_
  rintro e w4 ⟨rfl, hb⟩
  have HB4 := hid (below_then HB3.out hb)
  clear hb
  go_wp2
  go_ret
  exact ⟨rfl, HB4.out⟩
end Go.Proofs.YtemkbmhcohijnaaGreatDoor
