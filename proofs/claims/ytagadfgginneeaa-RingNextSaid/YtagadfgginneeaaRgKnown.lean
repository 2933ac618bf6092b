/- The next subject. -/
import Derived.Test.YtagadfgginneeaaRgNew
import Derived.Test.YtagadfgginneeaaRgNext
import Derived.Test.YtagadfgginneeaaRgAll
namespace Go.Proofs.Ytagadfgginneeaa
set_option linter.unusedVariables false
set_option linter.unusedSimpArgs false
set_option maxRecDepth 100000
open Go.ChangeShapes Go.WideShapes Go.ChangeAt Go.RowKit
theorem lit_ids {W : World} {b : Nat} {L : List Rg.T} {t : TypeId} (h : Blk W b (fl L) t) (hl : L.length ≤ 1000) : IdsAt W (.slice (some ⟨b, 0, none⟩) L.length L.length) L :=
  ⟨_, _, rfl, Nat.le_refl _, by unfold maxLen; omega, (fun h => by cases h), Or.inr ⟨b, 0, rfl, fun i hi c hc => by
    rw [show 0 + i * 3 + c = i * 3 + c by omega]
    exact h.cell (fl_some L i c hi hc)⟩⟩
theorem fl_one' (x : Rg.T) : fl [x] = tl x := by
  have := fl_snoc [] x
  rw [fl_nil] at this
  exact this
theorem fl_two (x y : Rg.T) : fl [x, y] = tl x ++ tl y := by
  have := fl_snoc [x] y
  rw [fl_one'] at this
  exact this
theorem known_any (w : World) : Calls Try.prog 13 #[] w fun e w' => e = .returned (.bool true) ∧ Below w.heap.size w w' := by
  have hm : RMay [(1, 5, 7), (3, 5, 7)] := ⟨by decide, by intro t ht; rw [← okB_iff]; revert t; decide, by decide⟩
  go_enter Try.func13, Try.ntmps13
  have HM := hid hm
  clear hm
  go_wp2_with fail
  obtain ⟨w1, hw1⟩ : ∃ w1, w1 = w.alloc (.cells #[.int .i64 1, .int .i64 5, .int .i64 7, .int .i64 3, .int .i64 5, .int .i64 7] 24) := ⟨_, rfl⟩
  rw [← hw1]
  have hB : Blk w1 w.heap.size (fl [(1, 5, 7), (3, 5, 7)]) 24 := by rw [hw1, fl_two]; exact Blk.new w (tl (1, 5, 7) ++ tl (3, 5, 7)) 24
  have HB := hid (show Below w.heap.size w w1 by rw [hw1]; exact (Below.refl _ _).alloc (Nat.le_refl _) _)
  have NW := rnew_any _ _ w1 (lit_ids hB (by decide)) (by decide)
  clear hw1 hB
  refine NW.mono ?_
  rintro e w2 ⟨hb2, ⟨_, p, rfl, hF⟩ | ⟨hno, rfl⟩⟩
  · have HR := hid hF.it
    have HB2 := hid (below_then HB.out hb2)
    have NX := rnext_any p 0 [(1, 5, 7), (3, 5, 7)] (0, 0, 7) 2 w2 HR.out (by intro c hc; rcases Rg.c3 hc with rfl | rfl | rfl <;> decide) (by omega)
    rw [show Rg.nxR [(1, 5, 7), (3, 5, 7)] (0, 0, 7) 0 2 = 3 by decide] at NX
    unfold tv at NX
    clear NW hF hb2
    go_upto_region 2 with fail
    go_wp2_with (go_at_call 19; refine NX.mono ?_; rintro e w3 ⟨rfl, hb3⟩)
    have HB3 := hid (below_then HB2.out hb3)
    have HR3 := hid (HR.out.keep hb3)
    have CN := count_any p [(1, 5, 7), (3, 5, 7)] (0, 5, 0) w3 HR3.out (by intro c hc; rcases Rg.c3 hc with rfl | rfl | rfl <;> decide)
    rw [show List.countP (Rg.mt (0, 5, 0)) [(1, 5, 7), (3, 5, 7)] = 2 by decide] at CN
    unfold tv at CN
    clear NX hb3
    go_wp2_with (go_at_call 16; refine CN.mono ?_; rintro e w4 ⟨rfl, hb4⟩)
    have HB4 := hid (below_then HB3.out hb4)
    have LN := rlen_any p _ w4 (HR3.out.keep hb4)
    clear CN hb4
    go_wp2_with (go_at_call 15; refine LN.mono ?_; rintro e w5 ⟨rfl, rfl⟩)
    go_ret
    exact ⟨rfl, HB4.out⟩
  · exact absurd HM.out hno
end Go.Proofs.Ytagadfgginneeaa
