/- The document's own ring: what may be, what matches, the next number, whether two rows are one. -/
import Derived.Test.YtagadfgginneeaaRgAll
namespace Go.Proofs.Ytagadfgginneeaa
set_option linter.unusedVariables false
set_option linter.unusedSimpArgs false
set_option maxRecDepth 100000
open Go.ChangeShapes Go.WideShapes Go.ChangeAt Go.RowKit
theorem rless_any (x y : Rg.T) (w : World) : Calls Try.prog 26 #[tv x, tv y] w fun e w' => e = .returned (.bool (decide (Rg.lt x y))) ∧ Below w.heap.size w w' := by
  unfold tv
  go_enter Try.func26, Try.ntmps26
  go_upto_region 1 with fail
  obtain ⟨w1, hw1, HX, HY, HB, HD⟩ := two_box w x y
  rw [← hw1]
  clear hw1
  go_wp2
  go_loopw [5] (fun s5 wr => ∃ i : Nat, i ≤ 3 ∧ s5 = .int .i64 i ∧ Hid (∃ q, wr = w1.drewN q) ∧ Hid (∀ j, j < i → Rg.at' x j = Rg.at' y j)) (fun s5 _ => 3 - (intOf s5).toNat)
  case atStart => exact ⟨0, by omega, rfl, hid ⟨0, rfl⟩, fun j hj => absurd hj (Nat.not_lt_zero _)⟩
  case round =>
    obtain ⟨i, hi, rfl, HQ, HE⟩ := hrel
    obtain ⟨q, hq⟩ := HQ.out
    have hX : Blk wr w.heap.size (tl x) 24 := by rw [hq]; exact HX.out.drewN q
    have hY : Blk wr (w.heap.size + 1) (tl y) 24 := by rw [hq]; exact HY.out.drewN q
    by_cases hlt : i < 3
    · have c1 := hX.cell (tl_get x i hlt)
      have c2 := hY.cell (tl_get y i hlt)
      by_cases hc : Rg.at' x i = Rg.at' y i
      · rw [hc] at c1
        have HC := hid hc
        clear hc hX hY hq
        go_upto_region 4 with fail
        go_quiet (fail)
        go_wp2
        go_roundw
        case rel =>
          obtain ⟨q, hq⟩ := HQ.out
          refine ⟨i + 1, by omega, by go_num, hid ⟨_, by rw [hq, World.drewN_drewN]⟩, fun j hj => ?_⟩
          by_cases hji : j < i
          · exact HE.out j hji
          · obtain rfl : j = i := by omega
            exact HC.out
        case measure => simp [intOf]; omega
      · have hr : decide (Rg.at' x i < Rg.at' y i) = decide (Rg.lt x y) := by
          have he := HE.out
          rw [decide_eq_decide]
          unfold Rg.lt
          have e0 := he 0
          have e1 := he 1
          rcases Rg.c3 hlt with rfl | rfl | rfl <;> simp [Rg.at'] at * <;> omega
        have HR := hid hr
        obtain ⟨u, hu⟩ : ∃ u, u = Rg.at' x i := ⟨_, rfl⟩
        obtain ⟨v, hv⟩ : ∃ v, v = Rg.at' y i := ⟨_, rfl⟩
        rw [← hu, ← hv] at HR
        rw [← hu] at c1 hc
        rw [← hv] at c2 hc
        have hb : (u == v) = false := by rw [beq_eq_false_iff_ne]; exact hc
        clear hr hu hv hX hY hq
        go_upto_region 4 with fail
        go_quiet (fail)
        go_upto_region 5 with fail
        go_quiet (fail)
        go_wp2
        go_ret
        obtain ⟨q, hq⟩ := HQ.out
        refine ⟨by rw [← HR.out]; rfl, ?_⟩
        rw [hq]
        exact below_drawn (below_drawn (below_drawn HB.out _) _) _
    · obtain rfl : i = 3 := by omega
      have hr : decide (Rg.lt x y) = false := by
        have e0 := HE.out 0 (by omega)
        have e1 := HE.out 1 (by omega)
        have e2 := HE.out 2 (by omega)
        simp only [Rg.at'] at e0 e1 e2
        simp at e0 e1 e2
        rw [decide_eq_false_iff_not]
        unfold Rg.lt; omega
      have HR := hid hr
      clear hr hX hY
      go_wp2
      go_ret
      refine ⟨by rw [HR.out]; rfl, ?_⟩
      first | (rw [hq]; exact below_drawn HB.out _) | exact below_drawn HB.out _
end Go.Proofs.Ytagadfgginneeaa
