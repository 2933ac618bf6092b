/- The document's own ring: what matches, whether two rows are one, what may be. -/
import Derived.Test.YtagadfgginneeaaRgRef
import Derived.Test.YtagadfgginneeaaRgNew
namespace Go.Proofs.Ytagadfgginneeaa
set_option linter.unusedVariables false
set_option linter.unusedSimpArgs false
set_option maxRecDepth 100000
open Go.ChangeShapes Go.WideShapes Go.ChangeAt Go.RowKit
theorem mt_iff (p t : Rg.T) : Rg.mt p t = true ↔ ∀ c, c < 3 → Rg.at' p c = 0 ∨ Rg.at' p c = Rg.at' t c := by
  unfold Rg.mt
  simp only [Bool.and_eq_true, Bool.or_eq_true, decide_eq_true_eq]
  constructor
  · rintro ⟨⟨h1, h2⟩, h3⟩ c hc
    rcases Rg.c3 hc with rfl | rfl | rfl
    · exact h1
    · exact h2
    · exact h3
  · exact fun h => ⟨⟨h 0 (by omega), h 1 (by omega)⟩, h 2 (by omega)⟩
theorem rmatch_any (x y : Rg.T) (w : World) : Calls Try.prog 21 #[tv x, tv y] w fun e w' => e = .returned (.bool (Rg.mt x y)) ∧ Below w.heap.size w w' := by
  unfold tv
  go_enter Try.func21, Try.ntmps21
  go_upto_region 1 with fail
  obtain ⟨w1, hw1, HX, HY, HB, HD⟩ := two_box w x y
  rw [← hw1]
  clear hw1
  go_wp2
  go_loopw [5] (fun s5 wr => ∃ i : Nat, i ≤ 3 ∧ s5 = .int .i64 i ∧ Hid (∃ q, wr = w1.drewN q) ∧ Hid (∀ j, j < i → Rg.at' x j = 0 ∨ Rg.at' x j = Rg.at' y j)) (fun s5 _ => 3 - (intOf s5).toNat)
  case atStart => exact ⟨0, by omega, rfl, hid ⟨0, rfl⟩, fun j hj => absurd hj (Nat.not_lt_zero _)⟩
  case round =>
    obtain ⟨i, hi, rfl, HQ, HE⟩ := hrel
    obtain ⟨q, hq⟩ := HQ.out
    have hX : Blk wr w.heap.size (tl x) 24 := by rw [hq]; exact HX.out.drewN q
    have hY : Blk wr (w.heap.size + 1) (tl y) 24 := by rw [hq]; exact HY.out.drewN q
    by_cases hlt : i < 3
    · have c1 := hX.cell (tl_get x i hlt)
      have c2 := hY.cell (tl_get y i hlt)
      by_cases hc : Rg.at' x i = 0
      · rw [hc] at c1
        have HC := hid hc
        clear hc hX hY hq
        go_upto_region 4 with fail
        go_quiet (fail)
        go_wp2
        go_roundw
        case rel =>
          obtain ⟨q, hq⟩ := HQ.out
          refine ⟨i + 1, by omega, by go_num, hid ⟨_, by rw [hq, World.drewN_drewN]⟩, fun j hj => ?_⟩
          by_cases hji : j < i
          · exact HE.out j hji
          · obtain rfl : j = i := by omega
            exact Or.inl HC.out
        case measure => simp [intOf]; omega
      · by_cases hc2 : Rg.at' x i = Rg.at' y i
        · have HC := hid hc2
          rw [← hc2] at c2
          obtain ⟨u, hu⟩ : ∃ u, u = Rg.at' x i := ⟨_, rfl⟩
          rw [← hu] at c1 c2 hc
          have hb : (u == 0) = false := by rw [beq_eq_false_iff_ne]; exact hc
          clear hc2 hu hX hY hq
          go_upto_region 4 with fail
          go_quiet (fail)
          go_wp2
          go_roundw
          case rel =>
            obtain ⟨q, hq⟩ := HQ.out
            refine ⟨i + 1, by omega, by go_num, hid ⟨_, by rw [hq, World.drewN_drewN]⟩, fun j hj => ?_⟩
            by_cases hji : j < i
            · exact HE.out j hji
            · obtain rfl : j = i := by omega
              exact Or.inr HC.out
          case measure => simp [intOf]; omega
        · have hr : Rg.mt x y = false := by
            cases h : Rg.mt x y
            · rfl
            · rcases (mt_iff x y).1 h i hlt with h | h
              · exact absurd h hc
              · exact absurd h hc2
          have HR := hid hr
          obtain ⟨u, hu⟩ : ∃ u, u = Rg.at' x i := ⟨_, rfl⟩
          obtain ⟨v, hv⟩ : ∃ v, v = Rg.at' y i := ⟨_, rfl⟩
          rw [← hu] at c1 hc hc2
          rw [← hv] at c2 hc2
          have hb : (u == 0) = false := by rw [beq_eq_false_iff_ne]; exact hc
          have hb2 : (u == v) = false := by rw [beq_eq_false_iff_ne]; exact hc2
          have hb3 : (u != 0) = true := by simp [hc]
          have hb4 : (u != v) = true := by simp [hc2]
          clear hr hu hv hX hY hq
          go_upto_region 4 with fail
          go_quiet (fail)
          go_wp2
          go_ret
          obtain ⟨q, hq⟩ := HQ.out
          refine ⟨by rw [HR.out]; rfl, ?_⟩
          rw [hq]
          exact below_drawn (below_drawn HB.out _) _
    · obtain rfl : i = 3 := by omega
      have hr : Rg.mt x y = true := (mt_iff x y).2 HE.out
      have HR := hid hr
      clear hr hX hY
      go_wp2
      go_ret
      refine ⟨by rw [HR.out]; rfl, ?_⟩
      first | (rw [hq]; exact below_drawn HB.out _) | exact below_drawn HB.out _
theorem rsame_any (v1 v2 : Value) (k l : List Rg.T) (w : World) (h1 : IdsAt w v1 k) (h2 : IdsAt w v2 l) (hk : k.length ≤ 140737488351232) (hl : l.length ≤ 140737488351232) :
    Calls Try.prog 17 #[v1, v2] w fun e w' => e = .returned (.bool (decide (k = l))) ∧ Below w.heap.size w w' := by
  obtain ⟨a1, cap1, e1, p1, p2, p3⟩ := h1.open
  obtain ⟨a2, cap2, e2, q1, q2, q3⟩ := h2.open
  subst e1
  subst e2
  have H1 := hid h1
  have H2 := hid h2
  have EQ := fun (a b c d e f : Int) w => neq_ids a b c d e f w
  clear h1 h2
  by_cases hne : k.length = l.length
  · obtain ⟨n, hn⟩ : ∃ n, n = k.length := ⟨_, rfl⟩
    have hn2 : n = l.length := by omega
    have HN := hid hn
    have HN2 := hid hn2
    rw [← hn] at p1 hk ⊢
    rw [← hn2] at q1 hl ⊢
    clear hne hn hn2
    go_enter Try.func17, Try.ntmps17
    go_wp2
    go_loopw [5] (fun s5 wr => ∃ i : Nat, i ≤ n ∧ s5 = .int .i64 i ∧ Hid (Below w.heap.size w wr) ∧ Hid (k.take i = l.take i)) (fun s5 _ => n - (intOf s5).toNat)
    case atStart => exact ⟨0, by omega, rfl, Below.refl _ _, rfl⟩
    case round =>
      obtain ⟨i, hi, rfl, HB, HE⟩ := hrel
      by_cases hlt : i < n
      · have hik : i < k.length := by rw [← HN.out]; exact hlt
        have hil : i < l.length := by rw [← HN2.out]; exact hlt
        obtain ⟨b1, o1, rfl, x1⟩ := (H1.out.keep HB.out).get hik
        obtain ⟨b2, o2, rfl, x2⟩ := (H2.out.keep HB.out).get hil
        obtain ⟨x, hx⟩ : ∃ x, x = k[i] := ⟨_, rfl⟩
        obtain ⟨y, hy⟩ : ∃ y, y = l[i] := ⟨_, rfl⟩
        have c0 := x1 i hik 0 (by omega)
        have c1 := x1 i hik 1 (by omega)
        have c2 := x1 i hik 2 (by omega)
        have d0 := x2 i hil 0 (by omega)
        have d1 := x2 i hil 1 (by omega)
        have d2 := x2 i hil 2 (by omega)
        rw [← hx] at c0 c1 c2
        rw [← hy] at d0 d1 d2
        have a0 : ∀ t : Rg.T, Rg.at' t 0 = t.1 := fun t => rfl
        have a1 : ∀ t : Rg.T, Rg.at' t 1 = t.2.1 := fun t => rfl
        have a2 : ∀ t : Rg.T, Rg.at' t 2 = t.2.2 := fun t => rfl
        rw [a0, Nat.add_zero] at c0 d0
        rw [a1] at c1 d1
        rw [a2] at c2 d2
        have EQ1 := fun w => EQ x.1 x.2.1 x.2.2 y.1 y.2.1 y.2.2 w
        have hltI : (i : Int) < n := by omega
        have HX := hid hx
        have HY := hid hy
        clear x1 x2 a0 a1 a2 EQ hx hy
        by_cases hxy : x = y
        · have hd : decide (((x.1, x.2.1, x.2.2) : Rg.T) = (y.1, y.2.1, y.2.2)) = true := decide_eq_true hxy
          rw [hd] at EQ1
          have HXY := hid hxy
          clear hd hxy
          go_upto_region 6 with fail
          go_quiet (fail)
          go_wp2
          go_roundw
          case rel =>
            refine ⟨i + 1, by omega, by go_num, hid (below_drawn HB.out _), ?_⟩
            show k.take (i + 1) = l.take (i + 1)
            rw [List.take_add_one, List.take_add_one, HE.out, List.getElem?_eq_getElem hik, List.getElem?_eq_getElem hil, ← HX.out, ← HY.out, HXY.out]
          case measure => simp [intOf]; omega
        · have hd : decide (((x.1, x.2.1, x.2.2) : Rg.T) = (y.1, y.2.1, y.2.2)) = false := decide_eq_false hxy
          rw [hd] at EQ1
          have hr : decide (k = l) = false := by
            rw [decide_eq_false_iff_not]
            intro e
            subst e
            exact hxy (HX.out.trans HY.out.symm)
          have HR := hid hr
          clear hd hxy hr
          go_upto_region 6 with fail
          go_quiet (fail)
          go_wp2
          go_ret
          exact ⟨by rw [HR.out]; rfl, below_drawn HB.out _⟩
      · obtain rfl : i = n := by omega
        have hr : decide (k = l) = true := by
          have := HE.out
          rw [List.take_of_length_le (by rw [← HN.out]; exact Nat.le_refl _), List.take_of_length_le (by rw [← HN2.out]; exact Nat.le_refl _)] at this
          exact decide_eq_true this
        have HR := hid hr
        clear hr
        go_wp2
        go_ret
        exact ⟨by rw [HR.out]; rfl, HB.out⟩
  · have hr : decide (k = l) = false := by rw [decide_eq_false_iff_not]; intro e; exact hne (by rw [e])
    have hb : (((k.length : Nat) : Int) == ((l.length : Nat) : Int)) = false := by rw [beq_eq_false_iff_ne]; omega
    have HR := hid hr
    clear hr
    go_enter Try.func17, Try.ntmps17
    go_wp2
    go_ret
    exact ⟨by rw [HR.out]; rfl, Below.refl _ _⟩
end Go.Proofs.Ytagadfgginneeaa
