/- The document's own ring: the next number, what may be. -/
import Derived.Test.YtagadfgginneeaaRgRef3
namespace Go.Proofs.Ytagadfgginneeaa
set_option linter.unusedVariables false
set_option linter.unusedSimpArgs false
set_option maxRecDepth 100000
open Go.ChangeShapes Go.WideShapes Go.ChangeAt Go.RowKit
theorem refnext_out (v0 : Value) (t : Rg.T) (c v : Int) (w : World) (h : c < 0 ∨ 3 ≤ c) : Calls Try.prog 20 #[v0, tv t, .int .i64 c, .int .i64 v] w fun e w' => e = .returned (.int .i64 0) ∧ Below w.heap.size w w' := by
  unfold tv
  rcases h with h | h
  all_goals
    go_enter Try.func20, Try.ntmps20
    go_upto_region 1 with fail
    obtain ⟨w1, hw1, HX, HB, HD, hz⟩ := ids_box w t
    rw [← hw1]
    clear hw1
    go_wp2
    go_ret
    exact ⟨rfl, HB.out⟩
set_option maxHeartbeats 1000000 in
theorem refnext_any (v0 : Value) (c : Nat) (l : List Rg.T) (t : Rg.T) (v : Int) (w : World) (h : IdsAt w v0 l) (hl : l.length ≤ 140737488351232) (hc : c < 3) :
    Calls Try.prog 20 #[v0, tv t, .int .i64 c, .int .i64 v] w fun e w' => e = .returned (.int .i64 (Rg.nxR l t c v)) ∧ Below w.heap.size w w' := by
  obtain ⟨a, cap, e1, p1, p2, p3⟩ := h.open
  subst e1
  have HI := hid h
  obtain ⟨n, hn⟩ : ∃ n, n = l.length := ⟨_, rfl⟩
  have HN := hid hn
  rw [← hn] at p1 hl ⊢
  clear h hn
  unfold tv
  go_enter Try.func20, Try.ntmps20
  go_upto_region 1 with fail
  obtain ⟨w1, hw1, HX, HB, HD, hz⟩ := ids_box w t
  rw [← hw1]
  clear hw1
  go_wp2
  go_loopw [9, 10] (fun s9 s10 wr => ∃ (i : Nat) (b : Int), i ≤ n ∧ s10 = .int .i64 i ∧ s9 = .int .i64 b ∧ Hid (b = Rg.nxR (l.take i) t c v) ∧ Hid (Below w.heap.size w wr) ∧ Hid (Blk wr w.heap.size (tl t) 24)) (fun s9 s10 _ => n - (intOf s10).toNat)
  case atStart => exact ⟨0, 0, by omega, rfl, rfl, rfl, HB.out, HX.out⟩
  case round =>
    obtain ⟨i, b, hin, rfl, rfl, HM, HBr, HXr⟩ := hrel
    by_cases hlt : i < n
    · have hil : i < l.length := by rw [← HN.out]; exact hlt
      have hI2 := HI.out.keep HBr.out
      rw [← HN.out] at hI2
      have hI3 := hI2
      obtain ⟨b0, off, rfl, hx⟩ := ids_get hI2 hil
      obtain ⟨b', off', hbe, hy⟩ := hI3.get hil
      cases hbe
      obtain ⟨x, hxx⟩ : ∃ x, x = l[i] := ⟨_, rfl⟩
      have cx := hx i hil
      have cy := hy i hil c hc
      rw [← hxx] at cx cy
      obtain ⟨t0, t1, t2⟩ := ids_cells HXr.out
      have g0 := fun q : Later wr.heap.size wr => q.keep cx.1
      have g1 := fun q : Later wr.heap.size wr => q.keep cx.2.1
      have g2 := fun q : Later wr.heap.size wr => q.keep cx.2.2
      have g3 := fun q : Later wr.heap.size wr => q.keep t0
      have g4 := fun q : Later wr.heap.size wr => q.keep t1
      have g5 := fun q : Later wr.heap.size wr => q.keep t2
      have MM := hid fun q : Later wr.heap.size wr => rmatch_any t x q.it
      unfold tv at MM
      have hltI : (i : Int) < n := by omega
      have hS : Rg.nxR (l.take (i + 1)) t c v = Rg.nxS t c v b x := by rw [HM.out]; exact Rg.nxR_take l t c v i x (by rw [List.getElem?_eq_getElem hil, hxx])
      obtain ⟨y, hyy⟩ : ∃ y, y = Rg.at' x c := ⟨_, rfl⟩
      unfold Rg.nxS at hS
      rw [← hyy] at cy hS
      clear hx hxx hI2 hI3 hy cx t0 t1 t2 hyy HM
      have hcases : (Rg.mt t x = false ∧ Rg.nxR (l.take (i + 1)) t c v = b) ∨ (Rg.mt t x = true ∧ ¬ v ≤ y ∧ Rg.nxR (l.take (i + 1)) t c v = b) ∨ (Rg.mt t x = true ∧ v ≤ y ∧ b = 0 ∧ Rg.nxR (l.take (i + 1)) t c v = y) ∨ (Rg.mt t x = true ∧ v ≤ y ∧ ¬ b = 0 ∧ y < b ∧ Rg.nxR (l.take (i + 1)) t c v = y) ∨ (Rg.mt t x = true ∧ v ≤ y ∧ ¬ b = 0 ∧ ¬ y < b ∧ Rg.nxR (l.take (i + 1)) t c v = b) := by
        rw [hS]
        cases hm : Rg.mt t x
        · exact Or.inl ⟨rfl, by simp⟩
        · by_cases h1 : v ≤ y
          · by_cases h2 : b = 0
            · exact Or.inr (Or.inr (Or.inl ⟨rfl, h1, h2, by rw [if_pos ⟨rfl, h1, Or.inl h2⟩]⟩))
            · by_cases h3 : y < b
              · exact Or.inr (Or.inr (Or.inr (Or.inl ⟨rfl, h1, h2, h3, by rw [if_pos ⟨rfl, h1, Or.inr h3⟩]⟩)))
              · exact Or.inr (Or.inr (Or.inr (Or.inr ⟨rfl, h1, h2, h3, by rw [if_neg (fun h => by rcases h.2.2 with h | h <;> contradiction)]⟩)))
          · exact Or.inr (Or.inl ⟨rfl, h1, by rw [if_neg (fun h => h1 h.2.1)]⟩)
      clear hS
      rcases hcases with ⟨hm, hr⟩ | ⟨hm, h1, hr⟩ | ⟨hm, h1, h2, hr⟩ | ⟨hm, h1, h2, h3, hr⟩ | ⟨hm, h1, h2, h3, hr⟩
      all_goals
        rw [hm] at MM
        (try subst h2)
        (try (have hb : (b == 0) = false := by rw [beq_eq_false_iff_ne]; exact h2))
        have HRR := hid hr
        clear hm hr
        go_upto_region 8 with fail
        refine wp_region_later wr.heap.size (by kernel_rfl) (by kernel_rfl) ?_
        repeat (go_big_quiet_step ((go_at_call 21; with_reducible exact Later.call (Nat.le_refl _) (MM.out _))))
        refine wpQuiet_nil ?_
        rintro w5 ⟨q, hq5⟩
        have hb5 : Below wr.heap.size wr w5 := by rw [hq5]; exact q.low
        have HB5 := hid (below_then HBr.out hb5)
        have HX5 := hid (HXr.out.keep hb5)
        clear hq5 q g0 g1 g2 g3 g4 g5 hb5
        go_wp2
        go_roundw
        case rel => exact ⟨i + 1, _, by omega, by go_num, rfl, HRR.out.symm, HB5.out, HX5.out⟩
        case measure => simp [intOf]; omega
    · obtain rfl : i = n := by omega
      have hl2 : l.take i = l := List.take_of_length_le (by rw [← HN.out]; exact Nat.le_refl _)
      have hm2 := HM.out
      rw [hl2] at hm2
      have HM2 := hid hm2
      clear hm2 HM hl2
      go_wp2
      go_ret
      exact ⟨by rw [← HM2.out]; rfl, HBr.out⟩
/-- May triples be a ring's? -/
def mayB (l : List Rg.T) : Bool := decide (l.Pairwise Rg.lt) && l.all okB && decide (l.length ≤ 100)
theorem mayB_iff (l : List Rg.T) : mayB l = true ↔ RMay l := by
  unfold mayB RMay
  simp only [Bool.and_eq_true, decide_eq_true_eq, List.all_eq_true, okB_iff, and_assoc]
theorem mayB_no {l : List Rg.T} (h : ¬ RMay l) : mayB l = false := by
  cases e : mayB l
  · rfl
  · exact absurd ((mayB_iff l).1 e) h
set_option maxHeartbeats 1000000 in
theorem rmay_any (v0 : Value) (l : List Rg.T) (w : World) (h : IdsAt w v0 l) (hl : l.length ≤ 140737488351232) :
    Calls Try.prog 12 #[v0] w fun e w' => e = .returned (.bool (mayB l)) ∧ Below w.heap.size w w' := by
  obtain ⟨a, cap, e1, p1, p2, p3⟩ := h.open
  subst e1
  have HI := hid h
  obtain ⟨n, hn⟩ : ∃ n, n = l.length := ⟨_, rfl⟩
  have HN := hid hn
  rw [← hn] at p1 hl ⊢
  clear h hn
  go_enter Try.func12, Try.ntmps12
  go_wp2
  go_loopw [3] (fun s3 wr => ∃ i : Nat, i ≤ n ∧ s3 = .int .i64 i ∧ Hid (Below w.heap.size w wr) ∧ Hid (∀ j (h : j < l.length), j < i → Rg.Ok l[j]) ∧ Hid (∀ j (h : j + 1 < l.length), j + 1 < i → Rg.lt l[j] l[j + 1])) (fun s3 _ => n - (intOf s3).toNat)
  case atStart => exact ⟨0, by omega, rfl, Below.refl _ _, (fun j h hj => absurd hj (Nat.not_lt_zero _)), fun j h hj => absurd hj (Nat.not_lt_zero _)⟩
  case round =>
    obtain ⟨i, hin, rfl, HB, HO, HL⟩ := hrel
    by_cases hlt : i < n
    · have hil : i < l.length := by rw [← HN.out]; exact hlt
      have hI2 := HI.out.keep HB.out
      rw [← HN.out] at hI2
      have hI3 := hI2
      obtain ⟨b0, off, rfl, hx⟩ := ids_get hI2 hil
      obtain ⟨b', off', hbe, hy⟩ := hI3.get hil
      cases hbe
      obtain ⟨t, ht⟩ : ∃ t, t = l[i] := ⟨_, rfl⟩
      have HY := hid fun c (hc : c < 3) => hy i hil c hc
      rw [← ht] at HY
      have HX := hid hx
      have HT := hid ht
      have hltI : (i : Int) < n := by omega
      clear hx hy hI2 hI3 ht
      obtain ⟨wo, rfl⟩ : ∃ wo : World, wo = wr := ⟨_, rfl⟩
      go_upto_region 4 with fail
      go_wp2
      go_loopw [4] (fun s4 wr => ∃ k : Nat, k ≤ 3 ∧ s4 = .int .i64 k ∧ wr = wo ∧ Hid (∀ j, j < k → 1 ≤ Rg.at' t j ∧ Rg.at' t j ≤ 1000)) (fun s4 _ => 3 - (intOf s4).toNat)
      case atStart => exact ⟨0, by omega, rfl, rfl, fun j hj => absurd hj (Nat.not_lt_zero _)⟩
      case round =>
        obtain ⟨k, hk, rfl, hww, HE⟩ := hrel
        subst hww
        by_cases hk3 : k < 3
        · have cy := HY.out k hk3
          have hno : ¬ (1 ≤ Rg.at' t k ∧ Rg.at' t k ≤ 1000) → ¬ RMay l := fun h1 h2 => h1 (h2.2.1 t (by rw [HT.out]; exact List.getElem_mem _) k hk3)
          obtain ⟨x, hx⟩ : ∃ x, x = Rg.at' t k := ⟨_, rfl⟩
          rw [← hx] at cy hno
          have HNO := hid hno
          have HXX := hid hx
          clear hno hx
          by_cases hA : x < 1
          · go_wp2
            go_ret
            exact ⟨by rw [mayB_no (HNO.out (by omega))]; rfl, HB.out⟩
          · by_cases hB : 1000 < x
            · go_wp2
              go_ret
              exact ⟨by rw [mayB_no (HNO.out (by omega))]; rfl, HB.out⟩
            · go_wp2
              go_roundw
              case rel =>
                refine ⟨k + 1, by omega, by go_num, trivial, fun j hj => ?_⟩
                by_cases hjk : j < k
                · exact HE.out j hjk
                · obtain rfl : j = k := by omega
                  rw [← HXX.out]; omega
              case measure => simp [intOf]; omega
        · obtain rfl : k = 3 := by omega
          have hokk : Rg.Ok t := fun c hc => HE.out c hc
          have HOK := hid hokk
          have hO2 : ∀ j (h : j < l.length), j < i + 1 → Rg.Ok l[j] := fun j h hj => by
            by_cases hji : j < i
            · exact HO.out j h hji
            · obtain rfl : j = i := by omega
              rw [← HT.out]; exact hokk
          have HO2 := hid hO2
          clear hokk hO2 HE
          by_cases hi0 : i = 0
          · subst hi0
            go_upto_region 9 with fail
            refine wp_region_later wr.heap.size (by kernel_rfl) (by kernel_rfl) ?_
            repeat (go_big_quiet_step (fail))
            refine wpQuiet_nil ?_
            rintro w5 ⟨q, hq5⟩
            have hb5 : Below wr.heap.size wr w5 := by rw [hq5]; exact q.low
            have HB5 := hid (below_then HB.out hb5)
            clear hq5 q hb5
            go_wp2
            go_roundw
            case rel => exact ⟨1, by omega, by go_num, HB5.out, HO2.out, fun j h hj => by omega⟩
            case measure => simp [intOf]; omega
          · obtain ⟨i', hi'⟩ : ∃ i', i = i' + 1 := ⟨i - 1, by omega⟩
            subst hi'
            have hil1 : i' < l.length := by omega
            obtain ⟨s, hs⟩ : ∃ s, s = l[i'] := ⟨_, rfl⟩
            have cs := HX.out i' hil1
            have ct := HX.out (i' + 1) hil
            rw [← hs] at cs
            rw [← HT.out] at ct
            have g0 := fun q : Later wr.heap.size wr => q.keep cs.1
            have g1 := fun q : Later wr.heap.size wr => q.keep cs.2.1
            have g2 := fun q : Later wr.heap.size wr => q.keep cs.2.2
            have g3 := fun q : Later wr.heap.size wr => q.keep ct.1
            have g4 := fun q : Later wr.heap.size wr => q.keep ct.2.1
            have g5 := fun q : Later wr.heap.size wr => q.keep ct.2.2
            have e1 : ((i' + 1 : Nat) : Int) - 1 = i' := by omega
            have LS := hid fun q : Later wr.heap.size wr => rless_any s t q.it
            unfold tv at LS
            have HSL := hid hs
            clear cs ct hs
            by_cases hst : Rg.lt s t
            · rw [decide_eq_true hst] at LS
              have hL2 : ∀ j (h : j + 1 < l.length), j + 1 < i' + 1 + 1 → Rg.lt l[j] l[j + 1] := fun j h hj => by
                by_cases hji : j + 1 < i' + 1
                · exact HL.out j h hji
                · obtain rfl : j = i' := by omega
                  rw [← HT.out, ← HSL.out]; exact hst
              have HL2 := hid hL2
              clear hL2 hst
              go_upto_region 9 with fail
              refine wp_region_later wr.heap.size (by kernel_rfl) (by kernel_rfl) ?_
              repeat (go_big_quiet_step ((go_at_call 26; with_reducible exact Later.call (Nat.le_refl _) (LS.out _))))
              refine wpQuiet_nil ?_
              rintro w5 ⟨q, hq5⟩
              have hb5 : Below wr.heap.size wr w5 := by rw [hq5]; exact q.low
              have HB5 := hid (below_then HB.out hb5)
              clear hq5 q hb5 g0 g1 g2 g3 g4 g5
              go_wp2
              go_roundw
              case rel => exact ⟨i' + 1 + 1, by omega, by go_num, HB5.out, HO2.out, HL2.out⟩
              case measure => simp [intOf]; omega
            · rw [decide_eq_false hst] at LS
              have hno : ¬ RMay l := fun h => by
                have h1 := List.pairwise_iff_getElem.1 h.1 i' (i' + 1) hil1 hil (by omega)
                rw [← HSL.out, ← HT.out] at h1
                exact hst h1
              have HNO := hid hno
              clear hno hst
              go_upto_region 9 with fail
              refine wp_region_later wr.heap.size (by kernel_rfl) (by kernel_rfl) ?_
              repeat (go_big_quiet_step ((go_at_call 26; with_reducible exact Later.call (Nat.le_refl _) (LS.out _))))
              refine wpQuiet_nil ?_
              rintro w5 ⟨q, hq5⟩
              have hb5 : Below wr.heap.size wr w5 := by rw [hq5]; exact q.low
              have HB5 := hid (below_then HB.out hb5)
              clear hq5 q hb5 g0 g1 g2 g3 g4 g5
              go_wp2
              go_ret
              exact ⟨by rw [mayB_no HNO.out]; rfl, HB5.out⟩
    · obtain rfl : i = n := by omega
      have hmay : i ≤ 100 → RMay l := fun h100 => by
        refine ⟨chain_pair fun j hj => HL.out j hj (by rw [HN.out]; exact hj), fun t ht => ?_, by rw [← HN.out]; exact h100⟩
        obtain ⟨j, hj, rfl⟩ := List.getElem_of_mem ht
        exact HO.out j hj (by rw [HN.out]; exact hj)
      have HMAY := hid hmay
      clear hmay HO HL
      go_wp2
      go_ret
      refine ⟨?_, HB.out⟩
      have e : decide ((i : Int) ≤ 100) = mayB l := by
        rw [Bool.eq_iff_iff, decide_eq_true_iff, mayB_iff]
        constructor
        · intro h; exact HMAY.out (by omega)
        · intro h; have := h.2.2; rw [← HN.out] at this; omega
      rw [← e]; rfl
end Go.Proofs.Ytagadfgginneeaa
