/- A ring: New. -/
import Derived.Test.YtagadfgginneeaaRgCol
import Derived.Test.YtagadfgginneeaaWvNew8
namespace Go.Proofs.Ytagadfgginneeaa
set_option linter.unusedVariables false
set_option linter.unusedSimpArgs false
set_option maxRecDepth 100000
open Go.ChangeShapes Go.WideShapes Go.ChangeAt Go.RowKit
def okB (t : Rg.T) : Bool := decide (1 ≤ t.1 ∧ t.1 ≤ 1000) && decide (1 ≤ t.2.1 ∧ t.2.1 ≤ 1000) && decide (1 ≤ t.2.2 ∧ t.2.2 ≤ 1000)
theorem okB_iff (t : Rg.T) : okB t = true ↔ Rg.Ok t := by
  unfold okB Rg.Ok
  simp only [Bool.and_eq_true, decide_eq_true_eq]
  constructor
  · rintro ⟨⟨h1, h2⟩, h3⟩ c hc
    rcases Rg.c3 hc with rfl | rfl | rfl
    · exact h1
    · exact h2
    · exact h3
  · exact fun h => ⟨⟨h 0 (by omega), h 1 (by omega)⟩, h 2 (by omega)⟩
theorem mayB_any (t : Rg.T) (w : World) : Calls Try.prog 22 #[tv t] w fun e w' => e = .returned (.bool (okB t)) ∧ Below w.heap.size w w' := by
  have IX := fun c hc w => index_ids t c hc w
  unfold tv
  go_enter Try.func22, Try.ntmps22
  go_upto_region 1 with fail
  obtain ⟨w1, hw1, HX, HB, HD, hz⟩ := ids_box w t
  rw [← hw1]
  clear hw1
  obtain ⟨c0, c1, c2⟩ := ids_cells HX.out
  go_wp2
  go_loopw [6] (fun s6 wr => ∃ i : Nat, i ≤ 3 ∧ s6 = .int .i64 i ∧ wr = w1 ∧ Hid (∀ j, j < i → 1 ≤ Rg.at' t j ∧ Rg.at' t j ≤ 1000)) (fun s6 _ => 3 - (intOf s6).toNat)
  case atStart => exact ⟨0, by omega, rfl, rfl, fun j hj => absurd hj (Nat.not_lt_zero _)⟩
  case round =>
    obtain ⟨i, hi, rfl, hww, HE⟩ := hrel
    subst hww
    by_cases hlt : i < 3
    · have ix := IX i hlt
      have hno : ¬ (1 ≤ Rg.at' t i ∧ Rg.at' t i ≤ 1000) → okB t = false := fun h => by
        cases h2 : okB t
        · rfl
        · exact absurd ((okB_iff t).1 h2 i hlt) h
      have HNO := hid hno
      have HXX := hid (rfl : Rg.at' t i = Rg.at' t i)
      clear hno
      obtain ⟨x, hx⟩ : ∃ x, x = Rg.at' t i := ⟨_, rfl⟩
      rw [← hx] at ix HNO
      have HX2 := hid hx
      clear hx IX HXX
      by_cases hA : x < 1
      · go_wp2
        go_ret
        exact ⟨by rw [HNO.out (by omega)]; rfl, HB.out⟩
      · by_cases hB : 1000 < x
        · go_wp2
          go_ret
          exact ⟨by rw [HNO.out (by omega)]; rfl, HB.out⟩
        · go_wp2
          go_roundw
          case rel =>
            refine ⟨i + 1, by omega, by go_num, trivial, fun j hj => ?_⟩
            by_cases hji : j < i
            · exact HE.out j hji
            · obtain rfl : j = i := by omega
              rw [← HX2.out]; omega
          case measure => simp [intOf]; omega
    · obtain rfl : i = 3 := by omega
      have hok : okB t = true := (okB_iff t).2 fun c hc => HE.out c hc
      have HOK := hid hok
      clear hok
      go_wp2
      go_ret
      exact ⟨by rw [HOK.out]; rfl, HB.out⟩
/-- What may be a ring's. -/
def RMay (l : List Rg.T) : Prop := l.Pairwise Rg.lt ∧ (∀ t ∈ l, Rg.Ok t) ∧ l.length ≤ 100
theorem chain_pair {l : List Rg.T} (h : ∀ i (h : i + 1 < l.length), Rg.lt l[i] l[i + 1]) : l.Pairwise Rg.lt := by
  rw [List.pairwise_iff_getElem]
  intro i j hi hj hij
  induction j with
  | zero => omega
  | succ j ih =>
    by_cases he : i = j
    · subst he; exact h i hj
    · exact Rg.lt_trans (ih (by omega) (by omega)) (h j hj)
theorem fresh_set {B : Nat} {w : World} {P : World → Prop} (h : Fresh B w P) (g o : Nat) (u : Value) (hg : g < B) : Fresh B (w.setCell ⟨g, o, none⟩ u) P :=
  fun w'' hw => h w'' fun k hk hl => by rw [hw k hk (by simpa using hl), Below.heap_setCell _ _ _ _ (by show k ≠ g; omega)]
/-- The waves told so far. -/
def rcl (pw : Nat → Nat) (k : Nat) : List Value := (List.range 3).map fun c => if c < k then .pointer (some ⟨pw c, 0, none⟩) else .pointer none
theorem rcl_get (pw : Nat → Nat) (k c : Nat) (h : c < 3) : (rcl pw k)[c]? = some (if c < k then .pointer (some ⟨pw c, 0, none⟩) else .pointer none) := by
  unfold rcl; rw [List.getElem?_map, List.getElem?_range h]; rfl
theorem rcl_set (pw : Nat → Nat) (k x : Nat) (h : k < 3) : (rcl pw k).set k (.pointer (some ⟨x, 0, none⟩)) = rcl (fun c => if c = k then x else pw c) (k + 1) := by
  apply List.ext_getElem?
  intro t
  rw [List.getElem?_set]
  have hl : (rcl pw k).length = 3 := by simp [rcl]
  by_cases ht : t < 3
  · rw [rcl_get _ _ _ ht, rcl_get _ _ _ ht, hl]
    split
    · rename_i h1; subst h1; simp [h]
    · rename_i h1
      by_cases h2 : t < k
      · have h3 : ¬ t = k := fun e => h1 e.symm
        simp only [if_pos h2, if_pos (show t < k + 1 by omega), if_neg h3]
      · simp only [if_neg h2, if_neg (show ¬ t < k + 1 by omega)]
  · have e : ∀ pw k, (rcl pw k)[t]? = none := fun pw k => by simp [rcl]; omega
    rw [e, e, if_neg (by omega)]
def rcell (pw : Nat → Nat) (k c : Nat) : Value := if c < k then .pointer (some ⟨pw c, 0, none⟩) else .pointer none
theorem A_may {l : List Rg.T} {c : Nat} (h : ∀ t ∈ l, Rg.Ok t) (hl : l.length ≤ 100) : Pm.May ((Rg.A l c).map fun x : Nat => (x : Int)) (10 : Nat) := by
  refine ⟨by omega, by omega, by rw [List.length_map, Rg.A_length]; omega, fun i hi => ?_⟩
  rw [List.length_map] at hi
  simp only [List.getD, List.getElem?_map, List.getElem?_eq_getElem hi, Option.map_some, Option.getD_some]
  have := Rg.A_le (c := c) h _ (List.getElem_mem hi)
  constructor
  · omega
  · show (((Rg.A l c)[i] : Nat) : Int).toNat < 2 ^ (10 : Int).toNat
    rw [Int.toNat_natCast, show (10 : Int).toNat = 10 from rfl]
    omega
set_option maxHeartbeats 1000000 in
theorem rnew_any (v0 : Value) (l : List Rg.T) (w : World) (h : IdsAt w v0 l) (hlm : l.length ≤ 140737488351232) :
    Calls Try.prog 11 #[v0] w fun e w' => Below w.heap.size w w' ∧ ((RMay l ∧ ∃ p, e = .returned (.tuple #[.pointer (some ⟨p, 0, none⟩), .int .i64 0]) ∧ Fresh w.heap.size w' (fun W => IsRing W p l)) ∨ (¬ RMay l ∧ e = .returned (.tuple #[.pointer none, .int .i64 1]))) := by
  obtain ⟨a, cap, hv0, q1, q2, q3⟩ := h.open
  have HI := hid h
  subst hv0
  by_cases hbig : 100 < l.length
  · clear h
    go_enter Try.func11, Try.ntmps11
    go_wp2
    go_ret2
    exact ⟨Below.refl _ _, Or.inr ⟨fun h => by have := h.2.2; omega, rfl⟩⟩
  · have hl : l.length ≤ 100 := by omega
    clear h hbig
    obtain ⟨n, hn⟩ : ∃ n, n = l.length := ⟨_, rfl⟩
    have HN := hid hn
    rw [← hn] at q1 hl hlm ⊢
    clear hn
    go_enter Try.func11, Try.ntmps11
    go_wp2
    go_loopw [15] (fun s15 wr => ∃ i : Nat, i ≤ n ∧ s15 = .int .i64 i ∧ Hid (Below w.heap.size w wr) ∧ Hid (∀ j (h : j < l.length), j < i → Rg.Ok l[j]) ∧ Hid (∀ j (h : j + 1 < l.length), j + 1 < i → Rg.lt l[j] l[j + 1])) (fun s15 _ => n - (intOf s15).toNat)
    case atStart => exact ⟨0, by omega, rfl, Below.refl _ _, (fun j h hj => absurd hj (Nat.not_lt_zero _)), fun j h hj => absurd hj (Nat.not_lt_zero _)⟩
    case round =>
      obtain ⟨i, hin, rfl, HB, HO, HL⟩ := hrel
      by_cases hlt : i < n
      · have hil : i < l.length := by rw [← HN.out]; exact hlt
        have hI2 := HI.out.keep HB.out
        rw [← HN.out] at hI2
        obtain ⟨b, off, rfl, hx⟩ := hI2.get (i := i) hil
        obtain ⟨t, ht⟩ : ∃ t, t = l[i] := ⟨_, rfl⟩
        have x0 := hx i hil 0 (by omega)
        have x1 := hx i hil 1 (by omega)
        have x2 := hx i hil 2 (by omega)
        rw [← ht] at x0 x1 x2
        have e0 : off + i * 3 + 0 = off + i * 3 := by omega
        rw [e0] at x0
        have a0 : Rg.at' t 0 = t.1 := rfl
        have a1 : Rg.at' t 1 = t.2.1 := rfl
        have a2 : Rg.at' t 2 = t.2.2 := rfl
        rw [a0] at x0
        rw [a1] at x1
        rw [a2] at x2
        have HT := hid ht
        have HX := hid hx
        have hw0 := HB.out.size
        have hltI : (i : Int) < n := by omega
        clear ht hx e0 a0 a1 a2 hI2
        go_upto_region 6 with fail
        obtain ⟨w4, hw4, HT4, HB5⟩ := new3 wr (.int .i64 t.1) (.int .i64 t.2.1) (.int .i64 t.2.2) 24
        rw [← hw4]
        obtain ⟨y0, y1, y2⟩ := ids_cells (show Blk w4 wr.heap.size (tl t) 24 from HT4.out)
        have g0 := fun q : Later w4.heap.size w4 => q.keep y0
        have g1 := fun q : Later w4.heap.size w4 => q.keep y1
        have g2 := fun q : Later w4.heap.size w4 => q.keep y2
        have MB := hid fun q : Later w4.heap.size w4 => mayB_any t q.it
        unfold tv at MB
        have HB6 := hid (below_then HB.out HB5.out)
        clear hw4 y0 y1 y2 HB x0 x1 x2
        by_cases hok : okB t = true
        · have hokk := (okB_iff t).1 hok
          rw [hok] at MB
          by_cases hi0 : i = 0
          · subst hi0
            have hO2 : ∀ j (h : j < l.length), j < 0 + 1 → Rg.Ok l[j] := fun j h hj => by
              obtain rfl : j = 0 := by omega
              rw [← HT.out]; exact hokk
            have HO2 := hid hO2
            clear hO2 hok hokk
            refine wp_region_later w4.heap.size (by kernel_rfl) (by kernel_rfl) ?_
            repeat (go_big_quiet_step ((go_at_call 22; with_reducible exact Later.call (Nat.le_refl _) (MB.out _))))
            refine wpQuiet_nil ?_
            rintro w5 ⟨q, hq5⟩
            have hb5 : Below w4.heap.size w4 w5 := by rw [hq5]; exact q.low
            have HB7 := hid (below_then HB6.out hb5)
            clear hq5 q g0 g1 g2 hb5
            go_wp2
            go_roundw
            case rel => exact ⟨1, by omega, by go_num, HB7.out, HO2.out, fun j h hj => by omega⟩
            case measure => simp [intOf]; omega
          · have hil1 : i - 1 < l.length := by omega
            obtain ⟨b', off', hbe, hx'⟩ := ((HI.out.keep HB6.out)).get (i := i) hil
            cases hbe
            obtain ⟨s, hs⟩ : ∃ s, s = l[i - 1] := ⟨_, rfl⟩
            have k0 := hx' (i - 1) hil1 0 (by omega)
            have k1 := hx' (i - 1) hil1 1 (by omega)
            have k2 := hx' (i - 1) hil1 2 (by omega)
            rw [← hs] at k0 k1 k2
            have a0 : Rg.at' s 0 = s.1 := rfl
            have a1 : Rg.at' s 1 = s.2.1 := rfl
            have a2 : Rg.at' s 2 = s.2.2 := rfl
            rw [a0] at k0
            rw [a1] at k1
            rw [a2] at k2
            obtain ⟨i', hi'⟩ : ∃ i', i = i' + 1 := ⟨i - 1, by omega⟩
            subst hi'
            simp only [Nat.add_sub_cancel] at hs k0 k1 k2 hil1
            rw [Nat.add_zero] at k0
            have g3 := fun q : Later w4.heap.size w4 => q.keep k0
            have g4 := fun q : Later w4.heap.size w4 => q.keep k1
            have g5 := fun q : Later w4.heap.size w4 => q.keep k2
            have e1 : ((i' + 1 : Nat) : Int) - 1 = i' := by omega
            have CM := hid fun q : Later w4.heap.size w4 => (rcmp_any s t q.it).mono fun e w' h => (⟨h.1, h.2.1⟩ : e = .returned (.int .i64 (Rg.cmp s t)) ∧ Below q.it.heap.size q.it w')
            unfold tv at CM
            obtain ⟨r, hr⟩ : ∃ r, r = Rg.cmp s t := ⟨_, rfl⟩
            rw [← hr] at CM
            have HSL := hid hs
            have HI1 := hid hil1
            by_cases hneg : r < 0
            · have hst : Rg.lt s t := (Rg.cmp_neg s t).1 (by omega)
              have hO2 : ∀ j (h : j < l.length), j < i' + 1 + 1 → Rg.Ok l[j] := fun j h hj => by
                by_cases hji : j < i' + 1
                · exact HO.out j h hji
                · obtain rfl : j = i' + 1 := by omega
                  rw [← HT.out]; exact hokk
              have hL2 : ∀ j (h : j + 1 < l.length), j + 1 < i' + 1 + 1 → Rg.lt l[j] l[j + 1] := fun j h hj => by
                by_cases hji : j + 1 < i' + 1
                · exact HL.out j h hji
                · obtain rfl : j = i' := by omega
                  rw [← HT.out, ← HSL.out]; exact hst
              have HO2 := hid hO2
              have HL2 := hid hL2
              clear hO2 hL2 hok hokk hr hs hst hx' k0 k1 k2 a0 a1 a2 hil1
              refine wp_region_later w4.heap.size (by kernel_rfl) (by kernel_rfl) ?_
              repeat (go_big_quiet_step (first | (go_at_call 22; with_reducible exact Later.call (Nat.le_refl _) (MB.out _)) | (go_at_call 23; with_reducible exact Later.call (Nat.le_refl _) (CM.out _))))
              refine wpQuiet_nil ?_
              rintro w5 ⟨q, hq5⟩
              have hb5 : Below w4.heap.size w4 w5 := by rw [hq5]; exact q.low
              have HB7 := hid (below_then HB6.out hb5)
              clear hq5 q g0 g1 g2 g3 g4 g5 hb5
              go_wp2
              go_roundw
              case rel => exact ⟨i' + 1 + 1, by omega, by go_num, HB7.out, HO2.out, HL2.out⟩
              case measure => simp [intOf]; omega
            · have hno : ¬ RMay l := fun h => by
                have h1 := List.pairwise_iff_getElem.1 h.1 i' (i' + 1) hil1 hil (by omega)
                rw [← hs, ← HT.out] at h1
                exact hneg (by rw [hr]; exact (Rg.cmp_neg s t).2 h1)
              have HNO := hid hno
              clear hok hokk hr hs hx' k0 k1 k2 a0 a1 a2 hno hil1
              refine wp_region_later w4.heap.size (by kernel_rfl) (by kernel_rfl) ?_
              repeat (go_big_quiet_step (first | (go_at_call 22; with_reducible exact Later.call (Nat.le_refl _) (MB.out _)) | (go_at_call 23; with_reducible exact Later.call (Nat.le_refl _) (CM.out _))))
              refine wpQuiet_nil ?_
              rintro w5 ⟨q, hq5⟩
              have hb5 : Below w4.heap.size w4 w5 := by rw [hq5]; exact q.low
              have HB7 := hid (below_then HB6.out hb5)
              clear hq5 q g0 g1 g2 g3 g4 g5 hb5
              go_wp2
              go_ret2
              exact ⟨HB7.out, Or.inr ⟨HNO.out, rfl⟩⟩
        · have hno : ¬ RMay l := fun h => hok ((okB_iff t).2 (h.2.1 t (by rw [HT.out]; exact List.getElem_mem _)))
          have hf : okB t = false := by cases h : okB t; rfl; exact absurd h hok
          rw [hf] at MB
          have HNO := hid hno
          clear hno hf hok
          refine wp_region_later w4.heap.size (by kernel_rfl) (by kernel_rfl) ?_
          repeat (go_big_quiet_step ((go_at_call 22; with_reducible exact Later.call (Nat.le_refl _) (MB.out _))))
          refine wpQuiet_nil ?_
          rintro w5 ⟨q, hq5⟩
          have hb5 : Below w4.heap.size w4 w5 := by rw [hq5]; exact q.low
          have HB7 := hid (below_then HB6.out hb5)
          clear hq5 q g0 g1 g2 hb5
          go_wp2
          go_ret2
          exact ⟨HB7.out, Or.inr ⟨HNO.out, rfl⟩⟩
      · obtain rfl : i = n := by omega
        have hmay : RMay l := by
          refine ⟨chain_pair fun j hj => HL.out j hj (by rw [HN.out]; exact hj), fun t ht => ?_, by rw [← HN.out]; exact hl⟩
          obtain ⟨j, hj, rfl⟩ := List.getElem_of_mem ht
          exact HO.out j hj (by rw [HN.out]; exact hj)
        obtain ⟨wo, rfl⟩ : ∃ wo : World, wo = wr := ⟨_, rfl⟩
        have HMAY := hid hmay
        clear hmay HO HL
        have hOK := HMAY.out.2.1
        have HNA := hid fun c => A_may (c := c) hOK (by rw [← HN.out]; exact hl)
        go_upto_region 10 with fail
        obtain ⟨wa, hwa, HA, HBa⟩ := new3 wo (.pointer none) (.pointer none) (.pointer none) 52
        rw [← hwa]
        have hza : wa.heap.size = wo.heap.size + 1 := by rw [hwa]; simp
        have HBw := hid (below_then HB.out HBa.out)
        have hwr := HB.out.size
        clear hwa hOK HBa
        go_wp2
        go_loopw [40] (fun s40 wr => ∃ (k : Nat) (pw : Nat → Nat), k ≤ 3 ∧ s40 = .int .i64 k ∧ Hid (Below w.heap.size w wr) ∧ Hid (wo.heap.size + 1 ≤ wr.heap.size) ∧ Hid (Blk wr wo.heap.size (rcl pw k) 52) ∧ Hid (∀ c, c < k → Fresh (wo.heap.size + 1) wr (fun W => IsWave W (pw c) (Rg.A l c) 10))) (fun s40 _ => 3 - (intOf s40).toNat)
        case atStart => exact ⟨0, fun _ => 0, by omega, rfl, HBw.out, (show wo.heap.size + 1 ≤ wa.heap.size by omega), HA.out, fun c hc => absurd hc (Nat.not_lt_zero _)⟩
        case round =>
          obtain ⟨k, pw, hk, rfl, HBx, HZ, HC, HF⟩ := hrel
          by_cases hkl : k < 3
          · have CA := colA_any (.slice a l.length cap) k l wr (HI.out.keep HBx.out) (by rw [← HN.out]; exact hl) HMAY.out.2.1 hkl
            simp only [← HN.out] at CA
            go_upto_region 13 with fail
            go_wp2_with fail
            refine CA.mono ?_
            rintro e w5 ⟨a5, cap5, rfl, hA5, hB5⟩
            have WN := wnew_ok a5 i cap5 10 (Rg.A l k) w5 (by rw [Rg.A_length]; exact HN.out) (HNA.out k) hA5
            have HB5 := hid hB5
            clear CA hA5 hB5
            go_wp2_with fail
            refine WN.mono ?_
            rintro e w6 ⟨p6, rfl, hB6, hF6⟩
            have hz5 := HB5.out.size
            have hz6 := hB6.size
            have HC6 := hid ((HC.out.keep HB5.out).keep hB6)
            have HB6 := hid (below_then HBx.out (below_then HB5.out hB6))
            have hz := HZ.out
            have HF6 := hid (hF6.mono (show wo.heap.size + 1 ≤ w5.heap.size by omega))
            have HFO := hid fun c (hc : c < k) => ((HF.out c hc).keep HB5.out).keep hB6
            have c6 := HC6.out.cell (rcl_get pw k k hkl)
            have f6 := HC6.out.free k
            have HS := hid (rcl_set pw k p6 hkl)
            clear WN hB6 hF6 HB5 HC HBx HF
            go_wp2
            go_roundw
            case rel =>
              refine ⟨k + 1, fun c => if c = k then p6 else pw c, by omega, by go_num, HB6.out.setCell (by show w.heap.size ≤ wo.heap.size; omega) _, (by show wo.heap.size + 1 ≤ _; simp; omega), ?_, fun c hc => ?_⟩
              · have := HC6.out.set k (.pointer (some ⟨p6, 0, none⟩))
                rw [HS.out] at this
                exact this
              · by_cases hck : c = k
                · subst hck
                  simp only [if_pos]
                  exact fresh_set HF6.out _ _ _ (Nat.lt_succ_self _)
                · simp only [if_neg hck]
                  exact fresh_set (HFO.out c (by omega)) _ _ _ (Nat.lt_succ_self _)
            case measure => simp [intOf]; omega
          · obtain rfl : k = 3 := by omega
            have hring : Fresh w.heap.size wr (fun W => IsRing W wo.heap.size l) := fun W hW => by
              refine ⟨HMAY.out.1, HMAY.out.2.1, HMAY.out.2.2, pw, fun c hc => ⟨?_, ?_⟩⟩
              · have h1 := HC.out.cell (rcl_get pw 3 c hc)
                rw [if_pos hc] at h1
                rw [← h1, cell_heap (hW wo.heap.size (by omega) HC.out.lt)]
              · exact HF.out c hc W fun b hb hl => hW b (by omega) hl
            have HRING := hid hring
            clear hring
            go_wp2
            go_ret2
            exact ⟨HBx.out, Or.inl ⟨HMAY.out, _, rfl, HRING.out⟩⟩
end Go.Proofs.Ytagadfgginneeaa
