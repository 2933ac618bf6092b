/- The document's own ring: what may be, all that match, the next number. -/
import Derived.Test.YtagadfgginneeaaRgRef2
namespace Go.Proofs.Ytagadfgginneeaa
set_option linter.unusedVariables false
set_option linter.unusedSimpArgs false
set_option maxRecDepth 100000
open Go.ChangeShapes Go.WideShapes Go.ChangeAt Go.RowKit
theorem ids_get {W : World} {a : Option Addr} {n cap : Nat} {L : List Rg.T} (h : IdsAt W (.slice a n cap) L) {i : Nat} (hi : i < L.length) : ∃ b off, a = some ⟨b, off, none⟩ ∧ ∀ i (h : i < L.length), W.cell? ⟨b, off + i * 3, none⟩ = some (.int .i64 L[i].1) ∧ W.cell? ⟨b, off + i * 3 + 1, none⟩ = some (.int .i64 L[i].2.1) ∧ W.cell? ⟨b, off + i * 3 + 2, none⟩ = some (.int .i64 L[i].2.2) := by
  obtain ⟨b, off, rfl, hx⟩ := h.get hi
  exact ⟨b, off, rfl, fun i hi => ⟨hx i hi 0 (by omega), hx i hi 1 (by omega), hx i hi 2 (by omega)⟩⟩
theorem tl_one (x : Rg.T) : ∀ u ∈ tl x, u.oneCell' = true := by
  intro u hu; simp [tl] at hu; rcases hu with rfl | rfl | rfl <;> rfl
theorem news3 (W : World) (x : Rg.T) : ∀ ad, some (⟨W.heap.size, 0, none⟩ : Addr) = some ad → ∀ j u, (tl x)[j]? = some u → (W.alloc (.cells #[.int .i64 x.1, .int .i64 x.2.1, .int .i64 x.2.2] 24)).cell? (ad.add j) = some u := by
  intro ad had k u hu
  cases had
  match k with
  | 0 => simp [tl] at hu; subst hu; simp [go_sem]
  | 1 => simp [tl] at hu; subst hu; simp [go_sem]
  | 2 => simp [tl] at hu; subst hu; simp [go_sem]
  | k + 3 => simp [tl] at hu
set_option maxHeartbeats 1000000 in
theorem refall_any (v0 : Value) (l : List Rg.T) (t : Rg.T) (w : World) (h : IdsAt w v0 l) (hl : l.length ≤ 1000) :
    Calls Try.prog 14 #[v0, tv t] w fun e w' => ∃ v, e = .returned v ∧ NewIds w.heap.size w' v (l.filter (Rg.mt t)) ∧ Below w.heap.size w w' := by
  obtain ⟨i0, hi, hz0, hz1, hz2⟩ := info_parts Try.rainfo24
  obtain ⟨a, cap, e1, p1, p2, p3⟩ := h.open
  subst e1
  have HI := hid h
  obtain ⟨n, hn⟩ : ∃ n, n = l.length := ⟨_, rfl⟩
  have HN := hid hn
  rw [← hn] at p1 hl ⊢
  clear h hn
  unfold tv
  go_enter Try.func14, Try.ntmps14
  go_upto_region 1 with fail
  obtain ⟨w1, hw1, HX, HB, HD, hz⟩ := ids_box w t
  rw [← hw1]
  clear hw1
  go_wp2
  go_loopw [5, 6] (fun s5 s6 wr => ∃ (i : Nat) (lv : Value) (m : Nat), i ≤ n ∧ s6 = .int .i64 i ∧ s5 = lv ∧ m ≤ i ∧ Hid (m = ((l.take i).filter (Rg.mt t)).length) ∧ Hid (Below w.heap.size w wr) ∧ Hid (Blk wr w.heap.size (tl t) 24) ∧ Hid (wr.ownsRow (w.heap.size + 1) 24 3 lv m (fl ((l.take i).filter (Rg.mt t))))) (fun s5 s6 _ => n - (intOf s6).toNat)
  case atStart => exact ⟨0, .slice none 0 0, 0, by omega, rfl, rfl, by omega, rfl, HB.out, HX.out, by rw [List.take_zero, List.filter_nil, fl_nil]; exact hid (World.ownsRow_nil _ _ _ _)⟩
  case round =>
    obtain ⟨i, lv, m, hin, rfl, hlv, hmi, HM, HBr, HXr, HO⟩ := hrel
    have hlv2 := hlv.symm
    subst hlv2
    by_cases hlt : i < n
    · have hil : i < l.length := by rw [← HN.out]; exact hlt
      have hI2 := HI.out.keep HBr.out
      rw [← HN.out] at hI2
      obtain ⟨b, off, rfl, hx⟩ := ids_get hI2 hil
      obtain ⟨x, hxx⟩ : ∃ x, x = l[i] := ⟨_, rfl⟩
      have c := hx i hil
      rw [← hxx] at c
      have HXX := hid hxx
      obtain ⟨t0, t1, t2⟩ := ids_cells HXr.out
      have g0 := fun q : Later wr.heap.size wr => q.keep c.1
      have g1 := fun q : Later wr.heap.size wr => q.keep c.2.1
      have g2 := fun q : Later wr.heap.size wr => q.keep c.2.2
      have g3 := fun q : Later wr.heap.size wr => q.keep t0
      have g4 := fun q : Later wr.heap.size wr => q.keep t1
      have g5 := fun q : Later wr.heap.size wr => q.keep t2
      have MM := hid fun q : Later wr.heap.size wr => rmatch_any t x q.it
      unfold tv at MM
      have hltI : (i : Int) < n := by omega
      have htake : l.take (i + 1) = l.take i ++ [x] := by rw [List.take_add_one, List.getElem?_eq_getElem hil, ← hxx]; rfl
      have HTK := hid htake
      have HHX := hid hx
      clear hx hxx hI2 htake c t0 t1 t2
      cases hm : Rg.mt t x
      · rw [hm] at MM
        have hf : (l.take (i + 1)).filter (Rg.mt t) = (l.take i).filter (Rg.mt t) := by rw [HTK.out, List.filter_append]; simp [hm]
        have HF := hid hf
        clear hm hf
        go_upto_region 5 with fail
        refine wp_region_later wr.heap.size (by kernel_rfl) (by kernel_rfl) ?_
        repeat (go_big_quiet_step ((go_at_call 21; with_reducible exact Later.call (Nat.le_refl _) (MM.out _))))
        refine wpQuiet_nil ?_
        rintro w5 ⟨q, hq5⟩
        have hb5 : Below wr.heap.size wr w5 := by rw [hq5]; exact q.low
        have HB5 := hid (below_then HBr.out hb5)
        have HX5 := hid (HXr.out.keep hb5)
        have HO5 := hid (own_below HO.out hb5)
        clear hq5 q g0 g1 g2 g3 g4 g5 hb5 HO
        go_wp2
        go_roundw
        case rel => exact ⟨i + 1, lv, m, by omega, by go_num, rfl, by omega, hid (by rw [HF.out]; exact HM.out), HB5.out, HX5.out, hid (by rw [HF.out]; exact HO5.out)⟩
        case measure => simp [intOf]; omega
      · rw [hm] at MM
        have hf : (l.take (i + 1)).filter (Rg.mt t) = (l.take i).filter (Rg.mt t) ++ [x] := by rw [HTK.out, List.filter_append]; simp [hm]
        have hfl : fl ((l.take i).filter (Rg.mt t)) ++ tl x = fl ((l.take (i + 1)).filter (Rg.mt t)) := by rw [hf, fl_snoc]
        have hml : m + 1 = ((l.take (i + 1)).filter (Rg.mt t)).length := by rw [hf, List.length_append, ← HM.out]; rfl
        have HFL := hid hfl
        have HML := hid hml
        clear hm hf hfl hml
        go_upto_region 5 with fail
        refine wp_region_later wr.heap.size (by kernel_rfl) (by kernel_rfl) ?_
        repeat (go_big_quiet_step ((go_at_call 21; with_reducible exact Later.call (Nat.le_refl _) (MM.out _))))
        refine wpQuiet_nil ?_
        rintro w5 ⟨q, hq5⟩
        have hb5 : Below wr.heap.size wr w5 := by rw [hq5]; exact q.low
        have HB5 := hid (below_then HBr.out hb5)
        have HX5 := hid (HXr.out.keep hb5)
        have HO5 := hid (own_below HO.out hb5)
        have k0 := below_keep hb5 (HHX.out i hil).1
        have k1 := below_keep hb5 (HHX.out i hil).2.1
        have k2 := below_keep hb5 (HHX.out i hil).2.2
        rw [← HXX.out] at k0 k1 k2
        clear hq5 q g0 g1 g2 g3 g4 g5 hb5 HO
        have hz5 := HB5.out.size
        have hlt5 := HX5.out.lt
        have hob : ∀ k, lv.ownBlock = some k → w.heap.size + 1 ≤ k := fun k hk => (HO5.out.lt k hk).1
        go_wp2_with (at_builtin; refine wpList_append_blk rfl (.tmp 19) (.tmp 24) 22 rfl (w.heap.size + 1) 24 i0 _ 3 24 Try.underlying22 hi hz0 hz1 hz2 rfl (by decide) _ _ _ rfl (HO5.out.alloc _) (some ⟨w5.heap.size, 0, none⟩) 1 1 (tl x) rfl (fun h => by cases h) rfl (news3 w5 x) (tl_one x) (by unfold maxLen; omega) (by omega) (by simp; omega) ?_)
        intro lv' w6 hown hgr hmv
        rw [HFL.out] at hown
        have hgr5 : w5.grownBy w6 lv.ownBlock := ⟨hgr.os, hgr.tape, hgr.output, by have := hgr.size; simp at this; omega, fun k hk hne => by
          rw [hgr.block k (by simp; omega) hne, RowKit.Below.heap_alloc _ _ _ hk]⟩
        have HX6 : Blk w6 w.heap.size (tl t) 24 := by
          have h := HX5.out
          unfold Blk at *
          rw [hgr5.block w.heap.size (by omega) (fun e => by have := hob _ e.symm; omega)]; exact h
        have HB6 : RowKit.Below w.heap.size w w6 := HB5.out.grown hgr5 hz5 (fun k hk => by have := hob k hk; omega)
        have HOWN := hid hown
        have HHX6 := hid HX6
        have HHB6 := hid HB6
        clear hown hgr hmv hgr5 hob HX6 HB6 HO5 k0 k1 k2
        go_wp2
        go_roundw
        case rel => exact ⟨i + 1, _, m + 1, by omega, by go_num, rfl, by omega, HML.out, HHB6.out, HHX6.out, HOWN.out⟩
        case measure => simp [intOf]; omega
    · obtain rfl : i = n := by omega
      have hO := HO.out
      have hl2 : l.take i = l := List.take_of_length_le (by rw [← HN.out]; exact Nat.le_refl _)
      rw [hl2] at hO
      have hm2 := HM.out
      rw [hl2] at hm2
      obtain ⟨a', cap', hv, h3, h4⟩ := newIds_own hO hm2
      have H34 := hid (And.intro h3 h4)
      have HV := hid hv
      clear hO HO hm2 h3 h4 HM hl2 hv
      go_wp2
      go_ret
      refine ⟨_, rfl, ⟨a', cap', HV.out, H34.out.1, ?_⟩, HBr.out⟩
      rcases H34.out.2 with h4 | ⟨g, e1, e2, e3, e4⟩
      · exact Or.inl h4
      · exact Or.inr ⟨g, e1, by omega, e3, e4⟩
end Go.Proofs.Ytagadfgginneeaa
