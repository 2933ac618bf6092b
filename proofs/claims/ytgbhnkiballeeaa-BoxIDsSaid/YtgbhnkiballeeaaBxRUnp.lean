/- A box: the document's own Unpack. -/
import Derived.Test.YtgbhnkiballeeaaBxRow
namespace Go.Proofs.Ytgbhnkiballeeaa
set_option linter.unusedVariables false
set_option linter.unusedSimpArgs false
set_option maxRecDepth 100000
open Go.ChangeShapes Go.WideShapes Go.ChangeAt Go.RowKit
theorem unp_not {b : List Nat} (h : ¬ (6 ≤ b.length ∧ b.getD 5 0 ≤ 8 ∧ 9 + 7 * b.getD 5 0 ≤ b.length)) : Bx.unp b = none := by
  unfold Bx.unp Bx.cutAll
  rw [if_neg (fun hh => h ⟨hh.1, hh.2.1, hh.2.2.1⟩)]
theorem sizes_append (D : List Bx.Sec) (s : Bx.Sec) : Bx.sizes (D ++ [s]) = Bx.sizes D + s.2.length := by
  unfold Bx.sizes; simp
set_option maxHeartbeats 2000000 in
theorem runp_any (a : Option Addr) (m cap : Nat) (b : List Nat) (W : World) (hm : m = b.length) (h : BytesAt W (.slice a m cap) b) (hb : ∀ i, b.getD i 0 < 256) (h5 : m ≤ 5000) :
    Calls Try.prog 16 #[.slice a m cap] W fun e W' => Below W.heap.size W W' ∧ UnpEnds b W.heap.size W' e 2 := by
  obtain ⟨iu, hi, hz0, hz1, hz2⟩ := info_parts Try.info5
  obtain ⟨is, hsi, hsz0, hsz1, hsz2⟩ := info_parts Try.info42
  obtain ⟨a', cap', e1, hcap, hcm, hnil, _⟩ := SlAt.open h
  simp only [Value.slice.injEq] at e1
  obtain ⟨rfl, hmb, rfl⟩ := e1
  rw [← hm] at hcap hnil
  have HM := hid hm
  have HA := hid h
  have HB := hid hb
  unfold maxLen at hcm
  clear hmb hm h hb hnil
  by_cases h9 : m < 9
  · have HF := hid (show Bx.unp b = none from unp_not (by have := HM.out; omega))
    go_enter Try.func16, Try.ntmps16
    go_wp2
    go_ret2
    exact ⟨Below.refl _ _, Or.inl ⟨HF.out, rfl⟩⟩
  · obtain ⟨bb, off, rfl, hce⟩ := (SlAt.row HA.out).2.get (i := 5) (by omega)
    have c5 := hce 5 (by omega)
    have hx8 := HB.out 5
    have HNOT := hid (unp_not (b := b))
    have HCUT := hid (unp_cut (b := b) (by have := HM.out; omega))
    have HCB := hid (fun n e q L => cutL_bounds b HB.out n e q L)
    obtain ⟨x, hx⟩ : ∃ x, x = b.getD 5 0 := ⟨_, rfl⟩
    rw [← hx] at c5 hx8 HNOT HCUT
    simp only [u8v] at c5
    have h9' : 9 ≤ m := by omega
    clear hce hx h9
    by_cases hx9 : 8 < x
    · have HF := hid (HNOT.out (by omega))
      have hb1 : decide ((8 : Int) < (x : Int)) = true := decide_eq_true (by omega)
      go_enter Try.func16, Try.ntmps16
      go_wp2
      go_ret2
      exact ⟨Below.refl _ _, Or.inl ⟨HF.out, rfl⟩⟩
    · have hx9' : x ≤ 8 := by omega
      clear hx9
      by_cases hat : m < 9 + 7 * x
      · have HF := hid (HNOT.out (by have := HM.out; omega))
        go_enter Try.func16, Try.ntmps16
        go_wp2
        go_ret2
        exact ⟨Below.refl _ _, Or.inl ⟨HF.out, rfl⟩⟩
      · have hat' : 9 + 7 * x ≤ m := by omega
        have HC0 := hid (show cutO b x = Bx.cutL b x 6 (9 + 7 * x) by unfold cutO; rw [if_pos (by have := HM.out; omega)])
        clear hat HNOT
        go_enter Try.func16, Try.ntmps16
        go_wp2
        go_loopw [5, 6, 7] (fun s5 s6 s7 wr => ∃ (i q : Nat) (v : Value) (D : List Bx.Sec) (A : List Value), i ≤ x ∧ s7 = .int .i64 i ∧ q ≤ m ∧ s5 = .int .i64 q ∧ s6 = v ∧ Hid (D.length = i ∧ A.length = i * 2 ∧ q = 9 + 7 * x + Bx.sizes D) ∧
          Hid (wr.ownsRow W.heap.size 42 2 v i A) ∧ Hid (RowCells W.heap.size wr v D A) ∧ Hid (Bx.cutL b x 6 (9 + 7 * x) = (Bx.cutL b (x - i) (6 + 7 * i) q).map (D ++ ·)) ∧ Hid (Below W.heap.size W wr)) (fun _ _ s7 _ => x - (intOf s7).toNat)
        case atStart => exact ⟨0, 9 + 7 * x, .slice none 0 0, [], [], by omega, rfl, by omega, by go_num, rfl, hid ⟨rfl, rfl, by simp [Bx.sizes]⟩, hid ⟨rfl, Or.inl ⟨rfl, rfl⟩⟩, hid (fun j hj => absurd hj (Nat.not_lt_zero _)), hid (by simp), Below.refl _ _⟩
        case round =>
          obtain ⟨i, q, v, D, A, hix, rfl, hqm, rfl, hv, HD, HO, HR, HC, HBW⟩ := hrel
          have hv2 := hv.symm
          subst hv2
          clear hv
          by_cases hlt : i < x
          · have hltI : (i : Int) < x := by omega
            obtain ⟨b', off', e, hce⟩ := (SlAt.row (HA.out.keep HBW.out)).2.get (i := 6 + 7 * i) (by omega)
            simp only [Option.some.injEq, Addr.mk.injEq, and_true] at e
            obtain ⟨rfl, rfl⟩ := e
            have c0 := hce (6 + 7 * i) (by omega)
            have c1 : wr.cell? ⟨bb, off + (6 + 7 * i) + 1, none⟩ = some (u8v (b.getD (6 + 7 * i + 1) 0)) := by rw [Nat.add_assoc]; exact hce (6 + 7 * i + 1) (by omega)
            have c2 : wr.cell? ⟨bb, off + (6 + 7 * i) + 2, none⟩ = some (u8v (b.getD (6 + 7 * i + 2) 0)) := by rw [Nat.add_assoc]; exact hce (6 + 7 * i + 2) (by omega)
            have c3 : wr.cell? ⟨bb, off + (6 + 7 * i) + 3, none⟩ = some (u8v (b.getD (6 + 7 * i + 3) 0)) := by rw [Nat.add_assoc]; exact hce (6 + 7 * i + 3) (by omega)
            simp only [u8v] at c0 c1 c2 c3
            have k0 := HB.out (6 + 7 * i)
            have k1 := HB.out (6 + 7 * i + 1)
            have k2 := HB.out (6 + 7 * i + 2)
            have k3 := HB.out (6 + 7 * i + 3)
            have OR := or3 _ _ _ k1 k2 k3
            obtain ⟨z, hz⟩ : ∃ z, z = Bx.val3 (b.getD (6 + 7 * i + 1) 0) (b.getD (6 + 7 * i + 2) 0) (b.getD (6 + 7 * i + 3) 0) := ⟨_, rfl⟩
            rw [← hz] at OR
            have hstep : Bx.cutL b (x - i) (6 + 7 * i) q = if z + q ≤ m then (Bx.cutL b (x - (i + 1)) (6 + 7 * (i + 1)) (q + z)).map fun L => (((b.getD (6 + 7 * i) 0 : Nat) : Int), (b.drop q).take z) :: L else none := by
              rw [show x - i = (x - (i + 1)) + 1 by omega, Bx.cutL, hz, HM.out]; rfl
            have HST := hid hstep
            have hzl : z < 16777216 := by rw [hz]; unfold Bx.val3; omega
            clear hstep hz hce
            generalize b.getD (6 + 7 * i) 0 = id at *
            generalize b.getD (6 + 7 * i + 1) 0 = y1 at *
            generalize b.getD (6 + 7 * i + 2) 0 = y2 at *
            generalize b.getD (6 + 7 * i + 3) 0 = y3 at *
            have hc6 : cap - (6 + 7 * i) ≠ 0 := by omega
            have hc6' : ¬ cap ≤ 6 + 7 * i := by omega
            go_upto_region 12 with fail
            have hml : 4 < m - (6 + 7 * i) := by omega
            obtain ⟨oe, hoe⟩ : ∃ oe, oe = off + (6 + 7 * i) := ⟨_, rfl⟩
            obtain ⟨ml, hml2⟩ : ∃ ml, ml = m - (6 + 7 * i) := ⟨_, rfl⟩
            obtain ⟨ce, hce2⟩ : ∃ ce, ce = cap - (6 + 7 * i) := ⟨_, rfl⟩
            have hmc : ml ≤ ce := by omega
            rw [← hoe] at c0 c1 c2 c3 ⊢
            rw [← hml2] at hml ⊢
            rw [← hce2] at ⊢
            clear hoe hml2 hce2 hc6 hc6'
            have j0 : 0 < ml := by omega
            have j1 : 1 < ml := by omega
            have j2 : 2 < ml := by omega
            have j3 : 3 < ml := by omega
            go_quiet (fail)
            by_cases hzq : z ≤ m - q
            · have hzb : decide (((m : Int) - (q : Int)) < (z : Int)) = false := decide_eq_false (by omega)
              have hst := HST.out
              rw [if_pos (by omega)] at hst
              have HC2 := hid (show Bx.cutL b x 6 (9 + 7 * x) = (Bx.cutL b (x - (i + 1)) (6 + 7 * (i + 1)) (q + z)).map ((D ++ [(((id : Nat) : Int), (b.drop q).take z)]) ++ ·) by
                rw [HC.out, hst, Option.map_map]; congr 1; funext L; simp)
              obtain ⟨w4, hw4⟩ : ∃ w4, w4 = wr.drewN nq := ⟨_, rfl⟩
              rw [← hw4]
              have hb4 : Below wr.heap.size wr w4 := by rw [hw4]; exact below_drawn (Below.refl _ _) _
              have HBW4 := hid (below_then HBW.out hb4)
              have c0 := below_keep hb4 c0
              have HO4 := hid (own_below HO.out hb4)
              have HR4 := hid (HR.out.keep hb4)
              have HA4 := hid (HA.out.keep HBW4.out)
              have hwz := HBW4.out.size
              have hlb : ((b.drop q).take z).length = z := by rw [List.length_take, List.length_drop, ← HM.out]; omega
              have HLB := hid hlb
              have hqz1 : q + z ≤ m := by omega
              have hqc : q ≤ cap := by omega
              have hqzc : q + z ≤ cap := by omega
              clear hst hw4 hb4 c1 c2 c3 OR hzb HO HR HC HST j1 j2 j3 hlb
              obtain ⟨oq, cq, hcase⟩ : ∃ oq cq, ((q < cap ∧ ¬ cap = q ∧ ¬ cap ≤ q) ∧ oq = off + q ∧ cq = cap - q) ∨ (cap - q = 0 ∧ cap ≤ q ∧ oq = off ∧ cq = 0) := by
                by_cases h : q < cap
                · exact ⟨_, _, Or.inl ⟨⟨h, by omega, by omega⟩, rfl, rfl⟩⟩
                · exact ⟨_, _, Or.inr ⟨by omega, by omega, rfl, rfl⟩⟩
              have HSUB := hid (show BytesAt w4 (.slice (some ⟨bb, oq, none⟩) z cq) ((b.drop q).take z) by
                rcases hcase with ⟨h1, rfl, rfl⟩ | ⟨h0, h1, rfl, rfl⟩
                · exact bytes_sub HA4.out q z _ _ rfl (by omega) (by omega) (by unfold maxLen; omega)
                · have hz0 : z = 0 := by omega
                  subst hz0
                  rw [List.take_zero]
                  exact ⟨_, _, rfl, Nat.zero_le _, by unfold maxLen; omega, (fun h => by cases h), Or.inl rfl⟩)
              generalize (b.drop q).take z = body at *
              obtain ⟨r, hr⟩ : ∃ r, r = q + z := ⟨_, rfl⟩
              have hrI : (q : Int) + (z : Int) = (r : Int) := by omega
              have hrW : IntKind.i64.wrap (r : Int) = (r : Int) := IntWalk.i64_in _ (by omega)
              have hidW : IntKind.i64.wrap (id : Int) = (id : Int) := IntWalk.i64_in _ (by omega)
              have hqr : q ≤ r := by omega
              have hrc : r ≤ cap := by omega
              have hrz : r - q = z := by omega
              have HRQ := hid hr
              clear hr
              rcases hcase with ⟨⟨hq1, hq2, hq3⟩, rfl, rfl⟩ | ⟨hq0, hq1, rfl, rfl⟩
              case' inr =>
                obtain rfl : q = cap := by omega
                clear hq0 hq1
              all_goals
                go_upto_region 15 with fail
                have hblt : bb < w4.heap.size := lt_of_cell c0
                have hbne : bb ≠ w4.heap.size := by omega
                go_region_law (first
                  | (refine step_append_seg (by rfl) (.tmp 70) (.tmp 76) 24 (by rfl) w4.heap.size 5 iu _ 1 1 Try.underlying24 hi hz0 hz1 hz2 rfl (by decide) (.slice (some ⟨w4.heap.size, 0, none⟩) 0 0) 0 [] (by rfl) (World.ownsRow_made w4.drew #[] 0 (Nat.le_refl _) (by unfold maxLen; omega) rfl) ⟨bb, _, none⟩ z _ (body.map u8v) (by rw [List.length_map, HLB.out, Nat.mul_one]) (by rfl) (bytes_news (HSUB.out.keep ((Below.refl _ _).drew.alloc (Nat.le_refl _) _))) ?o1 ?b1 ?b2 ?b3 ?_
                     case o1 => (intro u hu; obtain ⟨c, _, rfl⟩ := List.mem_map.1 hu; rfl)
                     case b1 => (unfold maxLen; omega)
                     case b2 => omega
                     case b3 => (simp)
                     intro v1 w1 g1 g2 g3
                     have HB1 := hid (show Below w4.heap.size w4 w1 from ((Below.refl w4.heap.size w4).drew.alloc (Nat.le_refl _) _).grown g2 (by simp) (fun k hk => by
                       simp only [Value.ownBlock, Option.some.injEq] at hk; omega))
                     have G1 := hid (show w1.ownsRow w4.heap.size 5 1 v1 z (body.map u8v) by simpa using g1)
                     obtain ⟨a1, q1, rfl, _, _, _, _⟩ := rowAt_own G1.out
                     have kw1 := below_keep HB1.out c0
                     clear g1 g2 g3)
                  | (refine step_append_seg (by rfl) (.tmp 65) (.tmp 79) 22 (by rfl) W.heap.size 42 is _ 2 32 Try.underlying22 hsi hsz0 hsz1 hsz2 rfl (by decide) v i A (by rfl) ((own_below HO4.out HB1.out).alloc _) ⟨w1.heap.size, 0, none⟩ 1 1 [.int .i64 id, .slice a1 z q1] rfl (by rfl) ?c2 ?o2 ?b4 ?b5 ?b6 ?_
                     case c2 => (intro j u hj; rw [add_cell rfl, Nat.zero_add, cell_new]; simpa using hj)
                     case o2 => (intro u hu; simp at hu; rcases hu with rfl | rfl <;> rfl)
                     case b4 => (unfold maxLen; omega)
                     case b5 => omega
                     case b6 => (have := HB1.out.size; simp; omega)
                     intro v2 w2 g1 g2 g3
                     have G2 := hid g1
                     have GG := hid g2
                     have GM := hid g3
                     clear g1 g2 g3)
                  | fail)
                all_goals
                  have hbz := HBW4.out.size
                  have HB2 := hid (show Below W.heap.size W w2 from ((below_then HBW4.out HB1.out).alloc (by have := HB1.out.size; omega) _).grown GG.out (by have := HB1.out.size; simp; omega) (fun k hk => (HO4.out.lt k hk).1))
                  have HR2 := hid (show RowCells W.heap.size w2 v2 (D ++ [(((id : Nat) : Int), body)]) (A ++ [.int .i64 id, .slice a1 z q1]) from
                    ((HR4.out.keep HB1.out).keep ((Below.refl w1.heap.size w1).alloc (Nat.le_refl _) _)).snoc (((id : Nat) : Int), body) (.slice a1 z q1) (by rw [HD.out.1]; exact HD.out.2.1)
                      (((bytes_fresh G1.out HLB.out.symm).keep ((Below.refl w1.heap.size w1).alloc (Nat.le_refl _) _)).beside hbz (fun k hk => (HO4.out.lt k hk).2)) GG.out GM.out)
                  have HD2 := hid (show ((D ++ [(((id : Nat) : Int), body)]).length = i + 1 ∧ (A ++ [Value.int .i64 id, .slice a1 z q1]).length = (i + 1) * 2 ∧ r = 9 + 7 * x + Bx.sizes (D ++ [(((id : Nat) : Int), body)])) by
                    have h1 := HD.out.1
                    have h2 := HD.out.2.1
                    have h3 := HD.out.2.2
                    have h4 := HRQ.out
                    have h5 := HLB.out
                    rw [sizes_append, List.length_append, List.length_append]
                    refine ⟨by rw [h1]; rfl, by rw [h2]; show i * 2 + 2 = _; omega, by show r = 9 + 7 * x + (Bx.sizes D + body.length); omega⟩)
                  have HC3 := hid (show Bx.cutL b x 6 (9 + 7 * x) = (Bx.cutL b (x - (i + 1)) (6 + 7 * (i + 1)) r).map ((D ++ [(((id : Nat) : Int), body)]) ++ ·) by rw [HRQ.out]; exact HC2.out)
                  clear HB1 G1 kw1 GG GM HC2 HR4 HO4
                  go_wp2
                  go_roundw
                  case rel => exact ⟨i + 1, r, v2, _, _, by omega, by go_num, by have := HRQ.out; omega, by go_num, rfl, HD2, G2, HR2, HC3, HB2⟩
                  case measure => simp [intOf]; omega
            · have hst := HST.out
              rw [if_neg (by omega)] at hst
              have HF := hid (show Bx.unp b = none by rw [HCUT.out, HC0.out, HC.out, hst]; rfl)
              have hzb : decide (((m : Int) - (q : Int)) < (z : Int)) = true := decide_eq_true (by omega)
              clear hst
              go_wp2
              go_ret2
              exact ⟨below_drawn HBW.out _, Or.inl ⟨HF.out, rfl⟩⟩
          · obtain rfl : i = x := by omega
            have hfin := HC.out
            rw [Nat.sub_self, Bx.cutL, Option.map_some, List.append_nil] at hfin
            obtain ⟨hDl, hDb⟩ := HCB.out _ _ _ _ hfin
            have hDq := HD.out.2.2
            have hU := HCUT.out
            rw [HC0.out, hfin] at hU
            simp only at hU
            have HU := hid hU
            have HDB := hid hDb
            have hbyt : Bx.Bytes D := fun s hs => (hDb s hs).2.2
            have HBYT := hid hbyt
            have HFS := hid (HR.out.secs (by rw [hDl]; exact HO.out))
            obtain ⟨a6, c6, hv6, _⟩ := SecsAt.open HFS.out.it
            subst hv6
            rw [hDl] at HFS ⊢
            have hsz : Bx.sizes D ≤ 5000 := by omega
            have HLEN := hid (Bx.file_length D)
            have HFL := hid (file_lt D hbyt)
            clear hfin hDb hU hbyt HC HC0 HCUT HR HO HCB HD
            by_cases hM : Bx.May D
            · have PK := hid (rpack_ok a6 i c6 D wr hDl.symm HFS.out.it (by omega) hsz hM HBYT.out)
              have HMM := hid hM
              clear hM hDl hDq hsz
              generalize Bx.total D = T at *
              generalize hF : Bx.file D = F at *
              have HFF := hid hF
              clear hF
              go_upto_region 18 with (go_at_call 13; refine PK.out.mono ?_; rintro e w2 ⟨v2, rfl, hB2, hown⟩)
              have HB2 := hid hB2
              have KV1 := conv_row (P := Try.prog) Try.underlying24 Try.underlying5 Try.underlying9 w2 _ F (own_bytes hown HLEN.out.symm)
              have KV2 := conv_row (P := Try.prog) Try.underlying24 Try.underlying5 Try.underlying9 w2 _ b (HA.out.keep (below_then HBW.out hB2))
              have SE := hid (strOf_eq HFL.out HB.out)
              generalize strOf F = S1 at *
              generalize strOf b = S2 at *
              clear hown hB2 PK
              by_cases heq : F = b
              · have HE := hid (show Bx.unp b = some D by rw [HU.out, if_pos ⟨HMM.out, heq⟩])
                have se : (S1.toList == S2.toList) = true := by rw [SE.out]; exact decide_eq_true heq
                clear heq HU HLEN HFL HFF
                go_wp2
                go_ret2
                exact ⟨below_then HBW.out HB2.out, Or.inr ⟨_, D, HE.out, rfl, HFS.out.keep HB2.out⟩⟩
              · have HE := hid (show Bx.unp b = none by rw [HU.out, if_neg (fun h => heq h.2)])
                have se : (S1.toList == S2.toList) = false := by rw [SE.out]; exact decide_eq_false heq
                clear heq HU HLEN HFL HFF
                go_wp2
                go_ret2
                exact ⟨below_then HBW.out HB2.out, Or.inl ⟨HE.out, rfl⟩⟩
            · have HE := hid (show Bx.unp b = none by rw [HU.out, if_neg (fun h => hM h.1)])
              have PK := hid (rpack_no a6 i c6 D wr hDl.symm HFS.out.it (by omega) hsz (fun s hs => by have := HDB.out s hs; omega) hM)
              clear hM HU hDl hDq hsz
              go_wp2_with (go_at_call 13; refine PK.out.mono ?_; rintro e w2 ⟨rfl, hB2⟩)
              go_ret2
              exact ⟨below_then HBW.out hB2, Or.inl ⟨HE.out, rfl⟩⟩
end Go.Proofs.Ytgbhnkiballeeaa
