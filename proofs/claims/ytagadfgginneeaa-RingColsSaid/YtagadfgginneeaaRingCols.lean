/- RingCols: the least number of a column is that of the first that match, in that column's order. -/
import Derived.Test.YtagadfgginneeaaRgLaw
import Derived.Test.YtagadfgginneeaaRgMath3
namespace Go.Proofs.Ytagadfgginneeaa
set_option linter.unusedVariables false
set_option linter.unusedSimpArgs false
set_option maxRecDepth 100000
open Go.ChangeShapes Go.WideShapes Go.ChangeAt Go.RowKit
theorem ringCols_out (v0 : Value) (l : List Rg.T) (t : Rg.T) (W : World) (h : IdsAt W v0 l) (hl : l.length ≤ 140737488351232) (ho : 60 < l.length ∨ ¬ RMay l) :
    Calls Try.prog 9 #[v0, tv t] W fun e W' => e = .returned (.bool true) ∧ Below W.heap.size W W' := by
  obtain ⟨a, cap, rfl, p1, p2, p3⟩ := h.open
  have MY := hid fun w (hb : Below W.heap.size W w) => rmay_any _ l w (h.keep hb) hl
  clear h
  by_cases hbig : 60 < l.length
  · clear ho
    unfold tv
    go_enter Try.func9, Try.ntmps9
    go_upto_region 1 with fail
    obtain ⟨w1, hw1, HX, HB, HD, hz⟩ := ids_box W t
    rw [← hw1]
    clear hw1 HD hz
    go_wp2
    go_ret
    exact ⟨rfl, HB.out⟩
  · have hm : ¬ RMay l := by
      rcases ho with h | h
      · exact absurd h hbig
      · exact h
    rw [mayB_no hm] at MY
    clear ho hm
    unfold tv
    go_enter Try.func9, Try.ntmps9
    go_upto_region 1 with fail
    obtain ⟨w1, hw1, HX, HB, HD, hz⟩ := ids_box W t
    rw [← hw1]
    clear hw1 HD hz
    have MY1 := MY.out w1 HB.out
    go_wp2_with (go_at_call 12; refine MY1.mono ?_; rintro e w2 ⟨rfl, hb2⟩)
    go_ret
    exact ⟨rfl, below_then HB.out hb2⟩
set_option maxHeartbeats 2000000 in
theorem ringCols_yes (v0 : Value) (l : List Rg.T) (t : Rg.T) (W : World) (h : IdsAt W v0 l) (ht : Fits t) (hm : RMay l) (h60 : ¬ 60 < l.length) :
    Calls Try.prog 9 #[v0, tv t] W fun e W' => e = .returned (.bool true) ∧ Below W.heap.size W W' := by
  obtain ⟨a, cap, hv0, p1, p2, p3⟩ := h.open
  have hl := hm.2.2
  have hl140 : l.length ≤ 140737488351232 := by omega
  have HI := hid h
  have HM := hid hm
  have HT := hid ht
  have MY := hid fun w (h : Below W.heap.size W w) => rmay_any v0 l w (HI.out.keep h) hl140
  rw [(mayB_iff l).2 hm] at MY
  have NW := hid fun w (h : Below W.heap.size W w) => rgnew_ok v0 l w (HI.out.keep h) hm
  have AL := hid fun p w (h : IsRing w p l) => rall_any p l t w h ht.low
  have NX := hid fun p c u w (h : IsRing w p l) (hc : c < 3) => rnext_any p c l t u w h HT.out.low hc
  have NO := hid fun p c u w (hc : c < 0 ∨ 3 ≤ c) => rnext_out p t c u w hc
  obtain ⟨F, hF⟩ : ∃ F, F = l.filter (Rg.mt t) := ⟨_, rfl⟩
  rw [← hF] at AL
  have hFl : F.length ≤ l.length := by rw [hF]; exact List.length_filter_le _ _
  have hFm : ∀ x ∈ F, Rg.mt t x = true ∧ Rg.Ok x := fun x hx => by rw [hF, List.mem_filter] at hx; exact ⟨hx.2, hm.2.1 x hx.1⟩
  have hFn : ∀ c, Rg.nxR F t c 0 = Rg.nxR l t c 0 := fun c => by rw [hF]; exact Rg.nxR_filter l t c 0
  have HFM := hid hFm
  have HFN := hid hFn
  subst hv0
  clear h hm ht hF hFm hFn
  unfold tv at *
  go_enter Try.func9, Try.ntmps9
  go_upto_region 1 with fail
  obtain ⟨w1, hw1, HX, HB, HD, hz⟩ := ids_box W t
  rw [← hw1]
  clear hw1 HD hz
  have MY1 := MY.out w1 HB.out
  go_upto_region 3 with (go_at_call 12; refine MY1.mono ?_; rintro e w2 ⟨rfl, hb2⟩)
  have HB2 := hid (below_then HB.out hb2)
  have HX2 := hid (HX.out.keep hb2)
  have NW2 := NW.out w2 HB2.out
  clear MY1 hb2
  go_upto_region 6 with (go_at_call 11; refine NW2.mono ?_; rintro e w3 ⟨p, rfl, hb3, hF3⟩)
  have HB3 := hid (below_then HB2.out hb3)
  have HX3 := hid (HX2.out.keep hb3)
  have HR3 := hid hF3.it
  obtain ⟨c0, c1, c2⟩ := ids_cells HX3.out
  have AL3 := AL.out p w3 HR3.out
  clear NW2 hb3 hF3 HX HX2
  go_upto_region 7 with (go_at_call 18; refine AL3.mono ?_; rintro e w4 ⟨v4, rfl, hN4, hb4⟩)
  obtain ⟨a4, cap4, rfl, p5, p6, p7⟩ := hN4.at.open
  have HN4 := hid hN4.at
  have HB4 := hid (below_then HB3.out hb4)
  have HX4 := hid (HX3.out.keep hb4)
  have HR4 := hid (HR3.out.keep hb4)
  clear AL3 hN4 hb4 c0 c1 c2 HX3 HR3
  go_wp2
  go_loopw [8] (fun s8 wr => ∃ (c : Nat), c ≤ 3 ∧ s8 = .int .i64 c ∧ Hid (Below w4.heap.size w4 wr)) (fun s8 _ => 3 - (intOf s8).toNat)
  case atStart => exact ⟨0, by omega, rfl, Below.refl _ _⟩
  case round =>
    obtain ⟨c, hc3, rfl, HBr⟩ := hrel
    by_cases hlt : c < 3
    · have HNr := hid (HN4.out.keep HBr.out)
      obtain ⟨wo, rfl⟩ : ∃ wo : World, wo = wr := ⟨_, rfl⟩
      go_upto_region 12 with fail
      go_loopw [9, 10] (fun s9 s10 wr => ∃ (i : Nat) (b : Int), i ≤ F.length ∧ s10 = .int .i64 i ∧ s9 = .int .i64 b ∧ wr = wo ∧ Hid (b = Rg.nxR (F.take i) t c 0)) (fun s9 s10 _ => F.length - (intOf s10).toNat)
      case atStart => exact ⟨0, 0, by omega, rfl, rfl, rfl, rfl⟩
      case round =>
        obtain ⟨i, b, hin, rfl, rfl, hww, HM2⟩ := hrel
        subst hww
        by_cases hi : i < F.length
        · obtain ⟨b4, off, rfl, hx⟩ := HNr.out.get hi
          have cx := hx i hi c hlt
          obtain ⟨x, hxx⟩ : ∃ x, x = F[i] := ⟨_, rfl⟩
          rw [← hxx] at cx
          have hxm := HFM.out x (by rw [hxx]; exact List.getElem_mem _)
          have hS : Rg.nxR (F.take (i + 1)) t c 0 = Rg.nxS t c 0 b x := by rw [HM2.out]; exact Rg.nxR_take F t c 0 i x (by rw [List.getElem?_eq_getElem hi, hxx])
          have hx0 := hxm.2 c hlt
          obtain ⟨y, hy⟩ : ∃ y, y = Rg.at' x c := ⟨_, rfl⟩
          unfold Rg.nxS at hS
          rw [← hy, hxm.1] at hS
          rw [← hy] at cx hx0
          have hcases : (b = 0 ∧ Rg.nxR (F.take (i + 1)) t c 0 = y) ∨ (¬ b = 0 ∧ y < b ∧ Rg.nxR (F.take (i + 1)) t c 0 = y) ∨ (¬ b = 0 ∧ ¬ y < b ∧ Rg.nxR (F.take (i + 1)) t c 0 = b) := by
            rw [hS]
            by_cases h2 : b = 0
            · exact Or.inl ⟨h2, by rw [if_pos ⟨rfl, by omega, Or.inl h2⟩]⟩
            · by_cases h3 : y < b
              · exact Or.inr (Or.inl ⟨h2, h3, by rw [if_pos ⟨rfl, by omega, Or.inr h3⟩]⟩)
              · exact Or.inr (Or.inr ⟨h2, h3, by rw [if_neg (fun h => by rcases h.2.2 with h | h <;> contradiction)]⟩)
          clear hS hx hxx hxm hy HM2
          rcases hcases with ⟨h2, hr⟩ | ⟨h2, h3, hr⟩ | ⟨h2, h3, hr⟩
          all_goals
            (try subst h2)
            (try (have hb : (b == 0) = false := by rw [beq_eq_false_iff_ne]; exact h2))
            have HRR := hid hr
            clear hr
            go_wp2
            go_roundw
            case rel => exact ⟨i + 1, _, by omega, by go_num, rfl, trivial, HRR.out.symm⟩
            case measure => simp [intOf]; omega
        · obtain rfl : i = F.length := by omega
          have hb := HM2.out
          rw [List.take_length, HFN.out c] at hb
          have n5 := Rg.nxR_low t hlt HM.out.2.1 (-5) 0 (by omega) (by omega)
          have n2 := Rg.nxR_high t hlt HM.out.2.1 2000 (by omega)
          have HB5 := hid (below_then HB4.out HBr.out)
          have HX5 := hid (HX4.out.keep HBr.out)
          have HR5 := hid (HR4.out.keep HBr.out)
          have N0 := NX.out p c 0 wr HR5.out hlt
          rw [← hb] at N0
          obtain ⟨c0, c1, c2⟩ := ids_cells HX5.out
          have HBB := hid hb
          have N5 := hid fun w (h : Below wr.heap.size wr w) => NX.out p c (-5) w (HR5.out.keep h) hlt
          rw [n5, ← hb] at N5
          have N2 := hid fun w (h : Below wr.heap.size wr w) => NX.out p c 2000 w (HR5.out.keep h) hlt
          rw [n2] at N2
          clear hb n5 n2 HM2 HBB
          go_upto_region 16 with fail
          go_wp2_with fail
          refine N0.mono ?_
          rintro e w6 ⟨rfl, hb6⟩
          have HB6 := hid hb6
          obtain ⟨d0, d1, d2⟩ := ids_cells (HX5.out.keep hb6)
          have N56 := N5.out w6 hb6
          clear N0 c0 c1 c2 hb6
          go_wp2_with fail
          refine N56.mono ?_
          rintro e w7 ⟨rfl, hb7⟩
          have HB7 := hid (below_then HB6.out hb7)
          obtain ⟨k0, k1, k2⟩ := ids_cells (HX5.out.keep HB7.out)
          have N27 := N2.out w7 HB7.out
          clear N56 d0 d1 d2 hb7 N5
          go_wp2_with fail
          refine N27.mono ?_
          rintro e w8 ⟨rfl, hb8⟩
          have HB8 := hid (below_then HB7.out hb8)
          clear N27 k0 k1 k2 hb8 N2
          go_wp2
          go_roundw
          case rel => exact ⟨c + 1, by omega, by go_num, below_then HBr.out HB8.out⟩
          case measure => simp [intOf]; omega
    · obtain rfl : c = 3 := by omega
      have HB5 := hid (below_then HB4.out HBr.out)
      have HX5 := hid (HX4.out.keep HBr.out)
      obtain ⟨c0, c1, c2⟩ := ids_cells HX5.out
      have N1 := NO.out p 3 0 wr (by omega)
      have N2 := hid fun w => NO.out p (-1) 0 w (by omega)
      go_upto_region 18 with fail
      go_wp2_with fail
      refine N1.mono ?_
      rintro e w6 ⟨rfl, hb6⟩
      have HB6 := hid hb6
      obtain ⟨d0, d1, d2⟩ := ids_cells (HX5.out.keep hb6)
      have N26 := N2.out w6
      clear N1 c0 c1 c2 hb6
      go_wp2_with fail
      refine N26.mono ?_
      rintro e w7 ⟨rfl, hb7⟩
      have HB7 := hid (below_then HB6.out hb7)
      clear N26 d0 d1 d2 hb7
      go_wp2_with (go_at_call 13; refine (known_any _).mono ?_; rintro e w8 ⟨rfl, hb8⟩)
      go_ret
      exact ⟨rfl, below_then HB5.out (below_then HB7.out hb8)⟩
theorem ringCols_in (l : List Rg.T) (v0 : Value) (t : Rg.T) (W : World) (h : IdsAt W v0 l) (ht : Fits t) (hl : l.length ≤ 140737488351232) :
    Calls Try.prog 9 #[v0, tv t] W fun e W' => e = .returned (.bool true) ∧ Below W.heap.size W W' := by
  by_cases h1 : 60 < l.length
  · exact ringCols_out v0 l t W h hl (Or.inl h1)
  · by_cases h2 : RMay l
    · exact ringCols_yes v0 l t W h ht h2 h1
    · exact ringCols_out v0 l t W h hl (Or.inr h2)

theorem ringCols_walk (H : Type) (enc : TypeId × Value → H) (W : World) (base : Nat) (args : Array Value) (ds gs : List (DataW H)) (before : List MemPlace)
    (hval : ∀ (j : Nat) t v, Try.f9.params[j]? = some t → args[j]? = some v → Value.okWide Try.prog W .any base t v)
    (hW : DataW.Whole enc Try.prog Try.f9.params.toList Rows.ringColsSpec.vars false W args.toList ds gs before)
    (hz : (DataW.weightsEach Try.prog (Try.f9.params.toList ++ Rows.ringColsSpec.plain.varTypes Try.prog) (ds ++ gs)).all (· ≤ reachBytes) = true)
    (hL : laidMetH Try.prog Rows.ringColsRow.laid W) (hsh : W.ShapedOpen Try.prog) :
    Calls Try.prog 9 args W fun e W' => e = .returned (.bool true) ∧ Below W.heap.size W W' := by
  obtain ⟨p, q, hA, _, _, _, _⟩ := hW
  rw [Try.params9] at hA hval
  rw [Try.params9] at hz
  obtain ⟨v0, vs0, d0, ds0, p0, q0, hargs, rfl, rfl, h0, r0⟩ := trodAll_cons hA
  obtain ⟨v1, vs1, d1, ds1, p1, q1, rfl, rfl, rfl, h1, r1⟩ := trodAll_cons r0
  obtain ⟨rfl, rfl, rfl⟩ := trodAll_nil r1
  obtain rfl : args = #[v0, v1] := by cases args; simp_all
  obtain ⟨l0, L0, b0, z0⟩ := arg_ids (hval 0 22 v0 rfl rfl) h0 (sized_arg hz (j := 0) (t := 22) (d := d0) rfl rfl)
  obtain ⟨t1, rfl, b1⟩ := arg_id h1
  exact ringCols_in l0 v0 t1 W L0 b1 z0

theorem ringCols_lifted (os : Os) (started : os.Started) (H : Type) (enc : TypeId × Value → H) (F : Stop.Interp) :
    ReturnsInHanded {} Try.checked os 9 .any ((OpenSpec.ofChange Rows.ringColsSpec).preRow enc Try.prog Try.f9 Rows.ringColsRow.domain false Rows.ringColsRow.laid) (((OpenSpec.ofChange Rows.ringColsSpec).at F).post enc Try.prog Try.f9 false true false false) := by
  obtain ⟨places, hx⟩ : ∃ places, DataW.whole enc Try.prog ((World.holding Try.prog os ⟨#[], #[], []⟩).forCall (fun _ _ => 0) ⟨#[], #[.slice none 0 0, .agg #[.int .i64 0, .int .i64 0, .int .i64 0]], []⟩).memory Try.f9.params.toList Rows.ringColsSpec.vars false (#[.slice none 0 0, .agg #[.int .i64 0, .int .i64 0, .int .i64 0]] : Array Value).toList 8 = some ([.nil, .agg [.lit (.int .i64 0), .lit (.int .i64 0), .lit (.int .i64 0)]], [], places) := ⟨[], by kernel_rfl⟩
  refine returnsInHanded_of_row (C := Try.checked) (s := OpenSpec.ofChange Rows.ringColsSpec) own started (by kernel_rfl) Try.func9
    (witness_row_at (enc := enc) (C := Try.checked) false (World.holding Try.prog os ⟨#[], #[], []⟩) #[.slice none 0 0, .agg #[.int .i64 0, .int .i64 0, .int .i64 0]] rfl (by kernel_rfl) (by kernel_rfl) (by kernel_rfl)
      (OpenSpec.preRow_of_cond 8 hx (by kernel_rfl) (fun k hk => by cases hk) (by kernel_rfl) (laidMet_nil _ _))) ?_
  intro W base args ds gs before hval hW _ _ hz hL hsh _
  refine (ringCols_walk H enc W base args ds gs before hval hW hz hL hsh).mono fun e W' ⟨he, hb⟩ => ⟨_, he, ?_⟩
  exact law_post (fn := Try.f9) (s := Rows.ringColsSpec) (tb := 4) rfl (fun ds hd => by match ds, hd with | [d0, d1], _ => rfl) rfl Try.underlying4 (by kernel_rfl) hW hb

theorem ringCols_said : Rows.RingColsSaid :=
  OpenClaim.holds_of_cond 9 Try.f9 rfl rfl rfl rfl rfl rfl rfl ⟨rfl, rfl, rfl, rfl, rfl⟩ rfl rfl rfl rfl rfl (by kernel_rfl) Try.func9 (by kernel_rfl)
    (of_decide_eq_true (by kernel_rfl)) (by unfold Func.isWrapper; first | (rw [if_pos (by decide +kernel)]; kernel_rfl) | (rw [if_neg (by decide +kernel)]; exact ⟨rfl, rfl⟩))
    (fun os started H enc _ F => by rw [OpenClaim.pre_eq_preRow]; exact ringCols_lifted os started H enc F)
end Go.Proofs.Ytagadfgginneeaa
