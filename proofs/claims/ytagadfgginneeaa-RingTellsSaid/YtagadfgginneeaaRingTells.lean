/- RingTells: of any triples and pattern how many match, which, the next number of each column. -/
import Derived.Test.YtagadfgginneeaaRgLaw
import Derived.Deep.RegionHeld3
namespace Go.Proofs.Ytagadfgginneeaa
set_option linter.unusedVariables false
set_option linter.unusedSimpArgs false
set_option maxRecDepth 100000
open Go.ChangeShapes Go.WideShapes Go.ChangeAt Go.RowKit
theorem ringTells_big (v0 : Value) (l : List Rg.T) (t : Rg.T) (col v : Int) (W : World) (h : IdsAt W v0 l) (hb : 150 < l.length) :
    Calls Try.prog 3 #[v0, tv t, .int .i64 col, .int .i64 v] W fun e W' => e = .returned (.bool true) ∧ Below W.heap.size W W' := by
  obtain ⟨a, cap, rfl, p1, p2, p3⟩ := h.open
  clear h
  unfold tv
  go_enter Try.func3, Try.ntmps3
  go_upto_region 1 with fail
  obtain ⟨w1, hw1, HX, HB, HD, hz⟩ := ids_box W t
  rw [← hw1]
  clear hw1 HD hz
  go_wp2
  go_ret
  exact ⟨rfl, HB.out⟩
theorem ringTells_no (v0 : Value) (l : List Rg.T) (t : Rg.T) (col v : Int) (W : World) (h : IdsAt W v0 l) (hb : ¬ 150 < l.length) (hl : l.length ≤ 140737488351232) (hm : ¬ RMay l) :
    Calls Try.prog 3 #[v0, tv t, .int .i64 col, .int .i64 v] W fun e W' => e = .returned (.bool true) ∧ Below W.heap.size W W' := by
  obtain ⟨a, cap, rfl, p1, p2, p3⟩ := h.open
  have HI := hid h
  have MY := hid fun w (h : Below W.heap.size W w) => rmay_any _ l w (HI.out.keep h) hl
  rw [mayB_no hm] at MY
  have NW := hid fun w (h : Below W.heap.size W w) => rgnew_no _ l w (HI.out.keep h) hl hm
  clear h hm
  unfold tv
  go_enter Try.func3, Try.ntmps3
  go_upto_region 1 with fail
  obtain ⟨w1, hw1, HX, HB, HD, hz⟩ := ids_box W t
  rw [← hw1]
  clear hw1 HD hz
  have NW1 := NW.out w1 HB.out
  go_wp2_with (go_at_call 11; refine NW1.mono ?_; rintro e w2 ⟨rfl, hb2⟩)
  have HB2 := hid (below_then HB.out hb2)
  have MY2 := MY.out w2 HB2.out
  clear NW1 hb2
  go_wp2_with (go_at_call 12; refine MY2.mono ?_; rintro e w3 ⟨rfl, hb3⟩)
  have HB3 := hid (below_then HB2.out hb3)
  clear MY2 hb3
  go_wp2_with (go_at_call 13; refine (known_any _).mono ?_; rintro e w4 ⟨rfl, hb4⟩)
  go_ret
  exact ⟨rfl, below_then HB3.out hb4⟩
set_option maxHeartbeats 4000000 in
theorem ringTells_yes (v0 : Value) (l : List Rg.T) (t : Rg.T) (col v : Int) (W : World) (h : IdsAt W v0 l) (ht : Fits t) (hm : RMay l) :
    Calls Try.prog 3 #[v0, tv t, .int .i64 col, .int .i64 v] W fun e W' => e = .returned (.bool true) ∧ Below W.heap.size W W' := by
  obtain ⟨a, cap, hv0, p1, p2, p3⟩ := h.open
  have hl := hm.2.2
  have hl140 : l.length ≤ 140737488351232 := by omega
  have HI := hid h
  have MY := hid fun w (h : Below W.heap.size W w) => rmay_any v0 l w (HI.out.keep h) hl140
  rw [(mayB_iff l).2 hm] at MY
  have NW := hid fun w (h : Below W.heap.size W w) => rgnew_ok v0 l w (HI.out.keep h) hm
  have RA := hid fun w (h : Below W.heap.size W w) => refall_any v0 l t w (HI.out.keep h) (by omega)
  have RN := hid fun w (h : Below W.heap.size W w) => refnext_int v0 l t col v w (HI.out.keep h) hl140
  have CN := hid fun p w (h : IsRing w p l) => count_any p l t w h ht.low
  have AL := hid fun p w (h : IsRing w p l) => rall_any p l t w h ht.low
  have NX := hid fun p w (h : IsRing w p l) => next_int p l t col v w h ht
  have LN := hid fun p w (h : IsRing w p l) => rlen_any p l w h
  rw [← mt_len] at CN
  obtain ⟨F, hF⟩ : ∃ F, F = l.filter (Rg.mt t) := ⟨_, rfl⟩
  rw [← hF] at CN AL RA
  have hFl : F.length ≤ l.length := by rw [hF]; exact List.length_filter_le _ _
  obtain ⟨nx, hnx⟩ : ∃ x, x = nxI l t col v := ⟨_, rfl⟩
  rw [← hnx] at RN NX
  have SM := hid fun v1 v2 w (h1 : IdsAt w v1 F) (h2 : IdsAt w v2 F) => rsame_any v1 v2 F F w h1 h2 (by omega) (by omega)
  rw [decide_eq_true (rfl : F = F)] at SM
  subst hv0
  clear h hm ht hF hnx
  unfold tv at *
  go_enter Try.func3, Try.ntmps3
  go_upto_region 1 with fail
  obtain ⟨w1, hw1, HX, HB, HD, hz⟩ := ids_box W t
  rw [← hw1]
  clear hw1 HD hz
  have NW1 := NW.out w1 HB.out
  go_wp2_with (go_at_call 11; refine NW1.mono ?_; rintro e w2 ⟨p, rfl, hb2, hF2⟩)
  have HB2 := hid (below_then HB.out hb2)
  have HR2 := hid hF2.it
  have HX2 := hid (HX.out.keep hb2)
  have MY2 := MY.out w2 HB2.out
  clear NW1 hb2 hF2
  go_upto_region 9 with (go_at_call 12; refine MY2.mono ?_; rintro e w3 ⟨rfl, hb3⟩)
  have HB3 := hid (below_then HB2.out hb3)
  have HR3 := hid (HR2.out.keep hb3)
  have RA3 := RA.out w3 HB3.out
  have HX3 := hid (HX2.out.keep hb3)
  obtain ⟨c0, c1, c2⟩ := ids_cells HX3.out
  clear MY2 hb3 HR2 RA
  go_upto_region 10 with (go_at_call 14; refine RA3.mono ?_; rintro e w4 ⟨v4, rfl, hN4, hb4⟩)
  obtain ⟨a4, cap4, rfl, p5, p6, p7⟩ := hN4.at.open
  have HN4 := hid hN4.at
  have HB4 := hid (below_then HB3.out hb4)
  have HR4 := hid (HR3.out.keep hb4)
  have HX4 := hid (HX3.out.keep hb4)
  clear RA3 hN4 hb4 c0 c1 c2 HX HX2 HX3 HR3
  obtain ⟨c0, c1, c2⟩ := ids_cells HX4.out
  have CN4 := hid fun w (h : Below w4.heap.size w4 w) => (CN.out p w (HR4.out.keep h)).mono fun e w' (k : e = .returned (.int .i64 (F.length : Nat)) ∧ Below w.heap.size w w') => (⟨k.1, below_then h k.2⟩ : e = .returned (.int .i64 (F.length : Nat)) ∧ Below w4.heap.size w4 w')
  have LN4 := hid fun w (h : Below w4.heap.size w4 w) => LN.out p w (HR4.out.keep h)
  have AL4 := hid fun w (h : Below w4.heap.size w4 w) => (AL.out p w (HR4.out.keep h)).mono fun e w' (k : ∃ v, e = .returned v ∧ NewIds w.heap.size w' v F ∧ Below w.heap.size w w') => (k.elim fun v k => ⟨v, k.1, k.2.1.at, below_then h k.2.2⟩ : ∃ v, e = .returned v ∧ IdsAt w' v F ∧ Below w4.heap.size w4 w')
  have NX4 := hid fun w (h : Below w4.heap.size w4 w) => (NX.out p w (HR4.out.keep h)).mono fun e w' (k : e = .returned (.int .i64 nx) ∧ Below w.heap.size w w') => (⟨k.1, below_then h k.2⟩ : e = .returned (.int .i64 nx) ∧ Below w4.heap.size w4 w')
  have RN4 := hid fun w (h : Below w4.heap.size w4 w) => (RN.out w (below_then HB4.out h)).mono fun e w' (k : e = .returned (.int .i64 nx) ∧ Below w.heap.size w w') => (⟨k.1, below_then h k.2⟩ : e = .returned (.int .i64 nx) ∧ Below w4.heap.size w4 w')
  have SM4 := hid fun v1 w (h1 : IdsAt w v1 F) (h : Below w4.heap.size w4 w) => (SM.out v1 _ w h1 (HN4.out.keep h)).mono fun e w' (k : e = .returned (.bool true) ∧ Below w.heap.size w w') => (⟨k.1, below_then h k.2⟩ : e = .returned (.bool true) ∧ Below w4.heap.size w4 w')
  have KN4 := hid fun w (h : Below w4.heap.size w4 w) => (known_any w).mono fun e w' (k : e = .returned (.bool true) ∧ Below w.heap.size w w') => (⟨k.1, below_then h k.2⟩ : e = .returned (.bool true) ∧ Below w4.heap.size w4 w')
  have hd4 : Below w4.heap.size w4 w4.drew := below_drawn (Below.refl _ _) 1
  clear LN CN AL NX RN SM
  go_region_held3 (fun w' => w'.cell? ⟨W.heap.size, 0, none⟩ = some (.int .i64 t.1) ∧ w'.cell? ⟨W.heap.size, 1, none⟩ = some (.int .i64 t.2.1) ∧ w'.cell? ⟨W.heap.size, 2, none⟩ = some (.int .i64 t.2.2))
    (first
      | exact ⟨below_keep hb9 c0, below_keep hb9 c1, below_keep hb9 c2⟩
      | go_keep)
    (first
      | (go_at_call 15; refine (LN4.out _ (by assumption)).mono ?_; rintro e w9 ⟨rfl, rfl⟩)
      | (go_at_call 16; refine (CN4.out _ (by assumption)).mono ?_; rintro e w9 ⟨rfl, hb9⟩)
      | (go_at_call 18; refine (AL4.out _ (by assumption)).mono ?_; rintro e w9 ⟨v9, rfl, hI9, hb9⟩)
      | (go_at_call 17; refine (SM4.out _ _ (by assumption) (by assumption)).mono ?_; rintro e w9 ⟨rfl, hb9⟩)
      | (go_at_call 19; refine (NX4.out _ (by assumption)).mono ?_; rintro e w9 ⟨rfl, hb9⟩)
      | (go_at_call 20; refine (RN4.out _ (by assumption)).mono ?_; rintro e w9 ⟨rfl, hb9⟩)
      | (go_at_call 13; refine (KN4.out _ (by assumption)).mono ?_; rintro e w9 ⟨rfl, hb9⟩))
  go_wp2
  go_ret
  exact ⟨rfl, below_then HB4.out hb9⟩
theorem ringTells_in (l : List Rg.T) (v0 : Value) (t : Rg.T) (col v : Int) (W : World) (h : IdsAt W v0 l) (ht : Fits t) (hl : l.length ≤ 140737488351232) :
    Calls Try.prog 3 #[v0, tv t, .int .i64 col, .int .i64 v] W fun e W' => e = .returned (.bool true) ∧ Below W.heap.size W W' := by
  by_cases hb : 150 < l.length
  · exact ringTells_big v0 l t col v W h hb
  · by_cases hm : RMay l
    · exact ringTells_yes v0 l t col v W h ht hm
    · exact ringTells_no v0 l t col v W h hb hl hm

theorem ringTells_walk (H : Type) (enc : TypeId × Value → H) (W : World) (base : Nat) (args : Array Value) (ds gs : List (DataW H)) (before : List MemPlace)
    (hval : ∀ (j : Nat) t v, Try.f3.params[j]? = some t → args[j]? = some v → Value.okWide Try.prog W .any base t v)
    (hW : DataW.Whole enc Try.prog Try.f3.params.toList Rows.ringTellsSpec.vars false W args.toList ds gs before)
    (hz : (DataW.weightsEach Try.prog (Try.f3.params.toList ++ Rows.ringTellsSpec.plain.varTypes Try.prog) (ds ++ gs)).all (· ≤ reachBytes) = true)
    (hL : laidMetH Try.prog Rows.ringTellsRow.laid W) (hsh : W.ShapedOpen Try.prog) :
    Calls Try.prog 3 args W fun e W' => e = .returned (.bool true) ∧ Below W.heap.size W W' := by
  obtain ⟨p, q, hA, _, _, _, _⟩ := hW
  rw [Try.params3] at hA hval
  rw [Try.params3] at hz
  obtain ⟨v0, vs0, d0, ds0, p0, q0, hargs, rfl, rfl, h0, r0⟩ := trodAll_cons hA
  obtain ⟨v1, vs1, d1, ds1, p1, q1, rfl, rfl, rfl, h1, r1⟩ := trodAll_cons r0
  obtain ⟨v2, vs2, d2, ds2, p2, q2, rfl, rfl, rfl, h2, r2⟩ := trodAll_cons r1
  obtain ⟨v3, vs3, d3, ds3, p3, q3, rfl, rfl, rfl, h3, r3⟩ := trodAll_cons r2
  obtain ⟨rfl, rfl, rfl⟩ := trodAll_nil r3
  obtain rfl : args = #[v0, v1, v2, v3] := by cases args; simp_all
  obtain ⟨l0, L0, b0, z0⟩ := arg_ids (hval 0 22 v0 rfl rfl) h0 (sized_arg hz (j := 0) (t := 22) (d := d0) rfl rfl)
  obtain ⟨t1, rfl, b1⟩ := arg_id h1
  obtain ⟨x2, rfl, rfl, rfl, w2⟩ := open_int Try.underlying3 (hval 2 3 v2 rfl rfl) h2
  have b2 := bounds_i64 w2
  obtain ⟨x3, rfl, rfl, rfl, w3⟩ := open_int Try.underlying3 (hval 3 3 v3 rfl rfl) h3
  have b3 := bounds_i64 w3
  exact ringTells_in l0 v0 t1 x2 x3 W L0 b1 z0

theorem ringTells_lifted (os : Os) (started : os.Started) (H : Type) (enc : TypeId × Value → H) (F : Stop.Interp) :
    ReturnsInHanded {} Try.checked os 3 .any ((OpenSpec.ofChange Rows.ringTellsSpec).preRow enc Try.prog Try.f3 Rows.ringTellsRow.domain false Rows.ringTellsRow.laid) (((OpenSpec.ofChange Rows.ringTellsSpec).at F).post enc Try.prog Try.f3 false true false false) := by
  obtain ⟨places, hx⟩ : ∃ places, DataW.whole enc Try.prog ((World.holding Try.prog os ⟨#[], #[], []⟩).forCall (fun _ _ => 0) ⟨#[], #[.slice none 0 0, .agg #[.int .i64 0, .int .i64 0, .int .i64 0], .int .i64 0, .int .i64 0], []⟩).memory Try.f3.params.toList Rows.ringTellsSpec.vars false (#[.slice none 0 0, .agg #[.int .i64 0, .int .i64 0, .int .i64 0], .int .i64 0, .int .i64 0] : Array Value).toList 8 = some ([.nil, .agg [.lit (.int .i64 0), .lit (.int .i64 0), .lit (.int .i64 0)], .lit (.int .i64 0), .lit (.int .i64 0)], [], places) := ⟨[], by kernel_rfl⟩
  refine returnsInHanded_of_row (C := Try.checked) (s := OpenSpec.ofChange Rows.ringTellsSpec) own started (by kernel_rfl) Try.func3
    (witness_row_at (enc := enc) (C := Try.checked) false (World.holding Try.prog os ⟨#[], #[], []⟩) #[.slice none 0 0, .agg #[.int .i64 0, .int .i64 0, .int .i64 0], .int .i64 0, .int .i64 0] rfl (by kernel_rfl) (by kernel_rfl) (by kernel_rfl)
      (OpenSpec.preRow_of_cond 8 hx (by kernel_rfl) (fun k hk => by cases hk) (by kernel_rfl) (laidMet_nil _ _))) ?_
  intro W base args ds gs before hval hW _ _ hz hL hsh _
  refine (ringTells_walk H enc W base args ds gs before hval hW hz hL hsh).mono fun e W' ⟨he, hb⟩ => ⟨_, he, ?_⟩
  exact law_post (fn := Try.f3) (s := Rows.ringTellsSpec) (tb := 4) rfl (fun ds hd => by match ds, hd with | [d0, d1, d2, d3], _ => rfl) rfl Try.underlying4 (by kernel_rfl) hW hb

theorem ringTells_said : Rows.RingTellsSaid :=
  OpenClaim.holds_of_cond 3 Try.f3 rfl rfl rfl rfl rfl rfl rfl ⟨rfl, rfl, rfl, rfl, rfl⟩ rfl rfl rfl rfl rfl (by kernel_rfl) Try.func3 (by kernel_rfl)
    (of_decide_eq_true (by kernel_rfl)) (by unfold Func.isWrapper; first | (rw [if_pos (by decide +kernel)]; kernel_rfl) | (rw [if_neg (by decide +kernel)]; exact ⟨rfl, rfl⟩))
    (fun os started H enc _ F => by rw [OpenClaim.pre_eq_preRow]; exact ringTells_lifted os started H enc F)
end Go.Proofs.Ytagadfgginneeaa
