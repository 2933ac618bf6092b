/- RingOfNothing: of a nil ring nothing matches; triples that do not rise, or whose numbers may not be, are none. -/
import Derived.Test.YtagadfgginneeaaRgLaw
namespace Go.Proofs.Ytagadfgginneeaa
set_option linter.unusedVariables false
set_option linter.unusedSimpArgs false
set_option maxRecDepth 100000
open Go.ChangeShapes Go.WideShapes Go.ChangeAt Go.RowKit
set_option maxHeartbeats 1000000 in
theorem ringOfNothing_in (t : Rg.T) (col v : Int) (W : World) (ht : Fits t) :
    Calls Try.prog 7 #[tv t, .int .i64 col, .int .i64 v] W fun e W' => e = .returned (.bool true) ∧ Below W.heap.size W W' := by
  have HT := hid ht
  clear ht
  unfold tv
  go_enter Try.func7, Try.ntmps7
  go_upto_region 1 with fail
  obtain ⟨w1, hw1, HX, HB, HD, hz⟩ := ids_box W t
  rw [← hw1]
  clear hw1 HD hz
  go_wp2_with fail
  refine (lit2_no (1, 1, 1) (1, 1, 1) w1 (by decide)).mono ?_
  rintro e w2 ⟨rfl, hb2⟩
  have HB2 := hid hb2
  clear hb2
  go_wp2_with fail
  refine (lit2_no (2, 1, 1) (1, 1, 1) w2 (by decide)).mono ?_
  rintro e w3 ⟨rfl, hb3⟩
  have HB3 := hid (below_then HB2.out hb3)
  clear hb3 HB2
  go_wp2_with fail
  refine (lit1_no (1, 0, 1) w3 (by decide)).mono ?_
  rintro e w4 ⟨rfl, hb4⟩
  have HB4 := hid (below_then HB3.out hb4)
  clear hb4 HB3
  go_wp2_with fail
  refine (lit1_no (1, 1001, 1) w4 (by decide)).mono ?_
  rintro e w5 ⟨rfl, hb5⟩
  have HB5 := hid (below_then HB4.out hb5)
  clear hb5 HB4
  go_wp2_with fail
  refine (rgnew_ok (.slice none 0 0) [] w5 (IdsAt.nil w5) ((mayB_iff _).1 (by decide))).mono ?_
  rintro e w6 ⟨p, rfl, hb6, hF6⟩
  have HB6 := hid (below_then HB5.out hb6)
  have HR := hid hF6.it
  have HX6 := hid (HX.out.keep HB6.out)
  clear hb6 hF6 HB5
  obtain ⟨c0, c1, c2⟩ := ids_cells HX6.out
  have g0 := fun q : Later w6.heap.size w6 => q.keep c0
  have g1 := fun q : Later w6.heap.size w6 => q.keep c1
  have g2 := fun q : Later w6.heap.size w6 => q.keep c2
  have L0 := hid fun q : Later w6.heap.size w6 => rlen_nil q.it
  have C0 := hid fun q : Later w6.heap.size w6 => count_nil t q.it
  have N0 := hid fun q : Later w6.heap.size w6 => rnext_nil t col v q.it
  have A0 := hid fun q : Later w6.heap.size w6 => rall_nil t q.it
  have L1 := hid fun q : Later w6.heap.size w6 => rlen_any p [] q.it (HR.out.keep q.low)
  have C1 := hid fun q : Later w6.heap.size w6 => count_any p [] t q.it (HR.out.keep q.low) HT.out.low
  have K1 := hid fun q : Later w6.heap.size w6 => known_any q.it
  rw [List.countP_nil] at C1
  simp only [List.length_nil] at L1
  unfold tv at C0 N0 A0 C1
  clear c0 c1 c2
  go_upto_region 7 with fail
  refine wp_region_later w6.heap.size (by kernel_rfl) (by kernel_rfl) ?_
  repeat (go_big_quiet_step (first
    | (go_at_call 15; with_reducible exact Later.call_same (L0.out _))
    | (go_at_call 15; with_reducible exact Later.call_same (L1.out _))
    | (go_at_call 16; with_reducible exact Later.call (Nat.le_refl _) (C0.out _))
    | (go_at_call 16; with_reducible exact Later.call (Nat.le_refl _) (C1.out _))
    | (go_at_call 19; with_reducible exact Later.call (Nat.le_refl _) (N0.out _))
    | (go_at_call 18; with_reducible exact Later.call (Nat.le_refl _) (A0.out _))
    | (go_at_call 13; with_reducible exact Later.call (Nat.le_refl _) (K1.out _))))
  refine wpQuiet_nil ?_
  rintro _ ⟨q, rfl⟩
  go_wp2
  go_ret
  exact ⟨rfl, below_then (below_then HB.out HB6.out) q.low⟩

theorem ringOfNothing_walk (H : Type) (enc : TypeId × Value → H) (W : World) (base : Nat) (args : Array Value) (ds gs : List (DataW H)) (before : List MemPlace)
    (hval : ∀ (j : Nat) t v, Try.f7.params[j]? = some t → args[j]? = some v → Value.okWide Try.prog W .any base t v)
    (hW : DataW.Whole enc Try.prog Try.f7.params.toList Rows.ringOfNothingSpec.vars false W args.toList ds gs before)
    (hz : (DataW.weightsEach Try.prog (Try.f7.params.toList ++ Rows.ringOfNothingSpec.plain.varTypes Try.prog) (ds ++ gs)).all (· ≤ reachBytes) = true)
    (hL : laidMetH Try.prog Rows.ringOfNothingRow.laid W) (hsh : W.ShapedOpen Try.prog) :
    Calls Try.prog 7 args W fun e W' => e = .returned (.bool true) ∧ Below W.heap.size W W' := by
  obtain ⟨p, q, hA, _, _, _, _⟩ := hW
  rw [Try.params7] at hA hval
  rw [Try.params7] at hz
  obtain ⟨v0, vs0, d0, ds0, p0, q0, hargs, rfl, rfl, h0, r0⟩ := trodAll_cons hA
  obtain ⟨v1, vs1, d1, ds1, p1, q1, rfl, rfl, rfl, h1, r1⟩ := trodAll_cons r0
  obtain ⟨v2, vs2, d2, ds2, p2, q2, rfl, rfl, rfl, h2, r2⟩ := trodAll_cons r1
  obtain ⟨rfl, rfl, rfl⟩ := trodAll_nil r2
  obtain rfl : args = #[v0, v1, v2] := by cases args; simp_all
  obtain ⟨t0, rfl, b0⟩ := arg_id h0
  obtain ⟨x1, rfl, rfl, rfl, w1⟩ := open_int Try.underlying3 (hval 1 3 v1 rfl rfl) h1
  have b1 := bounds_i64 w1
  obtain ⟨x2, rfl, rfl, rfl, w2⟩ := open_int Try.underlying3 (hval 2 3 v2 rfl rfl) h2
  have b2 := bounds_i64 w2
  exact ringOfNothing_in t0 x1 x2 W b0

theorem ringOfNothing_lifted (os : Os) (started : os.Started) (H : Type) (enc : TypeId × Value → H) (F : Stop.Interp) :
    ReturnsInHanded {} Try.checked os 7 .any ((OpenSpec.ofChange Rows.ringOfNothingSpec).preRow enc Try.prog Try.f7 Rows.ringOfNothingRow.domain false Rows.ringOfNothingRow.laid) (((OpenSpec.ofChange Rows.ringOfNothingSpec).at F).post enc Try.prog Try.f7 false true false false) := by
  obtain ⟨places, hx⟩ : ∃ places, DataW.whole enc Try.prog ((World.holding Try.prog os ⟨#[], #[], []⟩).forCall (fun _ _ => 0) ⟨#[], #[.agg #[.int .i64 0, .int .i64 0, .int .i64 0], .int .i64 0, .int .i64 0], []⟩).memory Try.f7.params.toList Rows.ringOfNothingSpec.vars false (#[.agg #[.int .i64 0, .int .i64 0, .int .i64 0], .int .i64 0, .int .i64 0] : Array Value).toList 8 = some ([.agg [.lit (.int .i64 0), .lit (.int .i64 0), .lit (.int .i64 0)], .lit (.int .i64 0), .lit (.int .i64 0)], [], places) := ⟨[], by kernel_rfl⟩
  refine returnsInHanded_of_row (C := Try.checked) (s := OpenSpec.ofChange Rows.ringOfNothingSpec) own started (by kernel_rfl) Try.func7
    (witness_row_at (enc := enc) (C := Try.checked) false (World.holding Try.prog os ⟨#[], #[], []⟩) #[.agg #[.int .i64 0, .int .i64 0, .int .i64 0], .int .i64 0, .int .i64 0] rfl (by kernel_rfl) (by kernel_rfl) (by kernel_rfl)
      (OpenSpec.preRow_of_cond 8 hx (by kernel_rfl) (fun k hk => by cases hk) (by kernel_rfl) (laidMet_nil _ _))) ?_
  intro W base args ds gs before hval hW _ _ hz hL hsh _
  refine (ringOfNothing_walk H enc W base args ds gs before hval hW hz hL hsh).mono fun e W' ⟨he, hb⟩ => ⟨_, he, ?_⟩
  exact law_post (fn := Try.f7) (s := Rows.ringOfNothingSpec) (tb := 4) rfl (fun ds hd => by match ds, hd with | [d0, d1, d2], _ => rfl) rfl Try.underlying4 (by kernel_rfl) hW hb

theorem ringOfNothing_said : Rows.RingOfNothingSaid :=
  OpenClaim.holds_of_cond 7 Try.f7 rfl rfl rfl rfl rfl rfl rfl ⟨rfl, rfl, rfl, rfl, rfl⟩ rfl rfl rfl rfl rfl (by kernel_rfl) Try.func7 (by kernel_rfl)
    (of_decide_eq_true (by kernel_rfl)) (by unfold Func.isWrapper; first | (rw [if_pos (by decide +kernel)]; kernel_rfl) | (rw [if_neg (by decide +kernel)]; exact ⟨rfl, rfl⟩))
    (fun os started H enc _ F => by rw [OpenClaim.pre_eq_preRow]; exact ringOfNothing_lifted os started H enc F)
end Go.Proofs.Ytagadfgginneeaa
