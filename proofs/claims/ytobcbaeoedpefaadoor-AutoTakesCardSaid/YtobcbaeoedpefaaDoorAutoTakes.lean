/- AutoTakes: a path has just the words that its parts give it, and both automata take just these, for every path and word. -/
import Derived.Test.YtobcbaeoedpefaaDoorAuLaid
import Derived.Test.YtobcbaeoedpefaaDoorRfHas
namespace Go.Proofs.YtobcbaeoedpefaaDoor
set_option linter.unusedVariables false
set_option linter.unusedSimpArgs false
set_option maxRecDepth 100000
open Go.ChangeShapes Go.WideShapes Go.ChangeAt Go.RowKit
open Au
set_option maxHeartbeats 16000000 in
theorem autoTakes_any (x : Pt) (v u y : Value) (L : List Stp) (w : World) (hP : PtAt w v u x) (hL : StepsAt w y L) (hlow : ∀ t ∈ L, t.low) (hT : T8 w) :
    Calls Tryd.prog 4 #[pv x v u, y] w fun e w' => e = .returned (.bool true) ∧ Below w.heap.size w w' := by
  obtain ⟨a0, n0, c0, a1, n1, c1, rfl, rfl⟩ := pv_open hP
  obtain ⟨ya, yc, rfl, hyl, hym⟩ := hL.open
  obtain ⟨w1, hw1⟩ : ∃ w1, w1 = w.alloc (.cells #[.int .i64 x.kind, str x.text, .slice a0 n0 c0, .slice a1 n1 c1] 25) := ⟨_, rfl⟩
  have hb1 : Below w.heap.size w w1 := by rw [hw1]; exact (Below.refl _ _).alloc (Nat.le_refl _) _
  have hX : Blk w1 w.heap.size [.int .i64 x.kind, str x.text, .slice a0 n0 c0, .slice a1 n1 c1] 25 := by rw [hw1]; exact Blk.new w _ _
  have BG := big_any _ w1 _ _ 0 (hP.keep hb1) (by omega)
  have WD := hid fun W (hb : Below w1.heap.size w1 W) => word_any _ L W ((hL.keep hb1).keep hb) hlow
  have NA := hid fun W (hb : Below w1.heap.size w1 W) => new_any _ _ _ W ((hP.keep hb1).keep hb) ((hT.keep hb1).keep hb)
  have RN := hid fun W (hb : Below w1.heap.size w1 W) => rnew_any _ _ _ W ((hP.keep hb1).keep hb) ((hT.keep hb1).keep hb)
  have KN := hid fun W (hb : Below w1.heap.size w1 W) => known_any W ((hT.keep hb1).keep hb)
  have HP1 := hid (hP.keep hb1)
  have HL1 := hid (hL.keep hb1)
  unfold pv at BG NA RN ⊢
  obtain ⟨bg, hbg⟩ : ∃ z, z = bigP 0 x := ⟨_, rfl⟩
  obtain ⟨wd, hwd⟩ : ∃ z, z = wordB L := ⟨_, rfl⟩
  rw [← hbg] at BG
  rw [← hwd] at WD
  have BG := hid BG
  have HB1 := hid hb1
  have HWD := hid hwd
  obtain ⟨x0, x1, x2, x3⟩ := blk4 hX
  obtain ⟨m, hm⟩ : ∃ m, m = L.length := ⟨_, rfl⟩
  have HML := hid hm
  rw [← hm] at WD hyl ⊢
  have hmm : m ≤ 9223372036854775807 := by unfold maxLen at hym; omega
  clear hb1 hX hP hL hT hbg hwd hm
  have early : Hid (∀ e w2, e = Ending.returned (.bool true) → Below w1.heap.size w1 w2 → e = .returned (.bool true) ∧ Below w.heap.size w w2) := fun e w2 h hb => ⟨h, below_then HB1.out hb⟩
  cases bg
  case true =>
    go_enter Tryd.func4, Tryd.ntmps4
    go_upto_region 1 with fail
    rw [← hw1]
    clear hw1
    go_wp2_with (go_at_call 13; refine BG.out.mono ?_; rintro e w2 ⟨rfl, hb2⟩)
    go_ret
    exact early.out _ _ rfl hb2
  cases wd
  case false =>
    go_enter Tryd.func4, Tryd.ntmps4
    go_upto_region 1 with fail
    rw [← hw1]
    clear hw1
    go_wp2_with (first
      | (go_at_call 13; refine BG.out.mono ?_; rintro e w2 ⟨rfl, hb2⟩; have HB2 := hid hb2; clear hb2)
      | (go_at_call 22; refine (WD.out _ HB2.out).mono ?_; rintro e wq ⟨rfl, hw⟩; rw [hw]; clear hw wq))
    go_ret
    exact early.out _ _ rfl HB2.out
  obtain ⟨hon, hl8⟩ := wordB_ones HWD.out.symm
  have HON := hid hon
  clear hon
  by_cases h6 : 6 < m
  case pos =>
    have e6 : decide ((6 : Int) < (m : Int)) = true := decide_eq_true (by omega)
    have e6' : decide (6 < m) = true := decide_eq_true (by omega)
    go_enter Tryd.func4, Tryd.ntmps4
    go_upto_region 1 with fail
    rw [← hw1]
    clear hw1
    go_wp2_with (first
      | (go_at_call 13; refine BG.out.mono ?_; rintro e w2 ⟨rfl, hb2⟩; have HB2 := hid hb2; clear hb2)
      | (go_at_call 22; refine (WD.out _ HB2.out).mono ?_; rintro e wq ⟨rfl, hw⟩; rw [hw]; clear hw wq))
    go_ret
    exact early.out _ _ rfl HB2.out
  have e6 : decide ((6 : Int) < (m : Int)) = false := decide_eq_false (by omega)
  have e6' : decide (6 < m) = false := decide_eq_false (by omega)
  go_enter Tryd.func4, Tryd.ntmps4
  go_upto_region 1 with fail
  rw [← hw1]
  clear hw1
  go_upto_region 3 with (first
    | (go_at_call 13; refine BG.out.mono ?_; rintro e w2 ⟨rfl, hb2⟩; have x0 := below_keep hb2 x0; have x1 := below_keep hb2 x1; have x2 := below_keep hb2 x2; have x3 := below_keep hb2 x3; have HB2 := hid hb2; clear hb2)
    | (go_at_call 22; refine (WD.out _ HB2.out).mono ?_; rintro e wq ⟨rfl, hw⟩; rw [hw]; clear hw wq))
  clear e6 e6'
  go_wp2_with fail
  refine (RN.out _ HB2.out).mono ?_
  rintro e w3 ⟨hb3, hR⟩
  have x0 := below_keep hb3 x0
  have x1 := below_keep hb3 x1
  have x2 := below_keep hb3 x2
  have x3 := below_keep hb3 x3
  have HB3 := hid (below_then HB2.out hb3)
  clear hb3
  rcases hR with ⟨_, rfl⟩ | ⟨_, _, rfl⟩ | ⟨hm, hc, q, rfl, hQ⟩
  · go_wp2
    go_ret
    exact early.out _ _ rfl HB3.out
  · go_wp2
    go_ret
    exact early.out _ _ rfl HB3.out
  have HQ3 := hid hQ
  have HM := hid hm
  have HC := hid hc
  clear hQ hm hc
  go_wp2_with fail
  refine (NA.out _ HB3.out).mono ?_
  rintro e w4 ⟨hb4, hA⟩
  have x0 := below_keep hb4 x0
  have x1 := below_keep hb4 x1
  have x2 := below_keep hb4 x2
  have x3 := below_keep hb4 x3
  have HB4 := hid (below_then HB3.out hb4)
  have HQ4 := hid (HQ3.out.keep hb4)
  clear hb4
  rcases hA with ⟨hm', _⟩ | ⟨_, hc', _⟩ | ⟨_, _, p, rfl, hI⟩
  · have := HM.out; rw [hm'] at this; cases this
  · have := HC.out; omega
  have hn30 : (x.rx false).n ≤ 30 := by
    have h1 := (Pt.rx_n x false).2
    have h2 := HM.out
    unfold Pt.may at h2
    rw [Bool.and_eq_true, decide_eq_true_eq] at h2
    omega
  have hwf := may_wf HM.out
  have hsh := labs_short x false ⟨0, hwf⟩
  have HH := has_ok x 0 hwf
  have HL4 := hid (HL1.out.keep HB4.out)
  have HP4 := hid (HP1.out.keep HB4.out)
  have HI4 := hid hI
  have TA := fun W (hb : Below w4.heap.size w4 W) => takes_au _ _ (HI4.out.keep hb) (HL4.out.keep hb) HON.out
  have TH := fun W (hb : Below w4.heap.size w4 W) => HH _ _ _ L W (HP4.out.keep hb) (HL4.out.keep hb) HON.out hl8
  have TR := fun W (hb : Below w4.heap.size w4 W) => rtakes_any _ L (HQ4.out.keep hb) hn30 (HL4.out.keep hb) HON.out hsh
  obtain ⟨z, hz⟩ : ∃ z, z = (x.rx false).has (wordOf L) := ⟨_, rfl⟩
  rw [← hz] at TA TH TR
  rw [← HML.out] at TA TH TR
  unfold pv at TH
  have TA := hid TA
  have TH := hid TH
  have TR := hid TR
  clear hI hz hsh hwf HH hn30 NA RN WD
  have z1 : (z == z) = true := by cases z <;> rfl
  go_wp2_with fail
  refine (TA.out _ (Below.refl _ _)).mono ?_
  rintro e w5 ⟨rfl, hb5⟩
  have HB5 := hid hb5
  have x0 := below_keep hb5 x0
  have x1 := below_keep hb5 x1
  have x2 := below_keep hb5 x2
  have x3 := below_keep hb5 x3
  clear hb5
  go_wp2_with fail
  refine (TH.out _ HB5.out).mono ?_
  rintro e w6 ⟨rfl, hb6⟩
  have HB6 := hid (below_then HB5.out hb6)
  clear hb6
  go_wp2_with fail
  refine (TR.out _ HB6.out).mono ?_
  rintro e w7 ⟨rfl, hb7⟩
  have HB7 := hid (below_then HB4.out (below_then HB6.out hb7))
  clear hb7
  go_wp2_with fail
  refine (KN.out _ HB7.out).mono ?_
  rintro e w8 ⟨rfl, hb8⟩
  go_wp2
  go_ret
  exact early.out _ _ rfl (below_then HB7.out hb8)

theorem autoTakes_walk (H : Type) (enc : TypeId × Value → H) (W : World) (base : Nat) (args : Array Value) (ds gs : List (DataW H)) (before : List MemPlace)
    (hval : ∀ (j : Nat) t v, Tryd.f4.params[j]? = some t → args[j]? = some v → Value.okWide Tryd.prog W .any base t v)
    (hW : DataW.Whole enc Tryd.prog Tryd.f4.params.toList Rows.autoTakesSpec.vars false W args.toList ds gs before)
    (hz : (DataW.weightsEach Tryd.prog (Tryd.f4.params.toList ++ Rows.autoTakesSpec.plain.varTypes Tryd.prog) (ds ++ gs)).all (· ≤ reachBytes) = true)
    (hL : laidMetH Tryd.prog Rows.autoTakesRow.laid W) (hsh : W.ShapedOpen Tryd.prog) :
    Calls Tryd.prog 4 args W fun e W' => e = .returned (.bool true) ∧ Below W.heap.size W W' := by
  obtain ⟨p, q, hA, _, _, _, _⟩ := hW
  rw [Tryd.params4] at hA hval
  rw [Tryd.params4] at hz
  obtain ⟨v0, vs0, d0, ds0, p0, q0, hargs, rfl, rfl, h0, r0⟩ := trodAll_cons hA
  obtain ⟨v1, vs1, d1, ds1, p1, q1, rfl, rfl, rfl, h1, r1⟩ := trodAll_cons r0
  obtain ⟨rfl, rfl, rfl⟩ := trodAll_nil r1
  obtain rfl : args = #[v0, v1] := by cases args; simp_all
  obtain ⟨y0, a0, b0, rfl, P0⟩ := arg_pt (hval 0 25 v0 rfl rfl) h0 (sized_arg hz (j := 0) (t := 25) (d := d0) rfl rfl)
  obtain ⟨l1, L1, b1⟩ := arg_steps (hval 1 36 v1 rfl rfl) h1 (sized_arg hz (j := 1) (t := 36) (d := d1) rfl rfl)
  exact autoTakes_any y0 a0 b0 v1 l1 W P0 L1 b1 (t8_of hL hsh)

theorem autoTakes_lifted (os : Os) (started : os.Started) (H : Type) (enc : TypeId × Value → H) (F : Stop.Interp) :
    ReturnsInHanded {} Tryd.checked os 4 .any ((OpenSpec.ofChange Rows.autoTakesSpec).preRow enc Tryd.prog Tryd.f4 Rows.autoTakesRow.domain false Rows.autoTakesRow.laid) (((OpenSpec.ofChange Rows.autoTakesSpec).at F).post enc Tryd.prog Tryd.f4 false true false false) := by
  obtain ⟨places, hx⟩ : ∃ places, DataW.whole enc Tryd.prog ((laidWorld os).forCall (fun _ _ => 0) ⟨#[], #[.agg #[.int .i64 0, .string ByteArray.empty, .slice none 0 0, .slice none 0 0], .slice none 0 0], []⟩).memory Tryd.f4.params.toList Rows.autoTakesSpec.vars false (#[.agg #[.int .i64 0, .string ByteArray.empty, .slice none 0 0, .slice none 0 0], .slice none 0 0] : Array Value).toList 8 = some ([.agg [.lit (.int .i64 0), .lit (.string []), .nil, .nil], .nil], [], places) := ⟨[], by kernel_rfl⟩
  refine returnsInHanded_of_row (C := Tryd.checked) (s := OpenSpec.ofChange Rows.autoTakesSpec) own started (by kernel_rfl) Tryd.func4
    (witness_row_at (enc := enc) (C := Tryd.checked) false (laidWorld os) #[.agg #[.int .i64 0, .string ByteArray.empty, .slice none 0 0, .slice none 0 0], .slice none 0 0] rfl (by kernel_rfl) (by kernel_rfl) (by kernel_rfl)
      (OpenSpec.preRow_of_cond 8 hx (by kernel_rfl) (fun k hk => by cases hk) (by kernel_rfl) (laidMet_of_run' 8 (by kernel_rfl) (by kernel_rfl)))) ?_
  intro W base args ds gs before hval hW _ _ hz hL hsh _
  refine (autoTakes_walk H enc W base args ds gs before hval hW hz hL hsh).mono fun e W' ⟨he, hb⟩ => ⟨_, he, ?_⟩
  exact law_post (fn := Tryd.f4) (s := Rows.autoTakesSpec) (tb := 4) rfl (fun ds hd => by match ds, hd with | [d0, d1], _ => rfl) rfl Tryd.underlying4 (by kernel_rfl) hW hb

theorem autoTakes_said : Rows.AutoTakesSaid :=
  OpenClaim.holds_of_cond 4 Tryd.f4 rfl rfl rfl rfl rfl rfl rfl ⟨rfl, rfl, rfl, rfl, rfl⟩ rfl rfl rfl rfl rfl (by kernel_rfl) Tryd.func4 (by kernel_rfl)
    (of_decide_eq_true (by kernel_rfl)) (by unfold Func.isWrapper; first | (rw [if_pos (by decide +kernel)]; kernel_rfl) | (rw [if_neg (by decide +kernel)]; exact ⟨rfl, rfl⟩))
    (fun os started H enc _ F => by rw [OpenClaim.pre_eq_preRow]; exact autoTakes_lifted os started H enc F)

theorem autoTakes_plain (f : FuncId) (fn : Func) (hf : Tryd.pinned.checked.prog.funcNamed Rows.autoTakesRow.func = some f) (hfn : Tryd.pinned.checked.prog.funcs[f]? = some fn) :
    false = Tryd.pinned.checked.prog.looks [] ∧ ∀ (j : Nat) t, fn.params[j]? = some t → Tryd.pinned.checked.prog.wantsStandIn t = false := by
  obtain rfl : f = 4 := Option.some.inj ((show Tryd.prog.funcNamed Rows.autoTakesRow.func = some 4 by kernel_rfl).symm.trans hf) |>.symm
  obtain rfl : fn = Tryd.f4 := (Option.some.inj (Tryd.func4.symm.trans hfn)).symm
  refine ⟨by kernel_rfl, fun j t ht => ?_⟩
  have h := Array.mem_of_getElem? ht
  have hall : Tryd.f4.params.all (fun t => !Tryd.prog.wantsStandIn t) = true := by kernel_rfl
  have := Array.all_eq_true_iff_forall_mem.1 hall t h
  show Tryd.prog.wantsStandIn t = false
  simpa using this

/-- THE STATEMENT. -/
theorem autoTakes_card : Rows.AutoTakesCardSaid :=
  Claim7.holds_tied_plain_at .later [] _ _ _ _ autoTakes_said (fun _ h => by cases h) (by kernel_rfl) (fun _ h => by cases h) autoTakes_row_tie rfl ⟨rfl, rfl⟩ (by kernel_rfl) rfl autoTakes_plain (by kernel_rfl)
end Go.Proofs.YtobcbaeoedpefaaDoor
