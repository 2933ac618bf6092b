/- LinesOne: of any line its triple, or that it has none, or is none, for every input. -/
import Derived.Test.YtemkbmhcohijnaaGreatDoorLnOne3
import Derived.Test.YtemkbmhcohijnaaGreatDoorLnKnown
import Derived.Test.YtemkbmhcohijnaaGreatDoorLnLaid
namespace Go.Proofs.YtemkbmhcohijnaaGreatDoor
set_option linter.unusedVariables false
set_option linter.unusedSimpArgs false
set_option maxRecDepth 100000
open Go.ChangeShapes Go.WideShapes Go.ChangeAt Go.RowKit
theorem eq_tri (k1 : Int) (t1 x1 : List UInt8) (k2 : Int) (t2 x2 : List UInt8) (k3 : Int) (t3 x3 : List UInt8) (w : World) :
    (binOp .eql 25 (triV k1 t1 x1 k2 t2 x2 k3 t3 x3) (triV k1 t1 x1 k2 t2 x2 k3 t3 x3)).run Tryz.prog w = .ok (.bool true) w := by
  simp [go_sem]
  done
/-- A triple and two answers, of any sort. -/
theorem oneV_form (r : Option (Option (Tm.T3 × Tm.T3 × Tm.T3))) : ∃ (k1 : Int) (t1 x1 : List UInt8) (k2 : Int) (t2 x2 : List UInt8) (k3 : Int) (t3 x3 : List UInt8) (b1 b2 : Bool), oneV r = .tuple #[triV k1 t1 x1 k2 t2 x2 k3 t3 x3, .bool b1, .bool b2] := by
  match r with
  | none => exact ⟨0, [], [], 0, [], [], 0, [], [], false, false, rfl⟩
  | some none => exact ⟨0, [], [], 0, [], [], 0, [], [], false, true, rfl⟩
  | some (some (a, b, c)) => exact ⟨_, _, _, _, _, _, _, _, _, true, true, rfl⟩
set_option maxHeartbeats 2000000 in
theorem linesOne_any (s : List UInt8) (w : World) (hl : s.length ≤ 9223372036854775807) (hV : Vars w) (hE : ErrAt w) :
    Calls Tryz.prog 3 #[str s] w fun e W' => e = .returned (.bool true) ∧ Below w.heap.size w W' := by
  by_cases hs : 600 < s.length
  · have hz : (600 : Int) < (s.length : Int) := by omega
    clear hs
    go_enter Tryz.func3, Tryz.ntmps3
    go_wp2
    go_ret
    exact ⟨rfl, Below.refl _ _⟩
  · have hz : (s.length : Int) ≤ 600 := by omega
    have PO := hid (fun W h h2 => pone_any s W h h2 (by omega))
    have RO := hid (fun W h => rone_any s W h (by omega))
    obtain ⟨k1, t1, x1, k2, t2, x2, k3, t3, x3, b1, b2, hf⟩ := oneV_form (Tm.one s)
    rw [hf] at PO RO
    have EQ := fun W => eq_tri k1 t1 x1 k2 t2 x2 k3 t3 x3 W
    have KN := hid (fun W h h2 => known5_any W h h2)
    have HV := hid hV
    have HE := hid hE
    clear hs hf hV hE
    go_enter Tryz.func3, Tryz.ntmps3
    go_wp2_with fail
    refine (PO.out _ HV.out HE.out).mono ?_
    rintro e w1 ⟨rfl, hb⟩
    have HB2 := hid (show Below w.heap.size w (new9 w1 k1 t1 x1 k2 t2 x2 k3 t3 x3) from hb.alloc hb.size _)
    have HU2 := hid (new9_new w1 k1 t1 x1 k2 t2 x2 k3 t3 x3)
    clear hb
    go_wp2_with fail
    refine (RO.out _ (HV.out.keep HB2.out)).mono ?_
    rintro e w3 ⟨rfl, hb⟩
    have HB4 := hid (show Below w.heap.size w (new9 w3 k1 t1 x1 k2 t2 x2 k3 t3 x3) from (below_then HB2.out hb).alloc (below_then HB2.out hb).size _)
    have HU4 := hid (show Blk (new9 w3 k1 t1 x1 k2 t2 x2 k3 t3 x3) w1.heap.size _ 25 from (HU2.out.keep hb).alloc _)
    have HW4 := hid (new9_new w3 k1 t1 x1 k2 t2 x2 k3 t3 x3)
    clear hb
    cases b1 <;> cases b2
    all_goals
      go_wp2_with (show wpList _ _ _ (_ :: _ :: _ :: _ :: _ :: _ :: _) _ (new9 w3 k1 t1 x1 k2 t2 x2 k3 t3 x3); obtain ⟨w4, hw4⟩ : ∃ w4, w4 = new9 w3 k1 t1 x1 k2 t2 x2 k3 t3 x3 := ⟨_, rfl⟩; rw [← hw4] at HB4 HU4 HW4 ⊢; clear hw4; have c0 := HU4.out.cell (i := 0) rfl; have c1 := HU4.out.cell (i := 1) rfl; have c2 := HU4.out.cell (i := 2) rfl; have c3 := HU4.out.cell (i := 3) rfl; have c4 := HU4.out.cell (i := 4) rfl; have c5 := HU4.out.cell (i := 5) rfl; have c6 := HU4.out.cell (i := 6) rfl; have c7 := HU4.out.cell (i := 7) rfl; have c8 := HU4.out.cell (i := 8) rfl; have d0 := HW4.out.cell (i := 0) rfl; have d1 := HW4.out.cell (i := 1) rfl; have d2 := HW4.out.cell (i := 2) rfl; have d3 := HW4.out.cell (i := 3) rfl; have d4 := HW4.out.cell (i := 4) rfl; have d5 := HW4.out.cell (i := 5) rfl; have d6 := HW4.out.cell (i := 6) rfl; have d7 := HW4.out.cell (i := 7) rfl; have d8 := HW4.out.cell (i := 8) rfl)
      refine (KN.out _ (HV.out.keep HB4.out) (HE.out.keep HB4.out)).mono ?_
      rintro e w5 ⟨rfl, hb⟩
      have HB5 := hid (below_then HB4.out hb)
      clear hb
      go_wp2
      go_ret
      exact ⟨rfl, HB5.out⟩
theorem linesOne_walk (H : Type) (enc : TypeId × Value → H) (W : World) (base : Nat) (args : Array Value) (ds gs : List (DataW H)) (before : List MemPlace)
    (hval : ∀ (j : Nat) t v, Tryz.f3.params[j]? = some t → args[j]? = some v → Value.okWide Tryz.prog W .any base t v)
    (hW : DataW.Whole enc Tryz.prog Tryz.f3.params.toList Rows.linesOneSpec.vars false W args.toList ds gs before)
    (hz : (DataW.weightsEach Tryz.prog (Tryz.f3.params.toList ++ Rows.linesOneSpec.plain.varTypes Tryz.prog) (ds ++ gs)).all (· ≤ reachBytes) = true)
    (hL : laidMetH Tryz.prog Rows.linesOneRow.laid W) (hsh : W.ShapedOpen Tryz.prog) :
    Calls Tryz.prog 3 args W fun e W' => e = .returned (.bool true) ∧ Below W.heap.size W W' := by
  obtain ⟨p, q, hA, _, _, _, _⟩ := hW
  rw [Tryz.params3] at hA hval
  rw [Tryz.params3] at hz
  obtain ⟨v0, vs0, d0, ds0, p0, q0, hargs, rfl, rfl, h0, r0⟩ := trodAll_cons hA
  obtain ⟨rfl, rfl, rfl⟩ := trodAll_nil r0
  obtain rfl : args = #[v0] := by cases args; simp_all
  obtain ⟨x0, rfl, rfl, rfl, w0⟩ := Go.ChangeMaps.open_string Tryz.underlying9 (hval 0 9 v0 rfl rfl) h0
  rw [str_of x0]
  obtain ⟨hV, hE⟩ := vars5_of hL hsh
  exact linesOne_any x0.data.toList W (by rw [show x0.data.toList.length = x0.size from Array.length_toList]; unfold maxLen at w0; omega) hV hE

theorem linesOne_lifted (os : Os) (started : os.Started) (H : Type) (enc : TypeId × Value → H) (F : Stop.Interp) :
    ReturnsInHanded {} Tryz.checked os 3 .any ((OpenSpec.ofChange Rows.linesOneSpec).preRow enc Tryz.prog Tryz.f3 Rows.linesOneRow.domain false Rows.linesOneRow.laid) (((OpenSpec.ofChange Rows.linesOneSpec).at F).post enc Tryz.prog Tryz.f3 false true false false) := by
  obtain ⟨places, hx⟩ : ∃ places, DataW.whole enc Tryz.prog ((laidWorld os).forCall (fun _ _ => 0) ⟨#[], #[.string ByteArray.empty], []⟩).memory Tryz.f3.params.toList Rows.linesOneSpec.vars false (#[.string ByteArray.empty] : Array Value).toList 8 = some ([.lit (.string [])], [], places) := ⟨[], by kernel_rfl⟩
  refine returnsInHanded_of_row (C := Tryz.checked) (s := OpenSpec.ofChange Rows.linesOneSpec) own started (by kernel_rfl) Tryz.func3
    (witness_shaped_row (enc := enc) (C := Tryz.checked) false (laidWorld os) #[.string ByteArray.empty] (World.laidAll_os _ _ _) (World.shaped_of_ZipB (by kernel_rfl) (by kernel_rfl)) (by kernel_rfl)
      (OpenSpec.preRow_of_cond 8 hx (by kernel_rfl) (fun k hk => by cases hk) (by kernel_rfl) (laid_met os _))) ?_
  intro W base args ds gs before hval hW _ _ hz hL hsh _
  refine (linesOne_walk H enc W base args ds gs before hval hW hz hL hsh).mono fun e W' ⟨he, hb⟩ => ⟨_, he, ?_⟩
  exact law_post (fn := Tryz.f3) (s := Rows.linesOneSpec) (tb := 4) rfl (fun ds hd => by match ds, hd with | [d0], _ => rfl) rfl Tryz.underlying4 (by kernel_rfl) hW hb

theorem linesOne_said : Rows.LinesOneSaid :=
  OpenClaim.holds_of_cond 3 Tryz.f3 rfl rfl rfl rfl rfl rfl rfl ⟨rfl, rfl, rfl, rfl, rfl⟩ rfl rfl rfl rfl rfl (by kernel_rfl) Tryz.func3 (by kernel_rfl)
    (of_decide_eq_true (by kernel_rfl)) (by unfold Func.isWrapper; first | (rw [if_pos (by decide +kernel)]; kernel_rfl) | (rw [if_neg (by decide +kernel)]; exact ⟨rfl, rfl⟩))
    (fun os started H enc _ F => by rw [OpenClaim.pre_eq_preRow]; exact linesOne_lifted os started H enc F)

theorem linesOne_plain (f : FuncId) (fn : Func) (hf : Tryz.pinned.checked.prog.funcNamed Rows.linesOneRow.func = some f) (hfn : Tryz.pinned.checked.prog.funcs[f]? = some fn) :
    true = Tryz.pinned.checked.prog.looks [] ∧ ∀ (j : Nat) t, fn.params[j]? = some t → Tryz.pinned.checked.prog.wantsStandIn t = false := by
  obtain rfl : f = 3 := Option.some.inj ((show Tryz.prog.funcNamed Rows.linesOneRow.func = some 3 by kernel_rfl).symm.trans hf) |>.symm
  obtain rfl : fn = Tryz.f3 := (Option.some.inj (Tryz.func3.symm.trans hfn)).symm
  refine ⟨by kernel_rfl, fun j t ht => ?_⟩
  have h := Array.mem_of_getElem? ht
  have hall : Tryz.f3.params.all (fun t => !Tryz.prog.wantsStandIn t) = true := by kernel_rfl
  have := Array.all_eq_true_iff_forall_mem.1 hall t h
  show Tryz.prog.wantsStandIn t = false
  simpa using this

/-- THE STATEMENT. -/
theorem linesOne_card : Rows.LinesOneCardSaid :=
  Claim7.holds_tied_plain_at .later [] _ _ _ _ linesOne_said (fun _ h => by cases h) (by kernel_rfl) (fun _ h => by cases h) linesOne_row_tie rfl ⟨rfl, rfl⟩ (by kernel_rfl) rfl linesOne_plain (by kernel_rfl)
end Go.Proofs.YtemkbmhcohijnaaGreatDoor
