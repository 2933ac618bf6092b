/- QueryPaths: any text of at most 700 bytes is read as its path, or told by place and error, as the document reads it: for every text. -/
import Derived.Test.YtagmgkplfhlifaaDoorQpLaid
import Derived.Test.YtagmgkplfhlifaaDoorQpKnown
import Derived.Test.YtagmgkplfhlifaaDoorQpOut
namespace Go.Proofs.YtagmgkplfhlifaaDoor
set_option linter.unusedVariables false
set_option linter.unusedSimpArgs false
set_option maxRecDepth 100000
open Go.ChangeShapes Go.WideShapes Go.ChangeAt Go.RowKit
open Au
set_option maxHeartbeats 4000000 in
theorem queryPaths_any (s : T) (w : World) (hV : QVars w) (hl : s.length ≤ 9223372036854775807) :
    Calls Tryd.prog 3 #[str s] w fun e w' => e = .returned (.bool true) ∧ Below w.heap.size w w' := by
  by_cases h7 : 700 < s.length
  · have b1 : decide ((700 : Int) < (s.length : Int)) = true := decide_eq_true (by omega)
    have b2 : decide (700 < s.length) = true := decide_eq_true h7
    clear h7
    go_enter Tryd.func3, Tryd.ntmps3
    go_wp2
    go_ret
    exact ⟨rfl, Below.refl _ _⟩
  have b1 : decide ((700 : Int) < (s.length : Int)) = false := decide_eq_false (by omega)
  have b2 : decide (700 < s.length) = false := decide_eq_false h7
  have HV := hid hV
  have KN := hid fun W (hb : Below w.heap.size w W) => qknown_any W (hV.keep hb)
  have P1 := qpath_out s w (by omega) hV
  have P2 := hid fun W (hb : Below w.heap.size w W) => rpath_out s W (by omega) ((hV.keep hb).1)
  have BX := hid fun W v u x (h : PtAt W v u x) => pt_box W x v u h
  unfold OutPost at P1 P2
  have hsz := Qp.outP_size s
  obtain ⟨x, hx⟩ : ∃ x, x = Qp.outP s := ⟨_, rfl⟩
  obtain ⟨N, hN⟩ : ∃ x, x = Qp.outN s := ⟨_, rfl⟩
  obtain ⟨E, hE⟩ : ∃ x, x = Qp.outE s := ⟨_, rfl⟩
  rw [← hx] at hsz
  rw [← hx, ← hN, ← hE] at P1
  rw [← hx, ← hN, ← hE] at P2
  have P1 := hid P1
  have SM := hid fun v u v' u' W (h1 : PtB W v u x) (h2 : PtB W v' u' x) => qsame_any x x v u v' u' W h1.1 h1.2 h2.1 h2.2 hsz
  have RS := hid (rsame_any x)
  have BX := hid fun W v u (h : PtAt W v u x) => BX.out W v u x h
  unfold pv at SM
  simp only [SameOk, pv] at RS
  have RS := hid fun v u v' u' W (h1 : PtAt W v u x) (h2 : PtAt W v' u' x) => RS.out x v u v' u' W h1 h2
  rw [(Pt.same_iff x x).2 rfl] at SM RS
  obtain ⟨k, hk⟩ : ∃ z, z = x.kind := ⟨_, rfl⟩
  obtain ⟨tx, htx⟩ : ∃ z, z = x.text := ⟨_, rfl⟩
  rw [← hk, ← htx] at P1 P2 SM RS BX
  clear h7 hV hx hN hE hk htx hsz
  go_enter Tryd.func3, Tryd.ntmps3
  go_upto_region 4 with (go_at_call 13; refine P1.out.mono ?_; rintro e w5 ⟨a, n, c, a', n', c', HP, rfl, HB5⟩)
  obtain ⟨w6, hw6, hz, HX, HP6, HB6⟩ := BX.out w5 _ _ HP.out.1
  have HBB6 := hid (HB5.out.trans (HB6.out.mono HB5.out.size))
  have HPB6 := hid (HP.out.keep HB6.out)
  rw [← hw6]
  clear hw6 HP HB5 HB6 hz P1 HP6
  go_upto_region 5 with (go_at_call 14; refine (P2.out _ HBB6.out).mono ?_; rintro e w7 ⟨a2, n2, c2, a2', n2', c2', HP7, rfl, HB7⟩)
  obtain ⟨w8, hw8, hz8, HX8, HP8, HB8⟩ := BX.out w7 _ _ HP7.out.1
  have HPB8 := hid (HP7.out.keep HB8.out)
  have HX7 := hid (HX.out.keep HB7.out)
  have HX7 := hid (HX7.out.keep HB8.out)
  have HPB6 := hid ((HPB6.out.keep HB7.out).keep HB8.out)
  have HB8 := hid (HBB6.out.trans ((HB7.out.trans (HB8.out.mono HB7.out.size)).mono HBB6.out.size))
  rw [← hw8]
  obtain ⟨r0, r1, r2, r3⟩ := blk4 HX7.out
  obtain ⟨s0, s1, s2, s3⟩ := blk4 HX8.out
  clear hw8 hz8 HP7 HBB6 HX HB7 BX P2 HP8
  have SM := hid (SM.out _ _ _ _ w8 HPB6.out HPB8.out)
  go_wp2_with (first
    | (go_at_call 15; refine SM.out.mono ?_; rintro e w9 ⟨rfl, hb9⟩; have HB9 := hid (HB8.out.trans (hb9.mono HB8.out.size)); have HP9 := hid (HPB6.out.keep hb9); have HP9' := hid (HPB8.out.keep hb9); have q0 := below_keep hb9 r0; have q1 := below_keep hb9 r1; have q2 := below_keep hb9 r2; have q3 := below_keep hb9 r3; have t0 := below_keep hb9 s0; have t1 := below_keep hb9 s1; have t2 := below_keep hb9 s2; have t3 := below_keep hb9 s3; clear hb9)
    | (go_at_call 16; refine (RS.out _ _ _ _ w9 HP9.out.1 HP9'.out.1).mono ?_; rintro e w10 ⟨rfl, hb10⟩; have HB10 := hid (HB9.out.trans (hb10.mono HB9.out.size)); clear hb10)
    | (go_at_call 17; refine (KN.out _ HB10.out).mono ?_; rintro e w11 ⟨rfl, hb11⟩))
  go_ret
  exact ⟨rfl, HB10.out.trans (hb11.mono HB10.out.size)⟩

theorem queryPaths_walk (H : Type) (enc : TypeId × Value → H) (W : World) (base : Nat) (args : Array Value) (ds gs : List (DataW H)) (before : List MemPlace)
    (hval : ∀ (j : Nat) t v, Tryd.f3.params[j]? = some t → args[j]? = some v → Value.okWide Tryd.prog W .any base t v)
    (hW : DataW.Whole enc Tryd.prog Tryd.f3.params.toList Rows.queryPathsSpec.vars false W args.toList ds gs before)
    (hz : (DataW.weightsEach Tryd.prog (Tryd.f3.params.toList ++ Rows.queryPathsSpec.plain.varTypes Tryd.prog) (ds ++ gs)).all (· ≤ reachBytes) = true)
    (hL : laidMetH Tryd.prog Rows.queryPathsRow.laid W) (hsh : W.ShapedOpen Tryd.prog) :
    Calls Tryd.prog 3 args W fun e W' => e = .returned (.bool true) ∧ Below W.heap.size W W' := by
  obtain ⟨p, q, hA, _, _, _, _⟩ := hW
  rw [Tryd.params3] at hA hval
  rw [Tryd.params3] at hz
  obtain ⟨v0, vs0, d0, ds0, p0, q0, hargs, rfl, rfl, h0, r0⟩ := trodAll_cons hA
  obtain ⟨rfl, rfl, rfl⟩ := trodAll_nil r0
  obtain rfl : args = #[v0] := by cases args; simp_all
  obtain ⟨x0, rfl, rfl, rfl, w0⟩ := Go.ChangeMaps.open_string Tryd.underlying9 (hval 0 9 v0 rfl rfl) h0
  rw [str_of x0]
  exact queryPaths_any x0.data.toList W (qvars_of hL hsh) (by rw [show x0.data.toList.length = x0.size from Array.length_toList]; unfold maxLen at w0; omega)

theorem queryPaths_lifted (os : Os) (started : os.Started) (H : Type) (enc : TypeId × Value → H) (F : Stop.Interp) :
    ReturnsInHanded {} Tryd.checked os 3 .any ((OpenSpec.ofChange Rows.queryPathsSpec).preRow enc Tryd.prog Tryd.f3 Rows.queryPathsRow.domain false Rows.queryPathsRow.laid) (((OpenSpec.ofChange Rows.queryPathsSpec).at F).post enc Tryd.prog Tryd.f3 false true false false) := by
  obtain ⟨places, hx⟩ : ∃ places, DataW.whole enc Tryd.prog ((laidWorld os).forCall (fun _ _ => 0) ⟨#[], #[.string ByteArray.empty], []⟩).memory Tryd.f3.params.toList Rows.queryPathsSpec.vars false (#[.string ByteArray.empty] : Array Value).toList 8 = some ([.lit (.string [])], [], places) := ⟨[], by kernel_rfl⟩
  refine returnsInHanded_of_row (C := Tryd.checked) (s := OpenSpec.ofChange Rows.queryPathsSpec) own started (by kernel_rfl) Tryd.func3
    (witness_row_at (enc := enc) (C := Tryd.checked) false (laidWorld os) #[.string ByteArray.empty] rfl (by kernel_rfl) (by kernel_rfl) (by kernel_rfl)
      (OpenSpec.preRow_of_cond 8 hx (by kernel_rfl) (fun k hk => by cases hk) (by kernel_rfl) (laidMet_of_run' 8 (by kernel_rfl) (by kernel_rfl)))) ?_
  intro W base args ds gs before hval hW _ _ hz hL hsh _
  refine (queryPaths_walk H enc W base args ds gs before hval hW hz hL hsh).mono fun e W' ⟨he, hb⟩ => ⟨_, he, ?_⟩
  exact law_post (fn := Tryd.f3) (s := Rows.queryPathsSpec) (tb := 4) rfl (fun ds hd => by match ds, hd with | [d0], _ => rfl) rfl Tryd.underlying4 (by kernel_rfl) hW hb

theorem queryPaths_said : Rows.QueryPathsSaid :=
  OpenClaim.holds_of_cond 3 Tryd.f3 rfl rfl rfl rfl rfl rfl rfl ⟨rfl, rfl, rfl, rfl, rfl⟩ rfl rfl rfl rfl rfl (by kernel_rfl) Tryd.func3 (by kernel_rfl)
    (of_decide_eq_true (by kernel_rfl)) (by unfold Func.isWrapper; first | (rw [if_pos (by decide +kernel)]; kernel_rfl) | (rw [if_neg (by decide +kernel)]; exact ⟨rfl, rfl⟩))
    (fun os started H enc _ F => by rw [OpenClaim.pre_eq_preRow]; exact queryPaths_lifted os started H enc F)

theorem queryPaths_plain (f : FuncId) (fn : Func) (hf : Tryd.pinned.checked.prog.funcNamed Rows.queryPathsRow.func = some f) (hfn : Tryd.pinned.checked.prog.funcs[f]? = some fn) :
    false = Tryd.pinned.checked.prog.looks [] ∧ ∀ (j : Nat) t, fn.params[j]? = some t → Tryd.pinned.checked.prog.wantsStandIn t = false := by
  obtain rfl : f = 3 := Option.some.inj ((show Tryd.prog.funcNamed Rows.queryPathsRow.func = some 3 by kernel_rfl).symm.trans hf) |>.symm
  obtain rfl : fn = Tryd.f3 := (Option.some.inj (Tryd.func3.symm.trans hfn)).symm
  refine ⟨by kernel_rfl, fun j t ht => ?_⟩
  have h := Array.mem_of_getElem? ht
  have hall : Tryd.f3.params.all (fun t => !Tryd.prog.wantsStandIn t) = true := by kernel_rfl
  have := Array.all_eq_true_iff_forall_mem.1 hall t h
  show Tryd.prog.wantsStandIn t = false
  simpa using this

/-- THE STATEMENT. -/
theorem queryPaths_card : Rows.QueryPathsCardSaid :=
  Claim7.holds_tied_plain_at .later [] _ _ _ _ queryPaths_said (fun _ h => by cases h) (by kernel_rfl) (fun _ h => by cases h) queryPaths_row_tie rfl ⟨rfl, rfl⟩ (by kernel_rfl) rfl queryPaths_plain (by kernel_rfl)
end Go.Proofs.YtagmgkplfhlifaaDoor
