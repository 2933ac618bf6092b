/- TermLangs: a language has parts of so many letters, digits not in the first, for every input. -/
import Derived.Test.YtmooppakneoidaaDoorTmLaid
import Derived.Test.YtmooppakneoidaaDoorTmRIs
namespace Go.Proofs.YtmooppakneoidaaDoor
set_option linter.unusedVariables false
set_option linter.unusedSimpArgs false
set_option maxRecDepth 100000
open Go.ChangeShapes Go.WideShapes Go.ChangeAt Go.RowKit

theorem termLangs_any (p : List UInt8) (W : World) (hl : p.length ≤ 9223372036854775807) (hV : Vars W) :
    Calls Tryd.prog 6 #[str p] W fun e W' => e = .returned (.bool true) ∧ Below W.heap.size W W' := by
  by_cases h60 : 60 < p.length
  · go_enter Tryd.func6, Tryd.ntmps6
    go_wp2
    go_ret
    exact ⟨rfl, Below.refl _ _⟩
  have HV := hid hV
  have C1 := hid (fun w h => tis_any 4 [97] p w (by decide) hl h)
  have C2 := hid (fun w h => ris_any 4 [97] p w (by decide) hl h)
  have C3 := hid (fun w => tshow_any 4 [97] p w (by decide) (by omega))
  rw [show Tm.show 4 [97] p = 34 :: 97 :: 34 :: 64 :: p from rfl] at C3
  have KN := hid (fun w h => known_any w h)
  have hee : ((34 :: 97 :: 34 :: 64 :: p : List UInt8) == ((⟨#[34, 97, 34, 64]⟩ : ByteArray) ++ ⟨p.toArray⟩).toList) = true := by rw [ba_append, ByteArray.toList_eq]; simp
  obtain ⟨b, hb⟩ : ∃ b, b = Tm.is 4 [97] p := ⟨_, rfl⟩
  rw [← hb] at C1 C2
  clear hV hb
  cases b
  · go_enter Tryd.func6, Tryd.ntmps6
    go_wp2_with fail
    refine (C1.out _ (HV.out.keep ((Below.refl _ _).alloc (Nat.le_refl _) _))).mono ?_
    rintro e w1 ⟨rfl, hb⟩
    obtain ⟨k0, k1, k2, hB⟩ := tm_cells hb
    have HB1 := hid hB
    clear hb hB
    go_wp2_with fail
    refine (C2.out _ (HV.out.keep HB1.out)).mono ?_
    rintro e w2 ⟨rfl, hb⟩
    have HB2 := hid (below_then HB1.out hb)
    clear hb k0 k1 k2
    go_wp2_with fail
    refine (KN.out _ (HV.out.keep HB2.out)).mono ?_
    rintro e w3 ⟨rfl, hb⟩
    have HB3 := hid (below_then HB2.out hb)
    clear hb
    go_wp2
    go_ret
    exact ⟨rfl, HB3.out⟩
  · go_enter Tryd.func6, Tryd.ntmps6
    go_wp2_with fail
    refine (C1.out _ (HV.out.keep ((Below.refl _ _).alloc (Nat.le_refl _) _))).mono ?_
    rintro e w1 ⟨rfl, hb⟩
    obtain ⟨k0, k1, k2, hB⟩ := tm_cells hb
    have HB1 := hid hB
    clear hb hB
    go_wp2_with fail
    refine (C2.out _ (HV.out.keep HB1.out)).mono ?_
    rintro e w2 ⟨rfl, hb⟩
    have j0 := below_keep hb k0
    have j1 := below_keep hb k1
    have j2 := below_keep hb k2
    have HB2 := hid (below_then HB1.out hb)
    clear hb k0 k1 k2
    go_wp2_with fail
    refine (C3.out _).mono ?_
    rintro e w3 ⟨rfl, hb⟩
    have HB3 := hid (below_then HB2.out hb)
    clear hb j0 j1 j2
    go_wp2_with fail
    refine (KN.out _ (HV.out.keep HB3.out)).mono ?_
    rintro e w4 ⟨rfl, hb⟩
    have HB4 := hid (below_then HB3.out hb)
    clear hb
    go_wp2
    go_ret
    exact ⟨rfl, HB4.out⟩

theorem termLangs_walk (H : Type) (enc : TypeId × Value → H) (W : World) (base : Nat) (args : Array Value) (ds gs : List (DataW H)) (before : List MemPlace)
    (hval : ∀ (j : Nat) t v, Tryd.f6.params[j]? = some t → args[j]? = some v → Value.okWide Tryd.prog W .any base t v)
    (hW : DataW.Whole enc Tryd.prog Tryd.f6.params.toList Rows.termLangsSpec.vars false W args.toList ds gs before)
    (hz : (DataW.weightsEach Tryd.prog (Tryd.f6.params.toList ++ Rows.termLangsSpec.plain.varTypes Tryd.prog) (ds ++ gs)).all (· ≤ reachBytes) = true)
    (hL : laidMetH Tryd.prog Rows.termLangsRow.laid W) (hsh : W.ShapedOpen Tryd.prog) :
    Calls Tryd.prog 6 args W fun e W' => e = .returned (.bool true) ∧ Below W.heap.size W W' := by
  obtain ⟨p, q, hA, _, _, _, _⟩ := hW
  rw [Tryd.params6] at hA hval
  rw [Tryd.params6] at hz
  obtain ⟨v0, vs0, d0, ds0, p0, q0, hargs, rfl, rfl, h0, r0⟩ := trodAll_cons hA
  obtain ⟨rfl, rfl, rfl⟩ := trodAll_nil r0
  obtain rfl : args = #[v0] := by cases args; simp_all
  obtain ⟨x0, rfl, rfl, rfl, w0⟩ := Go.ChangeMaps.open_string Tryd.underlying9 (hval 0 9 v0 rfl rfl) h0
  rw [str_of x0]
  exact termLangs_any x0.data.toList W (by rw [show x0.data.toList.length = x0.size from Array.length_toList]; unfold maxLen at w0; omega) (vars_of hL hsh)

theorem termLangs_lifted (os : Os) (started : os.Started) (H : Type) (enc : TypeId × Value → H) (F : Stop.Interp) :
    ReturnsInHanded {} Tryd.checked os 6 .any ((OpenSpec.ofChange Rows.termLangsSpec).preRow enc Tryd.prog Tryd.f6 Rows.termLangsRow.domain false Rows.termLangsRow.laid) (((OpenSpec.ofChange Rows.termLangsSpec).at F).post enc Tryd.prog Tryd.f6 false true false false) := by
  obtain ⟨places, hx⟩ : ∃ places, DataW.whole enc Tryd.prog ((laidWorld os).forCall (fun _ _ => 0) ⟨#[], #[.string ByteArray.empty], []⟩).memory Tryd.f6.params.toList Rows.termLangsSpec.vars false (#[.string ByteArray.empty] : Array Value).toList 8 = some ([.lit (.string [])], [], places) := ⟨[], by kernel_rfl⟩
  refine returnsInHanded_of_row (C := Tryd.checked) (s := OpenSpec.ofChange Rows.termLangsSpec) own started (by kernel_rfl) Tryd.func6
    (witness_row_at (enc := enc) (C := Tryd.checked) false (laidWorld os) #[.string ByteArray.empty] rfl (by kernel_rfl) (by kernel_rfl) (by kernel_rfl)
      (OpenSpec.preRow_of_cond 8 hx (by kernel_rfl) (fun k hk => by cases hk) (by kernel_rfl) (laidMet_of_run' 8 (by kernel_rfl) (by kernel_rfl)))) ?_
  intro W base args ds gs before hval hW _ _ hz hL hsh _
  refine (termLangs_walk H enc W base args ds gs before hval hW hz hL hsh).mono fun e W' ⟨he, hb⟩ => ⟨_, he, ?_⟩
  exact law_post (fn := Tryd.f6) (s := Rows.termLangsSpec) (tb := 4) rfl (fun ds hd => by match ds, hd with | [d0], _ => rfl) rfl Tryd.underlying4 (by kernel_rfl) hW hb

theorem termLangs_said : Rows.TermLangsSaid :=
  OpenClaim.holds_of_cond 6 Tryd.f6 rfl rfl rfl rfl rfl rfl rfl ⟨rfl, rfl, rfl, rfl, rfl⟩ rfl rfl rfl rfl rfl (by kernel_rfl) Tryd.func6 (by kernel_rfl)
    (of_decide_eq_true (by kernel_rfl)) (by unfold Func.isWrapper; first | (rw [if_pos (by decide +kernel)]; kernel_rfl) | (rw [if_neg (by decide +kernel)]; exact ⟨rfl, rfl⟩))
    (fun os started H enc _ F => by rw [OpenClaim.pre_eq_preRow]; exact termLangs_lifted os started H enc F)

theorem termLangs_plain (f : FuncId) (fn : Func) (hf : Tryd.pinned.checked.prog.funcNamed Rows.termLangsRow.func = some f) (hfn : Tryd.pinned.checked.prog.funcs[f]? = some fn) :
    false = Tryd.pinned.checked.prog.looks [] ∧ ∀ (j : Nat) t, fn.params[j]? = some t → Tryd.pinned.checked.prog.wantsStandIn t = false := by
  obtain rfl : f = 6 := Option.some.inj ((show Tryd.prog.funcNamed Rows.termLangsRow.func = some 6 by kernel_rfl).symm.trans hf) |>.symm
  obtain rfl : fn = Tryd.f6 := (Option.some.inj (Tryd.func6.symm.trans hfn)).symm
  refine ⟨by kernel_rfl, fun j t ht => ?_⟩
  have h := Array.mem_of_getElem? ht
  have hall : Tryd.f6.params.all (fun t => !Tryd.prog.wantsStandIn t) = true := by kernel_rfl
  have := Array.all_eq_true_iff_forall_mem.1 hall t h
  show Tryd.prog.wantsStandIn t = false
  simpa using this

/-- THE STATEMENT. -/
theorem termLangs_card : Rows.TermLangsCardSaid :=
  Claim7.holds_tied_plain_at .later [] _ _ _ _ termLangs_said (fun _ h => by cases h) (by kernel_rfl) (fun _ h => by cases h) termLangs_row_tie rfl ⟨rfl, rfl⟩ (by kernel_rfl) rfl termLangs_plain (by kernel_rfl)
end Go.Proofs.YtmooppakneoidaaDoor
