/- AutoOfNothing: a nil automaton has no places, for every word and every place. -/
import Derived.Test.YtobcbaeoedpefaaDoorAuLaid
import Derived.Test.YtobcbaeoedpefaaDoorAuLaw
namespace Go.Proofs.YtobcbaeoedpefaaDoor
set_option linter.unusedVariables false
set_option linter.unusedSimpArgs false
set_option maxRecDepth 100000
open Go.ChangeShapes Go.WideShapes Go.ChangeAt Go.RowKit
open Au
theorem zero_may : (Pt.mk 0 [] [] []).may = false := by kernel_rfl
theorem pt_zero (W : World) : PtAt W (.slice none 0 0) (.slice none 0 0) (.mk 0 [] [] []) :=
  .mk 0 [] [] [] _ none 0 0 0 (fun _ => undef) (fun _ => undef) (by omega) (by simp) (SlAt.nil _) (fun i => by simp) (Nat.le_refl _) (by unfold maxLen; omega) (fun _ => rfl) (fun h => absurd h (by simp)) (fun i h => absurd h (by simp)) (fun i h => absurd h (by simp))
set_option maxHeartbeats 4000000 in
theorem autoOfNothing_any (x : Int) (v : Value) (L : List Stp) (w : World) (h : StepsAt w v L) (hlow : ∀ t ∈ L, t.low) (hT : T8 w) :
    Calls Tryd.prog 9 #[.int .i64 x, v] w fun e w' => e = .returned (.bool true) ∧ Below w.heap.size w w' := by
  have WD := hid (word_any v L w h hlow)
  have C := new_au (.mk 0 [] [] []) _ _ w (pt_zero w) hT (fun h => by rw [zero_may] at h; cases h)
  have HC : Calls Tryd.prog 14 #[pv (.mk 0 [] [] []) (.slice none 0 0) (.slice none 0 0)] w fun e w' => e = .returned (.tuple #[.pointer none, .int .i64 1]) ∧ Below w.heap.size w w' := C.mono fun e w' h => by
    obtain ⟨hb, h | h | h⟩ := h
    · exact ⟨h.2, hb⟩
    · rw [zero_may] at h; exact absurd h.1 (by simp)
    · rw [zero_may] at h; exact absurd h.1 (by simp)
  unfold pv at HC
  simp only [Pt.kind, Pt.text] at HC
  have HC := hid HC
  have KN := hid fun W (hb : Below w.heap.size w W) => known_any W (hT.keep hb)
  have PN := hid places_nil
  have SN := hid steps_nil
  have LN := hid (last_nil x)
  have TN := hid takes_nil
  obtain ⟨a, cap, rfl, _, _⟩ := h.open
  obtain ⟨n, hn⟩ : ∃ n, n = L.length := ⟨_, rfl⟩
  rw [← hn] at WD ⊢
  obtain ⟨z, hz⟩ : ∃ z, z = wordB L := ⟨_, rfl⟩
  rw [← hz] at WD
  clear h hlow hT C hn hz
  cases z
  · go_enter Tryd.func9, Tryd.ntmps9
    go_wp2_with (go_at_call 22; refine WD.out.mono ?_; rintro e wq ⟨rfl, hw⟩; rw [hw]; clear hw wq)
    go_ret
    exact ⟨rfl, Below.refl _ _⟩
  · go_enter Tryd.func9, Tryd.ntmps9
    go_wp2_with (first
      | (go_at_call 22; refine WD.out.mono ?_; rintro e wq ⟨rfl, hw⟩; rw [hw]; clear hw wq)
      | (go_at_call 14; refine HC.out.mono ?_; rintro e w2 ⟨rfl, hb2⟩; have KN := hid (KN.out w2 hb2); have HB2 := hid hb2; clear hb2)
      | (go_at_call 17; refine (PN.out _).mono ?_; rintro e wq ⟨rfl, hw⟩; rw [hw]; clear hw wq)
      | (go_at_call 19; refine (SN.out _).mono ?_; rintro e wq ⟨rfl, hw⟩; rw [hw]; clear hw wq)
      | (go_at_call 21; refine (LN.out _).mono ?_; rintro e wq ⟨rfl, hw⟩; rw [hw]; clear hw wq)
      | (go_at_call 23; refine (TN.out _ _).mono ?_; rintro e wq ⟨rfl, hw⟩; rw [hw]; clear hw wq)
      | (go_at_call 16; refine KN.out.mono ?_; rintro e w3 ⟨rfl, hb3⟩))
    go_ret
    exact ⟨rfl, below_then HB2.out hb3⟩

theorem autoOfNothing_walk (H : Type) (enc : TypeId × Value → H) (W : World) (base : Nat) (args : Array Value) (ds gs : List (DataW H)) (before : List MemPlace)
    (hval : ∀ (j : Nat) t v, Tryd.f9.params[j]? = some t → args[j]? = some v → Value.okWide Tryd.prog W .any base t v)
    (hW : DataW.Whole enc Tryd.prog Tryd.f9.params.toList Rows.autoOfNothingSpec.vars false W args.toList ds gs before)
    (hz : (DataW.weightsEach Tryd.prog (Tryd.f9.params.toList ++ Rows.autoOfNothingSpec.plain.varTypes Tryd.prog) (ds ++ gs)).all (· ≤ reachBytes) = true)
    (hL : laidMetH Tryd.prog Rows.autoOfNothingRow.laid W) (hsh : W.ShapedOpen Tryd.prog) :
    Calls Tryd.prog 9 args W fun e W' => e = .returned (.bool true) ∧ Below W.heap.size W W' := by
  obtain ⟨p, q, hA, _, _, _, _⟩ := hW
  rw [Tryd.params9] at hA hval
  rw [Tryd.params9] at hz
  obtain ⟨v0, vs0, d0, ds0, p0, q0, hargs, rfl, rfl, h0, r0⟩ := trodAll_cons hA
  obtain ⟨v1, vs1, d1, ds1, p1, q1, rfl, rfl, rfl, h1, r1⟩ := trodAll_cons r0
  obtain ⟨rfl, rfl, rfl⟩ := trodAll_nil r1
  obtain rfl : args = #[v0, v1] := by cases args; simp_all
  obtain ⟨x0, rfl, rfl, rfl, w0⟩ := open_int Tryd.underlying3 (hval 0 3 v0 rfl rfl) h0
  have b0 := bounds_i64 w0
  obtain ⟨l1, L1, b1⟩ := arg_steps (hval 1 36 v1 rfl rfl) h1 (sized_arg hz (j := 1) (t := 36) (d := d1) rfl rfl)
  exact autoOfNothing_any x0 v1 l1 W L1 b1 (t8_of hL hsh)

theorem autoOfNothing_lifted (os : Os) (started : os.Started) (H : Type) (enc : TypeId × Value → H) (F : Stop.Interp) :
    ReturnsInHanded {} Tryd.checked os 9 .any ((OpenSpec.ofChange Rows.autoOfNothingSpec).preRow enc Tryd.prog Tryd.f9 Rows.autoOfNothingRow.domain false Rows.autoOfNothingRow.laid) (((OpenSpec.ofChange Rows.autoOfNothingSpec).at F).post enc Tryd.prog Tryd.f9 false true false false) := by
  obtain ⟨places, hx⟩ : ∃ places, DataW.whole enc Tryd.prog ((laidWorld os).forCall (fun _ _ => 0) ⟨#[], #[.int .i64 0, .slice none 0 0], []⟩).memory Tryd.f9.params.toList Rows.autoOfNothingSpec.vars false (#[.int .i64 0, .slice none 0 0] : Array Value).toList 8 = some ([.lit (.int .i64 0), .nil], [], places) := ⟨[], by kernel_rfl⟩
  refine returnsInHanded_of_row (C := Tryd.checked) (s := OpenSpec.ofChange Rows.autoOfNothingSpec) own started (by kernel_rfl) Tryd.func9
    (witness_row_at (enc := enc) (C := Tryd.checked) false (laidWorld os) #[.int .i64 0, .slice none 0 0] rfl (by kernel_rfl) (by kernel_rfl) (by kernel_rfl)
      (OpenSpec.preRow_of_cond 8 hx (by kernel_rfl) (fun k hk => by cases hk) (by kernel_rfl) (laidMet_of_run' 8 (by kernel_rfl) (by kernel_rfl)))) ?_
  intro W base args ds gs before hval hW _ _ hz hL hsh _
  refine (autoOfNothing_walk H enc W base args ds gs before hval hW hz hL hsh).mono fun e W' ⟨he, hb⟩ => ⟨_, he, ?_⟩
  exact law_post (fn := Tryd.f9) (s := Rows.autoOfNothingSpec) (tb := 4) rfl (fun ds hd => by match ds, hd with | [d0, d1], _ => rfl) rfl Tryd.underlying4 (by kernel_rfl) hW hb

theorem autoOfNothing_said : Rows.AutoOfNothingSaid :=
  OpenClaim.holds_of_cond 9 Tryd.f9 rfl rfl rfl rfl rfl rfl rfl ⟨rfl, rfl, rfl, rfl, rfl⟩ rfl rfl rfl rfl rfl (by kernel_rfl) Tryd.func9 (by kernel_rfl)
    (of_decide_eq_true (by kernel_rfl)) (by unfold Func.isWrapper; first | (rw [if_pos (by decide +kernel)]; kernel_rfl) | (rw [if_neg (by decide +kernel)]; exact ⟨rfl, rfl⟩))
    (fun os started H enc _ F => by rw [OpenClaim.pre_eq_preRow]; exact autoOfNothing_lifted os started H enc F)

theorem autoOfNothing_plain (f : FuncId) (fn : Func) (hf : Tryd.pinned.checked.prog.funcNamed Rows.autoOfNothingRow.func = some f) (hfn : Tryd.pinned.checked.prog.funcs[f]? = some fn) :
    false = Tryd.pinned.checked.prog.looks [] ∧ ∀ (j : Nat) t, fn.params[j]? = some t → Tryd.pinned.checked.prog.wantsStandIn t = false := by
  obtain rfl : f = 9 := Option.some.inj ((show Tryd.prog.funcNamed Rows.autoOfNothingRow.func = some 9 by kernel_rfl).symm.trans hf) |>.symm
  obtain rfl : fn = Tryd.f9 := (Option.some.inj (Tryd.func9.symm.trans hfn)).symm
  refine ⟨by kernel_rfl, fun j t ht => ?_⟩
  have h := Array.mem_of_getElem? ht
  have hall : Tryd.f9.params.all (fun t => !Tryd.prog.wantsStandIn t) = true := by kernel_rfl
  have := Array.all_eq_true_iff_forall_mem.1 hall t h
  show Tryd.prog.wantsStandIn t = false
  simpa using this

/-- THE STATEMENT. -/
theorem autoOfNothing_card : Rows.AutoOfNothingCardSaid :=
  Claim7.holds_tied_plain_at .later [] _ _ _ _ autoOfNothing_said (fun _ h => by cases h) (by kernel_rfl) (fun _ h => by cases h) autoOfNothing_row_tie rfl ⟨rfl, rfl⟩ (by kernel_rfl) rfl autoOfNothing_plain (by kernel_rfl)
end Go.Proofs.YtobcbaeoedpefaaDoor
