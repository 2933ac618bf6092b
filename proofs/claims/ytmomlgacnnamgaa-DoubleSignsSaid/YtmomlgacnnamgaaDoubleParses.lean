/- DoubleParses: any text as a number, or that it is none, for every input. -/
import Derived.Test.YtmomlgacnnamgaaDblRef2
import Derived.Test.YtmomlgacnnamgaaDoubleTells
namespace Go.Proofs.Ytmomlgacnnamgaa
set_option linter.unusedVariables false
set_option linter.unusedSimpArgs false
set_option maxRecDepth 100000
open Go.ChangeShapes Go.WideShapes Go.ChangeAt Go.RowKit

theorem Db.parse_lt (l : List UInt8) : (Db.parse l).getD 0 < 18446744073709551616 := by
  unfold Db.parse
  by_cases h1 : l = [78, 97, 78]
  · rw [if_pos h1]; decide
  · rw [if_neg h1]
    by_cases h2 : (Db.sign l).2 = [73, 78, 70]
    · rw [if_pos h2]
      cases (Db.sign l).1 <;> decide
    · rw [if_neg h2]
      cases h3 : Db.nm (Db.sign l).2 with
      | none => exact (by decide : (0 : Nat) < 18446744073709551616)
      | some q =>
        obtain ⟨d, e⟩ := q
        show Db.csign (Db.sign l).1 (Db.mag d e) < _
        unfold Db.csign
        split <;> omega
theorem rsame_self (x : Nat) (w : World) (hx : x < 18446744073709551616) : Calls Try.prog 14 #[.float .f64 x, .float .f64 x] w fun e w' => e = .returned (.bool true) ∧ w = w' := by
  have RO := hid (fun w => rorder_any x x w hx hx)
  rw [Fl.ordr_self] at RO
  go_enter Try.func14, Try.ntmps14
  go_wp2_with (go_at_call 20; refine (RO.out _).mono ?_; rintro e w' ⟨rfl, rfl⟩)
  go_ret
  exact ⟨rfl, rfl⟩
theorem doubleParses_any (l : List UInt8) (W : World) (hl0 : l.length ≤ 9223372036854775807) :
    Calls Try.prog 3 #[str l] W fun e W' => e = .returned (.bool true) ∧ Below W.heap.size W W' := by
  by_cases hb : 100 < l.length
  · go_enter Try.func3, Try.ntmps3
    go_wp2
    go_ret
    exact ⟨rfl, Below.refl _ _⟩
  · have hl : l.length ≤ 9223372036854775806 := by omega
    have PX := hid (fun w => parse_any l w hl)
    have PR := hid (fun w => rparse_any l w hl)
    have SA := hid (fun w => rsame_self _ w (Db.parse_lt l))
    have KN := hid (fun w => known_any w)
    obtain ⟨x, hx⟩ : ∃ x, x = (Db.parse l).getD 0 := ⟨_, rfl⟩
    obtain ⟨b, hbb⟩ : ∃ b, b = (Db.parse l).isSome := ⟨_, rfl⟩
    rw [← hx, ← hbb] at PX PR
    rw [← hx] at SA
    have e1 : (b == b) = true := by simp
    clear hx hbb
    go_enter Try.func3, Try.ntmps3
    go_wp2_with fail
    refine (PX.out _).mono ?_
    rintro e w' ⟨rfl, q, rfl⟩
    go_wp2_with (first
      | (go_at_call 13; refine (PR.out _).mono ?_; rintro e w' ⟨rfl, rfl⟩)
      | (go_at_call 14; refine (SA.out _).mono ?_; rintro e w' ⟨rfl, rfl⟩)
      | (go_at_call 15; refine (KN.out _).mono ?_; rintro e w' ⟨rfl, hk⟩))
    have HB := hid (below_then (below_drawn (Below.refl W.heap.size W) q) hk)
    go_ret
    exact ⟨rfl, HB.out⟩

theorem doubleParses_walk (H : Type) (enc : TypeId × Value → H) (W : World) (base : Nat) (args : Array Value) (ds gs : List (DataW H)) (before : List MemPlace)
    (hval : ∀ (j : Nat) t v, Try.f3.params[j]? = some t → args[j]? = some v → Value.okWide Try.prog W .any base t v)
    (hW : DataW.Whole enc Try.prog Try.f3.params.toList Rows.doubleParsesSpec.vars false W args.toList ds gs before)
    (hz : (DataW.weightsEach Try.prog (Try.f3.params.toList ++ Rows.doubleParsesSpec.plain.varTypes Try.prog) (ds ++ gs)).all (· ≤ reachBytes) = true)
    (hL : laidMetH Try.prog Rows.doubleParsesRow.laid W) (hsh : W.ShapedOpen Try.prog) :
    Calls Try.prog 3 args W fun e W' => e = .returned (.bool true) ∧ Below W.heap.size W W' := by
  obtain ⟨p, q, hA, _, _, _, _⟩ := hW
  rw [Try.params3] at hA hval
  rw [Try.params3] at hz
  obtain ⟨v0, vs0, d0, ds0, p0, q0, hargs, rfl, rfl, h0, r0⟩ := trodAll_cons hA
  obtain ⟨rfl, rfl, rfl⟩ := trodAll_nil r0
  obtain rfl : args = #[v0] := by cases args; simp_all
  obtain ⟨x0, rfl, rfl, rfl, w0⟩ := Go.ChangeMaps.open_string Try.underlying9 (hval 0 9 v0 rfl rfl) h0
  rw [str_of x0]
  exact doubleParses_any x0.data.toList W (by rw [show x0.data.toList.length = x0.size from Array.length_toList]; unfold maxLen at w0; omega)

theorem doubleParses_lifted (os : Os) (started : os.Started) (H : Type) (enc : TypeId × Value → H) (F : Stop.Interp) :
    ReturnsInHanded {} Try.checked os 3 .any ((OpenSpec.ofChange Rows.doubleParsesSpec).preRow enc Try.prog Try.f3 Rows.doubleParsesRow.domain false Rows.doubleParsesRow.laid) (((OpenSpec.ofChange Rows.doubleParsesSpec).at F).post enc Try.prog Try.f3 false true false false) := by
  obtain ⟨places, hx⟩ : ∃ places, DataW.whole enc Try.prog ((World.holding Try.prog os ⟨#[], #[], []⟩).forCall (fun _ _ => 0) ⟨#[], #[.string ByteArray.empty], []⟩).memory Try.f3.params.toList Rows.doubleParsesSpec.vars false (#[.string ByteArray.empty] : Array Value).toList 8 = some ([.lit (.string [])], [], places) := ⟨[], by kernel_rfl⟩
  refine returnsInHanded_of_row (C := Try.checked) (s := OpenSpec.ofChange Rows.doubleParsesSpec) own started (by kernel_rfl) Try.func3
    (witness_row_at (enc := enc) (C := Try.checked) false (World.holding Try.prog os ⟨#[], #[], []⟩) #[.string ByteArray.empty] rfl (by kernel_rfl) (by kernel_rfl) (by kernel_rfl)
      (OpenSpec.preRow_of_cond 8 hx (by kernel_rfl) (fun k hk => by cases hk) (by kernel_rfl) (laidMet_nil _ _))) ?_
  intro W base args ds gs before hval hW _ _ hz hL hsh _
  refine (doubleParses_walk H enc W base args ds gs before hval hW hz hL hsh).mono fun e W' ⟨he, hb⟩ => ⟨_, he, ?_⟩
  exact law_post (fn := Try.f3) (s := Rows.doubleParsesSpec) (tb := 4) rfl (fun ds hd => by match ds, hd with | [d0], _ => rfl) rfl Try.underlying4 (by kernel_rfl) hW hb

theorem doubleParses_said : Rows.DoubleParsesSaid :=
  OpenClaim.holds_of_cond 3 Try.f3 rfl rfl rfl rfl rfl rfl rfl ⟨rfl, rfl, rfl, rfl, rfl⟩ rfl rfl rfl rfl rfl (by kernel_rfl) Try.func3 (by kernel_rfl)
    (of_decide_eq_true (by kernel_rfl)) (by unfold Func.isWrapper; first | (rw [if_pos (by decide +kernel)]; kernel_rfl) | (rw [if_neg (by decide +kernel)]; exact ⟨rfl, rfl⟩))
    (fun os started H enc _ F => by rw [OpenClaim.pre_eq_preRow]; exact doubleParses_lifted os started H enc F)
end Go.Proofs.Ytmomlgacnnamgaa
