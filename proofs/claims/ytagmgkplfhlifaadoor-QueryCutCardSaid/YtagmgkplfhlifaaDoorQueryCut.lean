/- QueryCut: a path's text cut short, or with a sign too many, is told by place and error as the document's: for every path, place and text. -/
import Derived.Test.YtagmgkplfhlifaaDoorQpLaid
import Derived.Test.YtagmgkplfhlifaaDoorQpKnown
import Derived.Test.YtagmgkplfhlifaaDoorQpOut
import Derived.Test.YtagmgkplfhlifaaDoorQpLen
import Derived.Test.YtagmgkplfhlifaaDoorRShow
import Derived.Test.YtagmgkplfhlifaaDoorRMay
import Derived.Test.YtagmgkplfhlifaaDoorBig
namespace Go.Proofs.YtagmgkplfhlifaaDoor
set_option linter.unusedVariables false
set_option linter.unusedSimpArgs false
set_option maxRecDepth 100000
open Go.ChangeShapes Go.WideShapes Go.ChangeAt Go.RowKit
open Au
theorem and_1023 (x : Int) : ∃ A : Nat, A ≤ 1023 ∧ bits BinOp.and IntKind.i64 x 1023 = (A : Int) := by
  refine ⟨((BitVec.ofInt 64 x) &&& 1023#64).toNat, ?_, ?_⟩
  · rw [BitVec.toNat_and]
    exact Nat.and_le_right
  · show IntKind.i64.wrap ((BitVec.ofInt 64 x &&& BitVec.ofInt 64 1023).toNat : Int) = _
    have h : ((BitVec.ofInt 64 x) &&& 1023#64).toNat ≤ 1023 := by rw [BitVec.toNat_and]; exact Nat.and_le_right
    rw [show BitVec.ofInt 64 1023 = 1023#64 from rfl]
    exact IntWalk.i64_in _ ⟨by omega, by omega⟩
--CUT--
set_option maxHeartbeats 4000000 in
theorem queryCut_any (x : Pt) (v u : Value) (q : Int) (more : T) (w : World) (hP : PtAt w v u x) (hV : QVars w) (hml : more.length ≤ 9223372036854775807) :
    Calls Tryd.prog 10 #[pv x v u, .int .i64 q, str more] w fun e w' => e = .returned (.bool true) ∧ Below w.heap.size w w' := by
  obtain ⟨w1, hw1, hz1, HX1, HP1, HB1⟩ := pt_box w x v u hP
  obtain ⟨c0, c1, c2, c3⟩ := blk4 HX1.out
  have HV1 := hid (hV.keep HB1.out)
  have KN := hid fun W (hb : Below w1.heap.size w1 W) => qknown_any W (HV1.out.keep hb)
  have BG := big_any x w1 v u 0 HP1.out (by decide)
  have CI := hid fun W (hb : Below w1.heap.size w1 W) => rispath_any x v u W (HP1.out.keep hb) ((HV1.out.keep hb).1)
  obtain ⟨B, hB⟩ : ∃ z, z = bigP 0 x := ⟨_, rfl⟩
  rw [← hB] at BG
  have BG := hid BG
  have SH := hid fun (hm : x.may = true) W (hb : Below w1.heap.size w1 W) => rshow_any x 0 (may_parts hm).1 v u W (Nat.le_trans (may_len hm) (by decide)) (HP1.out.keep hb)
  have HSL := hid fun (hm : x.may = true) => may_len hm
  obtain ⟨M, hM⟩ : ∃ z, z = x.may := ⟨_, rfl⟩
  rw [← hM] at CI SH HSL
  have CI := CI
  unfold pv at BG CI SH ⊢
  obtain ⟨S, hS⟩ : ∃ z, z = x.show := ⟨_, rfl⟩
  rw [← hS] at SH HSL
  obtain ⟨k, hk⟩ : ∃ z, z = x.kind := ⟨_, rfl⟩
  obtain ⟨tx, htx⟩ : ∃ z, z = x.text := ⟨_, rfl⟩
  rw [← hk, ← htx] at BG CI SH hw1 ⊢
  rw [← hk] at c0
  rw [← htx] at c1
  clear hB hM hS hk htx hP hV HX1 HP1 hz1
  cases B
  case true =>
    go_enter Tryd.func10, Tryd.ntmps10
    go_upto_region 1 with fail
    rw [← hw1]
    clear hw1
    go_wp2_with (go_at_call 18; refine BG.out.mono ?_; rintro e w2 ⟨rfl, hb2⟩)
    go_ret
    exact ⟨rfl, HB1.out.trans (hb2.mono HB1.out.size)⟩
  case false =>
    cases M
    case false =>
      go_enter Tryd.func10, Tryd.ntmps10
      go_upto_region 1 with fail
      rw [← hw1]
      clear hw1
      go_wp2_with (first
        | (go_at_call 18; refine BG.out.mono ?_; rintro e w2 ⟨rfl, hb2⟩; have HB2 := hid hb2; have d0 := below_keep hb2 c0; have d1 := below_keep hb2 c1; have d2 := below_keep hb2 c2; have d3 := below_keep hb2 c3; clear hb2)
        | (go_at_call 20; refine (CI.out _ HB2.out).mono ?_; rintro e w3 ⟨rfl, hb3⟩))
      go_ret
      exact ⟨rfl, HB1.out.trans ((HB2.out.trans (hb3.mono HB2.out.size)).mono HB1.out.size)⟩
    case true =>
      by_cases h20 : 20 < more.length
      · have b1 : decide ((20 : Int) < (more.length : Int)) = true := decide_eq_true (by omega)
        have b2 : decide (20 < more.length) = true := decide_eq_true h20
        clear h20
        go_enter Tryd.func10, Tryd.ntmps10
        go_upto_region 1 with fail
        rw [← hw1]
        clear hw1
        go_wp2_with (first
          | (go_at_call 18; refine BG.out.mono ?_; rintro e w2 ⟨rfl, hb2⟩; have HB2 := hid hb2; have d0 := below_keep hb2 c0; have d1 := below_keep hb2 c1; have d2 := below_keep hb2 c2; have d3 := below_keep hb2 c3; clear hb2)
          | (go_at_call 20; refine (CI.out _ HB2.out).mono ?_; rintro e w3 ⟨rfl, hb3⟩))
        go_ret
        exact ⟨rfl, HB1.out.trans ((HB2.out.trans (hb3.mono HB2.out.size)).mono HB1.out.size)⟩
      have b1 : decide ((20 : Int) < (more.length : Int)) = false := decide_eq_false (by omega)
      have b2 : decide (20 < more.length) = false := decide_eq_false h20
      have SH2 := hid (show ∀ W, Below w1.heap.size w1 W → Calls Tryd.prog 22 #[.agg #[.int .i64 k, str tx, v, u]] W fun e w' => e = .returned (str S) ∧ Below W.heap.size W w' from fun W hb => SH.out rfl W hb)
      clear SH
      have hsl := HSL.out rfl
      obtain ⟨A, hA, hand⟩ := and_1023 q
      obtain ⟨m, hm⟩ : ∃ m, m = A % (S.length + 1) := ⟨_, rfl⟩
      have hmn : m ≤ S.length := by have := Nat.mod_lt A (show 0 < S.length + 1 by omega); omega
      have hmI : (A : Int) % ((S.length : Int) + 1) = m := by rw [hm, Int.natCast_emod]; rfl
      have hmT : (A : Int).tmod ((S.length : Int) + 1) = m := by rw [← hmI]; exact Int.tmod_eq_emod_of_nonneg (by omega)
      obtain ⟨t, ht⟩ : ∃ t, t = S.take m ++ more := ⟨_, rfl⟩
      have htl : t.length ≤ 100000000 := by rw [ht, List.length_append, List.length_take]; omega
      have hex : (⟨S.toArray⟩ : ByteArray).extract 0 m = ⟨(S.take m).toArray⟩ := ba_take S m
      have hap : (⟨(S.take m).toArray⟩ ++ ⟨more.toArray⟩ : ByteArray) = ⟨t.toArray⟩ := by rw [qba_append, ht]
      have P1 := hid fun W (hb : Below w1.heap.size w1 W) => qpath_out t W htl (HV1.out.keep hb)
      have P2 := hid fun W (hb : Below w1.heap.size w1 W) => rpath_out t W htl ((HV1.out.keep hb).1)
      unfold OutPost at P1 P2
      obtain ⟨N, hN⟩ : ∃ x, x = Qp.outN t := ⟨_, rfl⟩
      obtain ⟨E, hE⟩ : ∃ x, x = Qp.outE t := ⟨_, rfl⟩
      obtain ⟨y, hy⟩ : ∃ x, x = Qp.outP t := ⟨_, rfl⟩
      rw [← hy, ← hN, ← hE] at P1 P2
      obtain ⟨yk, hyk⟩ : ∃ x, x = y.kind := ⟨_, rfl⟩
      obtain ⟨yt, hyt⟩ : ∃ x, x = y.text := ⟨_, rfl⟩
      rw [← hyk, ← hyt] at P1 P2
      have HAND := hid hand
      have htk : (S.take m).length = m := by rw [List.length_take]; omega
      have hsum : m + more.length ≤ 100000000 := by omega
      clear h20 hm ht hN hE hy hyk hyt htl HSL hmI
      go_enter Tryd.func10, Tryd.ntmps10
      go_upto_region 1 with fail
      rw [← hw1]
      clear hw1
      go_upto_region 3 with (first
        | (go_at_call 18; refine BG.out.mono ?_; rintro e w2 ⟨rfl, hb2⟩; have HB2 := hid hb2; have d0 := below_keep hb2 c0; have d1 := below_keep hb2 c1; have d2 := below_keep hb2 c2; have d3 := below_keep hb2 c3; clear hb2)
        | (go_at_call 20; refine (CI.out _ HB2.out).mono ?_; rintro e w3 ⟨rfl, hb3⟩; have HB3 := hid (HB2.out.trans (hb3.mono HB2.out.size)); have g0 := below_keep hb3 d0; have g1 := below_keep hb3 d1; have g2 := below_keep hb3 d2; have g3 := below_keep hb3 d3; clear hb3))
      clear c0 c1 c2 c3 d0 d1 d2 d3
      go_upto_region 4 with (go_at_call 22; refine (SH2.out _ HB3.out).mono ?_; rintro e w4 ⟨rfl, hb4⟩; have HB4 := hid (HB3.out.trans (hb4.mono HB3.out.size)))
      clear g0 g1 g2 g3 hb4 SH2 CI BG
      have hand := HAND.out
      go_upto_region 6 with (go_at_call 13; refine (P1.out _ HB4.out).mono ?_; rintro e w5 ⟨a, n, c, a', n', c', HP, rfl, HB5⟩; have HB6 := hid (HB4.out.trans (HB5.out.mono HB4.out.size)))
      obtain ⟨w6, hw6⟩ : ∃ w6, w6 = w5.alloc (.cells #[.int .i64 yk, str yt, .slice a n c, .slice a' n' c'] 25) := ⟨_, rfl⟩
      have HB7 := hid (show Below w1.heap.size w1 w6 by rw [hw6]; exact HB6.out.alloc HB6.out.size _)
      rw [← hw6]
      clear hw6 HP HB5 HB6 P1
      go_upto_region 7 with (go_at_call 14; refine (P2.out _ HB7.out).mono ?_; rintro e w7 ⟨a2, n2, c2, a2', n2', c2', HP, rfl, HB5⟩; have HB8 := hid (HB7.out.trans (HB5.out.mono HB7.out.size)))
      obtain ⟨w8, hw8⟩ : ∃ w8, w8 = w7.alloc (.cells #[.int .i64 yk, str yt, .slice a2 n2 c2, .slice a2' n2' c2'] 25) := ⟨_, rfl⟩
      have HB9 := hid (show Below w1.heap.size w1 w8 by rw [hw8]; exact HB8.out.alloc HB8.out.size _)
      rw [← hw8]
      clear hw8 HP HB5 HB8 P2
      go_wp2_with (go_at_call 17; refine (KN.out _ HB9.out).mono ?_; rintro e w9 ⟨rfl, hb9⟩)
      go_ret
      exact ⟨rfl, HB1.out.trans ((HB9.out.trans (hb9.mono HB9.out.size)).mono HB1.out.size)⟩

theorem queryCut_walk (H : Type) (enc : TypeId × Value → H) (W : World) (base : Nat) (args : Array Value) (ds gs : List (DataW H)) (before : List MemPlace)
    (hval : ∀ (j : Nat) t v, Tryd.f10.params[j]? = some t → args[j]? = some v → Value.okWide Tryd.prog W .any base t v)
    (hW : DataW.Whole enc Tryd.prog Tryd.f10.params.toList Rows.queryCutSpec.vars false W args.toList ds gs before)
    (hz : (DataW.weightsEach Tryd.prog (Tryd.f10.params.toList ++ Rows.queryCutSpec.plain.varTypes Tryd.prog) (ds ++ gs)).all (· ≤ reachBytes) = true)
    (hL : laidMetH Tryd.prog Rows.queryCutRow.laid W) (hsh : W.ShapedOpen Tryd.prog) :
    Calls Tryd.prog 10 args W fun e W' => e = .returned (.bool true) ∧ Below W.heap.size W W' := by
  obtain ⟨p, q, hA, _, _, _, _⟩ := hW
  rw [Tryd.params10] at hA hval
  rw [Tryd.params10] at hz
  obtain ⟨v0, vs0, d0, ds0, p0, q0, hargs, rfl, rfl, h0, r0⟩ := trodAll_cons hA
  obtain ⟨v1, vs1, d1, ds1, p1, q1, rfl, rfl, rfl, h1, r1⟩ := trodAll_cons r0
  obtain ⟨v2, vs2, d2, ds2, p2, q2, rfl, rfl, rfl, h2, r2⟩ := trodAll_cons r1
  obtain ⟨rfl, rfl, rfl⟩ := trodAll_nil r2
  obtain rfl : args = #[v0, v1, v2] := by cases args; simp_all
  obtain ⟨y0, a0, b0, rfl, P0⟩ := arg_pt (hval 0 25 v0 rfl rfl) h0 (sized_arg hz (j := 0) (t := 25) (d := d0) rfl rfl)
  obtain ⟨x1, rfl, rfl, rfl, w1⟩ := open_int Tryd.underlying3 (hval 1 3 v1 rfl rfl) h1
  have b1 := bounds_i64 w1
  obtain ⟨x2, rfl, rfl, rfl, w2⟩ := Go.ChangeMaps.open_string Tryd.underlying9 (hval 2 9 v2 rfl rfl) h2
  rw [str_of x2]
  exact queryCut_any y0 a0 b0 x1 x2.data.toList W P0 (qvars_of hL hsh) (by rw [show x2.data.toList.length = x2.size from Array.length_toList]; unfold maxLen at w2; omega)

theorem queryCut_lifted (os : Os) (started : os.Started) (H : Type) (enc : TypeId × Value → H) (F : Stop.Interp) :
    ReturnsInHanded {} Tryd.checked os 10 .any ((OpenSpec.ofChange Rows.queryCutSpec).preRow enc Tryd.prog Tryd.f10 Rows.queryCutRow.domain false Rows.queryCutRow.laid) (((OpenSpec.ofChange Rows.queryCutSpec).at F).post enc Tryd.prog Tryd.f10 false true false false) := by
  obtain ⟨places, hx⟩ : ∃ places, DataW.whole enc Tryd.prog ((laidWorld os).forCall (fun _ _ => 0) ⟨#[], #[.agg #[.int .i64 0, .string ByteArray.empty, .slice none 0 0, .slice none 0 0], .int .i64 0, .string ByteArray.empty], []⟩).memory Tryd.f10.params.toList Rows.queryCutSpec.vars false (#[.agg #[.int .i64 0, .string ByteArray.empty, .slice none 0 0, .slice none 0 0], .int .i64 0, .string ByteArray.empty] : Array Value).toList 8 = some ([.agg [.lit (.int .i64 0), .lit (.string []), .nil, .nil], .lit (.int .i64 0), .lit (.string [])], [], places) := ⟨[], by kernel_rfl⟩
  refine returnsInHanded_of_row (C := Tryd.checked) (s := OpenSpec.ofChange Rows.queryCutSpec) own started (by kernel_rfl) Tryd.func10
    (witness_row_at (enc := enc) (C := Tryd.checked) false (laidWorld os) #[.agg #[.int .i64 0, .string ByteArray.empty, .slice none 0 0, .slice none 0 0], .int .i64 0, .string ByteArray.empty] rfl (by kernel_rfl) (by kernel_rfl) (by kernel_rfl)
      (OpenSpec.preRow_of_cond 8 hx (by kernel_rfl) (fun k hk => by cases hk) (by kernel_rfl) (laidMet_of_run' 8 (by kernel_rfl) (by kernel_rfl)))) ?_
  intro W base args ds gs before hval hW _ _ hz hL hsh _
  refine (queryCut_walk H enc W base args ds gs before hval hW hz hL hsh).mono fun e W' ⟨he, hb⟩ => ⟨_, he, ?_⟩
  exact law_post (fn := Tryd.f10) (s := Rows.queryCutSpec) (tb := 4) rfl (fun ds hd => by match ds, hd with | [d0, d1, d2], _ => rfl) rfl Tryd.underlying4 (by kernel_rfl) hW hb

theorem queryCut_said : Rows.QueryCutSaid :=
  OpenClaim.holds_of_cond 10 Tryd.f10 rfl rfl rfl rfl rfl rfl rfl ⟨rfl, rfl, rfl, rfl, rfl⟩ rfl rfl rfl rfl rfl (by kernel_rfl) Tryd.func10 (by kernel_rfl)
    (of_decide_eq_true (by kernel_rfl)) (by unfold Func.isWrapper; first | (rw [if_pos (by decide +kernel)]; kernel_rfl) | (rw [if_neg (by decide +kernel)]; exact ⟨rfl, rfl⟩))
    (fun os started H enc _ F => by rw [OpenClaim.pre_eq_preRow]; exact queryCut_lifted os started H enc F)

theorem queryCut_plain (f : FuncId) (fn : Func) (hf : Tryd.pinned.checked.prog.funcNamed Rows.queryCutRow.func = some f) (hfn : Tryd.pinned.checked.prog.funcs[f]? = some fn) :
    false = Tryd.pinned.checked.prog.looks [] ∧ ∀ (j : Nat) t, fn.params[j]? = some t → Tryd.pinned.checked.prog.wantsStandIn t = false := by
  obtain rfl : f = 10 := Option.some.inj ((show Tryd.prog.funcNamed Rows.queryCutRow.func = some 10 by kernel_rfl).symm.trans hf) |>.symm
  obtain rfl : fn = Tryd.f10 := (Option.some.inj (Tryd.func10.symm.trans hfn)).symm
  refine ⟨by kernel_rfl, fun j t ht => ?_⟩
  have h := Array.mem_of_getElem? ht
  have hall : Tryd.f10.params.all (fun t => !Tryd.prog.wantsStandIn t) = true := by kernel_rfl
  have := Array.all_eq_true_iff_forall_mem.1 hall t h
  show Tryd.prog.wantsStandIn t = false
  simpa using this

/-- THE STATEMENT. -/
theorem queryCut_card : Rows.QueryCutCardSaid :=
  Claim7.holds_tied_plain_at .later [] _ _ _ _ queryCut_said (fun _ h => by cases h) (by kernel_rfl) (fun _ h => by cases h) queryCut_row_tie rfl ⟨rfl, rfl⟩ (by kernel_rfl) rfl queryCut_plain (by kernel_rfl)
end Go.Proofs.YtagmgkplfhlifaaDoor
