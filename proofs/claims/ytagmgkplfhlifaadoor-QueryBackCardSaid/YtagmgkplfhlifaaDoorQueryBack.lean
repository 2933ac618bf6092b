/- QueryBack: a path that may be, as a text, is read as it was, if it is not too long or too deep: for every path. -/
import Derived.Test.YtagmgkplfhlifaaDoorQpLaid
import Derived.Test.YtagmgkplfhlifaaDoorQpKnown
import Derived.Test.YtagmgkplfhlifaaDoorQpBlank
import Derived.Test.YtagmgkplfhlifaaDoorRMay
import Derived.Test.YtagmgkplfhlifaaDoorBig
namespace Go.Proofs.YtagmgkplfhlifaaDoor
set_option linter.unusedVariables false
set_option linter.unusedSimpArgs false
set_option maxRecDepth 100000
open Go.ChangeShapes Go.WideShapes Go.ChangeAt Go.RowKit
open Au
--CUT--
set_option maxHeartbeats 4000000 in
theorem queryBack_any (x : Pt) (v u : Value) (w : World) (hP : PtAt w v u x) (hV : QVars w) :
    Calls Tryd.prog 5 #[pv x v u] w fun e w' => e = .returned (.bool true) ∧ Below w.heap.size w w' := by
  obtain ⟨w1, hw1, hz1, HX1, HP1, HB1⟩ := pt_box w x v u hP
  obtain ⟨c0, c1, c2, c3⟩ := blk4 HX1.out
  have HV1 := hid (hV.keep HB1.out)
  have KN := hid fun W (hb : Below w1.heap.size w1 W) => qknown_any W (HV1.out.keep hb)
  have BG := big_any x w1 v u 0 HP1.out (by decide)
  have CI := hid fun W (hb : Below w1.heap.size w1 W) => rispath_any x v u W (HP1.out.keep hb) ((HV1.out.keep hb).1)
  obtain ⟨B, hB⟩ : ∃ z, z = bigP 0 x := ⟨_, rfl⟩
  rw [← hB] at BG
  have BG := hid BG
  obtain ⟨M, hM⟩ : ∃ z, z = x.may := ⟨_, rfl⟩
  rw [← hM] at CI
  unfold pv at BG CI ⊢
  clear hB
  cases B
  case true =>
    obtain ⟨k, hk⟩ : ∃ z, z = x.kind := ⟨_, rfl⟩
    obtain ⟨tx, htx⟩ : ∃ z, z = x.text := ⟨_, rfl⟩
    rw [← hk, ← htx] at BG CI hw1 ⊢
    rw [← hk] at c0
    rw [← htx] at c1
    clear hM hk htx hP hV HX1 HP1 hz1
    go_enter Tryd.func5, Tryd.ntmps5
    go_upto_region 1 with fail
    rw [← hw1]
    clear hw1
    go_wp2_with (go_at_call 18; refine BG.out.mono ?_; rintro e w2 ⟨rfl, hb2⟩)
    go_ret
    exact ⟨rfl, HB1.out.trans (hb2.mono HB1.out.size)⟩
  case false =>
    cases M
    case false =>
      obtain ⟨k, hk⟩ : ∃ z, z = x.kind := ⟨_, rfl⟩
      obtain ⟨tx, htx⟩ : ∃ z, z = x.text := ⟨_, rfl⟩
      rw [← hk, ← htx] at BG CI hw1 ⊢
      rw [← hk] at c0
      rw [← htx] at c1
      clear hM hk htx hP hV HX1 HP1 hz1
      go_enter Tryd.func5, Tryd.ntmps5
      go_upto_region 1 with fail
      rw [← hw1]
      clear hw1
      go_wp2_with (first
        | (go_at_call 18; refine BG.out.mono ?_; rintro e w2 ⟨rfl, hb2⟩; have HB2 := hid hb2; have d0 := below_keep hb2 c0; have d1 := below_keep hb2 c1; have d2 := below_keep hb2 c2; have d3 := below_keep hb2 c3; clear hb2)
        | (go_at_call 20; refine (CI.out _ HB2.out).mono ?_; rintro e w3 ⟨rfl, hb3⟩))
      go_ret
      exact ⟨rfl, HB1.out.trans ((HB2.out.trans (hb3.mono HB2.out.size)).mono HB1.out.size)⟩
    case true =>
      have hm := hM.symm
      have hwf := (may_parts hm).1
      have hsl := may_len hm
      have SH := hid fun W (hb : Below w1.heap.size w1 W) => qshowf_any x (qshow_any x 0 hwf) hm (by omega) v u W (HP1.out.keep hb) ((HV1.out.keep hb).1)
      have P1 := hid fun W (hb : Below w1.heap.size w1 W) => qpath_out x.show W (by omega) (HV1.out.keep hb)
      have P2 := hid fun W (hb : Below w1.heap.size w1 W) => rpath_out x.show W (by omega) ((HV1.out.keep hb).1)
      unfold OutPost at P1 P2
      have HOUT := hid (Pt.out_show hwf)
      have RS := hid (rsame_any x)
      simp only [SameOk, pv] at RS
      have RS := hid fun v u y v' u' W (h1 : PtAt W v u x) (h2 : PtAt W v' u' y) => RS.out y v u v' u' W h1 h2
      obtain ⟨y, hy⟩ : ∃ z, z = Qp.outP x.show := ⟨_, rfl⟩
      obtain ⟨N, hN⟩ : ∃ z, z = Qp.outN x.show := ⟨_, rfl⟩
      obtain ⟨E, hE⟩ : ∃ z, z = Qp.outE x.show := ⟨_, rfl⟩
      rw [← hy, ← hN, ← hE] at P1
      rw [← hy, ← hN, ← hE] at P2 HOUT
      obtain ⟨S, hS⟩ : ∃ z, z = x.show := ⟨_, rfl⟩
      unfold pv at SH
      rw [← hS] at P1 P2 SH
      rw [← hS] at hsl HOUT
      obtain ⟨k, hk⟩ : ∃ z, z = x.kind := ⟨_, rfl⟩
      obtain ⟨tx, htx⟩ : ∃ z, z = x.text := ⟨_, rfl⟩
      rw [← hk, ← htx] at BG CI SH hw1 ⊢
      rw [← hk] at c0
      rw [← htx] at c1
      have HPX := hid (show ∀ v' u' W, PtAt W v u x → E = 0 → PtAt W v' u' y → Calls Tryd.prog 16 #[.agg #[.int .i64 k, str tx, v, u], .agg #[.int .i64 y.kind, str y.text, v', u']] W fun e w' => e = .returned (.bool true) ∧ Below W.heap.size W w' from fun v' u' W h1 hE0 h2 => by
        have h := RS.out v u y v' u' W h1 h2
        rw [← hk, ← htx] at h
        have hxy : y = x := by
          rcases HOUT.out with ⟨_, h⟩ | ⟨_, _, _, h, _⟩ | ⟨_, _, h, _⟩
          · omega
          · exact h
          · omega
        rw [hxy, (Pt.same_iff x x).2 rfl, ← hk, ← htx] at h
        rw [hxy, ← hk, ← htx]
        exact h)
      have HN0 := hid (show E = 0 → (N : Int) = (S.length : Int) from fun hE0 => by
        rcases HOUT.out with ⟨_, h⟩ | ⟨_, _, _, _, h⟩ | ⟨_, _, h, _⟩
        · omega
        · omega
        · omega)
      have HEC := hid (show E = 4 ∨ E = 0 ∨ E = 3 by
        rcases HOUT.out with ⟨_, h⟩ | ⟨_, _, h, _⟩ | ⟨_, _, h, _⟩
        · exact Or.inl h
        · exact Or.inr (Or.inl h)
        · exact Or.inr (Or.inr h))
      have HPP := hid HP1.out
      obtain ⟨yk, hyk⟩ : ∃ z, z = y.kind := ⟨_, rfl⟩
      obtain ⟨yt, hyt⟩ : ∃ z, z = y.text := ⟨_, rfl⟩
      rw [← hyk, ← hyt] at P1
      rw [← hyk, ← hyt] at P2 HPX
      clear hM hm hwf hk htx hP hV HX1 HP1 hz1 hy hN hE hS RS HOUT hyk hyt
      go_enter Tryd.func5, Tryd.ntmps5
      go_upto_region 1 with fail
      rw [← hw1]
      clear hw1
      go_upto_region 3 with (first
        | (go_at_call 18; refine BG.out.mono ?_; rintro e w2 ⟨rfl, hb2⟩; have HB2 := hid hb2; have d0 := below_keep hb2 c0; have d1 := below_keep hb2 c1; have d2 := below_keep hb2 c2; have d3 := below_keep hb2 c3; clear hb2)
        | (go_at_call 20; refine (CI.out _ HB2.out).mono ?_; rintro e w3 ⟨rfl, hb3⟩; have HB3 := hid (HB2.out.trans (hb3.mono HB2.out.size)); have g0 := below_keep hb3 d0; have g1 := below_keep hb3 d1; have g2 := below_keep hb3 d2; have g3 := below_keep hb3 d3; clear hb3))
      clear c0 c1 c2 c3 d0 d1 d2 d3
      go_upto_region 4 with (go_at_call 21; refine (SH.out _ HB3.out).mono ?_; rintro e w4 ⟨rfl, hb4⟩; have HB4 := hid (HB3.out.trans (hb4.mono HB3.out.size)); have m0 := below_keep hb4 g0; have m1 := below_keep hb4 g1; have m2 := below_keep hb4 g2; have m3 := below_keep hb4 g3)
      clear g0 g1 g2 g3 hb4 SH CI BG
      go_upto_region 5 with (go_at_call 13; refine (P1.out _ HB4.out).mono ?_; rintro e w5 ⟨a, n, c, a', n', c', HP, rfl, HB5⟩; have HB6 := hid (HB4.out.trans (HB5.out.mono HB4.out.size)); have n0 := below_keep HB5.out m0; have n1 := below_keep HB5.out m1; have n2 := below_keep HB5.out m2; have n3 := below_keep HB5.out m3)
      obtain ⟨w6, hw6⟩ : ∃ w6, w6 = w5.alloc (.cells #[.int .i64 yk, str yt, .slice a n c, .slice a' n' c'] 25) := ⟨_, rfl⟩
      have hb6 : Below w5.heap.size w5 w6 := by rw [hw6]; exact (Below.refl _ _).alloc (Nat.le_refl _) _
      have HY := hid (show Blk w6 w5.heap.size [.int .i64 yk, str yt, .slice a n c, .slice a' n' c'] 25 by rw [hw6]; exact Blk.new w5 _ _)
      have HB7 := hid (HB6.out.trans (hb6.mono HB6.out.size))
      have HPY := hid (HP.out.1.keep hb6)
      have q0 := below_keep hb6 n0
      have q1 := below_keep hb6 n1
      have q2 := below_keep hb6 n2
      have q3 := below_keep hb6 n3
      obtain ⟨yb, hyb⟩ : ∃ z, z = w5.heap.size := ⟨_, rfl⟩
      rw [← hyb] at HY
      obtain ⟨y0, y1, y2, y3⟩ := blk4 HY.out
      rw [← hw6, ← hyb]
      clear hw6 hyb hb6 HP HB5 HB6 P1 m0 m1 m2 m3 n0 n1 n2 n3
      rcases HEC.out with h | h | h
      · subst h
        go_upto_region 7 with (go_at_call 14; refine (P2.out _ HB7.out).mono ?_; rintro e w7 ⟨b, m, d, b', m', d', HP, rfl, HB5⟩; have HB8 := hid (HB7.out.trans (HB5.out.mono HB7.out.size)))
        go_wp2_with (go_at_call 17; refine (KN.out _ (HB8.out.alloc HB8.out.size _)).mono ?_; rintro e w9 ⟨rfl, hb9⟩)
        go_ret
        exact ⟨rfl, HB1.out.trans (((HB8.out.alloc HB8.out.size _).trans (hb9.mono (by have := HB8.out.size; simp; omega))).mono HB1.out.size)⟩
      · have HR := hid fun v' u' W h1 h2 => HPX.out v' u' W h1 h h2
        have hnl := HN0.out h
        subst h
        obtain ⟨SL, hSL⟩ : ∃ z, z = S.length := ⟨_, rfl⟩
        have HSL := hid hSL
        rw [← hSL] at hnl hsl
        obtain rfl : N = SL := by omega
        clear hnl HPX HN0 hSL
        have hSL2 : (N : Int) = (S.length : Int) := by have := HSL.out; omega
        have bS : ((N : Int) == (S.length : Int)) = true := by rw [hSL2]; simp
        have bS2 : (N == S.length) = true := by rw [HSL.out]; simp
        clear hSL2
        go_wp2_with (first
          | (go_at_call 16; refine (HR.out _ _ w6 (HPP.out.keep HB7.out) HPY.out).mono ?_; rintro e w7 ⟨rfl, hb7⟩; have HB8 := hid (HB7.out.trans (hb7.mono HB7.out.size)); clear hb7)
          | (go_at_call 17; refine (KN.out _ HB8.out).mono ?_; rintro e w9 ⟨rfl, hb9⟩))
        go_ret
        exact ⟨rfl, HB1.out.trans ((HB8.out.trans (hb9.mono HB8.out.size)).mono HB1.out.size)⟩
      · subst h
        go_upto_region 7 with (go_at_call 14; refine (P2.out _ HB7.out).mono ?_; rintro e w7 ⟨b, m, d, b', m', d', HP, rfl, HB5⟩; have HB8 := hid (HB7.out.trans (HB5.out.mono HB7.out.size)))
        go_wp2_with (go_at_call 17; refine (KN.out _ (HB8.out.alloc HB8.out.size _)).mono ?_; rintro e w9 ⟨rfl, hb9⟩)
        go_ret
        exact ⟨rfl, HB1.out.trans (((HB8.out.alloc HB8.out.size _).trans (hb9.mono (by have := HB8.out.size; simp; omega))).mono HB1.out.size)⟩

theorem queryBack_walk (H : Type) (enc : TypeId × Value → H) (W : World) (base : Nat) (args : Array Value) (ds gs : List (DataW H)) (before : List MemPlace)
    (hval : ∀ (j : Nat) t v, Tryd.f5.params[j]? = some t → args[j]? = some v → Value.okWide Tryd.prog W .any base t v)
    (hW : DataW.Whole enc Tryd.prog Tryd.f5.params.toList Rows.queryBackSpec.vars false W args.toList ds gs before)
    (hz : (DataW.weightsEach Tryd.prog (Tryd.f5.params.toList ++ Rows.queryBackSpec.plain.varTypes Tryd.prog) (ds ++ gs)).all (· ≤ reachBytes) = true)
    (hL : laidMetH Tryd.prog Rows.queryBackRow.laid W) (hsh : W.ShapedOpen Tryd.prog) :
    Calls Tryd.prog 5 args W fun e W' => e = .returned (.bool true) ∧ Below W.heap.size W W' := by
  obtain ⟨p, q, hA, _, _, _, _⟩ := hW
  rw [Tryd.params5] at hA hval
  rw [Tryd.params5] at hz
  obtain ⟨v0, vs0, d0, ds0, p0, q0, hargs, rfl, rfl, h0, r0⟩ := trodAll_cons hA
  obtain ⟨rfl, rfl, rfl⟩ := trodAll_nil r0
  obtain rfl : args = #[v0] := by cases args; simp_all
  obtain ⟨y0, a0, b0, rfl, P0⟩ := arg_pt (hval 0 25 v0 rfl rfl) h0 (sized_arg hz (j := 0) (t := 25) (d := d0) rfl rfl)
  exact queryBack_any y0 a0 b0 W P0 (qvars_of hL hsh)

theorem queryBack_lifted (os : Os) (started : os.Started) (H : Type) (enc : TypeId × Value → H) (F : Stop.Interp) :
    ReturnsInHanded {} Tryd.checked os 5 .any ((OpenSpec.ofChange Rows.queryBackSpec).preRow enc Tryd.prog Tryd.f5 Rows.queryBackRow.domain false Rows.queryBackRow.laid) (((OpenSpec.ofChange Rows.queryBackSpec).at F).post enc Tryd.prog Tryd.f5 false true false false) := by
  obtain ⟨places, hx⟩ : ∃ places, DataW.whole enc Tryd.prog ((laidWorld os).forCall (fun _ _ => 0) ⟨#[], #[.agg #[.int .i64 0, .string ByteArray.empty, .slice none 0 0, .slice none 0 0]], []⟩).memory Tryd.f5.params.toList Rows.queryBackSpec.vars false (#[.agg #[.int .i64 0, .string ByteArray.empty, .slice none 0 0, .slice none 0 0]] : Array Value).toList 8 = some ([.agg [.lit (.int .i64 0), .lit (.string []), .nil, .nil]], [], places) := ⟨[], by kernel_rfl⟩
  refine returnsInHanded_of_row (C := Tryd.checked) (s := OpenSpec.ofChange Rows.queryBackSpec) own started (by kernel_rfl) Tryd.func5
    (witness_row_at (enc := enc) (C := Tryd.checked) false (laidWorld os) #[.agg #[.int .i64 0, .string ByteArray.empty, .slice none 0 0, .slice none 0 0]] rfl (by kernel_rfl) (by kernel_rfl) (by kernel_rfl)
      (OpenSpec.preRow_of_cond 8 hx (by kernel_rfl) (fun k hk => by cases hk) (by kernel_rfl) (laidMet_of_run' 8 (by kernel_rfl) (by kernel_rfl)))) ?_
  intro W base args ds gs before hval hW _ _ hz hL hsh _
  refine (queryBack_walk H enc W base args ds gs before hval hW hz hL hsh).mono fun e W' ⟨he, hb⟩ => ⟨_, he, ?_⟩
  exact law_post (fn := Tryd.f5) (s := Rows.queryBackSpec) (tb := 4) rfl (fun ds hd => by match ds, hd with | [d0], _ => rfl) rfl Tryd.underlying4 (by kernel_rfl) hW hb

theorem queryBack_said : Rows.QueryBackSaid :=
  OpenClaim.holds_of_cond 5 Tryd.f5 rfl rfl rfl rfl rfl rfl rfl ⟨rfl, rfl, rfl, rfl, rfl⟩ rfl rfl rfl rfl rfl (by kernel_rfl) Tryd.func5 (by kernel_rfl)
    (of_decide_eq_true (by kernel_rfl)) (by unfold Func.isWrapper; first | (rw [if_pos (by decide +kernel)]; kernel_rfl) | (rw [if_neg (by decide +kernel)]; exact ⟨rfl, rfl⟩))
    (fun os started H enc _ F => by rw [OpenClaim.pre_eq_preRow]; exact queryBack_lifted os started H enc F)

theorem queryBack_plain (f : FuncId) (fn : Func) (hf : Tryd.pinned.checked.prog.funcNamed Rows.queryBackRow.func = some f) (hfn : Tryd.pinned.checked.prog.funcs[f]? = some fn) :
    false = Tryd.pinned.checked.prog.looks [] ∧ ∀ (j : Nat) t, fn.params[j]? = some t → Tryd.pinned.checked.prog.wantsStandIn t = false := by
  obtain rfl : f = 5 := Option.some.inj ((show Tryd.prog.funcNamed Rows.queryBackRow.func = some 5 by kernel_rfl).symm.trans hf) |>.symm
  obtain rfl : fn = Tryd.f5 := (Option.some.inj (Tryd.func5.symm.trans hfn)).symm
  refine ⟨by kernel_rfl, fun j t ht => ?_⟩
  have h := Array.mem_of_getElem? ht
  have hall : Tryd.f5.params.all (fun t => !Tryd.prog.wantsStandIn t) = true := by kernel_rfl
  have := Array.all_eq_true_iff_forall_mem.1 hall t h
  show Tryd.prog.wantsStandIn t = false
  simpa using this

/-- THE STATEMENT. -/
theorem queryBack_card : Rows.QueryBackCardSaid :=
  Claim7.holds_tied_plain_at .later [] _ _ _ _ queryBack_said (fun _ h => by cases h) (by kernel_rfl) (fun _ h => by cases h) queryBack_row_tie rfl ⟨rfl, rfl⟩ (by kernel_rfl) rfl queryBack_plain (by kernel_rfl)
end Go.Proofs.YtagmgkplfhlifaaDoor
