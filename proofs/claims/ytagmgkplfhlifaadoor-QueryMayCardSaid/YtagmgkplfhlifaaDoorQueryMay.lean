/- QueryMay: which queries may be, and their variables in order, as the document says: for every query. -/
import Derived.Test.YtagmgkplfhlifaaDoorQpLaid
import Derived.Test.YtagmgkplfhlifaaDoorQpKnown
import Derived.Test.YtagmgkplfhlifaaDoorQyIs3
import Derived.Test.YtagmgkplfhlifaaDoorQyRIs2
import Derived.Test.YtagmgkplfhlifaaDoorQyArg
import Derived.Test.YtagmgkplfhlifaaDoorQyWide
import Derived.Test.YtagmgkplfhlifaaDoorTmRIs
namespace Go.Proofs.YtagmgkplfhlifaaDoor
set_option linter.unusedVariables false
set_option linter.unusedSimpArgs false
set_option maxRecDepth 100000
open Go.ChangeShapes Go.WideShapes Go.ChangeAt Go.RowKit
open Au
set_option maxHeartbeats 8000000 in
theorem queryMay_any (q : Qy) (vs sl fs : Value) (w : World) (hQ : QyAt w vs sl fs q) (hV : QVars w) :
    Calls Tryd.prog 6 #[qyV q vs sl fs] w fun e w' => e = .returned (.bool true) ∧ Below w.heap.size w w' := by
  obtain ⟨ask, V, ps, F, lim, off⟩ := q
  have HQY := hid hQ
  have HQV := hid hV
  obtain ⟨hV', hP, hF, hl, ho⟩ := hQ
  simp only at hV' hP hF hl ho
  have HPA := hid hP
  obtain ⟨va, vc, rfl, _⟩ := hV'.open
  obtain ⟨pa, pc, b, off0, f, g, rfl, _⟩ := hP
  obtain ⟨fa, fc, _, _, rfl, _⟩ := hF
  obtain ⟨w1, hw1⟩ : ∃ w1, w1 = w.alloc (.cells #[.bool ask, .slice va V.length vc, .slice pa ps.length pc, .slice fa F.length fc, .int .i64 lim, .int .i64 off] 40) := ⟨_, rfl⟩
  have HB1 := hid (show Below w.heap.size w w1 by rw [hw1]; exact (Below.refl _ _).alloc (Nat.le_refl _) _)
  have HX1 := hid (show Blk w1 w.heap.size [.bool ask, .slice va V.length vc, .slice pa ps.length pc, .slice fa F.length fc, .int .i64 lim, .int .i64 off] 40 by rw [hw1]; exact Blk.new' rfl rfl)
  have WI := hid (wide_any _ _ _ _ w1 (HQY.out.keep HB1.out))
  have KN := hid (fun W (hb : Below w.heap.size w W) => qknown_any W (HQV.out.keep hb))
  have VARS := hid (show ∀ W, Below w.heap.size w W → Vars W from fun W hb => ⟨(HQV.out.keep hb).1, (HQV.out.keep hb).2⟩)
  have HOKE := hid (show ∀ p ∈ ps, okE p.s ∧ okE p.o by
    obtain ⟨_, _, _, _, _, _, _, _, _, _, _, _, _, h7⟩ := HPA.out
    intro p hp
    obtain ⟨i, hi, rfl⟩ := List.getElem_of_mem hp
    exact h7 i hi)
  have HI1 := hid (show ∀ W, Below w.heap.size w W → ∀ p ∈ ps, IOk Tm.is W p.s ∧ IOk Tm.is W p.o from fun W hb p hp =>
    ⟨fun _ W' hb' => tis_any _ _ _ W' (by have := (HOKE.out p hp).1.2.2.1; omega) (by have := (HOKE.out p hp).1.2.2.2; omega) (VARS.out W' (below_then hb hb')), fun _ W' hb' => tis_any _ _ _ W' (by have := (HOKE.out p hp).2.2.2.1; omega) (by have := (HOKE.out p hp).2.2.2.2; omega) (VARS.out W' (below_then hb hb'))⟩)
  have HI2 := hid (show ∀ W, Below w.heap.size w W → ∀ p ∈ ps, JOk Tm.is W p.s ∧ JOk Tm.is W p.o from fun W hb p hp =>
    ⟨fun _ W' hb' => ris_any _ _ _ W' (by have := (HOKE.out p hp).1.2.2.1; omega) (by have := (HOKE.out p hp).1.2.2.2; omega) (VARS.out W' (below_then hb hb')), fun _ W' hb' => ris_any _ _ _ W' (by have := (HOKE.out p hp).2.2.2.1; omega) (by have := (HOKE.out p hp).2.2.2.2; omega) (VARS.out W' (below_then hb hb'))⟩)
  have QI := hid (fun (hv : V.length ≤ 20) W (hb : Below w.heap.size w W) => qis_any Tm.is ⟨ask, V, ps, F, lim, off⟩ _ _ _ W (HQY.out.keep hb) ((HQV.out.keep hb).1) (HI1.out W hb) (Nat.le_trans hv (by decide)))
  have RI := hid (fun (hv : V.length ≤ 20) W (hb : Below w.heap.size w W) => rqis_any Tm.is ⟨ask, V, ps, F, lim, off⟩ _ _ _ W (HQY.out.keep hb) ((HQV.out.keep hb).1) (HI2.out W hb) (Nat.le_trans hv (by decide)))
  obtain ⟨B, hB⟩ : ∃ B, B = Qy.is Tm.is ⟨ask, V, ps, F, lim, off⟩ := ⟨_, rfl⟩
  rw [← hB] at QI RI
  have VV := hid (fun (hp : ps.length ≤ 20) W (hb : Below w.heap.size w W) => qvars_any ps W _ ask va fa V.length vc F.length fc lim off (HPA.out.keep hb) (by omega))
  have RV := hid (fun (hp : ps.length ≤ 20) W (hb : Below w.heap.size w W) => rvars_any ps W _ ask va fa V.length vc F.length fc lim off (HPA.out.keep hb) (by omega))
  have HLEN := hid (show ps.length ≤ 20 → (varsOf ps).length ≤ 1000 from fun h => by
    have h1 := addsV_len [] (names ps)
    rw [names_len] at h1
    unfold varsOf
    simp at h1; omega)
  obtain ⟨L, hL⟩ : ∃ L, L = varsOf ps := ⟨_, rfl⟩
  rw [← hL] at VV RV HLEN
  unfold qyV at WI QI RI ⊢
  simp only at WI QI RI ⊢
  obtain ⟨np, hnp⟩ : ∃ n, n = ps.length := ⟨_, rfl⟩
  obtain ⟨nf, hnf⟩ : ∃ n, n = F.length := ⟨_, rfl⟩
  obtain ⟨nv, hnv⟩ : ∃ n, n = V.length := ⟨_, rfl⟩
  rw [← hnp, ← hnf, ← hnv] at WI QI RI HX1 hw1
  rw [← hnp, ← hnf, ← hnv] at VV RV
  rw [← hnp] at HLEN
  rw [← hnp, ← hnf, ← hnv]
  clear hnp hnf hnv hB hL hV' HI1 HI2 VARS HOKE HPA HQY
  go_enter Tryd.func6, Tryd.ntmps6
  go_upto_region 1 with fail
  rw [← hw1]
  clear hw1
  have c0 := HX1.out.cell (i := 0) rfl
  have c1 := HX1.out.cell (i := 1) rfl
  have c2 := HX1.out.cell (i := 2) rfl
  have c3 := HX1.out.cell (i := 3) rfl
  have c4 := HX1.out.cell (i := 4) rfl
  have c5 := HX1.out.cell (i := 5) rfl
  go_wp2_with fail
  refine WI.out.mono ?_
  rintro e w2 ⟨⟨r, rfl, hr⟩, hb⟩
  have HR := hid hr
  have HB2 := hid (below_then HB1.out hb)
  have HX2 := hid (HX1.out.keep hb)
  clear hb hr c0 c1 c2 c3 c4 c5
  cases r
  case true =>
    go_wp2
    go_ret
    exact ⟨rfl, HB2.out⟩
  obtain ⟨l1, l2, l3⟩ := HR.out rfl
  have QI := hid (QI.out l3)
  have RI := hid (RI.out l3)
  have VV := hid (VV.out l1)
  have RV := hid (RV.out l1)
  have hln := HLEN.out l1
  have c0 := HX2.out.cell (i := 0) rfl
  have c1 := HX2.out.cell (i := 1) rfl
  have c2 := HX2.out.cell (i := 2) rfl
  have c3 := HX2.out.cell (i := 3) rfl
  have c4 := HX2.out.cell (i := 4) rfl
  have c5 := HX2.out.cell (i := 5) rfl
  have HBd := hid (show Below w.heap.size w w2.drew from HB2.out.drew)
  clear HR WI HX1 HLEN l1 l2 l3
  go_upto_region 3 with fail
  go_cut [3, 4] (fun s3 s4 wx => ∃ a5 q5 a6 q6, s3 = .slice a5 L.length q5 ∧ s4 = .slice a6 L.length q6 ∧ Hid (TextsAt wx s3 L) ∧ Hid (TextsAt wx s4 L) ∧ Hid (Below w.heap.size w wx) ∧ Hid (Below w2.heap.size w2 wx))
  case first =>
    have HB2d := hid (show Below w2.heap.size w2 w2.drew from (Below.refl _ _).drew)
    go_region_with (first
      | (go_at_call 24; refine (VV.out _ (by first | exact HBd.out | (apply Hid.out; assumption))).mono ?_; rintro e wa ⟨va5, rfl, hta, hba⟩; have HTA := hid hta; have HBA := hid hba; have HWA : Hid (Below w.heap.size w wa) := hid (below_then (by first | exact HBd.out | (apply Hid.out; assumption)) hba); have HWA2 : Hid (Below w2.heap.size w2 wa) := hid (below_then (by first | exact HB2d.out | (apply Hid.out; assumption)) hba); have c0 := below_keep hba c0; have c1 := below_keep hba c1; have c2 := below_keep hba c2; have c3 := below_keep hba c3; have c4 := below_keep hba c4; have c5 := below_keep hba c5; obtain ⟨a5, q5, rfl, _⟩ := hta.open; clear hta hba)
      | (go_at_call 25; refine (RV.out _ (by first | exact HBd.out | (apply Hid.out; assumption))).mono ?_; rintro e wb ⟨va6, rfl, htb, hbb⟩; have HTB := hid htb; have HBB := hid hbb; have HWB : Hid (Below w.heap.size w wb) := hid (below_then (by first | exact HBd.out | (apply Hid.out; assumption)) hbb); have HWB2 : Hid (Below w2.heap.size w2 wb) := hid (below_then (by first | exact HB2d.out | (apply Hid.out; assumption)) hbb); have c0 := below_keep hbb c0; have c1 := below_keep hbb c1; have c2 := below_keep hbb c2; have c3 := below_keep hbb c3; have c4 := below_keep hbb c4; have c5 := below_keep hbb c5; obtain ⟨a6, q6, rfl, _⟩ := htb.open; clear htb hbb))
    all_goals
      go_wp2_with fail
      go_meet
      first
        | exact ⟨a5, q5, a6, q6, rfl, rfl, hid (HTA.out.keep HBB.out), HTB, HWB, HWB2⟩
        | exact ⟨a5, q5, a6, q6, rfl, rfl, HTA, hid (HTB.out.keep HBA.out), HWA, HWA2⟩
  case rest =>
    obtain ⟨a5, q5, a6, q6, rfl, rfl, HT5, HT6, HBW, HBq⟩ := hcut
    obtain ⟨w3, rfl⟩ : ∃ w3 : World, w3 = wc := ⟨_, rfl⟩
    have HX3 := hid (HX2.out.keep HBq.out)
    obtain ⟨N, hN⟩ : ∃ N, N = L.length := ⟨_, rfl⟩
    have HN := hid hN
    rw [← hN] at HT5 HT6 hln ⊢
    clear c0 c1 c2 c3 c4 c5 hN VV RV HBq HX2 HB2 HBd
    have HR5 := hid (show RowAt w3 a5 N fun i => str (L.getD i []) by
      obtain ⟨a', c', e, _, _, _, hr⟩ := HT5.out.open
      simp only [Value.slice.injEq] at e
      obtain ⟨rfl, _, rfl⟩ := e
      rw [HN.out]; exact hr)
    have HR6 := hid (show RowAt w3 a6 N fun i => str (L.getD i []) by
      obtain ⟨a', c', e, _, _, _, hr⟩ := HT6.out.open
      simp only [Value.slice.injEq] at e
      obtain ⟨rfl, _, rfl⟩ := e
      rw [HN.out]; exact hr)
    have c0 := HX3.out.cell (i := 0) rfl
    have c1 := HX3.out.cell (i := 1) rfl
    have c2 := HX3.out.cell (i := 2) rfl
    have c3 := HX3.out.cell (i := 3) rfl
    have c4 := HX3.out.cell (i := 4) rfl
    have c5 := HX3.out.cell (i := 5) rfl
    have QI3 := hid (fun p : Later w3.heap.size w3 => QI.out p.it (below_then HBW.out p.low))
    have RI3 := hid (fun p : Later w3.heap.size w3 => RI.out p.it (below_then HBW.out p.low))
    have heN : ((N : Int) == (N : Int)) = true := by simp
    have hbB : (B == B) = true := by simp
    have hnB : (B != B) = false := by simp
    go_upto_region 4 with fail
    have c0q := fun p : Later w3.heap.size w3 => p.keep c0
    have c1q := fun p : Later w3.heap.size w3 => p.keep c1
    have c2q := fun p : Later w3.heap.size w3 => p.keep c2
    have c3q := fun p : Later w3.heap.size w3 => p.keep c3
    have c4q := fun p : Later w3.heap.size w3 => p.keep c4
    have c5q := fun p : Later w3.heap.size w3 => p.keep c5
    refine wp_region_later w3.heap.size (by kernel_rfl) (by kernel_rfl) ?_
    repeat (go_big_quiet_step (first
      | (go_at_call 26; with_reducible exact Later.call (Nat.le_refl _) (QI3.out _))
      | (go_at_call 27; with_reducible exact Later.call (Nat.le_refl _) (RI3.out _))
      | fail))
    refine wpQuiet_nil ?_
    rintro wy ⟨p1, hwy⟩
    have HBy := hid (show Below w3.heap.size w3 wy by rw [hwy]; exact p1.low)
    clear hwy p1 c0q c1q c2q c3q c4q c5q c0 c1 c2 c3 c4 c5
    go_upto_region 7 with fail
    go_loopg [5] N (fun gk s5 wq => ∃ k : Nat, s5 = .int .i64 k ∧ k ≤ N ∧ N - k ≤ gk ∧ Hid (Below w3.heap.size w3 wq))
    case atStart => exact ⟨0, rfl, Nat.zero_le _, Nat.le_refl _, HBy.out⟩
    case round =>
      obtain ⟨k, rfl, hkN, hgk, HBq⟩ := hrel
      by_cases hlt2 : k < N
      · have hkz : (k : Int) < (N : Int) := by omega
        obtain ⟨b1, o1, rfl, hc1⟩ := HR5.out.get hlt2
        obtain ⟨b2, o2, rfl, hc2⟩ := HR6.out.get hlt2
        have d1 := below_keep HBq.out (hc1 k hlt2)
        have d2 := below_keep HBq.out (hc2 k hlt2)
        generalize L.getD k [] = t at d1 d2
        have hbe : (t == t) = true := by simp
        have hbn : (t != t) = false := by simp
        clear hc1 hc2
        go_upto_region 9 with fail
        have d1 := fun p : Later wr.heap.size wr => p.keep d1
        have d2 := fun p : Later wr.heap.size wr => p.keep d2
        refine wp_region_later wr.heap.size (by kernel_rfl) (by kernel_rfl) ?_
        repeat (go_big_quiet_step (fail))
        refine wpQuiet_nil ?_
        rintro wy ⟨p1, hwy⟩
        have HBz := hid (below_then HBq.out (show Below wr.heap.size wr wy by rw [hwy]; exact p1.low))
        clear hwy p1 d1 d2
        go_wp2
        go_roundg (N - (k + 1))
        case measure => omega
        case rel => exact ⟨k + 1, by go_num, by omega, by omega, HBz.out⟩
      · obtain rfl : k = N := by omega
        have hkz : ¬ (k : Int) < (k : Int) := by omega
        have KN2 := hid (KN.out wr (below_then HBW.out HBq.out))
        go_wp2_with (go_at_call 17; refine KN2.out.mono ?_; rintro e w10 ⟨rfl, hb⟩; have HB10 := hid hb; clear hb)
        go_ret
        exact ⟨rfl, below_then HBW.out (below_then HBq.out HB10.out)⟩

theorem queryMay_walk (H : Type) (enc : TypeId × Value → H) (W : World) (base : Nat) (args : Array Value) (ds gs : List (DataW H)) (before : List MemPlace)
    (hval : ∀ (j : Nat) t v, Tryd.f6.params[j]? = some t → args[j]? = some v → Value.okWide Tryd.prog W .any base t v)
    (hW : DataW.Whole enc Tryd.prog Tryd.f6.params.toList Rows.queryMaySpec.vars false W args.toList ds gs before)
    (hz : (DataW.weightsEach Tryd.prog (Tryd.f6.params.toList ++ Rows.queryMaySpec.plain.varTypes Tryd.prog) (ds ++ gs)).all (· ≤ reachBytes) = true)
    (hL : laidMetH Tryd.prog Rows.queryMayRow.laid W) (hsh : W.ShapedOpen Tryd.prog) :
    Calls Tryd.prog 6 args W fun e W' => e = .returned (.bool true) ∧ Below W.heap.size W W' := by
  obtain ⟨p, q, hA, _, _, _, _⟩ := hW
  rw [Tryd.params6] at hA hval
  rw [Tryd.params6] at hz
  obtain ⟨v0, vs0, d0, ds0, p0, q0, hargs, rfl, rfl, h0, r0⟩ := trodAll_cons hA
  obtain ⟨rfl, rfl, rfl⟩ := trodAll_nil r0
  obtain rfl : args = #[v0] := by cases args; simp_all
  obtain ⟨y0, a0, b0, c0, rfl, P0⟩ := arg_qy (hval 0 40 v0 rfl rfl) h0 (sized_arg hz (j := 0) (t := 40) (d := d0) rfl rfl)
  exact queryMay_any y0 a0 b0 c0 W P0 (qvars_of hL hsh)

theorem queryMay_lifted (os : Os) (started : os.Started) (H : Type) (enc : TypeId × Value → H) (F : Stop.Interp) :
    ReturnsInHanded {} Tryd.checked os 6 .any ((OpenSpec.ofChange Rows.queryMaySpec).preRow enc Tryd.prog Tryd.f6 Rows.queryMayRow.domain false Rows.queryMayRow.laid) (((OpenSpec.ofChange Rows.queryMaySpec).at F).post enc Tryd.prog Tryd.f6 false true false false) := by
  obtain ⟨places, hx⟩ : ∃ places, DataW.whole enc Tryd.prog ((laidWorld os).forCall (fun _ _ => 0) ⟨#[], #[.agg #[.bool false, .slice none 0 0, .slice none 0 0, .slice none 0 0, .int .i64 0, .int .i64 0]], []⟩).memory Tryd.f6.params.toList Rows.queryMaySpec.vars false (#[.agg #[.bool false, .slice none 0 0, .slice none 0 0, .slice none 0 0, .int .i64 0, .int .i64 0]] : Array Value).toList 8 = some ([.agg [.lit (.bool false), .nil, .nil, .nil, .lit (.int .i64 0), .lit (.int .i64 0)]], [], places) := ⟨[], by kernel_rfl⟩
  refine returnsInHanded_of_row (C := Tryd.checked) (s := OpenSpec.ofChange Rows.queryMaySpec) own started (by kernel_rfl) Tryd.func6
    (witness_row_at (enc := enc) (C := Tryd.checked) false (laidWorld os) #[.agg #[.bool false, .slice none 0 0, .slice none 0 0, .slice none 0 0, .int .i64 0, .int .i64 0]] rfl (by kernel_rfl) (by kernel_rfl) (by kernel_rfl)
      (OpenSpec.preRow_of_cond 8 hx (by kernel_rfl) (fun k hk => by cases hk) (by kernel_rfl) (laidMet_of_run' 8 (by kernel_rfl) (by kernel_rfl)))) ?_
  intro W base args ds gs before hval hW _ _ hz hL hsh _
  refine (queryMay_walk H enc W base args ds gs before hval hW hz hL hsh).mono fun e W' ⟨he, hb⟩ => ⟨_, he, ?_⟩
  exact law_post (fn := Tryd.f6) (s := Rows.queryMaySpec) (tb := 4) rfl (fun ds hd => by match ds, hd with | [d0], _ => rfl) rfl Tryd.underlying4 (by kernel_rfl) hW hb

theorem queryMay_said : Rows.QueryMaySaid :=
  OpenClaim.holds_of_cond 6 Tryd.f6 rfl rfl rfl rfl rfl rfl rfl ⟨rfl, rfl, rfl, rfl, rfl⟩ rfl rfl rfl rfl rfl (by kernel_rfl) Tryd.func6 (by kernel_rfl)
    (of_decide_eq_true (by kernel_rfl)) (by unfold Func.isWrapper; first | (rw [if_pos (by decide +kernel)]; kernel_rfl) | (rw [if_neg (by decide +kernel)]; exact ⟨rfl, rfl⟩))
    (fun os started H enc _ F => by rw [OpenClaim.pre_eq_preRow]; exact queryMay_lifted os started H enc F)

theorem queryMay_plain (f : FuncId) (fn : Func) (hf : Tryd.pinned.checked.prog.funcNamed Rows.queryMayRow.func = some f) (hfn : Tryd.pinned.checked.prog.funcs[f]? = some fn) :
    false = Tryd.pinned.checked.prog.looks [] ∧ ∀ (j : Nat) t, fn.params[j]? = some t → Tryd.pinned.checked.prog.wantsStandIn t = false := by
  obtain rfl : f = 6 := Option.some.inj ((show Tryd.prog.funcNamed Rows.queryMayRow.func = some 6 by kernel_rfl).symm.trans hf) |>.symm
  obtain rfl : fn = Tryd.f6 := (Option.some.inj (Tryd.func6.symm.trans hfn)).symm
  refine ⟨by kernel_rfl, fun j t ht => ?_⟩
  have h := Array.mem_of_getElem? ht
  have hall : Tryd.f6.params.all (fun t => !Tryd.prog.wantsStandIn t) = true := by kernel_rfl
  have := Array.all_eq_true_iff_forall_mem.1 hall t h
  show Tryd.prog.wantsStandIn t = false
  simpa using this

/-- THE STATEMENT. -/
theorem queryMay_card : Rows.QueryMayCardSaid :=
  Claim7.holds_tied_plain_at .later [] _ _ _ _ queryMay_said (fun _ h => by cases h) (by kernel_rfl) (fun _ h => by cases h) queryMay_row_tie rfl ⟨rfl, rfl⟩ (by kernel_rfl) rfl queryMay_plain (by kernel_rfl)
end Go.Proofs.YtagmgkplfhlifaaDoor
