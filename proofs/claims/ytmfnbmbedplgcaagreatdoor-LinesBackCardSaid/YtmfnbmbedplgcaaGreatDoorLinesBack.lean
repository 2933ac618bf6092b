/- LinesBack: triples as a text, in whatever order, are read as the same set, sorted, for every input. -/
import Derived.Test.YtmfnbmbedplgcaaGreatDoorGPut2
import Derived.Test.YtmfnbmbedplgcaaGreatDoorGPar
namespace Go.Proofs.YtmfnbmbedplgcaaGreatDoor
set_option linter.unusedVariables false
set_option linter.unusedSimpArgs false
set_option maxRecDepth 100000
open Go.ChangeShapes Go.WideShapes Go.ChangeAt Go.RowKit
theorem pparse_long (s : List UInt8) (w : World) (hl : 20000 < s.length) (hm : s.length ≤ 1000000000) : Calls Tryz.prog 19 #[str s] w fun e w' => e = .returned (.tuple #[.slice none 0 0, .int .i64 0, .int .i64 4]) ∧ w' = w := by
  have hz : (20000 : Int) < (s.length : Int) := by omega
  clear hl
  go_enter Tryz.func19, Tryz.ntmps19
  go_wp2
  go_step3
  go_wp2
  rw [Exit.noGoto_ret]
  go_ret3
  exact ⟨rfl, rfl⟩
theorem back_parse (M : List TR) (hM : ∀ t ∈ M, Tm.isTri t = true) (hn : M.length ≤ 100) : Tm.plU (Tm.printL M) 0 [] = (0, M.length, Tm.addAll [] M) := by
  have h := Tm.plU_lines M [] 0 [] hM (by omega) (by simp only [List.length_nil]; omega)
  rw [List.append_nil, Nat.zero_add] at h
  rw [h]; exact Tm.plU_nil _ _
set_option maxHeartbeats 8000000 in
theorem linesBack_any (L : List Tri) (w : World) (v : Value) (hv : TrisAt w v L) (hlow : ∀ t ∈ L, t.low 1000000000000000) (hn : L.length ≤ 140737488351232) (hV : Vars w) (hE : ErrAt w) :
    Calls Tryz.prog 4 #[v] w fun e W' => e = .returned (.bool true) ∧ Below w.heap.size w W' := by
  have LG := hid (longL_any L w v hv hlow hn)
  obtain ⟨a, cap, rfl, hc1, hc2, hc3⟩ := hv.open
  have HV := hid hv
  have HVV := hid hV
  have HE := hid hE
  have KN := hid (fun W h h2 => known5_any W h h2)
  obtain ⟨n, hn0⟩ : ∃ n, n = L.length := ⟨_, rfl⟩
  rw [← hn0] at HV hn LG hc1 ⊢
  have HN := hid hn0
  have HB0 := hid (Below.refl w.heap.size w)
  clear hv hV hE hn0
  by_cases hb : longB L = true
  · rw [hb] at LG
    go_enter Tryz.func4, Tryz.ntmps4
    go_wp2_with fail
    refine LG.out.mono ?_
    rintro e w2 ⟨rfl, q, rfl⟩
    go_wp2
    go_ret
    exact ⟨rfl, below_drawn HB0.out _⟩
  have hb : longB L = false := by
    cases h : longB L with
    | true => exact absurd h hb
    | false => rfl
  rw [hb] at LG
  have hnl := not_long hb
  have hn3 : n ≤ 3000 := by rw [HN.out]; exact hnl.1
  have MY := hid (fun W hv hV => mayL_any L W (.slice a n cap) hv hnl.2 hnl.1 hV)
  obtain ⟨b, hb2⟩ : ∃ b, b = mayB L := ⟨_, rfl⟩
  rw [← hb2] at MY
  clear hb hnl
  cases b
  · go_enter Tryz.func4, Tryz.ntmps4
    go_wp2_with fail
    refine LG.out.mono ?_
    rintro e w2 ⟨rfl, q, rfl⟩
    go_wp2_with fail
    refine (MY.out _ (HV.out.drawn q) (HVV.out.keep (below_drawn HB0.out _))).mono ?_
    rintro e w3 ⟨rfl, hlow⟩
    have HB3 := hid (below_then (below_drawn HB0.out q) hlow)
    clear hlow
    go_wp2
    go_ret
    exact ⟨rfl, HB3.out⟩
  obtain ⟨M, hM, hMt⟩ := may_nat hb2.symm
  subst hM
  have HMT := hid hMt
  rw [List.length_map] at HN
  clear hMt hb2 hlow
  by_cases h100 : 100 < n
  · have hz100 : (100 : Int) < (n : Int) := by omega
    go_enter Tryz.func4, Tryz.ntmps4
    go_wp2_with fail
    refine LG.out.mono ?_
    rintro e w2 ⟨rfl, q, rfl⟩
    go_wp2_with fail
    refine (MY.out _ (HV.out.drawn q) (HVV.out.keep (below_drawn HB0.out _))).mono ?_
    rintro e w3 ⟨rfl, hlow⟩
    have HB3 := hid (below_then (below_drawn HB0.out q) hlow)
    clear hlow
    go_wp2
    go_ret
    exact ⟨rfl, HB3.out⟩
  have hz100 : (n : Int) ≤ 100 := by omega
  have d100 : decide ((100 : Int) < (n : Int)) = false := decide_eq_false (by omega)
  have PR := hid (fun W hv => pprintL_any M HMT.out (by rw [← HN.out]; omega) W (.slice a n cap) hv)
  have hSl : (Tm.printL M).length ≤ 1000000 := by
    have := printL_len (L := M) HMT.out
    have := HN.out
    omega
  have HPL := hid (back_parse M HMT.out (by rw [← HN.out]; omega))
  rw [← HN.out] at HPL
  obtain ⟨S, hS⟩ : ∃ S, S = Tm.printL M := ⟨_, rfl⟩
  rw [← hS] at PR hSl HPL
  clear hS
  have RS := hid (fun W hv => rsortR_any M HMT.out (by rw [← HN.out]; omega) W (.slice a n cap) hv)
  go_enter Tryz.func4, Tryz.ntmps4
  go_wp2_with fail
  refine LG.out.mono ?_
  rintro e w2 ⟨rfl, q, rfl⟩
  go_wp2_with fail
  refine (MY.out _ (HV.out.drawn q) (HVV.out.keep (below_drawn HB0.out _))).mono ?_
  rintro e w3 ⟨rfl, hlow⟩
  have HB3 := hid (below_then (below_drawn HB0.out q) hlow)
  clear hlow
  go_wp2_with fail
  refine (PR.out _ (HV.out.keep HB3.out)).mono ?_
  rintro e w4 ⟨rfl, hlow⟩
  have HB4 := hid (below_then HB3.out hlow)
  clear hlow
  by_cases hS2 : 20000 < S.length
  · have hSz : (20000 : Int) < (S.length : Int) := by omega
    have PL := hid (fun W => pparse_long S W hS2 (by omega))
    clear hSl hS2
    go_wp2_with fail
    refine (PL.out _).mono ?_
    rintro e w5 ⟨rfl, hw5⟩
    subst hw5
    go_wp2_with fail
    refine (KN.out _ (HVV.out.keep HB4.out) (HE.out.keep HB4.out)).mono ?_
    rintro e w6 ⟨rfl, hlow⟩
    have HB6 := hid (below_then HB4.out hlow)
    clear hlow
    go_wp2
    go_ret
    exact ⟨rfl, HB6.out⟩
  have hSz : (S.length : Int) ≤ 20000 := by omega
  have PP := hid (fun W h1 h2 => pparse_any S W h1 h2 (by omega) _ HPL.out)
  clear hSl HPL hS2
  go_wp2_with fail
  refine (PP.out _ (HVV.out.keep HB4.out) (HE.out.keep HB4.out)).mono ?_
  rintro e w5 ⟨v5, rfl, hv5, hlow⟩
  simp only at hv5
  rw [if_pos trivial, Tm.rsort_addAll HMT.out] at hv5
  have HV5 := hid hv5
  have HB5 := hid (below_then HB4.out hlow)
  clear hv5 hlow
  go_wp2_with fail
  refine (RS.out _ (HV.out.keep HB5.out)).mono ?_
  rintro e w6 ⟨v6, rfl, hv6, hlow⟩
  have SM := hid (rsame_any _ w6 v5 v6 (HV5.out.keep hlow) hv6 (by rw [List.length_map]; have := Tm.rsort_len M; have := HN.out; omega))
  have HB6 := hid (below_then HB5.out hlow)
  clear hv6 hlow
  go_wp2_with fail
  refine SM.out.mono ?_
  rintro e w7 ⟨rfl, q7, rfl⟩
  go_wp2_with fail
  refine (KN.out _ (HVV.out.keep (below_drawn HB6.out _)) (HE.out.keep (below_drawn HB6.out _))).mono ?_
  rintro e w8 ⟨rfl, hlow⟩
  have HB8 := hid (below_then (below_drawn HB6.out q7) hlow)
  clear hlow
  go_wp2
  go_ret
  exact ⟨rfl, HB8.out⟩
theorem linesBack_walk (H : Type) (enc : TypeId × Value → H) (W : World) (base : Nat) (args : Array Value) (ds gs : List (DataW H)) (before : List MemPlace)
    (hval : ∀ (j : Nat) t v, Tryz.f4.params[j]? = some t → args[j]? = some v → Value.okWide Tryz.prog W .any base t v)
    (hW : DataW.Whole enc Tryz.prog Tryz.f4.params.toList Rows.linesBackSpec.vars false W args.toList ds gs before)
    (hz : (DataW.weightsEach Tryz.prog (Tryz.f4.params.toList ++ Rows.linesBackSpec.plain.varTypes Tryz.prog) (ds ++ gs)).all (· ≤ reachBytes) = true)
    (hL : laidMetH Tryz.prog Rows.linesBackRow.laid W) (hsh : W.ShapedOpen Tryz.prog) :
    Calls Tryz.prog 4 args W fun e W' => e = .returned (.bool true) ∧ Below W.heap.size W W' := by
  obtain ⟨p, q, hA, _, _, _, _⟩ := hW
  rw [Tryz.params4] at hA hval
  rw [Tryz.params4] at hz
  obtain ⟨v0, vs0, d0, ds0, p0, q0, hargs, rfl, rfl, h0, r0⟩ := trodAll_cons hA
  obtain ⟨rfl, rfl, rfl⟩ := trodAll_nil r0
  obtain rfl : args = #[v0] := by cases args; simp_all
  obtain ⟨L, hv, hlow, hn⟩ := arg_tris (hval 0 22 v0 rfl rfl) h0 (sized_arg hz (j := 0) (t := 22) (d := d0) rfl rfl)
  obtain ⟨hV, hE⟩ := vars5_of hL hsh
  exact linesBack_any L W v0 hv hlow hn hV hE

theorem linesBack_lifted (os : Os) (started : os.Started) (H : Type) (enc : TypeId × Value → H) (F : Stop.Interp) :
    ReturnsInHanded {} Tryz.checked os 4 .any ((OpenSpec.ofChange Rows.linesBackSpec).preRow enc Tryz.prog Tryz.f4 Rows.linesBackRow.domain false Rows.linesBackRow.laid) (((OpenSpec.ofChange Rows.linesBackSpec).at F).post enc Tryz.prog Tryz.f4 false true false false) := by
  obtain ⟨places, hx⟩ : ∃ places, DataW.whole enc Tryz.prog ((laidWorld os).forCall (fun _ _ => 0) ⟨#[], #[.slice none 0 0], []⟩).memory Tryz.f4.params.toList Rows.linesBackSpec.vars false (#[.slice none 0 0] : Array Value).toList 8 = some ([.nil], [], places) := ⟨[], by kernel_rfl⟩
  refine returnsInHanded_of_row (C := Tryz.checked) (s := OpenSpec.ofChange Rows.linesBackSpec) own started (by kernel_rfl) Tryz.func4
    (witness_shaped_row (enc := enc) (C := Tryz.checked) false (laidWorld os) #[.slice none 0 0] (World.laidAll_os _ _ _) (World.shaped_of_ZipB (by kernel_rfl) (by kernel_rfl)) (by kernel_rfl)
      (OpenSpec.preRow_of_cond 8 hx (by kernel_rfl) (fun k hk => by cases hk) (by kernel_rfl) (laid_met os _))) ?_
  intro W base args ds gs before hval hW _ _ hz hL hsh _
  refine (linesBack_walk H enc W base args ds gs before hval hW hz hL hsh).mono fun e W' ⟨he, hb⟩ => ⟨_, he, ?_⟩
  exact law_post (fn := Tryz.f4) (s := Rows.linesBackSpec) (tb := 4) rfl (fun ds hd => by match ds, hd with | [d0], _ => rfl) rfl Tryz.underlying4 (by kernel_rfl) hW hb

theorem linesBack_said : Rows.LinesBackSaid :=
  OpenClaim.holds_of_cond 4 Tryz.f4 rfl rfl rfl rfl rfl rfl rfl ⟨rfl, rfl, rfl, rfl, rfl⟩ rfl rfl rfl rfl rfl (by kernel_rfl) Tryz.func4 (by kernel_rfl)
    (of_decide_eq_true (by kernel_rfl)) (by unfold Func.isWrapper; first | (rw [if_pos (by decide +kernel)]; kernel_rfl) | (rw [if_neg (by decide +kernel)]; exact ⟨rfl, rfl⟩))
    (fun os started H enc _ F => by rw [OpenClaim.pre_eq_preRow]; exact linesBack_lifted os started H enc F)

theorem linesBack_plain (f : FuncId) (fn : Func) (hf : Tryz.pinned.checked.prog.funcNamed Rows.linesBackRow.func = some f) (hfn : Tryz.pinned.checked.prog.funcs[f]? = some fn) :
    true = Tryz.pinned.checked.prog.looks [] ∧ ∀ (j : Nat) t, fn.params[j]? = some t → Tryz.pinned.checked.prog.wantsStandIn t = false := by
  obtain rfl : f = 4 := Option.some.inj ((show Tryz.prog.funcNamed Rows.linesBackRow.func = some 4 by kernel_rfl).symm.trans hf) |>.symm
  obtain rfl : fn = Tryz.f4 := (Option.some.inj (Tryz.func4.symm.trans hfn)).symm
  refine ⟨by kernel_rfl, fun j t ht => ?_⟩
  have h := Array.mem_of_getElem? ht
  have hall : Tryz.f4.params.all (fun t => !Tryz.prog.wantsStandIn t) = true := by kernel_rfl
  have := Array.all_eq_true_iff_forall_mem.1 hall t h
  show Tryz.prog.wantsStandIn t = false
  simpa using this

/-- THE STATEMENT. -/
theorem linesBack_card : Rows.LinesBackCardSaid :=
  Claim7.holds_tied_plain_at .later [] _ _ _ _ linesBack_said (fun _ h => by cases h) (by kernel_rfl) (fun _ h => by cases h) linesBack_row_tie rfl ⟨rfl, rfl⟩ (by kernel_rfl) rfl linesBack_plain (by kernel_rfl)
end Go.Proofs.YtmfnbmbedplgcaaGreatDoor
