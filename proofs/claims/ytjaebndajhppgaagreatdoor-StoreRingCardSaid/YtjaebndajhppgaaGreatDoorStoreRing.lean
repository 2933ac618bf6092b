/- StoreRing: by the ring just the triples are found that stand in the store: for every input. -/
import Derived.Test.YtjaebndajhppgaaGreatDoorGSo3
import Derived.Test.YtjaebndajhppgaaGreatDoorGPut
import Derived.Test.YtjaebndajhppgaaGreatDoorGPut2
import Derived.Test.YtjaebndajhppgaaGreatDoorSoOf
import Derived.Test.YtjaebndajhppgaaGreatDoorGRg7
import Derived.Test.YtjaebndajhppgaaGreatDoorSoLaid
import Derived.Deep.RegionHeld3
import Derived.Deep.RegionLaw
namespace Go.Proofs.YtjaebndajhppgaaGreatDoor
set_option linter.unusedVariables false
set_option linter.unusedSimpArgs false
set_option maxRecDepth 100000
open Go.ChangeShapes Go.WideShapes Go.ChangeAt Go.RowKit
set_option maxHeartbeats 8000000 in
theorem storeRing_any (L : List Tri) (t : Rg.T) (w : World) (v : Value) (hv : TrisAt w v L) (hlow : ∀ t ∈ L, t.low 1000000000000000) (hn : L.length ≤ 140737488351232) (ht : Fits t) (hV : Vars w) (hE : ErrAt w) :
    Calls Tryz.prog 10 #[v, tv t] w fun e w' => e = .returned (.bool true) ∧ Below w.heap.size w w' := by
  have KN := hid (fun W h h2 => known_any W h h2)
  obtain ⟨a, cap, rfl, hc1, hc2, hc3⟩ := hv.open
  have HV := hid hv
  have HVV := hid hV
  have HE := hid hE
  have HL := hid hlow
  have HNL := hid hn
  have HT := hid (fun c hc => (ht c hc).1)
  obtain ⟨n, hn0⟩ : ∃ n, n = L.length := ⟨_, rfl⟩
  rw [← hn0] at HV ⊢
  have hnn : n ≤ 140737488351232 := by omega
  have HN := hid hn0
  clear hv hV hE hlow hc1 hc2 hc3 hn0 hn ht
  unfold tv
  go_enter Tryz.func10, Tryz.ntmps10
  go_upto_region 1 with fail
  obtain ⟨w0, hw0, HX0, HB0, _, _⟩ := ids_box w t
  rw [← hw0]
  clear hw0
  obtain ⟨bx, hbx⟩ : ∃ bx, bx = w.heap.size := ⟨_, rfl⟩
  rw [← hbx] at HX0 ⊢
  clear hbx
  go_wp2_with fail
  refine (long11_any L w0 _ (HV.out.keep HB0.out) HL.out HNL.out (HVV.out.keep HB0.out)).mono ?_
  rintro e w1 ⟨B, rfl, hB, hb1⟩
  have HX1 := hid (HX0.out.keep hb1)
  have HB1 := hid (show Below w.heap.size w w1 from below_then HB0.out hb1)
  have HBB := hid hB
  clear hb1 hB
  cases B with
  | true =>
    go_wp2
    go_ret
    exact ⟨rfl, HB1.out⟩
  | false =>
    obtain ⟨hnl, hmb⟩ := HBB.out rfl
    obtain ⟨M, hM, hMt⟩ := may_nat hmb
    have HM := hid hMt
    subst hM
    have HNM := hid (show n = M.length by rw [HN.out, List.length_map])
    clear hnl hmb hMt
    by_cases h60 : n ≤ 60
    · have h60z : ¬ (60 : Int) < (n : Int) := by omega
      have hM60 : M.length ≤ 60 := by rw [← HNM.out]; exact h60
      go_wp2_with fail
      refine (rprint_any M HM.out (by omega) w1 _ (HV.out.keep HB1.out)).mono ?_
      rintro e w2 ⟨rfl, hb2⟩
      have HB2 := hid (below_then HB1.out hb2)
      have HX2 := hid (HX1.out.keep hb2)
      obtain ⟨P, hP⟩ : ∃ P, P = Tm.printL M := ⟨_, rfl⟩
      have HP := hid hP
      rw [← hP]
      clear hb2 hP
      by_cases hpl : P.length ≤ 20000
      · have hpz : ¬ (20000 : Int) < (P.length : Int) := by omega
        have RP := hid (show ∀ W, Below w.heap.size w W → Calls Tryz.prog 21 #[.slice a n cap] W fun e w' => e = .returned (str P) ∧ Below W.heap.size W w' from fun W hB => by
          rw [HP.out]; exact rprint_any M HM.out (by omega) W _ (HV.out.keep hB))
        have LP := hid (show ∀ W, Below w.heap.size w W → Calls Tryz.prog 13 #[str P] W fun e w' => ∃ p, e = .returned (.tuple #[.pointer (some ⟨p, 0, none⟩), .int .i64 (M.length : Nat), .int .i64 0]) ∧ IsStore w' p (Tm.rsort M) ∧ Below W.heap.size W w' from fun W hB => by
          rw [HP.out]; exact load_print M HM.out (by omega) (by rw [← HP.out]; exact hpl) W (HVV.out.keep hB) (HE.out.keep hB))
        go_upto_region 3 with fail
        go_wp2_with fail
        refine (RP.out _ HB2.out).mono ?_
        rintro e w3 ⟨rfl, hb3⟩
        have HB3 := hid (below_then HB2.out hb3)
        have HX3 := hid (HX2.out.keep hb3)
        clear hb3
        go_wp2_with fail
        refine (LP.out _ HB3.out).mono ?_
        rintro e w4 ⟨p, rfl, hS, hb4⟩
        have HS4 := hid hS
        have HB4 := hid (below_then HB3.out hb4)
        have HX4 := hid (HX3.out.keep hb4)
        clear hS hb4
        have HRL := hid (show (Tm.rsort M).length ≤ 1000 by have := Tm.rsort_len M; omega)
        have HRT := hid (Tm.rsort_tri HM.out)
        go_wp2_with fail
        refine (rsortR_any M HM.out (by omega) w4 _ (HV.out.keep HB4.out)).mono ?_
        rintro e w5 ⟨v5, rfl, hT5, hb5⟩
        obtain ⟨a5, c5, rfl, _, _, _⟩ := hT5.open
        rw [List.length_map] at hT5 ⊢
        obtain ⟨n5, hn5⟩ : ∃ n5, n5 = (Tm.rsort M).length := ⟨_, rfl⟩
        rw [← hn5] at hT5 ⊢
        clear hn5
        have HT5 := hid hT5
        have HS5 := hid (HS4.out.keep hb5)
        have HB5 := hid (below_then HB4.out hb5)
        have HX5 := hid (HX4.out.keep hb5)
        clear hT5 hb5
        go_wp2_with fail
        refine (rof_any _ HRT.out HRL.out w5 _ HT5.out).mono ?_
        rintro e w6 ⟨q, rfl, hR6, hb6⟩
        have HR6 := hid hR6
        have HS6 := hid (HS5.out.keep hb6)
        have HB6 := hid (below_then HB5.out hb6)
        have HX6 := hid (HX5.out.keep hb6)
        clear hR6 hb6
        obtain ⟨S, hS0⟩ : ∃ S, S = Tm.rsort M := ⟨_, rfl⟩
        rw [← hS0] at HR6 HS6 HRL HRT
        clear hS0 HT5 HS5 HS4
        go_wp2_with fail
        refine (sring_any p S w6 HS6.out).mono ?_
        rintro e w7 ⟨⟨r, rfl, hr⟩, rfl⟩
        have HRG := hid hr
        clear hr
        obtain ⟨vt, ve, vs, vi, hQ, _, _, _, hI⟩ := HR6.out
        obtain ⟨ai, ci, rfl, _, _, _⟩ := hI.open
        rw [So.ids_len] at hQ hI
        have HI := hid hI
        have HQ := hid hQ
        obtain ⟨k, hk⟩ : ∃ k, k = S.length := ⟨_, rfl⟩
        have HK := hid hk
        have LN := hid (fun W (hB : Below w7.heap.size w7 W) => rlen_any r (So.ids S) W (HRG.out.keep hB))
        have SL := hid (fun W (hB : Below w7.heap.size w7 W) => slen_any p S W (HS6.out.keep hB))
        have AL := hid (fun W (hB : Below w7.heap.size w7 W) => rall_any r (So.ids S) t W (HRG.out.keep hB) HT.out)
        have RA := hid (fun W (hB : Below w7.heap.size w7 W) => refall_any (.slice ai S.length ci) (So.ids S) t W (HI.out.keep hB) (by rw [So.ids_len]; exact HRL.out))
        rw [So.ids_len] at LN
        rw [← hk] at LN SL RA HQ
        obtain ⟨F, hF⟩ : ∃ F, F = (So.ids S).filter (Rg.mt t) := ⟨_, rfl⟩
        have hFl : F.length ≤ 1000 := by rw [hF]; exact Nat.le_trans (List.length_filter_le _ _) (by rw [So.ids_len]; exact HRL.out)
        rw [← hF] at AL RA
        have SM := hid (fun W v1 v2 (h1 : IdsAt W v1 F) (h2 : IdsAt W v2 F) => by
          have := rgrsame_any v1 v2 F F W h1 h2 (by omega) (by omega)
          rw [decide_eq_true rfl] at this
          exact this)
        have KN2 := hid (fun W (hB : Below w7.heap.size w7 W) => KN.out W (HVV.out.keep (below_then HB6.out hB)) (HE.out.keep (below_then HB6.out hB)))
        clear hk hF hFl KN HRG HI
        have c0 := HX6.out.cell (i := 0) rfl
        have c1 := HX6.out.cell (i := 1) rfl
        have c2 := HX6.out.cell (i := 2) rfl
        have d3 := HQ.out.cell (i := 3) rfl
        have hd7 : Below w7.heap.size w7 w7.drew := below_drawn (Below.refl _ _) 1
        unfold tv at AL RA
        go_upto_region 8 with fail
        go_region_held3 (fun w' => w'.cell? ⟨bx, 0, none⟩ = some (.int .i64 t.1) ∧ w'.cell? ⟨bx, 1, none⟩ = some (.int .i64 t.2.1) ∧ w'.cell? ⟨bx, 2, none⟩ = some (.int .i64 t.2.2) ∧ w'.cell? ⟨q, 3, none⟩ = some (.slice ai k ci))
          (first
            | exact ⟨below_keep hb9 c0, below_keep hb9 c1, below_keep hb9 c2, below_keep hb9 d3⟩
            | go_keep)
          (first
            | (go_at_call 37; refine (LN.out _ hd7).mono ?_; rintro e w9 ⟨rfl, rfl⟩)
            | (go_at_call 34; refine (SL.out _ hd7).mono ?_; rintro e w9 ⟨rfl, rfl⟩)
            | (go_at_call 39; refine (AL.out _ hd7).mono ?_; rintro e w8 ⟨v8, rfl, hI8, hbr⟩; have hb9 := below_then hd7 hbr; have hd8 := hb9)
            | (go_at_call 40; refine (RA.out _ hd8).mono ?_; rintro e w10 ⟨v10, rfl, hI10, hbr⟩; have hb9 := below_then hd8 hbr; have hd10 := hb9; have hI9 := hI8.at.keep hbr)
            | (go_at_call 38; refine (SM.out _ _ _ hI9 hI10.at).mono ?_; rintro e w11 ⟨rfl, hbr⟩; have hb9 := below_then hd10 hbr; have hd11 := hb9)
            | (go_at_call 16; refine (KN2.out _ hd11).mono ?_; rintro e w12 ⟨rfl, hbr⟩; have hb9 := below_then hd11 hbr; have hd12 := hb9))
        go_wp2
        go_ret
        exact ⟨rfl, below_then HB6.out hd12⟩
      · have hpz : (20000 : Int) < (P.length : Int) := by omega
        go_wp2
        go_ret
        exact ⟨rfl, HB2.out⟩
    · have h60z : (60 : Int) < (n : Int) := by omega
      go_wp2
      go_ret
      exact ⟨rfl, HB1.out⟩
theorem storeRing_walk (H : Type) (enc : TypeId × Value → H) (W : World) (base : Nat) (args : Array Value) (ds gs : List (DataW H)) (before : List MemPlace)
    (hval : ∀ (j : Nat) t v, Tryz.f10.params[j]? = some t → args[j]? = some v → Value.okWide Tryz.prog W .any base t v)
    (hW : DataW.Whole enc Tryz.prog Tryz.f10.params.toList Rows.storeRingSpec.vars false W args.toList ds gs before)
    (hz : (DataW.weightsEach Tryz.prog (Tryz.f10.params.toList ++ Rows.storeRingSpec.plain.varTypes Tryz.prog) (ds ++ gs)).all (· ≤ reachBytes) = true)
    (hL : laidMetH Tryz.prog Rows.storeRingRow.laid W) (hsh : W.ShapedOpen Tryz.prog) :
    Calls Tryz.prog 10 args W fun e W' => e = .returned (.bool true) ∧ Below W.heap.size W W' := by
  obtain ⟨p, q, hA, _, _, _, _⟩ := hW
  rw [Tryz.params10] at hA hval
  rw [Tryz.params10] at hz
  obtain ⟨v0, vs0, d0, ds0, p0, q0, hargs, rfl, rfl, h0, r0⟩ := trodAll_cons hA
  obtain ⟨v1, vs1, d1, ds1, p1, q1, rfl, rfl, rfl, h1, r1⟩ := trodAll_cons r0
  obtain ⟨rfl, rfl, rfl⟩ := trodAll_nil r1
  obtain rfl : args = #[v0, v1] := by cases args; simp_all
  obtain ⟨t1, rfl, b1⟩ := arg_id h1
  obtain ⟨l0, L0, b0, z0⟩ := arg_tris (hval 0 39 v0 rfl rfl) h0 (sized_arg hz (j := 0) (t := 39) (d := d0) rfl rfl)
  obtain ⟨hV, hE⟩ := vars5_of hL hsh
  exact storeRing_any l0 t1 W v0 L0 b0 z0 b1 hV hE

theorem storeRing_lifted (os : Os) (started : os.Started) (H : Type) (enc : TypeId × Value → H) (F : Stop.Interp) :
    ReturnsInHanded {} Tryz.checked os 10 .any ((OpenSpec.ofChange Rows.storeRingSpec).preRow enc Tryz.prog Tryz.f10 Rows.storeRingRow.domain false Rows.storeRingRow.laid) (((OpenSpec.ofChange Rows.storeRingSpec).at F).post enc Tryz.prog Tryz.f10 false true false false) := by
  obtain ⟨places, hx⟩ : ∃ places, DataW.whole enc Tryz.prog ((laidWorld os).forCall (fun _ _ => 0) ⟨#[], #[.slice none 0 0, .agg #[.int .i64 0, .int .i64 0, .int .i64 0]], []⟩).memory Tryz.f10.params.toList Rows.storeRingSpec.vars false (#[.slice none 0 0, .agg #[.int .i64 0, .int .i64 0, .int .i64 0]] : Array Value).toList 8 = some ([.nil, .agg [.lit (.int .i64 0), .lit (.int .i64 0), .lit (.int .i64 0)]], [], places) := ⟨[], by kernel_rfl⟩
  refine returnsInHanded_of_row (C := Tryz.checked) (s := OpenSpec.ofChange Rows.storeRingSpec) own started (by kernel_rfl) Tryz.func10
    (witness_shaped_row (enc := enc) (C := Tryz.checked) false (laidWorld os) #[.slice none 0 0, .agg #[.int .i64 0, .int .i64 0, .int .i64 0]] (World.laidAll_os _ _ _) (World.shaped_of_ZipB (by kernel_rfl) (by kernel_rfl)) (by kernel_rfl)
      (OpenSpec.preRow_of_cond 8 hx (by kernel_rfl) (fun k hk => by cases hk) (by kernel_rfl) (laid_met os _))) ?_
  intro W base args ds gs before hval hW _ _ hz hL hsh _
  refine (storeRing_walk H enc W base args ds gs before hval hW hz hL hsh).mono fun e W' ⟨he, hb⟩ => ⟨_, he, ?_⟩
  exact law_post (fn := Tryz.f10) (s := Rows.storeRingSpec) (tb := 4) rfl (fun ds hd => by match ds, hd with | [d0, d1], _ => rfl) rfl Tryz.underlying4 (by kernel_rfl) hW hb

theorem and_tt {a b : Bool} (h : a = true) (k : b = true) : (a && b) = true := by rw [h, k]; rfl
set_option maxHeartbeats 4000000 in
theorem storeRing_closed : joinedFacts Tryz.pinned.checked.prog 10 Tryz.f10 (OpenSpec.ofChange Rows.storeRingSpec).bare Rows.storeRingRow = true := by
  unfold joinedFacts
  repeat' (with_reducible refine and_tt ?_ ?_)
  all_goals as_aux_lemma => kernel_rfl
theorem storeRing_said : Rows.StoreRingSaid :=
  OpenClaim.holds_of_cond 10 Tryz.f10 rfl rfl rfl rfl rfl rfl rfl ⟨rfl, rfl, rfl, rfl, rfl⟩ rfl rfl rfl rfl rfl (by kernel_rfl) Tryz.func10 storeRing_closed
    (of_decide_eq_true (by kernel_rfl)) (by unfold Func.isWrapper; first | (rw [if_pos (by decide +kernel)]; kernel_rfl) | (rw [if_neg (by decide +kernel)]; exact ⟨rfl, rfl⟩))
    (fun os started H enc _ F => by rw [OpenClaim.pre_eq_preRow]; exact storeRing_lifted os started H enc F)

theorem storeRing_plain (f : FuncId) (fn : Func) (hf : Tryz.pinned.checked.prog.funcNamed Rows.storeRingRow.func = some f) (hfn : Tryz.pinned.checked.prog.funcs[f]? = some fn) :
    true = Tryz.pinned.checked.prog.looks [] ∧ ∀ (j : Nat) t, fn.params[j]? = some t → Tryz.pinned.checked.prog.wantsStandIn t = false := by
  obtain rfl : f = 10 := Option.some.inj ((show Tryz.prog.funcNamed Rows.storeRingRow.func = some 10 by kernel_rfl).symm.trans hf) |>.symm
  obtain rfl : fn = Tryz.f10 := (Option.some.inj (Tryz.func10.symm.trans hfn)).symm
  refine ⟨by kernel_rfl, fun j t ht => ?_⟩
  have h := Array.mem_of_getElem? ht
  have hall : Tryz.f10.params.all (fun t => !Tryz.prog.wantsStandIn t) = true := by kernel_rfl
  have := Array.all_eq_true_iff_forall_mem.1 hall t h
  show Tryz.prog.wantsStandIn t = false
  simpa using this

/-- THE STATEMENT. -/
theorem storeRing_card : Rows.StoreRingCardSaid :=
  Claim7.holds_tied_plain_at .later [] _ _ _ _ storeRing_said (fun _ h => by cases h) (by kernel_rfl) (fun _ h => by cases h) storeRing_row_tie rfl ⟨rfl, rfl⟩ (by kernel_rfl) rfl storeRing_plain (by kernel_rfl)
end Go.Proofs.YtjaebndajhppgaaGreatDoor
