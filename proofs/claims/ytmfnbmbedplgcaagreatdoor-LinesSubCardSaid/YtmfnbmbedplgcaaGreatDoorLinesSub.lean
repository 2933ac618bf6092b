/- LinesSub: what stands in a text's first lines stands in it all; sets join as texts do, for every input. -/
import Derived.Test.YtmfnbmbedplgcaaGreatDoorGPut2
import Derived.Test.YtmfnbmbedplgcaaGreatDoorGPar
namespace Go.Proofs.YtmfnbmbedplgcaaGreatDoor
set_option linter.unusedVariables false
set_option linter.unusedSimpArgs false
set_option maxRecDepth 100000
open Go.ChangeShapes Go.WideShapes Go.ChangeAt Go.RowKit
theorem wpList_append_want {w : World} {P : Program} {ops : Array Oper} {rest : List Oper} {o : Oper} {a : Act} {Q : Exit → Act → World → Prop} (hw : Region.wanted o (yielded ops a.tmps) = true) (s x : Operand) (t : TypeId)
    (ho : o.op = .call { callee := .builtin .append, args := #[s, x], argTypes := #[t, t] })
    (base : Nat) (e : TypeId) (i : TypeInfo) (z : Value) (size bytes : Nat) (ht : P.underlying t = some (.slice e)) (hi : P.info? e = some i) (hz : i.zero = some z)
    (hsize : i.size = size) (hby : i.bytes = bytes) (hzs : z.cells.size = size) (hsz : 0 < size)
    (v : Value) (n : Nat) (xs : List Value) (hs : a.eval s = v) (hown : w.ownsRow base e size v n xs)
    (sa : Option Addr) (m c : Nat) (us : List Value) (hx : a.eval x = .slice sa m c) (hnil : sa = none → m = 0 ∧ c = 0) (hm : us.length = m * size) (hc : ∀ ad, sa = some ad → ∀ j u, us[j]? = some u → w.cell? (ad.add j) = some u) (h1 : ∀ u ∈ us, u.oneCell' = true)
    (h63 : n + m ≤ maxLen) (hbytes : (n + m) * bytes ≤ 140737488355328) (hbase : base ≤ w.heap.size)
    (h : ∀ v' w', w'.ownsRow base e size v' (n + m) (xs ++ us) → w.grownBy w' v.ownBlock → wpList P ops Q rest (a.put o.dst v') w') : wpList P ops Q (o :: rest) a w := by
  refine wpList_step fun K hK => ?_
  rw [if_pos hw]
  cases sa with
  | some ad =>
    obtain ⟨v', w', hr, h2, h3, h4⟩ := run_append_blk (P := P) (w := w) base t o.type e i z size bytes ht hi hz hsize hby hzs hsz v n xs hown ad m c us hm (hc ad rfl) h1 h63 hbytes hbase
    unfold Oper.wp execOp
    simp only [ho, resolve, invoke, builtin, Sem.run_bind, Sem.run_pure, Result.andThen_ok, List.map_toArray, List.map_cons, List.map_nil, hs, hx, hr]
    exact hK _ _ (h v' w' h2 h3)
  | none =>
    obtain ⟨rfl, rfl⟩ := hnil rfl
    obtain rfl : us = [] := List.eq_nil_of_length_eq_zero (by simpa using hm)
    have hrun := run_append_owned_none (P := P) (w := w) base t o.type e i size ht hi v n xs hown
    have hk := h v w (by simpa using hown) ⟨rfl, rfl, rfl, Nat.le_refl _, fun _ _ _ => rfl⟩
    unfold Oper.wp execOp
    simp only [ho, resolve, invoke, builtin, Sem.run_bind, Sem.run_pure, Result.andThen_ok, List.map_toArray, List.map_cons, List.map_nil, hs, hx, hrun]
    exact hK _ _ hk
theorem addAll_app (a b : List TR) : Tm.addAll (Tm.addAll [] a) b = Tm.addAll [] (a ++ b) := by unfold Tm.addAll; rw [List.foldl_append]
theorem sub_parse (A B : List TR) (hA : ∀ t ∈ A, Tm.isTri t = true) (hB : ∀ t ∈ B, Tm.isTri t = true) (ha : A.length ≤ 30) (hb : B.length ≤ 30) : Tm.plU (Tm.printL A ++ Tm.printL B) 0 [] = (0, A.length + B.length, Tm.addAll [] (A ++ B)) := by
  have hl : (Tm.addAll [] A).length ≤ A.length := by have h := addAll_len A A.length; rwa [List.take_length] at h
  rw [Tm.plU_lines A (Tm.printL B) 0 [] hA (by omega) (by simp only [List.length_nil]; omega), Nat.zero_add]
  have h := Tm.plU_lines B [] A.length (Tm.addAll [] A) hB (by omega) (by omega)
  rw [List.append_nil] at h
  rw [h, addAll_app]; exact Tm.plU_nil _ _
set_option maxHeartbeats 8000000 in
theorem linesSub_any (A B : List Tri) (w : World) (v v2 : Value) (hv : TrisAt w v A) (hv2 : TrisAt w v2 B) (hlow : ∀ t ∈ A, t.low 1000000000000000) (hlow2 : ∀ t ∈ B, t.low 1000000000000000) (hn : A.length ≤ 140737488351232) (hn2 : B.length ≤ 140737488351232) (hV : Vars w) (hE : ErrAt w) :
    Calls Tryz.prog 7 #[v, v2] w fun e W' => e = .returned (.bool true) ∧ Below w.heap.size w W' := by
  have LA := hid (longL_any A w v hv hlow hn)
  have LB := hid (fun W h => longL_any B W v2 h hlow2 hn2)
  obtain ⟨a, cap, rfl, hc1, hc2, hc3⟩ := hv.open
  obtain ⟨b, cap2, rfl, hd1, hd2, hd3⟩ := hv2.open
  have HVA := hid hv
  have HVB := hid hv2
  have HVV := hid hV
  have HE := hid hE
  have KN := hid (fun W h h2 => known5_any W h h2)
  obtain ⟨n, hn0⟩ : ∃ n, n = A.length := ⟨_, rfl⟩
  obtain ⟨m, hm0⟩ : ∃ m, m = B.length := ⟨_, rfl⟩
  rw [← hn0] at HVA hn LA hc1 ⊢
  rw [← hm0] at HVB hn2 LB hd1 ⊢
  have HN := hid hn0
  have HM := hid hm0
  have HB0 := hid (Below.refl w.heap.size w)
  clear hv hv2 hV hE hn0 hm0
  by_cases h30 : 30 < n
  · have hz30 : (30 : Int) < (n : Int) := by omega
    go_enter Tryz.func7, Tryz.ntmps7
    go_wp2
    go_ret
    exact ⟨rfl, HB0.out⟩
  have hz30 : (n : Int) ≤ 30 := by omega
  have d30 : decide ((30 : Int) < (n : Int)) = false := decide_eq_false (by omega)
  by_cases h31 : 30 < m
  · have hz31 : (30 : Int) < (m : Int) := by omega
    go_enter Tryz.func7, Tryz.ntmps7
    go_wp2
    go_ret
    exact ⟨rfl, HB0.out⟩
  have hz31 : (m : Int) ≤ 30 := by omega
  have d31 : decide ((30 : Int) < (m : Int)) = false := decide_eq_false (by omega)
  by_cases hb : longB A = true
  · rw [hb] at LA
    go_enter Tryz.func7, Tryz.ntmps7
    go_wp2_with fail
    refine LA.out.mono ?_
    rintro e w2 ⟨rfl, q, hw2⟩
    have HB2 := hid (show Below w.heap.size w w2 by rw [hw2]; exact below_drawn HB0.out _)
    have LB1 := hid (LB.out w2 (HVB.out.keep HB2.out))
    clear hw2
    go_wp2
    go_ret
    exact ⟨rfl, HB2.out⟩
  have hb : longB A = false := by
    cases h : longB A with
    | true => exact absurd h hb
    | false => rfl
  rw [hb] at LA
  have hnl := not_long hb
  have MA := hid (fun W hv hV => mayL_any A W (.slice a n cap) hv hnl.2 hnl.1 hV)
  clear hb hnl
  by_cases hb : longB B = true
  · rw [hb] at LB
    go_enter Tryz.func7, Tryz.ntmps7
    go_wp2_with fail
    refine LA.out.mono ?_
    rintro e w2 ⟨rfl, q, hw2⟩
    have HB2 := hid (show Below w.heap.size w w2 by rw [hw2]; exact below_drawn HB0.out _)
    have LB1 := hid (LB.out w2 (HVB.out.keep HB2.out))
    clear hw2
    go_wp2_with fail
    refine LB1.out.mono ?_
    rintro e w3 ⟨rfl, q3, hw3⟩
    have HB3 := hid (show Below w.heap.size w w3 by rw [hw3]; exact below_drawn HB2.out _)
    clear hw3
    go_wp2
    go_ret
    exact ⟨rfl, HB3.out⟩
  have hb : longB B = false := by
    cases h : longB B with
    | true => exact absurd h hb
    | false => rfl
  rw [hb] at LB
  have hnl := not_long hb
  have MB := hid (fun W hv hV => mayL_any B W (.slice b m cap2) hv hnl.2 hnl.1 hV)
  clear hb hnl
  obtain ⟨r, hr⟩ : ∃ r, r = mayB A := ⟨_, rfl⟩
  rw [← hr] at MA
  cases r
  · clear hr
    go_enter Tryz.func7, Tryz.ntmps7
    go_wp2_with fail
    refine LA.out.mono ?_
    rintro e w2 ⟨rfl, q, hw2⟩
    have HB2 := hid (show Below w.heap.size w w2 by rw [hw2]; exact below_drawn HB0.out _)
    have LB1 := hid (LB.out w2 (HVB.out.keep HB2.out))
    clear hw2
    go_wp2_with fail
    refine LB1.out.mono ?_
    rintro e w3 ⟨rfl, q3, hw3⟩
    have HB3 := hid (show Below w.heap.size w w3 by rw [hw3]; exact below_drawn HB2.out _)
    clear hw3
    go_wp2_with fail
    refine (MA.out _ (HVA.out.keep HB3.out) (HVV.out.keep HB3.out)).mono ?_
    rintro e w4 ⟨rfl, hlow⟩
    have HB4 := hid (below_then HB3.out hlow)
    clear hlow
    go_wp2
    go_ret
    exact ⟨rfl, HB4.out⟩
  obtain ⟨M, hM, hMt⟩ := may_nat hr.symm
  clear hr
  obtain ⟨r, hr⟩ : ∃ r, r = mayB B := ⟨_, rfl⟩
  rw [← hr] at MB
  cases r
  · clear hr hM
    go_enter Tryz.func7, Tryz.ntmps7
    go_wp2_with fail
    refine LA.out.mono ?_
    rintro e w2 ⟨rfl, q, hw2⟩
    have HB2 := hid (show Below w.heap.size w w2 by rw [hw2]; exact below_drawn HB0.out _)
    have LB1 := hid (LB.out w2 (HVB.out.keep HB2.out))
    clear hw2
    go_wp2_with fail
    refine LB1.out.mono ?_
    rintro e w3 ⟨rfl, q3, hw3⟩
    have HB3 := hid (show Below w.heap.size w w3 by rw [hw3]; exact below_drawn HB2.out _)
    clear hw3
    go_wp2_with fail
    refine (MA.out _ (HVA.out.keep HB3.out) (HVV.out.keep HB3.out)).mono ?_
    rintro e w4 ⟨rfl, hlow⟩
    have HB4 := hid (below_then HB3.out hlow)
    clear hlow
    go_wp2_with fail
    refine (MB.out _ (HVB.out.keep HB4.out) (HVV.out.keep HB4.out)).mono ?_
    rintro e w5 ⟨rfl, hlow⟩
    have HB5 := hid (below_then HB4.out hlow)
    clear hlow
    go_wp2
    go_ret
    exact ⟨rfl, HB5.out⟩
  obtain ⟨K, hK, hKt⟩ := may_nat hr.symm
  subst hM
  subst hK
  have HMT := hid hMt
  have HKT := hid hKt
  rw [List.length_map] at HN HM
  clear hMt hKt hr hlow hlow2
  have RA := hid (fun W hv => rprint_any M HMT.out (by rw [← HN.out]; omega) W (.slice a n cap) hv)
  have RB := hid (fun W hv => rprint_any K HKT.out (by rw [← HM.out]; omega) W (.slice b m cap2) hv)
  have hS1 : (Tm.printL M).length ≤ 30000 := by
    have := printL_len (L := M) HMT.out
    have := HN.out
    omega
  have hS2 : (Tm.printL K).length ≤ 30000 := by
    have := printL_len (L := K) HKT.out
    have := HM.out
    omega
  have HPL := hid (sub_parse M K HMT.out HKT.out (by rw [← HN.out]; omega) (by rw [← HM.out]; omega))
  rw [← HN.out, ← HM.out] at HPL
  obtain ⟨S, hS⟩ : ∃ S, S = Tm.printL M := ⟨_, rfl⟩
  obtain ⟨S', hS'⟩ : ∃ S, S = Tm.printL K := ⟨_, rfl⟩
  rw [← hS] at RA hS1 HPL
  rw [← hS'] at RB hS2 HPL
  clear hS hS'
  have HMK := hid (show ∀ t ∈ M ++ K, Tm.isTri t = true by
    intro t ht
    rcases List.mem_append.1 ht with h | h
    · exact HMT.out t h
    · exact HKT.out t h)
  go_enter Tryz.func7, Tryz.ntmps7
  go_wp2_with fail
  refine LA.out.mono ?_
  rintro e w2 ⟨rfl, q, hw2⟩
  have HB2 := hid (show Below w.heap.size w w2 by rw [hw2]; exact below_drawn HB0.out _)
  have LB1 := hid (LB.out w2 (HVB.out.keep HB2.out))
  clear hw2
  go_wp2_with fail
  refine LB1.out.mono ?_
  rintro e w3 ⟨rfl, q3, hw3⟩
  have HB3 := hid (show Below w.heap.size w w3 by rw [hw3]; exact below_drawn HB2.out _)
  clear hw3
  go_wp2_with fail
  refine (MA.out _ (HVA.out.keep HB3.out) (HVV.out.keep HB3.out)).mono ?_
  rintro e w4 ⟨rfl, hlow⟩
  have HB4 := hid (below_then HB3.out hlow)
  clear hlow
  go_wp2_with fail
  refine (MB.out _ (HVB.out.keep HB4.out) (HVV.out.keep HB4.out)).mono ?_
  rintro e w5 ⟨rfl, hlow⟩
  have HB5 := hid (below_then HB4.out hlow)
  clear hlow
  go_wp2_with fail
  refine (RA.out _ (HVA.out.keep HB5.out)).mono ?_
  rintro e w6 ⟨rfl, hlow⟩
  have HB6 := hid (below_then HB5.out hlow)
  clear hlow
  go_wp2_with fail
  refine (RB.out _ (HVB.out.keep HB6.out)).mono ?_
  rintro e w7 ⟨rfl, hlow⟩
  have HB7 := hid (below_then HB6.out hlow)
  clear hlow
  have wS : IntKind.i64.wrap ((S.length : Int) + (S'.length : Int)) = (S.length : Int) + (S'.length : Int) := by rw [IntKind.wrap_i64]; omega
  by_cases hS3 : 20000 < S.length + S'.length
  · have hSz : (20000 : Int) < (S.length : Int) + (S'.length : Int) := by omega
    go_wp2
    go_ret
    exact ⟨rfl, HB7.out⟩
  have hSz : (S.length : Int) + (S'.length : Int) ≤ 20000 := by omega
  have hSS : (S ++ S').length ≤ 20000 := by rw [List.length_append]; omega
  have PP := hid (fun W h1 h2 => pparse_any (S ++ S') W h1 h2 hSS _ HPL.out)
  clear HPL hS3
  have wn : IntKind.i64.wrap ((n : Int) + (m : Int)) = (n : Int) + (m : Int) := by rw [IntKind.wrap_i64]; omega
  have BA := hid (ba_app S S')
  have PP2 : Hid (∀ W, Vars W → ErrAt W → Calls Tryz.prog 19 #[.string (⟨S.toArray⟩ ++ ⟨S'.toArray⟩)] W (ParsePost W (0, n + m, Tm.addAll [] (M ++ K)))) := by
    show ∀ W, _
    rw [BA.out]; exact PP.out
  go_wp2_with fail
  refine (PP2.out _ (HVV.out.keep HB7.out) (HE.out.keep HB7.out)).mono ?_
  rintro e w8 ⟨v8, rfl, hv8, hlow⟩
  simp only at hv8
  rw [if_pos trivial, Tm.rsort_addAll HMK.out] at hv8
  have HV8 := hid hv8
  have HB8 := hid (below_then HB7.out hlow)
  clear hv8 hlow
  obtain ⟨iS, hi0, hzS, hszS, hbyS⟩ := info_tri9
  have HX1 := hid (HVA.out.keep HB8.out)
  have HX2 := hid (HVB.out.keep HB8.out)
  have HZ8 := HB8.out.size
  have OA := hid (made_own w8 w8.heap.size (Nat.le_refl _))
  have HA8 := hid ((Below.refl w8.heap.size w8).alloc (Nat.le_refl _) (.cells #[] 28))
  have NA := hid (tris_src HX1.out)
  have NB := hid (tris_src HX2.out)
  have F1 := hid (fun W (hW : Below w8.heap.size w8 W) => (tris_src (HX1.out.keep hW)).2.2)
  have F2 := hid (fun W (hW : Below w8.heap.size w8 W) => (tris_src (HX2.out.keep hW)).2.2)
  go_wp2_with (first
    | (at_builtin; refine wpList_append_want (by rfl) (.tmp 67) (.tmp 68) 22 (by rfl) w8.heap.size 28 iS _ 9 120 Tryz.underlying22 hi0 hzS hszS hbyS rfl (by decide) (.slice (some ⟨w8.heap.size, 0, none⟩) 0 0) 0 [] (by rfl) OA.out a n cap (rowCells M) (by rfl) NA.out.2.1 (by rw [rowCells_len, ← HN.out]) (F1.out _ HA8.out) (rowCells_one _) (by unfold maxLen; omega) (by omega) HA8.out.size ?_; intro v9 w9 g1 g2; have G1 := hid g1; have HB9 := hid (HA8.out.grown g2 HA8.out.size (fun k hk => (OA.out.lt k hk).1)); clear g1 g2)
    | (at_builtin; refine wpList_append_want (by rfl) (.tmp 69) (.tmp 70) 22 (by rfl) w8.heap.size 28 iS _ 9 120 Tryz.underlying22 hi0 hzS hszS hbyS rfl (by decide) v9 (0 + n) ([] ++ rowCells M) (by rfl) G1.out b m cap2 (rowCells K) (by rfl) NB.out.2.1 (by rw [rowCells_len, ← HM.out]) (F2.out _ HB9.out) (rowCells_one _) (by unfold maxLen; omega) (by omega) HB9.out.size ?_; intro v10 w10 g1 g2; have G2 := hid g1; have HB10 := hid (HB9.out.grown g2 HB9.out.size (fun k hk => (G1.out.lt k hk).1)); clear g1 g2))
  have HT10 := hid (show TrisAt w10 v10 ((M ++ K).map ofT) by
    refine tris_own (B := w8.heap.size) ?_
    rw [rowCells_app, List.length_append, ← HN.out, ← HM.out]
    have h := G2.out
    rwa [List.nil_append, Nat.zero_add] at h)
  have HLn := hid (show (M ++ K).length ≤ 60 by rw [List.length_append, ← HN.out, ← HM.out]; omega)
  have RS := hid (rsortR_any (M ++ K) HMK.out (by have := HLn.out; omega) w10 v10 HT10.out)
  refine RS.out.mono ?_
  rintro e w11 ⟨v11, rfl, hv11, hlow⟩
  have SM := hid (rsame_any _ w11 v8 v11 ((HV8.out.keep HB10.out).keep hlow) hv11 (by rw [List.length_map]; have := Tm.rsort_len (M ++ K); have := HLn.out; omega))
  have HB11 := hid (below_then (below_then HB8.out HB10.out) hlow)
  clear hv11 hlow
  go_wp2_with fail
  refine SM.out.mono ?_
  rintro e w12 ⟨rfl, q12, rfl⟩
  go_wp2_with fail
  refine (KN.out _ (HVV.out.keep (below_drawn HB11.out _)) (HE.out.keep (below_drawn HB11.out _))).mono ?_
  rintro e w13 ⟨rfl, hlow⟩
  have HB13 := hid (below_then (below_drawn HB11.out q12) hlow)
  clear hlow
  go_wp2
  go_ret
  exact ⟨rfl, HB13.out⟩
theorem linesSub_walk (H : Type) (enc : TypeId × Value → H) (W : World) (base : Nat) (args : Array Value) (ds gs : List (DataW H)) (before : List MemPlace)
    (hval : ∀ (j : Nat) t v, Tryz.f7.params[j]? = some t → args[j]? = some v → Value.okWide Tryz.prog W .any base t v)
    (hW : DataW.Whole enc Tryz.prog Tryz.f7.params.toList Rows.linesSubSpec.vars false W args.toList ds gs before)
    (hz : (DataW.weightsEach Tryz.prog (Tryz.f7.params.toList ++ Rows.linesSubSpec.plain.varTypes Tryz.prog) (ds ++ gs)).all (· ≤ reachBytes) = true)
    (hL : laidMetH Tryz.prog Rows.linesSubRow.laid W) (hsh : W.ShapedOpen Tryz.prog) :
    Calls Tryz.prog 7 args W fun e W' => e = .returned (.bool true) ∧ Below W.heap.size W W' := by
  obtain ⟨p, q, hA, _, _, _, _⟩ := hW
  rw [Tryz.params7] at hA hval
  rw [Tryz.params7] at hz
  obtain ⟨v0, vs0, d0, ds0, p0, q0, hargs, rfl, rfl, h0, r0⟩ := trodAll_cons hA
  obtain ⟨v1, vs1, d1, ds1, p1, q1, rfl, rfl, rfl, h1, r1⟩ := trodAll_cons r0
  obtain ⟨rfl, rfl, rfl⟩ := trodAll_nil r1
  obtain rfl : args = #[v0, v1] := by cases args; simp_all
  obtain ⟨A, hv, hlow, hn⟩ := arg_tris (hval 0 22 v0 rfl rfl) h0 (sized_arg hz (j := 0) (t := 22) (d := d0) rfl rfl)
  obtain ⟨B, hv2, hlow2, hn2⟩ := arg_tris (hval 1 22 v1 rfl rfl) h1 (sized_arg hz (j := 1) (t := 22) (d := d1) rfl rfl)
  obtain ⟨hV, hE⟩ := vars5_of hL hsh
  exact linesSub_any A B W v0 v1 hv hv2 hlow hlow2 hn hn2 hV hE

theorem linesSub_lifted (os : Os) (started : os.Started) (H : Type) (enc : TypeId × Value → H) (F : Stop.Interp) :
    ReturnsInHanded {} Tryz.checked os 7 .any ((OpenSpec.ofChange Rows.linesSubSpec).preRow enc Tryz.prog Tryz.f7 Rows.linesSubRow.domain false Rows.linesSubRow.laid) (((OpenSpec.ofChange Rows.linesSubSpec).at F).post enc Tryz.prog Tryz.f7 false true false false) := by
  obtain ⟨places, hx⟩ : ∃ places, DataW.whole enc Tryz.prog ((laidWorld os).forCall (fun _ _ => 0) ⟨#[], #[.slice none 0 0, .slice none 0 0], []⟩).memory Tryz.f7.params.toList Rows.linesSubSpec.vars false (#[.slice none 0 0, .slice none 0 0] : Array Value).toList 8 = some ([.nil, .nil], [], places) := ⟨[], by kernel_rfl⟩
  refine returnsInHanded_of_row (C := Tryz.checked) (s := OpenSpec.ofChange Rows.linesSubSpec) own started (by kernel_rfl) Tryz.func7
    (witness_shaped_row (enc := enc) (C := Tryz.checked) false (laidWorld os) #[.slice none 0 0, .slice none 0 0] (World.laidAll_os _ _ _) (World.shaped_of_ZipB (by kernel_rfl) (by kernel_rfl)) (by kernel_rfl)
      (OpenSpec.preRow_of_cond 8 hx (by kernel_rfl) (fun k hk => by cases hk) (by kernel_rfl) (laid_met os _))) ?_
  intro W base args ds gs before hval hW _ _ hz hL hsh _
  refine (linesSub_walk H enc W base args ds gs before hval hW hz hL hsh).mono fun e W' ⟨he, hb⟩ => ⟨_, he, ?_⟩
  exact law_post (fn := Tryz.f7) (s := Rows.linesSubSpec) (tb := 4) rfl (fun ds hd => by match ds, hd with | [d0, d1], _ => rfl) rfl Tryz.underlying4 (by kernel_rfl) hW hb

theorem linesSub_said : Rows.LinesSubSaid :=
  OpenClaim.holds_of_cond 7 Tryz.f7 rfl rfl rfl rfl rfl rfl rfl ⟨rfl, rfl, rfl, rfl, rfl⟩ rfl rfl rfl rfl rfl (by kernel_rfl) Tryz.func7 (by kernel_rfl)
    (of_decide_eq_true (by kernel_rfl)) (by unfold Func.isWrapper; first | (rw [if_pos (by decide +kernel)]; kernel_rfl) | (rw [if_neg (by decide +kernel)]; exact ⟨rfl, rfl⟩))
    (fun os started H enc _ F => by rw [OpenClaim.pre_eq_preRow]; exact linesSub_lifted os started H enc F)

theorem linesSub_plain (f : FuncId) (fn : Func) (hf : Tryz.pinned.checked.prog.funcNamed Rows.linesSubRow.func = some f) (hfn : Tryz.pinned.checked.prog.funcs[f]? = some fn) :
    true = Tryz.pinned.checked.prog.looks [] ∧ ∀ (j : Nat) t, fn.params[j]? = some t → Tryz.pinned.checked.prog.wantsStandIn t = false := by
  obtain rfl : f = 7 := Option.some.inj ((show Tryz.prog.funcNamed Rows.linesSubRow.func = some 7 by kernel_rfl).symm.trans hf) |>.symm
  obtain rfl : fn = Tryz.f7 := (Option.some.inj (Tryz.func7.symm.trans hfn)).symm
  refine ⟨by kernel_rfl, fun j t ht => ?_⟩
  have h := Array.mem_of_getElem? ht
  have hall : Tryz.f7.params.all (fun t => !Tryz.prog.wantsStandIn t) = true := by kernel_rfl
  have := Array.all_eq_true_iff_forall_mem.1 hall t h
  show Tryz.prog.wantsStandIn t = false
  simpa using this

/-- THE STATEMENT. -/
theorem linesSub_card : Rows.LinesSubCardSaid :=
  Claim7.holds_tied_plain_at .later [] _ _ _ _ linesSub_said (fun _ h => by cases h) (by kernel_rfl) (fun _ h => by cases h) linesSub_row_tie rfl ⟨rfl, rfl⟩ (by kernel_rfl) rfl linesSub_plain (by kernel_rfl)
end Go.Proofs.YtmfnbmbedplgcaaGreatDoor
