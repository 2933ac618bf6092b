/- StoreUnlike: of two sets the files are one just if the sets are: for every input. -/
import Derived.Test.YtjaebndajhppgaaGreatDoorGSo3
import Derived.Test.YtjaebndajhppgaaGreatDoorGPut
import Derived.Test.YtjaebndajhppgaaGreatDoorGPut2
import Derived.Test.YtjaebndajhppgaaGreatDoorSoEnc2
import Derived.Test.YtjaebndajhppgaaGreatDoorSoInj
import Derived.Test.YtjaebndajhppgaaGreatDoorSoSame
import Derived.Test.YtjaebndajhppgaaGreatDoorSoLaid
import Derived.Deep.RegionHeld3
import Derived.Deep.RegionLaw
namespace Go.Proofs.YtjaebndajhppgaaGreatDoor
set_option linter.unusedVariables false
set_option linter.unusedSimpArgs false
set_option maxRecDepth 100000
open Go.ChangeShapes Go.WideShapes Go.ChangeAt Go.RowKit
theorem ofT_inj {p q : TR} (h : ofT p = ofT q) : p = q := by
  obtain ⟨⟨a1, a2, a3⟩, ⟨a4, a5, a6⟩, a7, a8, a9⟩ := p
  obtain ⟨⟨b1, b2, b3⟩, ⟨b4, b5, b6⟩, b7, b8, b9⟩ := q
  simp only [ofT, Tri.mk.injEq] at h
  obtain ⟨h1, rfl, rfl, h4, rfl, rfl, h7, rfl, rfl⟩ := h
  rw [show a1 = b1 by omega, show a4 = b4 by omega, show a7 = b7 by omega]
theorem enc_conv (L : List TR) (hl : ∀ t ∈ L, Tm.isTri t = true) (hn : L.length ≤ 100) (p : Nat) (w : World) (h : IsStore w p L) :
    Calls Tryz.prog 19 #[.pointer (some ⟨p, 0, none⟩)] w fun e w' => ∃ a c, e = .returned (.slice a (So.file L).length c) ∧ Hid (∀ W, Below w'.heap.size w' W → (convert 32 9 (.slice a (So.file L).length c)).run Tryz.prog W = .ok (.string (strOf (So.file L))) W) ∧ Below w.heap.size w w' := by
  refine (enc_any L hl hn p w h).mono ?_
  rintro e w' ⟨v, rfl, ho, hb⟩
  have hy : BytesAt w' v (So.file L) := SlAt.own ho rfl
  have HY := hid hy
  obtain ⟨a, c, rfl, _⟩ := hy
  exact ⟨a, c, rfl, hid (fun W hW => conv_row Tryz.underlying32 Tryz.underlying5 Tryz.underlying9 W _ _ (HY.out.keep hW)), hb⟩
set_option maxHeartbeats 8000000 in
theorem storeUnlike_any (L K : List Tri) (w : World) (v u : Value) (hv : TrisAt w v L) (hu : TrisAt w u K) (hlow : ∀ t ∈ L, t.low 1000000000000000) (hlow2 : ∀ t ∈ K, t.low 1000000000000000) (hn : L.length ≤ 140737488351232) (hm : K.length ≤ 140737488351232) (hV : Vars w) (hE : ErrAt w) :
    Calls Tryz.prog 11 #[v, u] w fun e w' => e = .returned (.bool true) ∧ Below w.heap.size w w' := by
  have KN := hid (fun W h h2 => known_any W h h2)
  obtain ⟨a, cap, rfl, _, _, _⟩ := hv.open
  obtain ⟨b, cup, rfl, _, _, _⟩ := hu.open
  have HV := hid hv
  have HU := hid hu
  have HVV := hid hV
  have HE := hid hE
  have HL := hid hlow
  have HK := hid hlow2
  have HNL := hid hn
  have HNK := hid hm
  obtain ⟨n, hn0⟩ : ∃ n, n = L.length := ⟨_, rfl⟩
  obtain ⟨m, hm0⟩ : ∃ m, m = K.length := ⟨_, rfl⟩
  rw [← hn0] at HV ⊢
  rw [← hm0] at HU ⊢
  have hnn : n ≤ 140737488351232 := by omega
  have hmm : m ≤ 140737488351232 := by omega
  have HN0 := hid hn0
  have HM0 := hid hm0
  clear hv hu hV hE hlow hlow2 hn0 hm0 hn hm
  go_enter Tryz.func11, Tryz.ntmps11
  go_wp2_with fail
  refine (long11_any L w _ HV.out HL.out HNL.out HVV.out).mono ?_
  rintro e w1 ⟨B, rfl, hB, hb1⟩
  have HB1 := hid hb1
  have HBB := hid hB
  clear hb1 hB
  cases B with
  | true =>
    go_wp2
    go_ret
    exact ⟨rfl, HB1.out⟩
  | false =>
    obtain ⟨_, hmb⟩ := HBB.out rfl
    obtain ⟨M, hM, hMt⟩ := may_nat hmb
    have HM := hid hMt
    subst hM
    have HNM := hid (show n = M.length by rw [HN0.out, List.length_map])
    clear hmb hMt HBB
    go_wp2_with fail
    refine (long11_any K w1 _ (HU.out.keep HB1.out) HK.out HNK.out (HVV.out.keep HB1.out)).mono ?_
    rintro e w2 ⟨B, rfl, hB, hb2⟩
    have HB2 := hid (below_then HB1.out hb2)
    have HBB := hid hB
    clear hb2 hB
    cases B with
    | true =>
      go_wp2
      go_ret
      exact ⟨rfl, HB2.out⟩
    | false =>
      obtain ⟨_, hmb⟩ := HBB.out rfl
      obtain ⟨N, hN, hNt⟩ := may_nat hmb
      have HN := hid hNt
      subst hN
      have HNN := hid (show m = N.length by rw [HM0.out, List.length_map])
      clear hmb hNt HBB HL HK HNL HNK HN0 HM0
      by_cases h30 : n ≤ 30
      · have h30z : ¬ (30 : Int) < (n : Int) := by omega
        by_cases k30 : m ≤ 30
        · have k30z : ¬ (30 : Int) < (m : Int) := by omega
          have hM30 : M.length ≤ 30 := by rw [← HNM.out]; exact h30
          have hN30 : N.length ≤ 30 := by rw [← HNN.out]; exact k30
          go_wp2_with fail
          refine (rprint_any M HM.out (by omega) w2 _ (HV.out.keep HB2.out)).mono ?_
          rintro e w3 ⟨rfl, hb3⟩
          have HB3 := hid (below_then HB2.out hb3)
          obtain ⟨P, hP⟩ : ∃ P, P = Tm.printL M := ⟨_, rfl⟩
          have HP := hid hP
          rw [← hP]
          clear hb3 hP
          by_cases hpl : P.length ≤ 20000
          · have hpz : ¬ (20000 : Int) < (P.length : Int) := by omega
            go_wp2_with fail
            refine (rprint_any N HN.out (by omega) w3 _ (HU.out.keep HB3.out)).mono ?_
            rintro e w4 ⟨rfl, hb4⟩
            have HB4 := hid (below_then HB3.out hb4)
            obtain ⟨Q, hQ⟩ : ∃ Q, Q = Tm.printL N := ⟨_, rfl⟩
            have HQ := hid hQ
            rw [← hQ]
            clear hb4 hQ
            by_cases hql : Q.length ≤ 20000
            · have hqz : ¬ (20000 : Int) < (Q.length : Int) := by omega
              have RP := hid (show ∀ W, Below w.heap.size w W → Calls Tryz.prog 21 #[.slice a n cap] W fun e w' => e = .returned (str P) ∧ Below W.heap.size W w' from fun W hB => by
                rw [HP.out]; exact rprint_any M HM.out (by omega) W _ (HV.out.keep hB))
              have LP := hid (show ∀ W, Below w.heap.size w W → Calls Tryz.prog 13 #[str P] W fun e w' => ∃ p, e = .returned (.tuple #[.pointer (some ⟨p, 0, none⟩), .int .i64 (M.length : Nat), .int .i64 0]) ∧ IsStore w' p (Tm.rsort M) ∧ Below W.heap.size W w' from fun W hB => by
                rw [HP.out]; exact load_print M HM.out (by omega) (by rw [← HP.out]; exact hpl) W (HVV.out.keep hB) (HE.out.keep hB))
              have RQ := hid (show ∀ W, Below w.heap.size w W → Calls Tryz.prog 21 #[.slice b m cup] W fun e w' => e = .returned (str Q) ∧ Below W.heap.size W w' from fun W hB => by
                rw [HQ.out]; exact rprint_any N HN.out (by omega) W _ (HU.out.keep hB))
              have LQ := hid (show ∀ W, Below w.heap.size w W → Calls Tryz.prog 13 #[str Q] W fun e w' => ∃ p, e = .returned (.tuple #[.pointer (some ⟨p, 0, none⟩), .int .i64 (N.length : Nat), .int .i64 0]) ∧ IsStore w' p (Tm.rsort N) ∧ Below W.heap.size W w' from fun W hB => by
                rw [HQ.out]; exact load_print N HN.out (by omega) (by rw [← HQ.out]; exact hql) W (HVV.out.keep hB) (HE.out.keep hB))
              have SM1 := hid (fun W hB => rsortR_any M HM.out (by omega) W (.slice a n cap) (HV.out.keep (show Below w.heap.size w W from hB)))
              have SN1 := hid (fun W hB => rsortR_any N HN.out (by omega) W (.slice b m cup) (HU.out.keep (show Below w.heap.size w W from hB)))
              obtain ⟨kM, hkM⟩ : ∃ kM, kM = M.length := ⟨_, rfl⟩
              obtain ⟨kN, hkN⟩ : ∃ kN, kN = N.length := ⟨_, rfl⟩
              have HSM := hid (Tm.rsort_tri HM.out)
              have HSN := hid (Tm.rsort_tri HN.out)
              have HOM := hid (Tm.rsort_srt HM.out)
              have HON := hid (Tm.rsort_srt HN.out)
              have HLM := hid (show (Tm.rsort M).length ≤ 100 by have h1 := Tm.rsort_len M; omega)
              have HLN := hid (show (Tm.rsort N).length ≤ 100 by have h1 := Tm.rsort_len N; omega)
              rw [← hkM] at LP
              rw [← hkN] at LQ
              obtain ⟨S, hS0⟩ : ∃ S, S = Tm.rsort M := ⟨_, rfl⟩
              obtain ⟨T, hT0⟩ : ∃ T, T = Tm.rsort N := ⟨_, rfl⟩
              rw [← hS0] at LP SM1 HSM HOM HLM
              rw [← hT0] at LQ SN1 HSN HON HLN
              clear hS0 hT0 hkM hkN HP HQ
              go_wp2_with fail
              refine (RP.out _ HB4.out).mono ?_
              rintro e w5 ⟨rfl, hb⟩
              have HB5 := hid (below_then HB4.out hb)
              clear hb
              go_wp2_with fail
              refine (LP.out _ HB5.out).mono ?_
              rintro e w6 ⟨p, rfl, hS, hb⟩
              have HS6 := hid hS
              have HB6 := hid (below_then HB5.out hb)
              clear hS hb
              go_wp2_with fail
              refine (RQ.out _ HB6.out).mono ?_
              rintro e w7 ⟨rfl, hb⟩
              have HS7 := hid (HS6.out.keep hb)
              have HB7 := hid (below_then HB6.out hb)
              clear hb
              go_wp2_with fail
              refine (LQ.out _ HB7.out).mono ?_
              rintro e w8 ⟨p2, rfl, hS, hb⟩
              have HS8 := hid (HS7.out.keep hb)
              have HT8 := hid hS
              have HB8 := hid (below_then HB7.out hb)
              clear hS hb HS6 HS7 LP LQ RP RQ
              go_wp2_with fail
              refine (SM1.out _ HB8.out).mono ?_
              rintro e w9 ⟨v9, rfl, hv9, hb⟩
              obtain ⟨a9, c9, rfl, _, _, _⟩ := hv9.open
              rw [List.length_map] at hv9 ⊢
              obtain ⟨n9, hn9⟩ : ∃ n9, n9 = S.length := ⟨_, rfl⟩
              rw [← hn9] at hv9 ⊢
              clear hn9
              have HV9 := hid hv9
              have HS9 := hid (HS8.out.keep hb)
              have HT9 := hid (HT8.out.keep hb)
              have HB9 := hid (below_then HB8.out hb)
              clear hv9 hb
              go_wp2_with fail
              refine (SN1.out _ HB9.out).mono ?_
              rintro e w10 ⟨v10, rfl, hv10, hb⟩
              obtain ⟨a10, c10, rfl, _, _, _⟩ := hv10.open
              rw [List.length_map] at hv10 ⊢
              obtain ⟨n10, hn10⟩ : ∃ n10, n10 = T.length := ⟨_, rfl⟩
              rw [← hn10] at hv10 ⊢
              clear hn10
              have HV10 := hid hv10
              have HV9 := hid (HV9.out.keep hb)
              have HS10 := hid (HS9.out.keep hb)
              have HT10 := hid (HT9.out.keep hb)
              have HB10 := hid (below_then HB9.out hb)
              clear hv10 hb HS8 HT8 HS9 HT9 SM1 SN1
              obtain ⟨r, hr⟩ : ∃ r : Bool, r = true ↔ S = T := by
                by_cases h : S = T
                · exact ⟨true, by simp [h]⟩
                · exact ⟨false, by simp [h]⟩
              have HRR := hid (show r = true ↔ S.map ofT = T.map ofT by
                rw [hr]
                exact ⟨fun e => by rw [e], fun e => So.map_inj_on (fun x _ y _ h => ofT_inj h) e⟩)
              have HR := hid hr
              clear hr
              go_wp2_with fail
              refine (rsame_two _ _ w10 _ _ HV9.out HV10.out (by rw [List.length_map]; have := HLM.out; omega) (by rw [List.length_map]; have := HLN.out; omega) r HRR.out).mono ?_
              rintro e w12 ⟨rfl, q, hw12⟩
              have hb : Below w10.heap.size w10 w12 := by rw [hw12]; exact below_drawn (Below.refl _ _) q
              have HS12 := hid (HS10.out.keep hb)
              have HT12 := hid (HT10.out.keep hb)
              have HB12 := hid (below_then HB10.out hb)
              clear hb hw12 HS10 HT10 HV9 HV10 HRR
              have E1 := hid (fun W (hB : Below w12.heap.size w12 W) => enc_conv S HSM.out HLM.out p W (HS12.out.keep hB))
              have E2 := hid (fun W (hB : Below w12.heap.size w12 W) => enc_conv T HSN.out HLN.out p2 W (HT12.out.keep hB))
              have X1 := hid (fun W (hB : Below w12.heap.size w12 W) => sexp_any p S W (HS12.out.keep hB) HSM.out (by have := HLM.out; omega))
              have X2 := hid (fun W (hB : Below w12.heap.size w12 W) => sexp_any p2 T W (HT12.out.keep hB) HSN.out (by have := HLN.out; omega))
              have KN2 := hid (fun W (hB : Below w12.heap.size w12 W) => KN.out W (HVV.out.keep (below_then HB12.out hB)) (HE.out.keep (below_then HB12.out hB)))
              have HFF := hid (show r = false → strOf (So.file S) ≠ strOf (So.file T) from fun h e => by
                have e1 := so_strOf_inj (So.list_lt' (So.file_lt HSM.out HLM.out)) (So.list_lt' (So.file_lt HSN.out HLN.out)) e
                have e2 := So.file_inj HSM.out HSN.out HLM.out HLN.out e1
                rw [HR.out.2 e2] at h; cases h)
              have HTT := hid (show r = false → Tm.printL S ≠ Tm.printL T from fun h e => by
                have e2 := So.text_inj HSM.out HSN.out HOM.out HON.out HLM.out HLN.out e
                rw [HR.out.2 e2] at h; cases h)
              have HGG := hid (show r = true → strOf (So.file S) = strOf (So.file T) ∧ Tm.printL S = Tm.printL T from fun h => by
                rw [HR.out.1 h]; exact ⟨rfl, rfl⟩)
              obtain ⟨F1, hF1⟩ : ∃ F, F = strOf (So.file S) := ⟨_, rfl⟩
              obtain ⟨F2, hF2⟩ : ∃ F, F = strOf (So.file T) := ⟨_, rfl⟩
              obtain ⟨N1, hN1⟩ : ∃ N, N = (So.file S).length := ⟨_, rfl⟩
              obtain ⟨N2, hN2⟩ : ∃ N, N = (So.file T).length := ⟨_, rfl⟩
              obtain ⟨T1, hT1⟩ : ∃ U, U = Tm.printL S := ⟨_, rfl⟩
              obtain ⟨T2, hT2⟩ : ∃ U, U = Tm.printL T := ⟨_, rfl⟩
              rw [← hF1, ← hN1] at E1
              rw [← hF2, ← hN2] at E2
              rw [← hT1] at X1
              rw [← hT2] at X2
              rw [← hF1, ← hF2] at HFF
              rw [← hT1, ← hT2] at HTT
              rw [← hF1, ← hF2, ← hT1, ← hT2] at HGG
              clear hF1 hF2 hN1 hN2 hT1 hT2 KN HR HS12 HT12 HSM HSN HOM HON HLM HLN
              have hd12 : Below w12.heap.size w12 w12.drew := below_drawn (Below.refl _ _) 1
              cases r with
              | true =>
                obtain ⟨e1, e2⟩ := HGG.out rfl
                subst e1
                subst e2
                clear HFF HTT HGG
                go_upto_region 10 with fail
                go_region_law (first
                  | (go_simp; go_at_call 19; with_reducible refine (E1.out _ hd12).mono ?_; rintro e w13 ⟨a13, c13, rfl, k13, hb13⟩; have hd13 := below_then hd12 hb13; have q13 := k13.out w13 (Below.refl _ _))
                  | (go_simp; go_at_call 19; with_reducible refine (E2.out _ hd13).mono ?_; rintro e w14 ⟨a14, c14, rfl, k14, hb14⟩; have hd14 := below_then hd13 hb14; have q14 := k14.out w14 (Below.refl _ _); have q15 := k13.out w14 hb14)
                  | (go_simp; go_at_call 24; with_reducible refine (X1.out _ hd14).mono ?_; rintro e w15 ⟨rfl, hb15⟩; have hd15 := below_then hd14 hb15)
                  | (go_simp; go_at_call 24; with_reducible refine (X2.out _ hd15).mono ?_; rintro e w16 ⟨rfl, hb16⟩; have hd16 := below_then hd15 hb16)
                  | (go_simp; go_at_call 16; with_reducible refine (KN2.out _ hd16).mono ?_; rintro e w17 ⟨rfl, hb17⟩; have hd17 := below_then hd16 hb17)
                  | fail)
                all_goals (go_wp2; go_ret; exact ⟨rfl, below_then HB12.out hd17⟩)
              | false =>
                have e1 := HFF.out rfl
                have e2 := HTT.out rfl
                have g1 : F1.toList ≠ F2.toList := fun h => e1 (by rw [ByteArray.toList_eq, ByteArray.toList_eq] at h; exact ByteArray.ext (Array.toList_inj.1 h))
                have f1 : (F1.toList == F2.toList) = false := beq_eq_false_iff_ne.2 g1
                have f2 : (T1 == T2) = false := beq_eq_false_iff_ne.2 e2
                clear HFF HTT HGG e1 e2 g1
                go_upto_region 10 with fail
                go_region_law (first
                  | (go_simp; go_at_call 19; with_reducible refine (E1.out _ hd12).mono ?_; rintro e w13 ⟨a13, c13, rfl, k13, hb13⟩; have hd13 := below_then hd12 hb13; have q13 := k13.out w13 (Below.refl _ _))
                  | (go_simp; go_at_call 19; with_reducible refine (E2.out _ hd13).mono ?_; rintro e w14 ⟨a14, c14, rfl, k14, hb14⟩; have hd14 := below_then hd13 hb14; have q14 := k14.out w14 (Below.refl _ _); have q15 := k13.out w14 hb14)
                  | (go_simp; go_at_call 24; with_reducible refine (X1.out _ hd14).mono ?_; rintro e w15 ⟨rfl, hb15⟩; have hd15 := below_then hd14 hb15)
                  | (go_simp; go_at_call 24; with_reducible refine (X2.out _ hd15).mono ?_; rintro e w16 ⟨rfl, hb16⟩; have hd16 := below_then hd15 hb16)
                  | (go_simp; go_at_call 16; with_reducible refine (KN2.out _ hd16).mono ?_; rintro e w17 ⟨rfl, hb17⟩; have hd17 := below_then hd16 hb17)
                  | fail)
                all_goals (go_wp2; go_ret; exact ⟨rfl, below_then HB12.out hd17⟩)
            · have hqz : (20000 : Int) < (Q.length : Int) := by omega
              go_wp2
              go_ret
              exact ⟨rfl, HB4.out⟩
          · have hpz : (20000 : Int) < (P.length : Int) := by omega
            go_wp2
            go_ret
            exact ⟨rfl, HB3.out⟩
        · have k30z : (30 : Int) < (m : Int) := by omega
          go_wp2
          go_ret
          exact ⟨rfl, HB2.out⟩
      · have h30z : (30 : Int) < (n : Int) := by omega
        go_wp2
        go_ret
        exact ⟨rfl, HB2.out⟩
theorem storeUnlike_walk (H : Type) (enc : TypeId × Value → H) (W : World) (base : Nat) (args : Array Value) (ds gs : List (DataW H)) (before : List MemPlace)
    (hval : ∀ (j : Nat) t v, Tryz.f11.params[j]? = some t → args[j]? = some v → Value.okWide Tryz.prog W .any base t v)
    (hW : DataW.Whole enc Tryz.prog Tryz.f11.params.toList Rows.storeUnlikeSpec.vars false W args.toList ds gs before)
    (hz : (DataW.weightsEach Tryz.prog (Tryz.f11.params.toList ++ Rows.storeUnlikeSpec.plain.varTypes Tryz.prog) (ds ++ gs)).all (· ≤ reachBytes) = true)
    (hL : laidMetH Tryz.prog Rows.storeUnlikeRow.laid W) (hsh : W.ShapedOpen Tryz.prog) :
    Calls Tryz.prog 11 args W fun e W' => e = .returned (.bool true) ∧ Below W.heap.size W W' := by
  obtain ⟨p, q, hA, _, _, _, _⟩ := hW
  rw [Tryz.params11] at hA hval
  rw [Tryz.params11] at hz
  obtain ⟨v0, vs0, d0, ds0, p0, q0, hargs, rfl, rfl, h0, r0⟩ := trodAll_cons hA
  obtain ⟨v1, vs1, d1, ds1, p1, q1, rfl, rfl, rfl, h1, r1⟩ := trodAll_cons r0
  obtain ⟨rfl, rfl, rfl⟩ := trodAll_nil r1
  obtain rfl : args = #[v0, v1] := by cases args; simp_all
  obtain ⟨l0, L0, b0, z0⟩ := arg_tris (hval 0 39 v0 rfl rfl) h0 (sized_arg hz (j := 0) (t := 39) (d := d0) rfl rfl)
  obtain ⟨l1, L1, b1, z1⟩ := arg_tris (hval 1 39 v1 rfl rfl) h1 (sized_arg hz (j := 1) (t := 39) (d := d1) rfl rfl)
  obtain ⟨hV, hE⟩ := vars5_of hL hsh
  exact storeUnlike_any l0 l1 W v0 v1 L0 L1 b0 b1 z0 z1 hV hE

theorem storeUnlike_lifted (os : Os) (started : os.Started) (H : Type) (enc : TypeId × Value → H) (F : Stop.Interp) :
    ReturnsInHanded {} Tryz.checked os 11 .any ((OpenSpec.ofChange Rows.storeUnlikeSpec).preRow enc Tryz.prog Tryz.f11 Rows.storeUnlikeRow.domain false Rows.storeUnlikeRow.laid) (((OpenSpec.ofChange Rows.storeUnlikeSpec).at F).post enc Tryz.prog Tryz.f11 false true false false) := by
  obtain ⟨places, hx⟩ : ∃ places, DataW.whole enc Tryz.prog ((laidWorld os).forCall (fun _ _ => 0) ⟨#[], #[.slice none 0 0, .slice none 0 0], []⟩).memory Tryz.f11.params.toList Rows.storeUnlikeSpec.vars false (#[.slice none 0 0, .slice none 0 0] : Array Value).toList 8 = some ([.nil, .nil], [], places) := ⟨[], by kernel_rfl⟩
  refine returnsInHanded_of_row (C := Tryz.checked) (s := OpenSpec.ofChange Rows.storeUnlikeSpec) own started (by kernel_rfl) Tryz.func11
    (witness_shaped_row (enc := enc) (C := Tryz.checked) false (laidWorld os) #[.slice none 0 0, .slice none 0 0] (World.laidAll_os _ _ _) (World.shaped_of_ZipB (by kernel_rfl) (by kernel_rfl)) (by kernel_rfl)
      (OpenSpec.preRow_of_cond 8 hx (by kernel_rfl) (fun k hk => by cases hk) (by kernel_rfl) (laid_met os _))) ?_
  intro W base args ds gs before hval hW _ _ hz hL hsh _
  refine (storeUnlike_walk H enc W base args ds gs before hval hW hz hL hsh).mono fun e W' ⟨he, hb⟩ => ⟨_, he, ?_⟩
  exact law_post (fn := Tryz.f11) (s := Rows.storeUnlikeSpec) (tb := 4) rfl (fun ds hd => by match ds, hd with | [d0, d1], _ => rfl) rfl Tryz.underlying4 (by kernel_rfl) hW hb

theorem and_tt {a b : Bool} (h : a = true) (k : b = true) : (a && b) = true := by rw [h, k]; rfl
set_option maxHeartbeats 4000000 in
theorem storeUnlike_closed : joinedFacts Tryz.pinned.checked.prog 11 Tryz.f11 (OpenSpec.ofChange Rows.storeUnlikeSpec).bare Rows.storeUnlikeRow = true := by
  unfold joinedFacts
  repeat' (with_reducible refine and_tt ?_ ?_)
  all_goals as_aux_lemma => kernel_rfl
theorem storeUnlike_said : Rows.StoreUnlikeSaid :=
  OpenClaim.holds_of_cond 11 Tryz.f11 rfl rfl rfl rfl rfl rfl rfl ⟨rfl, rfl, rfl, rfl, rfl⟩ rfl rfl rfl rfl rfl (by kernel_rfl) Tryz.func11 storeUnlike_closed
    (of_decide_eq_true (by kernel_rfl)) (by unfold Func.isWrapper; first | (rw [if_pos (by decide +kernel)]; kernel_rfl) | (rw [if_neg (by decide +kernel)]; exact ⟨rfl, rfl⟩))
    (fun os started H enc _ F => by rw [OpenClaim.pre_eq_preRow]; exact storeUnlike_lifted os started H enc F)

theorem storeUnlike_plain (f : FuncId) (fn : Func) (hf : Tryz.pinned.checked.prog.funcNamed Rows.storeUnlikeRow.func = some f) (hfn : Tryz.pinned.checked.prog.funcs[f]? = some fn) :
    true = Tryz.pinned.checked.prog.looks [] ∧ ∀ (j : Nat) t, fn.params[j]? = some t → Tryz.pinned.checked.prog.wantsStandIn t = false := by
  obtain rfl : f = 11 := Option.some.inj ((show Tryz.prog.funcNamed Rows.storeUnlikeRow.func = some 11 by kernel_rfl).symm.trans hf) |>.symm
  obtain rfl : fn = Tryz.f11 := (Option.some.inj (Tryz.func11.symm.trans hfn)).symm
  refine ⟨by kernel_rfl, fun j t ht => ?_⟩
  have h := Array.mem_of_getElem? ht
  have hall : Tryz.f11.params.all (fun t => !Tryz.prog.wantsStandIn t) = true := by kernel_rfl
  have := Array.all_eq_true_iff_forall_mem.1 hall t h
  show Tryz.prog.wantsStandIn t = false
  simpa using this

/-- THE STATEMENT. -/
theorem storeUnlike_card : Rows.StoreUnlikeCardSaid :=
  Claim7.holds_tied_plain_at .later [] _ _ _ _ storeUnlike_said (fun _ h => by cases h) (by kernel_rfl) (fun _ h => by cases h) storeUnlike_row_tie rfl ⟨rfl, rfl⟩ (by kernel_rfl) rfl storeUnlike_plain (by kernel_rfl)
end Go.Proofs.YtjaebndajhppgaaGreatDoor
