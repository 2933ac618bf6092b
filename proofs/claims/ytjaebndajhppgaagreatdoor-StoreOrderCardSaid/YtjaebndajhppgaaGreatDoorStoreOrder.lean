/- StoreOrder: order, copies and spelling of triples do not matter: the file is the same: for every input. -/
import Derived.Test.YtjaebndajhppgaaGreatDoorGSo3
import Derived.Test.YtjaebndajhppgaaGreatDoorGPut
import Derived.Test.YtjaebndajhppgaaGreatDoorGPut2
import Derived.Test.YtjaebndajhppgaaGreatDoorSoEnc2
import Derived.Test.YtjaebndajhppgaaGreatDoorSoOrdM
import Derived.Test.YtjaebndajhppgaaGreatDoorSoLaid
import Derived.Deep.RegionHeld3
import Derived.Deep.RegionLaw
namespace Go.Proofs.YtjaebndajhppgaaGreatDoor
set_option linter.unusedVariables false
set_option linter.unusedSimpArgs false
set_option maxRecDepth 100000
open Go.ChangeShapes Go.WideShapes Go.ChangeAt Go.RowKit
theorem and_low (x : Int) : ∃ A : Nat, A ≤ 65535 ∧ bits BinOp.and IntKind.i64 x 65535 = (A : Int) := by
  refine ⟨((BitVec.ofInt 64 x) &&& 65535#64).toNat, ?_, ?_⟩
  · rw [BitVec.toNat_and]
    exact Nat.and_le_right
  · show IntKind.i64.wrap ((BitVec.ofInt 64 x &&& BitVec.ofInt 64 65535).toNat : Int) = _
    have h : ((BitVec.ofInt 64 x) &&& 65535#64).toNat ≤ 65535 := by rw [BitVec.toNat_and]; exact Nat.and_le_right
    rw [show BitVec.ofInt 64 65535 = 65535#64 from rfl]
    rw [IntKind.wrap_i64]
    omega
theorem enc_conv (L : List TR) (hl : ∀ t ∈ L, Tm.isTri t = true) (hn : L.length ≤ 100) (p : Nat) (w : World) (h : IsStore w p L) :
    Calls Tryz.prog 19 #[.pointer (some ⟨p, 0, none⟩)] w fun e w' => ∃ a c, e = .returned (.slice a (So.file L).length c) ∧ Hid (∀ W, Below w'.heap.size w' W → (convert 32 9 (.slice a (So.file L).length c)).run Tryz.prog W = .ok (.string (strOf (So.file L))) W) ∧ Below w.heap.size w w' := by
  refine (enc_any L hl hn p w h).mono ?_
  rintro e w' ⟨v, rfl, ho, hb⟩
  have hy : BytesAt w' v (So.file L) := SlAt.own ho rfl
  have HY := hid hy
  obtain ⟨a, c, rfl, _⟩ := hy
  exact ⟨a, c, rfl, hid (fun W hW => conv_row Tryz.underlying32 Tryz.underlying5 Tryz.underlying9 W _ _ (HY.out.keep hW)), hb⟩
theorem order_fin {L : List TR} {k N B : Nat} {w3 : World} {v3 : Value} (h : w3.ownsRow B 67 9 v3 N ((([] ++ rowCells (L.drop k)) ++ rowCells (L.take k)) ++ rowCells L)) (hN : N = (L.drop k ++ L.take k ++ L).length) : TrisAt w3 v3 ((L.drop k ++ L.take k ++ L).map ofT) := by
  subst hN
  refine tris_own (B := B) ?_
  rw [rowCells_app, rowCells_app]
  exact h
theorem load_rem (M : List TR) (hM : ∀ t ∈ M, Tm.isTri t = true) (hn : M.length ≤ 100) (hp : (Tm.printL M).length ≤ 19990) (W : World) (hV : Vars W) (hE : ErrAt W) :
    Calls Tryz.prog 13 #[str (10 :: (Tm.printL M ++ [35, 32, 120]))] W fun e w' => ∃ p, e = .returned (.tuple #[.pointer (some ⟨p, 0, none⟩), .int .i64 (M.length + 2 : Nat), .int .i64 0]) ∧ IsStore w' p (Tm.rsort M) ∧ Below W.heap.size W w' := by
  have h := load_any (10 :: (Tm.printL M ++ [35, 32, 120])) W hV hE (by simp; omega) _ (Tm.plU_rem M hM hn) (fun _ => ⟨addAll_all M hM, Nat.le_trans (addAll_le M) hn⟩)
  refine h.mono ?_
  rintro e w' ⟨h1, h2⟩
  rw [if_pos rfl] at h1
  obtain ⟨p, e1, e2⟩ := h1
  rw [Tm.rsort_addAll hM] at e2
  exact ⟨p, e1, e2, h2⟩
set_option maxHeartbeats 8000000 in
theorem storeOrder_any (L : List Tri) (turn : Int) (w : World) (v : Value) (hv : TrisAt w v L) (hlow : ∀ t ∈ L, t.low 1000000000000000) (hn : L.length ≤ 140737488351232) (hV : Vars w) (hE : ErrAt w) :
    Calls Tryz.prog 6 #[v, .int .i64 turn] w fun e w' => e = .returned (.bool true) ∧ Below w.heap.size w w' := by
  have KN := hid (fun W h h2 => known_any W h h2)
  obtain ⟨a, cap, rfl, hc1, hc2, hc3⟩ := hv.open
  have HV := hid hv
  have HVV := hid hV
  have HE := hid hE
  have HL := hid hlow
  have HNL := hid hn
  obtain ⟨n, hn0⟩ : ∃ n, n = L.length := ⟨_, rfl⟩
  rw [← hn0] at HV hc1 ⊢
  have hnn : n ≤ 140737488351232 := by omega
  have HN := hid hn0
  have HC := hid (And.intro hc1 hc2)
  clear hv hV hE hlow hc1 hc2 hc3 hn0 hn
  go_enter Tryz.func6, Tryz.ntmps6
  go_wp2_with fail
  refine (long11_any L w _ HV.out HL.out HNL.out HVV.out).mono ?_
  rintro e w1 ⟨B, rfl, hB, hb1⟩
  have HB1 := hid hb1
  have HBB := hid hB
  clear hb1 hB
  cases B with
  | true =>
    go_wp2
    go_ret
    exact ⟨rfl, HB1.out⟩
  | false =>
    obtain ⟨hnl, hmb⟩ := HBB.out rfl
    obtain ⟨M, hM, hMt⟩ := may_nat hmb
    have HM := hid hMt
    subst hM
    have HNM := hid (show n = M.length by rw [HN.out, List.length_map])
    clear hnl hmb hMt
    by_cases h40 : n ≤ 40
    · have h40z : ¬ (40 : Int) < (n : Int) := by omega
      by_cases h0 : n = 0
      · have h0z : ((n : Int) == 0) = true := by rw [h0]; rfl
        have H0 := hid h0
        clear h0
        go_wp2
        go_ret
        exact ⟨rfl, HB1.out⟩
      · have h0z : ((n : Int) == 0) = false := beq_eq_false_iff_ne.2 (by omega)
        have HM40 := hid (show M.length ≤ 40 by rw [← HNM.out]; exact h40)
        go_wp2_with fail
        refine (rprint_any M HM.out (by have := HM40.out; omega) w1 _ (HV.out.keep HB1.out)).mono ?_
        rintro e w2 ⟨rfl, hb2⟩
        have HB2 := hid (below_then HB1.out hb2)
        obtain ⟨P, hP⟩ : ∃ P, P = Tm.printL M := ⟨_, rfl⟩
        have HP := hid hP
        have hPm : P.length ≤ 1000000 := by
          have h := Tm.so_printL_len (L := M) HM.out
          have := HM40.out
          rw [hP]; omega
        rw [← hP]
        clear hb2 hP
        by_cases hpl : 2 * P.length + 10 ≤ 20000
        · obtain ⟨A, hA, hand⟩ := and_low turn
          obtain ⟨k, hk⟩ : ∃ k, k = A % n := ⟨_, rfl⟩
          have hkI : (A : Int) % (n : Int) = (k : Int) := by rw [hk, Int.natCast_emod]
          have hkn : k < n := by rw [hk]; exact Nat.mod_lt _ (by omega)
          have hpz : ¬ (20000 : Int) < 2 * (P.length : Int) + 10 := by omega
          clear hk
          have HPL := hid hpl
          have HPM := hid hPm
          go_upto_region 4 with fail
          have hcn : n ≤ cap := HC.out.1
          have hcm : cap ≤ maxLen := HC.out.2
          obtain ⟨bl, off, ha, _⟩ := HV.out.get (i := 0) (by rw [List.length_map, ← HNM.out]; omega)
          subst ha
          have hcne : ¬ cap = k := by omega
          have hA1 : k ≤ cap := by omega
          have hA2 : (k : Int) ≤ (cap : Int) := by omega
          have hA3 : (n : Int) ≤ (cap : Int) := by omega
          have hA4 : (k : Int) ≤ (n : Int) := by omega
          have hlx : (M.take k).length = k := by rw [List.length_take, ← HNM.out]; omega
          have HFX := hid (show TrisAt w2 (.slice (some ⟨bl, off, none⟩) k cap) ((M.take k).map ofT) by rw [List.map_take]; exact (HV.out.front k (by omega)).keep HB2.out)
          have HFY := hid (show TrisAt w2 (.slice (some ⟨bl, off + k * 9, none⟩) (n - k) (cap - k)) ((M.drop k).map ofT) by rw [List.map_drop]; exact (HV.out.back k (by omega)).keep HB2.out)
          have HFZ := hid (HV.out.keep HB2.out)
          have NILX := hid (tris_src HFX.out).2.1
          have NILY := hid (tris_src HFY.out).2.1
          have NILZ := hid (tris_src HFZ.out).2.1
          have LENX := hid (show (rowCells (M.take k)).length = k * 9 by rw [rowCells_len, hlx])
          have LENY := hid (show (rowCells (M.drop k)).length = (n - k) * 9 by rw [rowCells_len, ← (tris_src HFY.out).1])
          have LENZ := hid (show (rowCells M).length = n * 9 by rw [rowCells_len, ← HNM.out])
          have FX := hid (fun W (hW : Below w2.heap.size w2 W) => (tris_src (HFX.out.keep hW)).2.2)
          have FY := hid (fun W (hW : Below w2.heap.size w2 W) => (tris_src (HFY.out.keep hW)).2.2)
          have FZ := hid (fun W (hW : Below w2.heap.size w2 W) => (tris_src (HFZ.out.keep hW)).2.2)
          have FINL := hid (show 0 + (n - k) + k + n = (M.drop k ++ M.take k ++ M).length by have h := (tris_src HFY.out).1; rw [List.length_append, List.length_append, hlx, ← h, ← HNM.out]; omega)
          clear hlx
          obtain ⟨iS, hi0, hzS, hszS, hbyS⟩ := info_tri9
          have OA := hid (made_own w2.drew w2.heap.size (Nat.le_refl _))
          have HA := hid ((Below.refl w2.heap.size w2).drew.alloc (Nat.le_refl _) (.cells #[] 67))
          go_region_law (first
            | (refine step_append_opt (by rfl) (.tmp 38) (.tmp 41) 39 (by rfl) w2.heap.size 67 iS _ 9 120 Tryz.underlying39 hi0 hzS hszS hbyS rfl (by decide) (.slice (some ⟨w2.heap.size, 0, none⟩) 0 0) 0 [] (by rfl) OA.out (some ⟨bl, off + k * 9, none⟩) (n - k) (cap - k) (rowCells (M.drop k)) (by rfl) NILY.out LENY.out (FY.out _ HA.out) (rowCells_one _) ?b1 ?b2 ?b3 ?_
               case b1 => (unfold maxLen; omega)
               case b2 => omega
               case b3 => exact HA.out.size
               intro v5 w5 g1 g2 g3
               have G1 := hid g1
               have HB5 := hid (HA.out.grown g2 HA.out.size (fun k hk => (OA.out.lt k hk).1))
               clear g1 g2 g3)
            | (refine step_append_opt (by rfl) (.tmp 42) (.tmp 45) 39 (by rfl) w2.heap.size 67 iS _ 9 120 Tryz.underlying39 hi0 hzS hszS hbyS rfl (by decide) v5 (0 + (n - k)) ([] ++ rowCells (M.drop k)) (by rfl) G1.out (some ⟨bl, off, none⟩) k cap (rowCells (M.take k)) (by rfl) NILX.out LENX.out (FX.out _ HB5.out) (rowCells_one _) ?b1 ?b2 ?b3 ?_
               case b1 => (unfold maxLen; omega)
               case b2 => omega
               case b3 => exact HB5.out.size
               intro v6 w6 g1 g2 g3
               have G2 := hid g1
               have HB6 := hid (HB5.out.grown g2 HB5.out.size (fun k hk => (G1.out.lt k hk).1))
               clear g1 g2 g3)
            | (refine step_append_opt (by rfl) (.tmp 46) (.tmp 47) 39 (by rfl) w2.heap.size 67 iS _ 9 120 Tryz.underlying39 hi0 hzS hszS hbyS rfl (by decide) v6 (0 + (n - k) + k) (([] ++ rowCells (M.drop k)) ++ rowCells (M.take k)) (by rfl) G2.out (some ⟨bl, off, none⟩) n cap (rowCells M) (by rfl) NILZ.out LENZ.out (FZ.out _ HB6.out) (rowCells_one _) ?b1 ?b2 ?b3 ?_
               case b1 => (unfold maxLen; omega)
               case b2 => omega
               case b3 => exact HB6.out.size
               intro v7 w7 g1 g2 g3
               have G3 := hid g1
               have HB7 := hid (HB6.out.grown g2 HB6.out.size (fun k hk => (G2.out.lt k hk).1))
               clear g1 g2 g3)
            | fail)
          have HT7 := hid (order_fin (k := k) G3.out FINL.out)
          obtain ⟨a7, c7, rfl, _, _, _⟩ := HT7.out.open
          rw [List.length_map] at HT7 ⊢
          have HB8 := hid (below_then HB2.out HB7.out)
          have HLN2 := hid (show (Tm.printL (M.drop k ++ M.take k ++ M)).length = 2 * P.length by rw [HP.out]; exact Tm.so_turn_len M k)
          have HME := hid (show ∀ t, t ∈ M.drop k ++ M.take k ++ M ↔ t ∈ M from fun t => by
            rw [List.mem_append]
            constructor
            · rintro (h | h)
              · rcases List.mem_append.1 h with h | h
                · exact List.mem_of_mem_drop h
                · exact List.mem_of_mem_take h
              · exact h
            · exact Or.inr)
          have HM2 := hid (show ∀ t ∈ M.drop k ++ M.take k ++ M, Tm.isTri t = true from fun t ht => HM.out t ((HME.out t).1 ht))
          have HN2 := hid (show (M.drop k ++ M.take k ++ M).length ≤ 80 by have h1 := FINL.out; have h2 := HM40.out; have h3 := HNM.out; omega)
          obtain ⟨M2, hM2⟩ : ∃ M2, M2 = M.drop k ++ M.take k ++ M := ⟨_, rfl⟩
          rw [← hM2] at HT7 HLN2 HME HM2 HN2 ⊢
          have HSS := hid (show Tm.rsort M2 = Tm.rsort M from Tm.rsort_same HM.out HME.out)
          clear hM2 G3 FINL NILX NILY NILZ LENX LENY LENZ FX FY FZ HFX HFY HFZ HB7 HB6 G2 HB5 G1 HA OA hi0 hzS hszS hbyS hcne hA1 hA2 hA3 hA4 hkI hand
          have RP := hid (show ∀ W, Below w.heap.size w W → Calls Tryz.prog 21 #[.slice (some ⟨bl, off, none⟩) n cap] W fun e w' => e = .returned (str P) ∧ Below W.heap.size W w' from fun W hB => by
            rw [HP.out]; exact rprint_any M HM.out (by have := HM40.out; omega) W _ (HV.out.keep hB))
          have hpl20 : P.length ≤ 20000 := by omega
          have LP := hid (show ∀ W, Below w.heap.size w W → Calls Tryz.prog 13 #[str P] W fun e w' => ∃ p, e = .returned (.tuple #[.pointer (some ⟨p, 0, none⟩), .int .i64 (M.length : Nat), .int .i64 0]) ∧ IsStore w' p (Tm.rsort M) ∧ Below W.heap.size W w' from fun W hB => by
            rw [HP.out]; exact load_print M HM.out (by have := HM40.out; omega) (by rw [← HP.out]; exact hpl20) W (HVV.out.keep hB) (HE.out.keep hB))
          obtain ⟨P2, hP2⟩ : ∃ P2, P2 = Tm.printL M2 := ⟨_, rfl⟩
          have HP2 := hid hP2
          rw [← hP2] at HLN2
          have RP2 := hid (show ∀ W, Below w7.heap.size w7 W → Calls Tryz.prog 21 #[.slice a7 M2.length c7] W fun e w' => e = .returned (str P2) ∧ Below W.heap.size W w' from fun W hB => by
            rw [HP2.out]; exact rprint_any M2 HM2.out (by have := HN2.out; omega) W _ (HT7.out.keep hB))
          have LP2 := hid (show ∀ W, Below w.heap.size w W → Calls Tryz.prog 13 #[str (10 :: (P2 ++ [35, 32, 120]))] W fun e w' => ∃ p, e = .returned (.tuple #[.pointer (some ⟨p, 0, none⟩), .int .i64 (M2.length + 2 : Nat), .int .i64 0]) ∧ IsStore w' p (Tm.rsort M) ∧ Below W.heap.size W w' from fun W hB => by
            rw [HP2.out, ← HSS.out]; exact load_rem M2 HM2.out (by have := HN2.out; omega) (by rw [← HP2.out]; have h1 := HLN2.out; have h2 := HPL.out; omega) W (HVV.out.keep hB) (HE.out.keep hB))
          have hp2m : P2.length ≤ 1000000 := by have h1 := HLN2.out; omega
          obtain ⟨n2, hn2⟩ : ∃ n2, n2 = M2.length := ⟨_, rfl⟩
          rw [← hn2] at RP2 LP2 ⊢
          clear hP2 hn2
          go_wp2_with fail
          refine (RP.out _ HB8.out).mono ?_
          rintro e w9 ⟨rfl, hb9⟩
          have HB9 := hid (below_then HB8.out hb9)
          have HB79 := hid hb9
          clear hb9
          go_wp2_with fail
          refine (LP.out _ HB9.out).mono ?_
          rintro e w10 ⟨p, rfl, hS, hb⟩
          have HS10 := hid hS
          have HB10 := hid (below_then HB9.out hb)
          have HB710 := hid (below_then HB79.out hb)
          clear hS hb
          go_wp2_with fail
          refine (RP2.out _ HB710.out).mono ?_
          rintro e w11 ⟨rfl, hb⟩
          have HS11 := hid (HS10.out.keep hb)
          have HB11 := hid (below_then HB10.out hb)
          clear hb
          have hsum : Value.string ((⟨#[10]⟩ : ByteArray) ++ ⟨P2.toArray⟩ ++ ⟨#[35, 32, 120]⟩) = str (10 :: (P2 ++ [35, 32, 120])) := by
            rw [show (⟨#[10]⟩ : ByteArray) = ⟨([10] : List UInt8).toArray⟩ from rfl, show (⟨#[35, 32, 120]⟩ : ByteArray) = ⟨([35, 32, 120] : List UInt8).toArray⟩ from rfl, ba_app, ba_app]
            rfl
          rw [← hsum] at LP2
          clear hsum
          go_wp2_with fail
          refine (LP2.out _ HB11.out).mono ?_
          rintro e w12 ⟨p2, rfl, hS, hb⟩
          have HS12 := hid (HS11.out.keep hb)
          have HT12 := hid hS
          have HB12 := hid (below_then HB11.out hb)
          clear hS hb
          have HR100 := hid (show (Tm.rsort M).length ≤ 100 by have h1 := Tm.rsort_len M; have h2 := HM40.out; omega)
          have HRT := hid (Tm.rsort_tri HM.out)
          obtain ⟨S, hS0⟩ : ∃ S, S = Tm.rsort M := ⟨_, rfl⟩
          rw [← hS0] at HS12 HT12 HR100 HRT
          clear hS0 HS11 HS10 LP LP2 RP RP2 HSS
          have EN := hid (fun p (h : IsStore w12 p S) W (hB : Below w12.heap.size w12 W) => enc_conv S HRT.out HR100.out p W (h.keep hB))
          have EX := hid (fun p (h : IsStore w12 p S) W (hB : Below w12.heap.size w12 W) => sexp_any p S W (h.keep hB) HRT.out (by have := HR100.out; omega))
          have E1 := hid (EN.out p HS12.out)
          have E2 := hid (EN.out p2 HT12.out)
          have X1 := hid (EX.out p HS12.out)
          have X2 := hid (EX.out p2 HT12.out)
          have KN2 := hid (fun W (hB : Below w12.heap.size w12 W) => KN.out W (HVV.out.keep (below_then HB12.out hB)) (HE.out.keep (below_then HB12.out hB)))
          obtain ⟨F, hF⟩ : ∃ F, F = strOf (So.file S) := ⟨_, rfl⟩
          obtain ⟨N, hN⟩ : ∃ N, N = (So.file S).length := ⟨_, rfl⟩
          obtain ⟨T, hT⟩ : ∃ T, T = Tm.printL S := ⟨_, rfl⟩
          rw [← hF, ← hN] at E1 E2
          rw [← hT] at X1 X2
          clear EN EX hF hN hT KN
          have hd12 : Below w12.heap.size w12 w12.drew := below_drawn (Below.refl _ _) 1
          go_upto_region 9 with fail
          go_region_law (first
            | (go_simp; go_at_call 19; with_reducible refine (E1.out _ hd12).mono ?_; rintro e w13 ⟨a13, c13, rfl, k13, hb13⟩; have hd13 := below_then hd12 hb13; have q13 := k13.out w13 (Below.refl _ _))
            | (go_simp; go_at_call 19; with_reducible refine (E2.out _ hd13).mono ?_; rintro e w14 ⟨a14, c14, rfl, k14, hb14⟩; have hd14 := below_then hd13 hb14; have q14 := k14.out w14 (Below.refl _ _); have q15 := k13.out w14 hb14)
            | (go_simp; go_at_call 24; with_reducible refine (X1.out _ hd14).mono ?_; rintro e w15 ⟨rfl, hb15⟩; have hd15 := below_then hd14 hb15)
            | (go_simp; go_at_call 24; with_reducible refine (X2.out _ hd15).mono ?_; rintro e w16 ⟨rfl, hb16⟩; have hd16 := below_then hd15 hb16)
            | (go_simp; go_at_call 16; with_reducible refine (KN2.out _ hd16).mono ?_; rintro e w17 ⟨rfl, hb17⟩; have hd17 := below_then hd16 hb17)
            | fail)
          all_goals (go_wp2; go_ret; exact ⟨rfl, below_then HB12.out hd17⟩)
        · have hpz : (20000 : Int) < 2 * (P.length : Int) + 10 := by omega
          go_wp2
          go_ret
          exact ⟨rfl, HB2.out⟩
    · have h40z : (40 : Int) < (n : Int) := by omega
      go_wp2
      go_ret
      exact ⟨rfl, HB1.out⟩
theorem storeOrder_walk (H : Type) (enc : TypeId × Value → H) (W : World) (base : Nat) (args : Array Value) (ds gs : List (DataW H)) (before : List MemPlace)
    (hval : ∀ (j : Nat) t v, Tryz.f6.params[j]? = some t → args[j]? = some v → Value.okWide Tryz.prog W .any base t v)
    (hW : DataW.Whole enc Tryz.prog Tryz.f6.params.toList Rows.storeOrderSpec.vars false W args.toList ds gs before)
    (hz : (DataW.weightsEach Tryz.prog (Tryz.f6.params.toList ++ Rows.storeOrderSpec.plain.varTypes Tryz.prog) (ds ++ gs)).all (· ≤ reachBytes) = true)
    (hL : laidMetH Tryz.prog Rows.storeOrderRow.laid W) (hsh : W.ShapedOpen Tryz.prog) :
    Calls Tryz.prog 6 args W fun e W' => e = .returned (.bool true) ∧ Below W.heap.size W W' := by
  obtain ⟨p, q, hA, _, _, _, _⟩ := hW
  rw [Tryz.params6] at hA hval
  rw [Tryz.params6] at hz
  obtain ⟨v0, vs0, d0, ds0, p0, q0, hargs, rfl, rfl, h0, r0⟩ := trodAll_cons hA
  obtain ⟨v1, vs1, d1, ds1, p1, q1, rfl, rfl, rfl, h1, r1⟩ := trodAll_cons r0
  obtain ⟨rfl, rfl, rfl⟩ := trodAll_nil r1
  obtain rfl : args = #[v0, v1] := by cases args; simp_all
  obtain ⟨x1, rfl, rfl, rfl, w1⟩ := open_int Tryz.underlying3 (hval 1 3 v1 rfl rfl) h1
  have b1 := bounds_i64 w1
  obtain ⟨l0, L0, b0, z0⟩ := arg_tris (hval 0 39 v0 rfl rfl) h0 (sized_arg hz (j := 0) (t := 39) (d := d0) rfl rfl)
  obtain ⟨hV, hE⟩ := vars5_of hL hsh
  exact storeOrder_any l0 x1 W v0 L0 b0 z0 hV hE

theorem storeOrder_lifted (os : Os) (started : os.Started) (H : Type) (enc : TypeId × Value → H) (F : Stop.Interp) :
    ReturnsInHanded {} Tryz.checked os 6 .any ((OpenSpec.ofChange Rows.storeOrderSpec).preRow enc Tryz.prog Tryz.f6 Rows.storeOrderRow.domain false Rows.storeOrderRow.laid) (((OpenSpec.ofChange Rows.storeOrderSpec).at F).post enc Tryz.prog Tryz.f6 false true false false) := by
  obtain ⟨places, hx⟩ : ∃ places, DataW.whole enc Tryz.prog ((laidWorld os).forCall (fun _ _ => 0) ⟨#[], #[.slice none 0 0, .int .i64 0], []⟩).memory Tryz.f6.params.toList Rows.storeOrderSpec.vars false (#[.slice none 0 0, .int .i64 0] : Array Value).toList 8 = some ([.nil, .lit (.int .i64 0)], [], places) := ⟨[], by kernel_rfl⟩
  refine returnsInHanded_of_row (C := Tryz.checked) (s := OpenSpec.ofChange Rows.storeOrderSpec) own started (by kernel_rfl) Tryz.func6
    (witness_shaped_row (enc := enc) (C := Tryz.checked) false (laidWorld os) #[.slice none 0 0, .int .i64 0] (World.laidAll_os _ _ _) (World.shaped_of_ZipB (by kernel_rfl) (by kernel_rfl)) (by kernel_rfl)
      (OpenSpec.preRow_of_cond 8 hx (by kernel_rfl) (fun k hk => by cases hk) (by kernel_rfl) (laid_met os _))) ?_
  intro W base args ds gs before hval hW _ _ hz hL hsh _
  refine (storeOrder_walk H enc W base args ds gs before hval hW hz hL hsh).mono fun e W' ⟨he, hb⟩ => ⟨_, he, ?_⟩
  exact law_post (fn := Tryz.f6) (s := Rows.storeOrderSpec) (tb := 4) rfl (fun ds hd => by match ds, hd with | [d0, d1], _ => rfl) rfl Tryz.underlying4 (by kernel_rfl) hW hb

theorem and_tt {a b : Bool} (h : a = true) (k : b = true) : (a && b) = true := by rw [h, k]; rfl
set_option maxHeartbeats 4000000 in
theorem storeOrder_closed : joinedFacts Tryz.pinned.checked.prog 6 Tryz.f6 (OpenSpec.ofChange Rows.storeOrderSpec).bare Rows.storeOrderRow = true := by
  unfold joinedFacts
  repeat' (with_reducible refine and_tt ?_ ?_)
  all_goals as_aux_lemma => kernel_rfl
theorem storeOrder_said : Rows.StoreOrderSaid :=
  OpenClaim.holds_of_cond 6 Tryz.f6 rfl rfl rfl rfl rfl rfl rfl ⟨rfl, rfl, rfl, rfl, rfl⟩ rfl rfl rfl rfl rfl (by kernel_rfl) Tryz.func6 storeOrder_closed
    (of_decide_eq_true (by kernel_rfl)) (by unfold Func.isWrapper; first | (rw [if_pos (by decide +kernel)]; kernel_rfl) | (rw [if_neg (by decide +kernel)]; exact ⟨rfl, rfl⟩))
    (fun os started H enc _ F => by rw [OpenClaim.pre_eq_preRow]; exact storeOrder_lifted os started H enc F)

theorem storeOrder_plain (f : FuncId) (fn : Func) (hf : Tryz.pinned.checked.prog.funcNamed Rows.storeOrderRow.func = some f) (hfn : Tryz.pinned.checked.prog.funcs[f]? = some fn) :
    true = Tryz.pinned.checked.prog.looks [] ∧ ∀ (j : Nat) t, fn.params[j]? = some t → Tryz.pinned.checked.prog.wantsStandIn t = false := by
  obtain rfl : f = 6 := Option.some.inj ((show Tryz.prog.funcNamed Rows.storeOrderRow.func = some 6 by kernel_rfl).symm.trans hf) |>.symm
  obtain rfl : fn = Tryz.f6 := (Option.some.inj (Tryz.func6.symm.trans hfn)).symm
  refine ⟨by kernel_rfl, fun j t ht => ?_⟩
  have h := Array.mem_of_getElem? ht
  have hall : Tryz.f6.params.all (fun t => !Tryz.prog.wantsStandIn t) = true := by kernel_rfl
  have := Array.all_eq_true_iff_forall_mem.1 hall t h
  show Tryz.prog.wantsStandIn t = false
  simpa using this

/-- THE STATEMENT. -/
theorem storeOrder_card : Rows.StoreOrderCardSaid :=
  Claim7.holds_tied_plain_at .later [] _ _ _ _ storeOrder_said (fun _ h => by cases h) (by kernel_rfl) (fun _ h => by cases h) storeOrder_row_tie rfl ⟨rfl, rfl⟩ (by kernel_rfl) rfl storeOrder_plain (by kernel_rfl)
end Go.Proofs.YtjaebndajhppgaaGreatDoor
