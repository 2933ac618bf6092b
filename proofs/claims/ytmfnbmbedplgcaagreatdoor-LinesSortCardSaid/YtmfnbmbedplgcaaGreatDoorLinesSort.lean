/- LinesSort: any triples that may be in order, each once, and as a text; of any whether they may be, for every input. -/
import Derived.Test.YtmfnbmbedplgcaaGreatDoorGPut2
import Derived.Test.YtmfnbmbedplgcaaGreatDoorGTri
import Derived.Test.YtmfnbmbedplgcaaGreatDoorGSort
import Derived.Test.YtmfnbmbedplgcaaGreatDoorGPar
namespace Go.Proofs.YtmfnbmbedplgcaaGreatDoor
set_option linter.unusedVariables false
set_option linter.unusedSimpArgs false
set_option maxRecDepth 100000
open Go.ChangeShapes Go.WideShapes Go.ChangeAt Go.RowKit
theorem cmp_three (a b : List UInt8) : Tm.cmp a b = -1 ∨ Tm.cmp a b = 0 ∨ Tm.cmp a b = 1 := by
  unfold Tm.cmp
  repeat' split
  all_goals omega
theorem cmpT_minus {p q : TR} (h : Tm.cmpT p q < 0) : Tm.cmpT p q = -1 ∧ Tm.cmpT q p = 1 := by
  have h2 := Tm.cmpT_neg p q
  have h1 : Tm.cmpT p q = -1 := by
    unfold Tm.cmpT Tm.cmp3 at h ⊢
    have a1 := cmp_three (Tm.showT p.1.1 p.1.2.1 p.1.2.2) (Tm.showT q.1.1 q.1.2.1 q.1.2.2)
    have a2 := cmp_three (Tm.showT p.2.1.1 p.2.1.2.1 p.2.1.2.2) (Tm.showT q.2.1.1 q.2.1.2.1 q.2.1.2.2)
    have a3 := cmp_three (Tm.showT p.2.2.1 p.2.2.2.1 p.2.2.2.2) (Tm.showT q.2.2.1 q.2.2.2.1 q.2.2.2.2)
    repeat' split at h
    all_goals (repeat' split)
    all_goals omega
  omega
theorem pcmp_tri (p q : TR) (hp : Tm.isTri p = true) (hq : Tm.isTri q = true) (W : World) : Calls Tryz.prog 14 #[trV p, trV q] W fun e w' => e = .returned (.int .i64 (Tm.cmpT p q)) ∧ Below W.heap.size W w' := by
  obtain ⟨_, _, a1, a2, a3⟩ := Tm.isTri_parts hp
  obtain ⟨_, _, b1, b2, b3⟩ := Tm.isTri_parts hq
  have c1 := Tm.show_len a1
  have c2 := Tm.show_len a2
  have c3 := Tm.show_len a3
  have d1 := Tm.show_len b1
  have d2 := Tm.show_len b2
  have d3 := Tm.show_len b3
  obtain ⟨n1, e1, _, _⟩ := Tm.is_kind a1
  obtain ⟨n2, e2, _, _⟩ := Tm.is_kind a2
  obtain ⟨n3, e3, _, _⟩ := Tm.is_kind a3
  obtain ⟨m1, f1, _, _⟩ := Tm.is_kind b1
  obtain ⟨m2, f2, _, _⟩ := Tm.is_kind b2
  obtain ⟨m3, f3, _, _⟩ := Tm.is_kind b3
  have := pcmp_any (p.1.1 : Nat) p.1.2.1 p.1.2.2 (p.2.1.1 : Nat) p.2.1.2.1 p.2.1.2.2 (p.2.2.1 : Nat) p.2.2.2.1 p.2.2.2.2 (q.1.1 : Nat) q.1.2.1 q.1.2.2 (q.2.1.1 : Nat) q.2.1.2.1 q.2.1.2.2 (q.2.2.1 : Nat) q.2.2.2.1 q.2.2.2.2 W (by omega) (by omega) (by omega) (by omega) (by omega) (by omega) (by omega) (by omega) (by omega) (by omega) (by omega) (by omega)
  rw [Tm.show_some (by omega), Tm.show_some (by omega), Tm.show_some (by omega), Tm.show_some (by omega), Tm.show_some (by omega), Tm.show_some (by omega)] at this
  exact this
set_option maxHeartbeats 16000000 in
theorem linesSort_any (L : List Tri) (w : World) (v : Value) (hv : TrisAt w v L) (hlow : ∀ t ∈ L, t.low 1000000000000000) (hn : L.length ≤ 140737488351232) (hV : Vars w) (hE : ErrAt w) :
    Calls Tryz.prog 3 #[v] w fun e W' => e = .returned (.bool true) ∧ Below w.heap.size w W' := by
  have LG := hid (longL_any L w v hv hlow hn)
  obtain ⟨a, cap, rfl, hc1, hc2, hc3⟩ := hv.open
  have HV := hid hv
  have HVV := hid hV
  have HE := hid hE
  have KN := hid (fun W h h2 => known5_any W h h2)
  obtain ⟨n, hn0⟩ : ∃ n, n = L.length := ⟨_, rfl⟩
  rw [← hn0] at HV hn LG hc1 ⊢
  have HN := hid hn0
  have HB0 := hid (Below.refl w.heap.size w)
  clear hv hV hE hn0
  by_cases hb : longB L = true
  · rw [hb] at LG
    go_enter Tryz.func3, Tryz.ntmps3
    go_wp2_with fail
    refine LG.out.mono ?_
    rintro e w2 ⟨rfl, q, rfl⟩
    go_wp2
    go_ret
    exact ⟨rfl, below_drawn HB0.out _⟩
  have hb : longB L = false := by
    cases h : longB L with
    | true => exact absurd h hb
    | false => rfl
  rw [hb] at LG
  have hnl := not_long hb
  have HLO := hid hnl.2
  have hn3 : n ≤ 3000 := by rw [HN.out]; exact hnl.1
  have MY := hid (fun W hv hV => mayL_any L W (.slice a n cap) hv hnl.2 hnl.1 hV)
  clear hb hnl hlow
  go_enter Tryz.func3, Tryz.ntmps3
  go_wp2_with fail
  refine LG.out.mono ?_
  rintro e w2 ⟨rfl, q, hw2⟩
  have HB2 := hid (show Below w.heap.size w w2 by rw [hw2]; exact below_drawn HB0.out _)
  clear hw2
  go_wp2
  go_loopg [3] n (fun gk s3 wr => ∃ (i : Nat), s3 = .int .i64 i ∧ i ≤ n ∧ n - i ≤ gk ∧ Hid (Below w.heap.size w wr))
  case atStart => exact ⟨0, rfl, Nat.zero_le _, Nat.le_refl _, HB2.out⟩
  case round =>
    obtain ⟨i, rfl, hin, hg, HB⟩ := hrel
    by_cases hlt : i < n
    · have hltz : (i : Int) < (n : Int) := by omega
      have hiL : i < L.length := by rw [← HN.out]; exact hlt
      have HVr := hid (HV.out.keep HB.out)
      obtain ⟨bl, off, rfl, hrow⟩ := HVr.out.get (i := i) hiL
      have HRW := hid (hrow i hiL)
      have hlo := HLO.out L[i] (List.getElem_mem hiL)
      generalize L[i] = t at HRW hlo
      obtain ⟨k1, t1, x1, k2, t2, x2, k3, t3, x3⟩ := t
      obtain ⟨l1, l2, l3, l4, l5, l6⟩ := hlo
      simp only at l1 l2 l3 l4 l5 l6
      have P1 := hid (fun W hV => pis_any k1 t1 x1 k2 t2 x2 k3 t3 x3 W (by omega) (by omega) (by omega) (by omega) (by omega) (by omega) hV)
      have P2 := hid (fun W hV => lis_any k1 t1 x1 k2 t2 x2 k3 t3 x3 W (by omega) (by omega) (by omega) (by omega) (by omega) (by omega) hV)
      obtain ⟨r, hr⟩ : ∃ r, r = isTriI k1 t1 x1 k2 t2 x2 k3 t3 x3 := ⟨_, rfl⟩
      rw [← hr] at P1 P2
      clear hr hrow l1 l2 l3 l4 l5 l6
      have c0 := HRW.out 0 (by omega)
      have c1 := HRW.out 1 (by omega)
      have c2 := HRW.out 2 (by omega)
      have c3 := HRW.out 3 (by omega)
      have c4 := HRW.out 4 (by omega)
      have c5 := HRW.out 5 (by omega)
      have c6 := HRW.out 6 (by omega)
      have c7 := HRW.out 7 (by omega)
      have c8 := HRW.out 8 (by omega)
      simp only [Tri.cells, List.getElem?_cons_zero, List.getElem?_cons_succ, Nat.add_zero] at c0 c1 c2 c3 c4 c5 c6 c7 c8
      have k0 := fun p : Later wr.heap.size wr => p.keep c0
      have k1 := fun p : Later wr.heap.size wr => p.keep c1
      have k2 := fun p : Later wr.heap.size wr => p.keep c2
      have k3 := fun p : Later wr.heap.size wr => p.keep c3
      have k4 := fun p : Later wr.heap.size wr => p.keep c4
      have k5 := fun p : Later wr.heap.size wr => p.keep c5
      have k6 := fun p : Later wr.heap.size wr => p.keep c6
      have k7 := fun p : Later wr.heap.size wr => p.keep c7
      have k8 := fun p : Later wr.heap.size wr => p.keep c8
      have KV := hid (fun p : Later wr.heap.size wr => (HVV.out.keep HB.out).keep p.low)
      clear c0 c1 c2 c3 c4 c5 c6 c7 c8
      go_upto_region 6 with fail
      refine wp_region_later wr.heap.size (by kernel_rfl) (by kernel_rfl) ?_
      repeat (go_big_quiet_step (first | (go_at_call 9; with_reducible exact Later.call (Nat.le_refl _) (P1.out _ (KV.out _))) | (go_at_call 10; with_reducible exact Later.call (Nat.le_refl _) (P2.out _ (KV.out _)))))
      refine wpQuiet_nil ?_
      rintro wq ⟨q, hq⟩
      have HBq := hid (show Below w.heap.size w wq by rw [hq]; exact below_then HB.out q.low)
      clear hq q k0 k1 k2 k3 k4 k5 k6 k7 k8
      go_wp2
      go_roundg (n - (i + 1))
      case measure => omega
      case rel => exact ⟨i + 1, by go_num, by omega, by omega, HBq.out⟩
    · obtain rfl : i = n := by omega
      have hltz : ¬ (i : Int) < (i : Int) := by omega
      obtain ⟨r, hr⟩ : ∃ r, r = mayB L := ⟨_, rfl⟩
      rw [← hr] at MY
      cases r
      · clear hr
        go_wp2_with fail
        refine (MY.out _ (HV.out.keep HB.out) (HVV.out.keep HB.out)).mono ?_
        rintro e w3 ⟨rfl, hlow⟩
        have HB3 := hid (below_then HB.out hlow)
        clear hlow
        go_wp2_with fail
        refine (KN.out _ (HVV.out.keep HB3.out) (HE.out.keep HB3.out)).mono ?_
        rintro e w4 ⟨rfl, hlow⟩
        have HB4 := hid (below_then HB3.out hlow)
        clear hlow
        go_wp2
        go_ret
        exact ⟨rfl, HB4.out⟩
      · obtain ⟨M, hM, hMt⟩ := may_nat hr.symm
        subst hM
        have HMT := hid hMt
        rw [List.length_map] at HN
        clear hMt hr HLO
        have PS := hid (fun W hv => psort_any M HMT.out (by rw [← HN.out]; omega) W (.slice a i cap) hv)
        have RS := hid (fun W hv => rsortR_any M HMT.out (by rw [← HN.out]; omega) W (.slice a i cap) hv)
        have PR := hid (fun W hv => pprintL_any M HMT.out (by rw [← HN.out]; omega) W (.slice a i cap) hv)
        have RP := hid (fun W hv => rprint_any M HMT.out (by rw [← HN.out]; omega) W (.slice a i cap) hv)
        have HRl := hid (show (Tm.rsort M).length ≤ 3000 by have := Tm.rsort_len M; have := HN.out; omega)
        have HRT := hid (Tm.rsort_tri HMT.out)
        have HRS := hid (Tm.rsort_srt HMT.out)
        go_wp2_with fail
        refine (MY.out _ (HV.out.keep HB.out) (HVV.out.keep HB.out)).mono ?_
        rintro e w3 ⟨rfl, hlow⟩
        have HB3 := hid (below_then HB.out hlow)
        clear hlow
        go_wp2_with fail
        refine (PS.out _ (HV.out.keep HB3.out)).mono ?_
        rintro e w4 ⟨v4, rfl, hv4, hlow⟩
        have HB4 := hid (below_then HB3.out hlow)
        have HV4 := hid hv4
        clear hlow hv4
        obtain ⟨R, hR⟩ : ∃ R, R = Tm.rsort M := ⟨_, rfl⟩
        rw [← hR] at HV4 HRl HRT HRS RS
        clear hR
        obtain ⟨a4, cap4, hu, _⟩ := HV4.out.open
        rw [List.length_map] at hu
        subst hu
        obtain ⟨N, hN0⟩ : ∃ N, N = R.length := ⟨_, rfl⟩
        rw [← hN0] at HRl HV4 ⊢
        have HRN := hid hN0
        have hN3 := HRl.out
        clear hN0
        go_wp2
        go_loopg [5] N (fun gk s5 wr => ∃ (i : Nat), s5 = .int .i64 i ∧ 1 ≤ i ∧ i ≤ N + 1 ∧ N + 1 - i ≤ gk ∧ Hid (Below w4.heap.size w4 wr))
        case atStart => exact ⟨1, rfl, Nat.le_refl _, by omega, by omega, Below.refl _ _⟩
        case round =>
          obtain ⟨j, rfl, hj1, hjN, hgj, HBj⟩ := hrel
          by_cases hlj : j < N
          · have hljz : (j : Int) < (N : Int) := by omega
            obtain ⟨x, hx⟩ : ∃ x, x = j - 1 := ⟨_, rfl⟩
            have ex : (j : Int) - 1 = (x : Int) := by omega
            have wx : IntKind.i64.wrap (x : Int) = (x : Int) := by rw [IntKind.wrap_i64]; omega
            have hxN : (x : Int) < (N : Int) := by omega
            have hxR : x < R.length := by rw [← HRN.out]; omega
            have hjR : j < R.length := by rw [← HRN.out]; exact hlj
            have HVj := hid (HV4.out.keep HBj.out)
            obtain ⟨bl, off, rfl, hrow⟩ := HVj.out.get (i := j) (by rw [List.length_map]; exact hjR)
            have HRW := hid (hrow j (by rw [List.length_map]; exact hjR))
            have HRX := hid (hrow x (by rw [List.length_map]; exact hxR))
            rw [List.getElem_map] at HRW HRX
            have hlt' : Tm.cmpT R[x] R[j] < 0 := List.pairwise_iff_getElem.1 HRS.out x j hxR hjR (by omega)
            have hcm := cmpT_minus hlt'
            have C1 := hid (fun W => pcmp_tri R[x] R[j] (HRT.out _ (List.getElem_mem hxR)) (HRT.out _ (List.getElem_mem hjR)) W)
            have C2 := hid (fun W => pcmp_tri R[j] R[x] (HRT.out _ (List.getElem_mem hjR)) (HRT.out _ (List.getElem_mem hxR)) W)
            rw [hcm.1] at C1
            rw [hcm.2] at C2
            obtain ⟨p, hp⟩ : ∃ p, p = R[x] := ⟨_, rfl⟩
            obtain ⟨q, hq⟩ : ∃ q, q = R[j] := ⟨_, rfl⟩
            rw [← hp] at C1 C2 HRX
            rw [← hq] at C1 C2 HRW
            clear hp hq hcm hlt' hrow hx
            obtain ⟨⟨n1, t1, x1⟩, ⟨n2, t2, x2⟩, n3, t3, x3⟩ := p
            obtain ⟨⟨m1, u1, y1⟩, ⟨m2, u2, y2⟩, m3, u3, y3⟩ := q
            have D1 : Hid (∀ W, Calls Tryz.prog 14 #[triV (n1 : Nat) t1 x1 (n2 : Nat) t2 x2 (n3 : Nat) t3 x3, triV (m1 : Nat) u1 y1 (m2 : Nat) u2 y2 (m3 : Nat) u3 y3] W fun e w' => e = .returned (.int .i64 (-1)) ∧ Below W.heap.size W w') := C1
            have D2 : Hid (∀ W, Calls Tryz.prog 14 #[triV (m1 : Nat) u1 y1 (m2 : Nat) u2 y2 (m3 : Nat) u3 y3, triV (n1 : Nat) t1 x1 (n2 : Nat) t2 x2 (n3 : Nat) t3 x3] W fun e w' => e = .returned (.int .i64 1) ∧ Below W.heap.size W w') := C2
            clear C1 C2
            have c0 := HRW.out 0 (by omega)
            have c1 := HRW.out 1 (by omega)
            have c2 := HRW.out 2 (by omega)
            have c3 := HRW.out 3 (by omega)
            have c4 := HRW.out 4 (by omega)
            have c5 := HRW.out 5 (by omega)
            have c6 := HRW.out 6 (by omega)
            have c7 := HRW.out 7 (by omega)
            have c8 := HRW.out 8 (by omega)
            have d0 := HRX.out 0 (by omega)
            have d1 := HRX.out 1 (by omega)
            have d2 := HRX.out 2 (by omega)
            have d3 := HRX.out 3 (by omega)
            have d4 := HRX.out 4 (by omega)
            have d5 := HRX.out 5 (by omega)
            have d6 := HRX.out 6 (by omega)
            have d7 := HRX.out 7 (by omega)
            have d8 := HRX.out 8 (by omega)
            simp only [ofT, Tri.cells, List.getElem?_cons_zero, List.getElem?_cons_succ, Nat.add_zero] at c0 c1 c2 c3 c4 c5 c6 c7 c8 d0 d1 d2 d3 d4 d5 d6 d7 d8
            have k0 := fun p : Later wr.heap.size wr => p.keep c0
            have k1 := fun p : Later wr.heap.size wr => p.keep c1
            have k2 := fun p : Later wr.heap.size wr => p.keep c2
            have k3 := fun p : Later wr.heap.size wr => p.keep c3
            have k4 := fun p : Later wr.heap.size wr => p.keep c4
            have k5 := fun p : Later wr.heap.size wr => p.keep c5
            have k6 := fun p : Later wr.heap.size wr => p.keep c6
            have k7 := fun p : Later wr.heap.size wr => p.keep c7
            have k8 := fun p : Later wr.heap.size wr => p.keep c8
            have l0 := fun p : Later wr.heap.size wr => p.keep d0
            have l1 := fun p : Later wr.heap.size wr => p.keep d1
            have l2 := fun p : Later wr.heap.size wr => p.keep d2
            have l3 := fun p : Later wr.heap.size wr => p.keep d3
            have l4 := fun p : Later wr.heap.size wr => p.keep d4
            have l5 := fun p : Later wr.heap.size wr => p.keep d5
            have l6 := fun p : Later wr.heap.size wr => p.keep d6
            have l7 := fun p : Later wr.heap.size wr => p.keep d7
            have l8 := fun p : Later wr.heap.size wr => p.keep d8
            clear c0 c1 c2 c3 c4 c5 c6 c7 c8 d0 d1 d2 d3 d4 d5 d6 d7 d8
            go_upto_region 14 with fail
            refine wp_region_later wr.heap.size (by kernel_rfl) (by kernel_rfl) ?_
            repeat (go_big_quiet_step (first | (go_at_call 14; with_reducible exact Later.call (Nat.le_refl _) (D1.out _)) | (go_at_call 14; with_reducible exact Later.call (Nat.le_refl _) (D2.out _))))
            refine wpQuiet_nil ?_
            rintro wq ⟨q, hq⟩
            have HBq := hid (show Below w4.heap.size w4 wq by rw [hq]; exact below_then HBj.out q.low)
            clear hq q k0 k1 k2 k3 k4 k5 k6 k7 k8 l0 l1 l2 l3 l4 l5 l6 l7 l8
            go_wp2
            go_roundg (N + 1 - (j + 1))
            case measure => omega
            case rel => exact ⟨j + 1, by go_num, by omega, by omega, by omega, HBq.out⟩
          · have hljz : ¬ (j : Int) < (N : Int) := by omega
            have HB5 := hid (below_then HB4.out HBj.out)
            have HV5 := hid (HV4.out.keep HBj.out)
            go_wp2_with fail
            refine (RS.out _ (HV.out.keep HB5.out)).mono ?_
            rintro e w6 ⟨v6, rfl, hv6, hlow⟩
            have SM := hid (rsame_any _ w6 _ v6 (HV5.out.keep hlow) hv6 (by rw [List.length_map, ← HRN.out]; omega))
            have HB6 := hid (below_then HB5.out hlow)
            clear hv6 hlow
            go_wp2_with fail
            refine SM.out.mono ?_
            rintro e w7 ⟨rfl, q7, hw7⟩
            have HB7 := hid (show Below w.heap.size w w7 by rw [hw7]; exact below_drawn HB6.out _)
            clear hw7
            go_wp2_with fail
            refine (PR.out _ (HV.out.keep HB7.out)).mono ?_
            rintro e w8 ⟨rfl, hlow⟩
            have HB8 := hid (below_then HB7.out hlow)
            clear hlow
            go_wp2_with fail
            refine (RP.out _ (HV.out.keep HB8.out)).mono ?_
            rintro e w9 ⟨rfl, hlow⟩
            have HB9 := hid (below_then HB8.out hlow)
            clear hlow
            have hSE : (Tm.printL M == Tm.printL M) = true := beq_self_eq_true _
            go_wp2_with fail
            refine (KN.out _ (HVV.out.keep HB9.out) (HE.out.keep HB9.out)).mono ?_
            rintro e w10 ⟨rfl, hlow⟩
            have HB10 := hid (below_then HB9.out hlow)
            clear hlow
            go_wp2
            go_ret
            exact ⟨rfl, HB10.out⟩
theorem linesSort_walk (H : Type) (enc : TypeId × Value → H) (W : World) (base : Nat) (args : Array Value) (ds gs : List (DataW H)) (before : List MemPlace)
    (hval : ∀ (j : Nat) t v, Tryz.f3.params[j]? = some t → args[j]? = some v → Value.okWide Tryz.prog W .any base t v)
    (hW : DataW.Whole enc Tryz.prog Tryz.f3.params.toList Rows.linesSortSpec.vars false W args.toList ds gs before)
    (hz : (DataW.weightsEach Tryz.prog (Tryz.f3.params.toList ++ Rows.linesSortSpec.plain.varTypes Tryz.prog) (ds ++ gs)).all (· ≤ reachBytes) = true)
    (hL : laidMetH Tryz.prog Rows.linesSortRow.laid W) (hsh : W.ShapedOpen Tryz.prog) :
    Calls Tryz.prog 3 args W fun e W' => e = .returned (.bool true) ∧ Below W.heap.size W W' := by
  obtain ⟨p, q, hA, _, _, _, _⟩ := hW
  rw [Tryz.params3] at hA hval
  rw [Tryz.params3] at hz
  obtain ⟨v0, vs0, d0, ds0, p0, q0, hargs, rfl, rfl, h0, r0⟩ := trodAll_cons hA
  obtain ⟨rfl, rfl, rfl⟩ := trodAll_nil r0
  obtain rfl : args = #[v0] := by cases args; simp_all
  obtain ⟨L, hv, hlow, hn⟩ := arg_tris (hval 0 22 v0 rfl rfl) h0 (sized_arg hz (j := 0) (t := 22) (d := d0) rfl rfl)
  obtain ⟨hV, hE⟩ := vars5_of hL hsh
  exact linesSort_any L W v0 hv hlow hn hV hE

theorem linesSort_lifted (os : Os) (started : os.Started) (H : Type) (enc : TypeId × Value → H) (F : Stop.Interp) :
    ReturnsInHanded {} Tryz.checked os 3 .any ((OpenSpec.ofChange Rows.linesSortSpec).preRow enc Tryz.prog Tryz.f3 Rows.linesSortRow.domain false Rows.linesSortRow.laid) (((OpenSpec.ofChange Rows.linesSortSpec).at F).post enc Tryz.prog Tryz.f3 false true false false) := by
  obtain ⟨places, hx⟩ : ∃ places, DataW.whole enc Tryz.prog ((laidWorld os).forCall (fun _ _ => 0) ⟨#[], #[.slice none 0 0], []⟩).memory Tryz.f3.params.toList Rows.linesSortSpec.vars false (#[.slice none 0 0] : Array Value).toList 8 = some ([.nil], [], places) := ⟨[], by kernel_rfl⟩
  refine returnsInHanded_of_row (C := Tryz.checked) (s := OpenSpec.ofChange Rows.linesSortSpec) own started (by kernel_rfl) Tryz.func3
    (witness_shaped_row (enc := enc) (C := Tryz.checked) false (laidWorld os) #[.slice none 0 0] (World.laidAll_os _ _ _) (World.shaped_of_ZipB (by kernel_rfl) (by kernel_rfl)) (by kernel_rfl)
      (OpenSpec.preRow_of_cond 8 hx (by kernel_rfl) (fun k hk => by cases hk) (by kernel_rfl) (laid_met os _))) ?_
  intro W base args ds gs before hval hW _ _ hz hL hsh _
  refine (linesSort_walk H enc W base args ds gs before hval hW hz hL hsh).mono fun e W' ⟨he, hb⟩ => ⟨_, he, ?_⟩
  exact law_post (fn := Tryz.f3) (s := Rows.linesSortSpec) (tb := 4) rfl (fun ds hd => by match ds, hd with | [d0], _ => rfl) rfl Tryz.underlying4 (by kernel_rfl) hW hb

theorem linesSort_said : Rows.LinesSortSaid :=
  OpenClaim.holds_of_cond 3 Tryz.f3 rfl rfl rfl rfl rfl rfl rfl ⟨rfl, rfl, rfl, rfl, rfl⟩ rfl rfl rfl rfl rfl (by kernel_rfl) Tryz.func3 (by kernel_rfl)
    (of_decide_eq_true (by kernel_rfl)) (by unfold Func.isWrapper; first | (rw [if_pos (by decide +kernel)]; kernel_rfl) | (rw [if_neg (by decide +kernel)]; exact ⟨rfl, rfl⟩))
    (fun os started H enc _ F => by rw [OpenClaim.pre_eq_preRow]; exact linesSort_lifted os started H enc F)

theorem linesSort_plain (f : FuncId) (fn : Func) (hf : Tryz.pinned.checked.prog.funcNamed Rows.linesSortRow.func = some f) (hfn : Tryz.pinned.checked.prog.funcs[f]? = some fn) :
    true = Tryz.pinned.checked.prog.looks [] ∧ ∀ (j : Nat) t, fn.params[j]? = some t → Tryz.pinned.checked.prog.wantsStandIn t = false := by
  obtain rfl : f = 3 := Option.some.inj ((show Tryz.prog.funcNamed Rows.linesSortRow.func = some 3 by kernel_rfl).symm.trans hf) |>.symm
  obtain rfl : fn = Tryz.f3 := (Option.some.inj (Tryz.func3.symm.trans hfn)).symm
  refine ⟨by kernel_rfl, fun j t ht => ?_⟩
  have h := Array.mem_of_getElem? ht
  have hall : Tryz.f3.params.all (fun t => !Tryz.prog.wantsStandIn t) = true := by kernel_rfl
  have := Array.all_eq_true_iff_forall_mem.1 hall t h
  show Tryz.prog.wantsStandIn t = false
  simpa using this

/-- THE STATEMENT. -/
theorem linesSort_card : Rows.LinesSortCardSaid :=
  Claim7.holds_tied_plain_at .later [] _ _ _ _ linesSort_said (fun _ h => by cases h) (by kernel_rfl) (fun _ h => by cases h) linesSort_row_tie rfl ⟨rfl, rfl⟩ (by kernel_rfl) rfl linesSort_plain (by kernel_rfl)
end Go.Proofs.YtmfnbmbedplgcaaGreatDoor
