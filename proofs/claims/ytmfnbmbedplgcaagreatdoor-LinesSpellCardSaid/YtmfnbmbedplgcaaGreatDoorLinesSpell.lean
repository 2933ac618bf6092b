/- LinesSpell: blanks, remarks, line ends, escapes of all runes change nothing, for every input. -/
import Derived.Test.YtmfnbmbedplgcaaGreatDoorGSpell
import Derived.Test.YtmfnbmbedplgcaaGreatDoorGPut2
import Derived.Test.YtmfnbmbedplgcaaGreatDoorGPar
namespace Go.Proofs.YtmfnbmbedplgcaaGreatDoor
set_option linter.unusedVariables false
set_option linter.unusedSimpArgs false
set_option maxRecDepth 100000
open Go.ChangeShapes Go.WideShapes Go.ChangeAt Go.RowKit
theorem sp_len {n : Nat} {t x : List UInt8} (all : Bool) (h : Tm.is (n : Int) t x = true) : (Tm.spT all n t x).length ≤ 2000 := by
  have h1 := Tm.show_len h
  have h2 := Tm.rns_len t
  have h3 := Tm.spS_len (Tm.rns t)
  unfold Tm.spT
  repeat' split
  all_goals (try simp only [List.length_cons, List.length_append, List.length_nil]); omega
def headV : List UInt8 := Tm.headS
theorem gap_len (a : Bool) : (Tm.gapT a).length ≤ 3 := by cases a <;> decide
theorem end_len (b : Bool) : (Tm.endT b ++ [10]).length ≤ 6 := by cases b <;> decide
theorem spB_parts (a b all : Bool) (p : TR) : Tm.spB a b all p ++ [10] = Tm.gapT a ++ Tm.spT all p.1.1 p.1.2.1 p.1.2.2 ++ Tm.gapT a ++ Tm.spT all p.2.1.1 p.2.1.2.1 p.2.1.2.2 ++ Tm.gapT a ++ Tm.spT all p.2.2.1 p.2.2.2.1 p.2.2.2.2 ++ Tm.gapT a ++ [46] ++ (Tm.endT b ++ [10]) := by
  unfold Tm.spB; simp
/-- Which way. -/
theorem way_and (k : Nat) (hk : k ≤ 7) : bits BinOp.and IntKind.i64 (k : Int) 1 = ((k % 2 : Nat) : Int) := by
  have := sp_and k 1 (by omega) (by omega)
  rw [show (1 : Int) = ((1 : Nat) : Int) from rfl, this, Nat.and_one_is_mod]
def wayA (k : Nat) : Bool := k % 2 == 1
def wayB (k : Nat) : Bool := k / 2 % 2 == 1
def wayC (k : Nat) : Bool := k / 4 == 1
set_option maxHeartbeats 8000000 in
theorem linesSpell_any (L : List Tri) (z : Int) (w : World) (v : Value) (hv : TrisAt w v L) (hlow : ∀ t ∈ L, t.low 1000000000000000) (hn : L.length ≤ 140737488351232) (hz : -9223372036854775808 ≤ z ∧ z ≤ 9223372036854775807) (hV : Vars w) (hE : ErrAt w) :
    Calls Tryz.prog 5 #[v, .int .i64 z] w fun e W' => e = .returned (.bool true) ∧ Below w.heap.size w W' := by
  have LG := hid (longL_any L w v hv hlow hn)
  obtain ⟨a, cap, rfl, hc1, hc2, hc3⟩ := hv.open
  have HV := hid hv
  have HVV := hid hV
  have HE := hid hE
  have KN := hid (fun W h h2 => known5_any W h h2)
  obtain ⟨n, hn0⟩ : ∃ n, n = L.length := ⟨_, rfl⟩
  rw [← hn0] at HV hn LG hc1 ⊢
  have HN := hid hn0
  have HB0 := hid (Below.refl w.heap.size w)
  clear hv hV hE hn0
  by_cases h20 : 20 < n
  · have hz20 : (20 : Int) < (n : Int) := by omega
    go_enter Tryz.func5, Tryz.ntmps5
    go_wp2
    go_ret
    exact ⟨rfl, HB0.out⟩
  have hz20 : (n : Int) ≤ 20 := by omega
  have d20 : decide ((20 : Int) < (n : Int)) = false := decide_eq_false (by omega)
  by_cases hb : longB L = true
  · rw [hb] at LG
    go_enter Tryz.func5, Tryz.ntmps5
    go_wp2_with fail
    refine LG.out.mono ?_
    rintro e w2 ⟨rfl, q, rfl⟩
    go_wp2
    go_ret
    exact ⟨rfl, below_drawn HB0.out _⟩
  have hb : longB L = false := by
    cases h : longB L with
    | true => exact absurd h hb
    | false => rfl
  rw [hb] at LG
  have hnl := not_long hb
  have MY := hid (fun W hv hV => mayL_any L W (.slice a n cap) hv hnl.2 hnl.1 hV)
  obtain ⟨b, hb2⟩ : ∃ b, b = mayB L := ⟨_, rfl⟩
  rw [← hb2] at MY
  clear hb hnl
  cases b
  · go_enter Tryz.func5, Tryz.ntmps5
    go_wp2_with fail
    refine LG.out.mono ?_
    rintro e w2 ⟨rfl, q, rfl⟩
    go_wp2_with fail
    refine (MY.out _ (HV.out.drawn q) (HVV.out.keep (below_drawn HB0.out _))).mono ?_
    rintro e w3 ⟨rfl, hlow⟩
    have HB3 := hid (below_then (below_drawn HB0.out q) hlow)
    clear hlow
    go_wp2
    go_ret
    exact ⟨rfl, HB3.out⟩
  obtain ⟨M, hM, hMt⟩ := may_nat hb2.symm
  subst hM
  have HMT := hid hMt
  rw [List.length_map] at HN
  clear hMt hb2 hlow
  by_cases h0 : z < 0
  · go_enter Tryz.func5, Tryz.ntmps5
    go_wp2_with fail
    refine LG.out.mono ?_
    rintro e w2 ⟨rfl, q, rfl⟩
    go_wp2_with fail
    refine (MY.out _ (HV.out.drawn q) (HVV.out.keep (below_drawn HB0.out _))).mono ?_
    rintro e w3 ⟨rfl, hlow⟩
    have HB3 := hid (below_then (below_drawn HB0.out q) hlow)
    clear hlow
    go_wp2
    go_ret
    exact ⟨rfl, HB3.out⟩
  obtain ⟨k, rfl⟩ : ∃ k : Nat, z = k := ⟨z.toNat, by omega⟩
  have h0z : (0 : Int) ≤ (k : Int) := by omega
  have d0z : decide ((k : Int) < 0) = false := decide_eq_false (by omega)
  by_cases hk : 7 < k
  · have hkz : (7 : Int) < (k : Int) := by omega
    go_enter Tryz.func5, Tryz.ntmps5
    go_wp2_with fail
    refine LG.out.mono ?_
    rintro e w2 ⟨rfl, q, rfl⟩
    go_wp2_with fail
    refine (MY.out _ (HV.out.drawn q) (HVV.out.keep (below_drawn HB0.out _))).mono ?_
    rintro e w3 ⟨rfl, hlow⟩
    have HB3 := hid (below_then (below_drawn HB0.out q) hlow)
    clear hlow
    go_wp2
    go_ret
    exact ⟨rfl, HB3.out⟩
  have hkz : (k : Int) ≤ 7 := by omega
  have dkz : decide ((7 : Int) < (k : Int)) = false := decide_eq_false (by omega)
  have k7 : k ≤ 7 := by omega
  have ka := way_and k k7
  have kb0 : (k : Int) / 2 = ((k / 2 : Nat) : Int) := by omega
  have kb := way_and (k / 2) (by omega)
  have kc : ((k : Int) / 4 == 1) = wayC k := by
    rw [show (k : Int) / 4 = ((k / 4 : Nat) : Int) by omega]; unfold wayC
    rw [Bool.eq_iff_iff, beq_iff_eq, beq_iff_eq]; omega
  obtain ⟨all, hall⟩ : ∃ all, all = wayC k := ⟨_, rfl⟩
  rw [← hall] at kc
  obtain ⟨kk, hkk⟩ : ∃ kk, kk = k / 2 := ⟨_, rfl⟩
  rw [← hkk] at kb0 kb
  have hx : ∃ a b : Bool, k % 2 = (if a then 1 else 0) ∧ kk % 2 = (if b then 1 else 0) := by
    refine ⟨decide (k % 2 = 1), decide (kk % 2 = 1), ?_, ?_⟩
    · by_cases h : k % 2 = 1
      · simp [h]
      · simp [h]; omega
    · by_cases h : kk % 2 = 1
      · simp [h]
      · simp [h]; omega
  obtain ⟨a', b', ha', hb'⟩ := hx
  rw [ha'] at ka
  rw [hb'] at kb
  clear hall hkk ha' hb' k7
  have hnM : n ≤ 20 := by omega
  have HPL := hid (Tm.plU_spell a' b' all M HMT.out (by rw [← HN.out]; exact hnM))
  have SPL := hid (fun t => spB_parts a' b' all t)
  have SSN := hid (fun l p => Tm.spL_snoc a' b' all l p)
  have SPN := hid (fun n t x => @sp_len n t x all)
  obtain ⟨Z, hZ⟩ : ∃ Z, Z = Tm.headS ++ Tm.spL a' b' all M := ⟨_, rfl⟩
  have RS := hid (fun W hv => rsortR_any M HMT.out (by rw [← HN.out]; omega) W (.slice a n cap) hv)
  obtain ⟨G, hG⟩ : ∃ G, G = Tm.gapT a' := ⟨_, rfl⟩
  obtain ⟨E, hE2⟩ : ∃ E, E = Tm.endT b' ++ [10] := ⟨_, rfl⟩
  have hgl := gap_len a'
  have hel := end_len b'
  rw [← hG] at hgl
  rw [← hE2] at hel
  rw [← hG, ← hE2] at SPL
  obtain ⟨FL, hFL⟩ : ∃ F : List TR → List UInt8, F = fun l => Tm.headS ++ Tm.spL a' b' all l := ⟨_, rfl⟩
  have F0 := hid (show FL [] = [35, 32, 114, 101, 109, 97, 114, 107, 32, 195, 169, 10, 10] by rw [hFL]; rfl)
  have FS := hid (show ∀ l p, FL (l ++ [p]) = FL l ++ (Tm.spB a' b' all p ++ [10]) by intro l p; rw [hFL]; simp only; rw [SSN.out, List.append_assoc])
  have FM := hid (show Tm.plU (FL M) 0 [] = (0, n + 2, Tm.addAll [] M) by rw [hFL]; simp only; rw [HPL.out, ← HN.out, Nat.add_comm])
  clear HPL SSN hZ hFL
  go_enter Tryz.func5, Tryz.ntmps5
  go_wp2_with fail
  refine LG.out.mono ?_
  rintro e w2 ⟨rfl, q, rfl⟩
  go_wp2_with fail
  refine (MY.out _ (HV.out.drawn q) (HVV.out.keep (below_drawn HB0.out _))).mono ?_
  rintro e w3 ⟨rfl, hlow⟩
  have HB3 := hid (below_then (below_drawn HB0.out q) hlow)
  clear hlow
  have HAA := hid (show (bits BinOp.and IntKind.i64 (k : Int) 1 = 0 ∧ G = [32]) ∨ (bits BinOp.and IntKind.i64 (k : Int) 1 = 1 ∧ G = [9, 32, 32]) by
    cases a'
    · exact .inl ⟨ka, hG⟩
    · exact .inr ⟨ka, hG⟩)
  have HBB := hid (show (bits BinOp.and IntKind.i64 (kk : Int) 1 = 0 ∧ E = [10]) ∨ (bits BinOp.and IntKind.i64 (kk : Int) 1 = 1 ∧ E = [32, 35, 32, 120, 13, 10]) by
    cases b'
    · exact .inl ⟨kb, hE2⟩
    · exact .inr ⟨kb, hE2⟩)
  clear ka kb hG hE2
  go_wp2
  go_loopg [5, 6] n (fun gk s5 s6 wr => ∃ (i : Nat) (s : List UInt8), s5 = str s ∧ s6 = .int .i64 i ∧ i ≤ n ∧ n - i ≤ gk ∧ Hid (Below w.heap.size w wr) ∧ Hid (s = FL (M.take i)) ∧ s.length ≤ 13 + 10000 * i)
  case atStart => exact ⟨0, [35, 32, 114, 101, 109, 97, 114, 107, 32, 195, 169, 10, 10], rfl, rfl, Nat.zero_le _, Nat.le_refl _, HB3.out, hid F0.out.symm, by simp⟩
  case round =>
    obtain ⟨i, s, rfl, rfl, hin, hg, HB, HS, hsl⟩ := hrel
    by_cases hlt : i < n
    · skip
      have hltz : (i : Int) < (n : Int) := by omega
      have hiL : i < M.length := by rw [← HN.out]; exact hlt
      have HT1 := hid (HMT.out M[i] (List.getElem_mem hiL))
      have HVr := hid (HV.out.keep HB.out)
      obtain ⟨bl, off, rfl, hrow⟩ := HVr.out.get (i := i) (by rw [List.length_map]; exact hiL)
      have HRW := hid (hrow i (by rw [List.length_map]; exact hiL))
      rw [List.getElem_map] at HRW
      have HTK := hid (show FL (M.take (i + 1)) = FL (M.take i) ++ (Tm.spB a' b' all M[i] ++ [10]) by
        rw [List.take_add_one, List.getElem?_eq_getElem hiL]; exact FS.out _ _)
      obtain ⟨t, ht⟩ : ∃ t, t = M[i] := ⟨_, rfl⟩
      rw [← ht] at HT1 HRW HTK
      obtain ⟨p1, p2, q1, q2, q3⟩ := Tm.isTri_parts HT1.out
      have b1 := Tm.show_len q1
      have b2 := Tm.show_len q2
      have b3 := Tm.show_len q3
      obtain ⟨e1, f1, g1, h1⟩ := Tm.is_kind q1
      obtain ⟨e2, f2, g2, h2⟩ := Tm.is_kind q2
      obtain ⟨e3, f3, g3, h3⟩ := Tm.is_kind q3
      have LP := hid (SPL.out t)
      obtain ⟨⟨n1, t1, x1⟩, ⟨n2, t2, x2⟩, n3, t3, x3⟩ := t
      simp only at b1 b2 b3 f1 f2 f3
      have S1 := hid (fun W => spelt_any n1 t1 x1 all W (by omega) (by omega) (by omega))
      have S2 := hid (fun W => spelt_any n2 t2 x2 all W (by omega) (by omega) (by omega))
      have S3 := hid (fun W => spelt_any n3 t3 x3 all W (by omega) (by omega) (by omega))
      simp only at LP
      obtain ⟨y1, hy1⟩ : ∃ y, y = Tm.spT all n1 t1 x1 := ⟨_, rfl⟩
      obtain ⟨y2, hy2⟩ : ∃ y, y = Tm.spT all n2 t2 x2 := ⟨_, rfl⟩
      obtain ⟨y3, hy3⟩ : ∃ y, y = Tm.spT all n3 t3 x3 := ⟨_, rfl⟩
      have d1 := SPN.out _ _ _ q1
      have d2 := SPN.out _ _ _ q2
      have d3 := SPN.out _ _ _ q3
      rw [← hy1] at S1 LP d1
      rw [← hy2] at S2 LP d2
      rw [← hy3] at S3 LP d3
      clear ht hrow q1 q2 q3 p1 p2 b1 b2 b3 e1 f1 g1 h1 e2 f2 g2 h2 e3 f3 g3 h3 hy1 hy2 hy3
      have c0 := HRW.out 0 (by omega)
      have c1 := HRW.out 1 (by omega)
      have c2 := HRW.out 2 (by omega)
      have c3 := HRW.out 3 (by omega)
      have c4 := HRW.out 4 (by omega)
      have c5 := HRW.out 5 (by omega)
      have c6 := HRW.out 6 (by omega)
      have c7 := HRW.out 7 (by omega)
      have c8 := HRW.out 8 (by omega)
      simp only [ofT, Tri.cells, List.getElem?_cons_zero, List.getElem?_cons_succ, Nat.add_zero] at c0 c1 c2 c3 c4 c5 c6 c7 c8
      rcases HAA.out with ⟨ka, hG⟩ | ⟨ka, hG⟩ <;> rcases HBB.out with ⟨kb, hE2⟩ | ⟨kb, hE2⟩
      all_goals
        go_upto_region 9 with fail
        obtain ⟨w5, hw5⟩ : ∃ w5, w5 = (wr.alloc (.cells #[.string ⟨#[32]⟩, .string ⟨#[9, 32, 32]⟩] 9)).alloc (.cells #[.string ⟨#[10]⟩, .string ⟨#[32, 35, 32, 120, 13, 10]⟩] 9) := ⟨_, rfl⟩
        rw [← hw5]
        have HB5 := hid (show Below wr.heap.size wr w5 by rw [hw5]; exact ((Below.refl _ _).alloc (Nat.le_refl _) _).alloc (by simp) _)
        have k0 := fun p : Later w5.heap.size w5 => p.keep (below_keep HB5.out c0)
        have k1 := fun p : Later w5.heap.size w5 => p.keep (below_keep HB5.out c1)
        have k2 := fun p : Later w5.heap.size w5 => p.keep (below_keep HB5.out c2)
        have k3 := fun p : Later w5.heap.size w5 => p.keep (below_keep HB5.out c3)
        have k4 := fun p : Later w5.heap.size w5 => p.keep (below_keep HB5.out c4)
        have k5 := fun p : Later w5.heap.size w5 => p.keep (below_keep HB5.out c5)
        have k6 := fun p : Later w5.heap.size w5 => p.keep (below_keep HB5.out c6)
        have k7 := fun p : Later w5.heap.size w5 => p.keep (below_keep HB5.out c7)
        have k8 := fun p : Later w5.heap.size w5 => p.keep (below_keep HB5.out c8)
        clear hw5 c0 c1 c2 c3 c4 c5 c6 c7 c8
        refine wp_region_later w5.heap.size (by kernel_rfl) (by kernel_rfl) ?_
        repeat (go_big_quiet_step (first | (go_at_call 20; with_reducible exact Later.call (Nat.le_refl _) (S1.out _)) | (go_at_call 20; with_reducible exact Later.call (Nat.le_refl _) (S2.out _)) | (go_at_call 20; with_reducible exact Later.call (Nat.le_refl _) (S3.out _))))
        refine wpQuiet_nil ?_
        rintro wq ⟨q, hq⟩
        have HBq := hid (show Below w.heap.size w wq by rw [hq]; exact below_then (below_then HB.out HB5.out) q.low)
        clear hq q k0 k1 k2 k3 k4 k5 k6 k7 k8
        go_wp2
        go_roundg (n - (i + 1))
        case measure => omega
        case rel => exact ⟨i + 1, FL (M.take (i + 1)), by rw [HTK.out, LP.out, ← HS.out, hG, hE2]; simp [str, ba_app], by go_num, by omega, by omega, HBq.out, hid rfl, by rw [HTK.out, LP.out, ← HS.out]; simp only [List.length_append, List.length_cons, List.length_nil]; omega⟩
    · obtain rfl : i = n := by omega
      have hltz : ¬ (i : Int) < (i : Int) := by omega
      have HEE := hid (show s = FL M by rw [HS.out, HN.out, List.take_length])
      obtain ⟨S, hS⟩ : ∃ S, S = FL M := ⟨_, rfl⟩
      rw [← hS] at FM HEE
      obtain rfl := HEE.out
      clear HEE HS hS
      by_cases hS2 : 20000 < s.length
      · have hSz : (20000 : Int) < (s.length : Int) := by omega
        go_wp2
        go_ret
        exact ⟨rfl, HB.out⟩
      have hSz : (s.length : Int) ≤ 20000 := by omega
      have wi : IntKind.i64.wrap ((i : Int) + 2) = (i : Int) + 2 := by rw [IntKind.wrap_i64]; omega
      have PP := hid (fun W h1 h2 => pparse_any s W h1 h2 (by omega) _ FM.out)
      clear FM hS2
      go_wp2_with fail
      refine (PP.out _ (HVV.out.keep HB.out) (HE.out.keep HB.out)).mono ?_
      rintro e w5 ⟨v5, rfl, hv5, hlow⟩
      simp only at hv5
      rw [if_pos trivial, Tm.rsort_addAll HMT.out] at hv5
      have HV5 := hid hv5
      have HB5 := hid (below_then HB.out hlow)
      clear hv5 hlow
      go_wp2_with fail
      refine (RS.out _ (HV.out.keep HB5.out)).mono ?_
      rintro e w6 ⟨v6, rfl, hv6, hlow⟩
      have SM := hid (rsame_any _ w6 v5 v6 (HV5.out.keep hlow) hv6 (by rw [List.length_map]; have := Tm.rsort_len M; have := HN.out; omega))
      have HB6 := hid (below_then HB5.out hlow)
      clear hv6 hlow
      go_wp2_with fail
      refine SM.out.mono ?_
      rintro e w7 ⟨rfl, q7, rfl⟩
      go_wp2_with fail
      refine (KN.out _ (HVV.out.keep (below_drawn HB6.out _)) (HE.out.keep (below_drawn HB6.out _))).mono ?_
      rintro e w8 ⟨rfl, hlow⟩
      have HB8 := hid (below_then (below_drawn HB6.out q7) hlow)
      clear hlow
      go_wp2
      go_ret
      exact ⟨rfl, HB8.out⟩
theorem linesSpell_walk (H : Type) (enc : TypeId × Value → H) (W : World) (base : Nat) (args : Array Value) (ds gs : List (DataW H)) (before : List MemPlace)
    (hval : ∀ (j : Nat) t v, Tryz.f5.params[j]? = some t → args[j]? = some v → Value.okWide Tryz.prog W .any base t v)
    (hW : DataW.Whole enc Tryz.prog Tryz.f5.params.toList Rows.linesSpellSpec.vars false W args.toList ds gs before)
    (hz : (DataW.weightsEach Tryz.prog (Tryz.f5.params.toList ++ Rows.linesSpellSpec.plain.varTypes Tryz.prog) (ds ++ gs)).all (· ≤ reachBytes) = true)
    (hL : laidMetH Tryz.prog Rows.linesSpellRow.laid W) (hsh : W.ShapedOpen Tryz.prog) :
    Calls Tryz.prog 5 args W fun e W' => e = .returned (.bool true) ∧ Below W.heap.size W W' := by
  obtain ⟨p, q, hA, _, _, _, _⟩ := hW
  rw [Tryz.params5] at hA hval
  rw [Tryz.params5] at hz
  obtain ⟨v0, vs0, d0, ds0, p0, q0, hargs, rfl, rfl, h0, r0⟩ := trodAll_cons hA
  obtain ⟨v1, vs1, d1, ds1, p1, q1, rfl, rfl, rfl, h1, r1⟩ := trodAll_cons r0
  obtain ⟨rfl, rfl, rfl⟩ := trodAll_nil r1
  obtain rfl : args = #[v0, v1] := by cases args; simp_all
  obtain ⟨L, hv, hlow, hn⟩ := arg_tris (hval 0 22 v0 rfl rfl) h0 (sized_arg hz (j := 0) (t := 22) (d := d0) rfl rfl)
  obtain ⟨x1, rfl, rfl, rfl, w1⟩ := open_int Tryz.underlying3 (hval 1 3 v1 rfl rfl) h1
  obtain ⟨hV, hE⟩ := vars5_of hL hsh
  exact linesSpell_any L x1 W v0 hv hlow hn (bounds_i64 w1) hV hE

theorem linesSpell_lifted (os : Os) (started : os.Started) (H : Type) (enc : TypeId × Value → H) (F : Stop.Interp) :
    ReturnsInHanded {} Tryz.checked os 5 .any ((OpenSpec.ofChange Rows.linesSpellSpec).preRow enc Tryz.prog Tryz.f5 Rows.linesSpellRow.domain false Rows.linesSpellRow.laid) (((OpenSpec.ofChange Rows.linesSpellSpec).at F).post enc Tryz.prog Tryz.f5 false true false false) := by
  obtain ⟨places, hx⟩ : ∃ places, DataW.whole enc Tryz.prog ((laidWorld os).forCall (fun _ _ => 0) ⟨#[], #[.slice none 0 0, .int .i64 0], []⟩).memory Tryz.f5.params.toList Rows.linesSpellSpec.vars false (#[.slice none 0 0, .int .i64 0] : Array Value).toList 8 = some ([.nil, .lit (.int .i64 0)], [], places) := ⟨[], by kernel_rfl⟩
  refine returnsInHanded_of_row (C := Tryz.checked) (s := OpenSpec.ofChange Rows.linesSpellSpec) own started (by kernel_rfl) Tryz.func5
    (witness_shaped_row (enc := enc) (C := Tryz.checked) false (laidWorld os) #[.slice none 0 0, .int .i64 0] (World.laidAll_os _ _ _) (World.shaped_of_ZipB (by kernel_rfl) (by kernel_rfl)) (by kernel_rfl)
      (OpenSpec.preRow_of_cond 8 hx (by kernel_rfl) (fun k hk => by cases hk) (by kernel_rfl) (laid_met os _))) ?_
  intro W base args ds gs before hval hW _ _ hz hL hsh _
  refine (linesSpell_walk H enc W base args ds gs before hval hW hz hL hsh).mono fun e W' ⟨he, hb⟩ => ⟨_, he, ?_⟩
  exact law_post (fn := Tryz.f5) (s := Rows.linesSpellSpec) (tb := 4) rfl (fun ds hd => by match ds, hd with | [d0, d1], _ => rfl) rfl Tryz.underlying4 (by kernel_rfl) hW hb

theorem linesSpell_said : Rows.LinesSpellSaid :=
  OpenClaim.holds_of_cond 5 Tryz.f5 rfl rfl rfl rfl rfl rfl rfl ⟨rfl, rfl, rfl, rfl, rfl⟩ rfl rfl rfl rfl rfl (by kernel_rfl) Tryz.func5 (by kernel_rfl)
    (of_decide_eq_true (by kernel_rfl)) (by unfold Func.isWrapper; first | (rw [if_pos (by decide +kernel)]; kernel_rfl) | (rw [if_neg (by decide +kernel)]; exact ⟨rfl, rfl⟩))
    (fun os started H enc _ F => by rw [OpenClaim.pre_eq_preRow]; exact linesSpell_lifted os started H enc F)

theorem linesSpell_plain (f : FuncId) (fn : Func) (hf : Tryz.pinned.checked.prog.funcNamed Rows.linesSpellRow.func = some f) (hfn : Tryz.pinned.checked.prog.funcs[f]? = some fn) :
    true = Tryz.pinned.checked.prog.looks [] ∧ ∀ (j : Nat) t, fn.params[j]? = some t → Tryz.pinned.checked.prog.wantsStandIn t = false := by
  obtain rfl : f = 5 := Option.some.inj ((show Tryz.prog.funcNamed Rows.linesSpellRow.func = some 5 by kernel_rfl).symm.trans hf) |>.symm
  obtain rfl : fn = Tryz.f5 := (Option.some.inj (Tryz.func5.symm.trans hfn)).symm
  refine ⟨by kernel_rfl, fun j t ht => ?_⟩
  have h := Array.mem_of_getElem? ht
  have hall : Tryz.f5.params.all (fun t => !Tryz.prog.wantsStandIn t) = true := by kernel_rfl
  have := Array.all_eq_true_iff_forall_mem.1 hall t h
  show Tryz.prog.wantsStandIn t = false
  simpa using this

/-- THE STATEMENT. -/
theorem linesSpell_card : Rows.LinesSpellCardSaid :=
  Claim7.holds_tied_plain_at .later [] _ _ _ _ linesSpell_said (fun _ h => by cases h) (by kernel_rfl) (fun _ h => by cases h) linesSpell_row_tie rfl ⟨rfl, rfl⟩ (by kernel_rfl) rfl linesSpell_plain (by kernel_rfl)
end Go.Proofs.YtmfnbmbedplgcaaGreatDoor
