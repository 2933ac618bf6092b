/- LinesWrong: the first line that is none is told, whatever stands behind it, for every input. -/
import Derived.Test.YtmfnbmbedplgcaaGreatDoorGPar
namespace Go.Proofs.YtmfnbmbedplgcaaGreatDoor
set_option linter.unusedVariables false
set_option linter.unusedSimpArgs false
set_option maxRecDepth 100000
open Go.ChangeShapes Go.WideShapes Go.ChangeAt Go.RowKit
def badL : List UInt8 := [60, 97, 62, 32, 60, 98, 62, 32, 46, 10]
theorem bad_none : Tm.one [60, 97, 62, 32, 60, 98, 62, 32, 46] = none := by kernel_rfl
theorem bad_cut (r : List UInt8) : Tm.cutP (badL ++ r) = ([60, 97, 62, 32, 60, 98, 62, 32, 46], r) := by
  have e : badL ++ r = [60, 97, 62, 32, 60, 98, 62, 32, 46] ++ 10 :: r := rfl
  rw [e]
  unfold Tm.cutP
  rw [Tm.cut_line _ r (by decide)]
  rfl
theorem wrong_parse (M : List TR) (hM : ∀ t ∈ M, Tm.isTri t = true) (k : Nat) (hk : k ≤ M.length) (hn : M.length ≤ 20) (r : List UInt8) :
    Tm.plU (Tm.printL (M.take k) ++ badL ++ r) 0 [] = (2, k + 1, []) := by
  have hl : (M.take k).length = k := by rw [List.length_take]; omega
  rw [List.append_assoc, Tm.plU_lines (M.take k) (badL ++ r) 0 [] (fun t ht => hM t (List.mem_of_mem_take ht)) (by omega) (by simp only [List.length_nil]; omega), hl, Nat.zero_add]
  refine Tm.plU_wrong (by simp [badL]) k _ (by omega) ?_
  rw [bad_cut]; exact bad_none
theorem tris_nil_len {W : World} {v : Value} (h : TrisAt W v []) : ∃ a c, v = .slice a 0 c := by
  obtain ⟨a, c, e, _⟩ := h; exact ⟨a, c, e⟩
set_option maxHeartbeats 8000000 in
theorem linesWrong_any (L : List Tri) (z : Int) (more : List UInt8) (w : World) (v : Value) (hv : TrisAt w v L) (hlow : ∀ t ∈ L, t.low 1000000000000000) (hn : L.length ≤ 140737488351232) (hz : -9223372036854775808 ≤ z ∧ z ≤ 9223372036854775807) (hm : more.length ≤ 9223372036854775807) (hV : Vars w) (hE : ErrAt w) :
    Calls Tryz.prog 6 #[v, .int .i64 z, str more] w fun e W' => e = .returned (.bool true) ∧ Below w.heap.size w W' := by
  have LG := hid (longL_any L w v hv hlow hn)
  obtain ⟨a, cap, rfl, hc1, hc2, hc3⟩ := hv.open
  have HV := hid hv
  have HVV := hid hV
  have HE := hid hE
  have KN := hid (fun W h h2 => known5_any W h h2)
  obtain ⟨n, hn0⟩ : ∃ n, n = L.length := ⟨_, rfl⟩
  rw [← hn0] at HV hn LG hc1 ⊢
  have HN := hid hn0
  have HB0 := hid (Below.refl w.heap.size w)
  clear hv hV hE hn0
  by_cases h20 : 20 < n
  · have hz20 : (20 : Int) < (n : Int) := by omega
    go_enter Tryz.func6, Tryz.ntmps6
    go_wp2
    go_ret
    exact ⟨rfl, HB0.out⟩
  have hz20 : (n : Int) ≤ 20 := by omega
  have d20 : decide ((20 : Int) < (n : Int)) = false := decide_eq_false (by omega)
  by_cases hb : longB L = true
  · rw [hb] at LG
    go_enter Tryz.func6, Tryz.ntmps6
    go_wp2_with fail
    refine LG.out.mono ?_
    rintro e w2 ⟨rfl, q, rfl⟩
    go_wp2
    go_ret
    exact ⟨rfl, below_drawn HB0.out _⟩
  have hb : longB L = false := by
    cases h : longB L with
    | true => exact absurd h hb
    | false => rfl
  rw [hb] at LG
  have hnl := not_long hb
  have MY := hid (fun W hv hV => mayL_any L W (.slice a n cap) hv hnl.2 hnl.1 hV)
  obtain ⟨b, hb2⟩ : ∃ b, b = mayB L := ⟨_, rfl⟩
  rw [← hb2] at MY
  clear hb hnl
  cases b
  · go_enter Tryz.func6, Tryz.ntmps6
    go_wp2_with fail
    refine LG.out.mono ?_
    rintro e w2 ⟨rfl, q, rfl⟩
    go_wp2_with fail
    refine (MY.out _ (HV.out.drawn q) (HVV.out.keep (below_drawn HB0.out _))).mono ?_
    rintro e w3 ⟨rfl, hlow⟩
    have HB3 := hid (below_then (below_drawn HB0.out q) hlow)
    clear hlow
    go_wp2
    go_ret
    exact ⟨rfl, HB3.out⟩
  obtain ⟨M, hM, hMt⟩ := may_nat hb2.symm
  subst hM
  have HMT := hid hMt
  rw [List.length_map] at HN
  clear hMt hb2 hlow
  by_cases h0 : z < 0
  · go_enter Tryz.func6, Tryz.ntmps6
    go_wp2_with fail
    refine LG.out.mono ?_
    rintro e w2 ⟨rfl, q, rfl⟩
    go_wp2_with fail
    refine (MY.out _ (HV.out.drawn q) (HVV.out.keep (below_drawn HB0.out _))).mono ?_
    rintro e w3 ⟨rfl, hlow⟩
    have HB3 := hid (below_then (below_drawn HB0.out q) hlow)
    clear hlow
    go_wp2
    go_ret
    exact ⟨rfl, HB3.out⟩
  obtain ⟨k, rfl⟩ : ∃ k : Nat, z = k := ⟨z.toNat, by omega⟩
  have h0z : (0 : Int) ≤ (k : Int) := by omega
  have d0z : decide ((k : Int) < 0) = false := decide_eq_false (by omega)
  by_cases hk : n < k
  · have hkz : (n : Int) < (k : Int) := by omega
    go_enter Tryz.func6, Tryz.ntmps6
    go_wp2_with fail
    refine LG.out.mono ?_
    rintro e w2 ⟨rfl, q, rfl⟩
    go_wp2_with fail
    refine (MY.out _ (HV.out.drawn q) (HVV.out.keep (below_drawn HB0.out _))).mono ?_
    rintro e w3 ⟨rfl, hlow⟩
    have HB3 := hid (below_then (below_drawn HB0.out q) hlow)
    clear hlow
    go_wp2
    go_ret
    exact ⟨rfl, HB3.out⟩
  have hkz : (k : Int) ≤ (n : Int) := by omega
  have dkz : decide ((n : Int) < (k : Int)) = false := decide_eq_false (by omega)
  by_cases hm2 : 200 < more.length
  · have hmz : (200 : Int) < (more.length : Int) := by omega
    go_enter Tryz.func6, Tryz.ntmps6
    go_wp2_with fail
    refine LG.out.mono ?_
    rintro e w2 ⟨rfl, q, rfl⟩
    go_wp2_with fail
    refine (MY.out _ (HV.out.drawn q) (HVV.out.keep (below_drawn HB0.out _))).mono ?_
    rintro e w3 ⟨rfl, hlow⟩
    have HB3 := hid (below_then (below_drawn HB0.out q) hlow)
    clear hlow
    go_wp2
    go_ret
    exact ⟨rfl, HB3.out⟩
  have hmz : (more.length : Int) ≤ 200 := by omega
  have dmz : decide ((200 : Int) < (more.length : Int)) = false := decide_eq_false (by omega)
  obtain ⟨P1, hP1⟩ : ∃ P, P = Tm.printL (M.take k) := ⟨_, rfl⟩
  obtain ⟨P2, hP2⟩ : ∃ P, P = Tm.printL (M.drop k) := ⟨_, rfl⟩
  have hl1 : P1.length ≤ 20000 := by
    rw [hP1]
    have := printL_len (L := M.take k) (fun t ht => HMT.out t (List.mem_of_mem_take ht))
    rw [List.length_take] at this
    have := HN.out
    omega
  have hl2 : P2.length ≤ 20000 := by
    rw [hP2]
    have := printL_len (L := M.drop k) (fun t ht => HMT.out t (List.mem_of_mem_drop ht))
    rw [List.length_drop] at this
    have := HN.out
    omega
  have RP1 := hid (fun W u (hu : TrisAt W u ((M.map ofT).take k)) => show Calls Tryz.prog 18 #[u] W fun e w' => e = .returned (str P1) ∧ Below W.heap.size W w' by
    rw [hP1]
    refine rprint_any (M.take k) (fun t ht => HMT.out t (List.mem_of_mem_take ht)) (by rw [List.length_take]; have := HN.out; omega) W u ?_
    rw [List.map_take]; exact hu)
  have RP2 := hid (fun W u (hu : TrisAt W u ((M.map ofT).drop k)) => show Calls Tryz.prog 18 #[u] W fun e w' => e = .returned (str P2) ∧ Below W.heap.size W w' by
    rw [hP2]
    refine rprint_any (M.drop k) (fun t ht => HMT.out t (List.mem_of_mem_drop ht)) (by rw [List.length_drop]; have := HN.out; omega) W u ?_
    rw [List.map_drop]; exact hu)
  have HPL := hid (show Tm.plU (P1 ++ badL ++ P2 ++ more) 0 [] = (2, k + 1, []) by
    rw [hP1, List.append_assoc]
    exact wrong_parse M HMT.out k (by rw [← HN.out]; omega) (by rw [← HN.out]; omega) _)
  have lb : badL.length = 10 := rfl
  have l1 : (P1 ++ badL).length ≤ 40000 := by rw [List.length_append, lb]; omega
  have l2 : (P1 ++ badL ++ P2).length ≤ 60000 := by simp only [List.length_append, lb]; omega
  have hSl : (P1 ++ badL ++ P2 ++ more).length ≤ 70000 := by simp only [List.length_append, lb]; omega
  have HPP := hid (And.intro hP1 hP2)
  clear hP1 hP2 lb
  go_enter Tryz.func6, Tryz.ntmps6
  go_wp2_with fail
  refine LG.out.mono ?_
  rintro e w2 ⟨rfl, q, rfl⟩
  go_wp2_with fail
  refine (MY.out _ (HV.out.drawn q) (HVV.out.keep (below_drawn HB0.out _))).mono ?_
  rintro e w3 ⟨rfl, hlow⟩
  have HB3 := hid (below_then (below_drawn HB0.out q) hlow)
  clear hlow
  go_upto_region 3 with fail
  have HV3 := hid (HV.out.keep HB3.out)
  go_cut [7] (fun s7 wx => s7 = str (P1 ++ badL ++ P2 ++ more) ∧ Hid (Below w.heap.size w wx))
  case first =>
    have K1 := hid (fun p : Later w3.heap.size w3 => HV3.out.keep p.low)
    rcases Nat.eq_zero_or_pos n with hn0 | hn0
    · have hk0 : k = 0 := by omega
      subst hk0
      subst hn0
      have hMn : M = [] := List.eq_nil_of_length_eq_zero HN.out.symm
      subst hMn
      have e12 : P1 = P2 := by rw [HPP.out.1, HPP.out.2]; rfl
      subst e12
      have F1 : ∀ p : Later w3.heap.size w3, TrisAt p.it (.slice a 0 cap) ((([] : List TR).map ofT).take 0) := fun p => K1 p
      have F2 : ∀ p : Later w3.heap.size w3, TrisAt p.it (.slice a 0 cap) ((([] : List TR).map ofT).drop 0) := fun p => K1 p
      rcases a with _ | ad
      · obtain rfl : cap = 0 := hc3 rfl
        clear K1
        refine wp_region_later w3.heap.size (by kernel_rfl) (by kernel_rfl) ?_
        repeat (go_big_quiet_step (first | (go_at_call 18; with_reducible exact Later.call (Nat.le_refl _) (RP1.out _ _ (F1 _))) | (go_at_call 18; with_reducible exact Later.call (Nat.le_refl _) (RP2.out _ _ (F2 _)))))
        refine wpQuiet_nil ?_
        rintro wq ⟨q, hq⟩
        have HBq := hid (show Below w.heap.size w wq by rw [hq]; exact below_then HB3.out q.low)
        clear hq q
        go_wp2_with fail
        go_meet
        exact ⟨by simp [str, ba_app, badL], HBq.out⟩
      · clear K1
        refine wp_region_later w3.heap.size (by kernel_rfl) (by kernel_rfl) ?_
        repeat (go_big_quiet_step (first | (go_at_call 18; with_reducible exact Later.call (Nat.le_refl _) (RP1.out _ _ (F1 _))) | (go_at_call 18; with_reducible exact Later.call (Nat.le_refl _) (RP2.out _ _ (F2 _)))))
        refine wpQuiet_nil ?_
        rintro wq ⟨q, hq⟩
        have HBq := hid (show Below w.heap.size w wq by rw [hq]; exact below_then HB3.out q.low)
        clear hq q
        go_wp2_with fail
        go_meet
        exact ⟨by simp [str, ba_app, badL], HBq.out⟩
    · obtain ⟨bl, off, rfl, hrow⟩ := HV3.out.get (i := 0) (by rw [List.length_map, ← HN.out]; exact hn0)
      clear hrow
      have F1 : ∀ p : Later w3.heap.size w3, TrisAt p.it (.slice (some ⟨bl, off, none⟩) k cap) ((M.map ofT).take k) := fun p => TrisAt.front (K1 p) k (by omega)
      by_cases hck : cap = k
      · subst hck
        obtain rfl : n = cap := by omega
        have F2 : ∀ p : Later w3.heap.size w3, TrisAt p.it (.slice (some ⟨bl, off, none⟩) 0 0) ((M.map ofT).drop n) := fun p => by
          rw [List.drop_eq_nil_of_le (by rw [List.length_map, ← HN.out]; exact Nat.le_refl _)]
          exact ⟨_, 0, rfl, Nat.le_refl _, Nat.zero_le _, (fun h => rfl), .inl rfl⟩
        clear K1
        refine wp_region_later w3.heap.size (by kernel_rfl) (by kernel_rfl) ?_
        repeat (go_big_quiet_step (first | (go_at_call 18; with_reducible exact Later.call (Nat.le_refl _) (RP1.out _ _ (F1 _))) | (go_at_call 18; with_reducible exact Later.call (Nat.le_refl _) (RP2.out _ _ (F2 _)))))
        refine wpQuiet_nil ?_
        rintro wq ⟨q, hq⟩
        have HBq := hid (show Below w.heap.size w wq by rw [hq]; exact below_then HB3.out q.low)
        clear hq q
        go_wp2_with fail
        go_meet
        exact ⟨by simp [str, ba_app, badL], HBq.out⟩
      · have hck2 : k < cap := by omega
        have F2 : ∀ p : Later w3.heap.size w3, TrisAt p.it (.slice (some ⟨bl, off + k * 9, none⟩) (n - k) (cap - k)) ((M.map ofT).drop k) := fun p => TrisAt.back (K1 p) k (by omega)
        clear K1
        refine wp_region_later w3.heap.size (by kernel_rfl) (by kernel_rfl) ?_
        repeat (go_big_quiet_step (first | (go_at_call 18; with_reducible exact Later.call (Nat.le_refl _) (RP1.out _ _ (F1 _))) | (go_at_call 18; with_reducible exact Later.call (Nat.le_refl _) (RP2.out _ _ (F2 _)))))
        refine wpQuiet_nil ?_
        rintro wq ⟨q, hq⟩
        have HBq := hid (show Below w.heap.size w wq by rw [hq]; exact below_then HB3.out q.low)
        clear hq q
        go_wp2_with fail
        go_meet
        exact ⟨by simp [str, ba_app, badL], HBq.out⟩
  case rest =>
  obtain ⟨rfl, HB4⟩ := hcut
  obtain ⟨S, hS⟩ : ∃ S, S = P1 ++ badL ++ P2 ++ more := ⟨_, rfl⟩
  rw [← hS] at hSl HPL ⊢
  clear hS l1 l2
  by_cases hS2 : 20000 < S.length
  · have hSz : (20000 : Int) < (S.length : Int) := by omega
    go_wp2
    go_ret
    exact ⟨rfl, HB4.out⟩
  have hSz : (S.length : Int) ≤ 20000 := by omega
  have PP := hid (fun W h1 h2 => pparse_any S W h1 h2 (by omega) _ HPL.out)
  clear hSl HPL RP1 RP2 hS2
  go_wp2_with fail
  refine (PP.out _ (HVV.out.keep HB4.out) (HE.out.keep HB4.out)).mono ?_
  rintro e w5 ⟨v5, rfl, hv5, hlow⟩
  simp only at hv5
  rw [if_neg (by decide)] at hv5
  obtain ⟨a5, c5, rfl⟩ := tris_nil_len hv5
  have HB5 := hid (below_then HB4.out hlow)
  clear hv5 hlow
  have wk : IntKind.i64.wrap ((k : Int) + 1) = (k : Int) + 1 := by rw [IntKind.wrap_i64]; omega
  go_wp2_with fail
  refine (KN.out _ (HVV.out.keep HB5.out) (HE.out.keep HB5.out)).mono ?_
  rintro e w6 ⟨rfl, hlow⟩
  have HB6 := hid (below_then HB5.out hlow)
  clear hlow
  go_wp2
  go_ret
  exact ⟨rfl, HB6.out⟩
theorem linesWrong_walk (H : Type) (enc : TypeId × Value → H) (W : World) (base : Nat) (args : Array Value) (ds gs : List (DataW H)) (before : List MemPlace)
    (hval : ∀ (j : Nat) t v, Tryz.f6.params[j]? = some t → args[j]? = some v → Value.okWide Tryz.prog W .any base t v)
    (hW : DataW.Whole enc Tryz.prog Tryz.f6.params.toList Rows.linesWrongSpec.vars false W args.toList ds gs before)
    (hz : (DataW.weightsEach Tryz.prog (Tryz.f6.params.toList ++ Rows.linesWrongSpec.plain.varTypes Tryz.prog) (ds ++ gs)).all (· ≤ reachBytes) = true)
    (hL : laidMetH Tryz.prog Rows.linesWrongRow.laid W) (hsh : W.ShapedOpen Tryz.prog) :
    Calls Tryz.prog 6 args W fun e W' => e = .returned (.bool true) ∧ Below W.heap.size W W' := by
  obtain ⟨p, q, hA, _, _, _, _⟩ := hW
  rw [Tryz.params6] at hA hval
  rw [Tryz.params6] at hz
  obtain ⟨v0, vs0, d0, ds0, p0, q0, hargs, rfl, rfl, h0, r0⟩ := trodAll_cons hA
  obtain ⟨v1, vs1, d1, ds1, p1, q1, rfl, rfl, rfl, h1, r1⟩ := trodAll_cons r0
  obtain ⟨v2, vs2, d2, ds2, p2, q2, rfl, rfl, rfl, h2, r2⟩ := trodAll_cons r1
  obtain ⟨rfl, rfl, rfl⟩ := trodAll_nil r2
  obtain rfl : args = #[v0, v1, v2] := by cases args; simp_all
  obtain ⟨L, hv, hlow, hn⟩ := arg_tris (hval 0 22 v0 rfl rfl) h0 (sized_arg hz (j := 0) (t := 22) (d := d0) rfl rfl)
  obtain ⟨x1, rfl, rfl, rfl, w1⟩ := open_int Tryz.underlying3 (hval 1 3 v1 rfl rfl) h1
  obtain ⟨x2, rfl, rfl, rfl, w2⟩ := Go.ChangeMaps.open_string Tryz.underlying9 (hval 2 9 v2 rfl rfl) h2
  rw [str_of x2]
  obtain ⟨hV, hE⟩ := vars5_of hL hsh
  exact linesWrong_any L x1 x2.data.toList W v0 hv hlow hn (bounds_i64 w1) (by rw [show x2.data.toList.length = x2.size from Array.length_toList]; unfold maxLen at w2; omega) hV hE

theorem linesWrong_lifted (os : Os) (started : os.Started) (H : Type) (enc : TypeId × Value → H) (F : Stop.Interp) :
    ReturnsInHanded {} Tryz.checked os 6 .any ((OpenSpec.ofChange Rows.linesWrongSpec).preRow enc Tryz.prog Tryz.f6 Rows.linesWrongRow.domain false Rows.linesWrongRow.laid) (((OpenSpec.ofChange Rows.linesWrongSpec).at F).post enc Tryz.prog Tryz.f6 false true false false) := by
  obtain ⟨places, hx⟩ : ∃ places, DataW.whole enc Tryz.prog ((laidWorld os).forCall (fun _ _ => 0) ⟨#[], #[.slice none 0 0, .int .i64 0, .string ByteArray.empty], []⟩).memory Tryz.f6.params.toList Rows.linesWrongSpec.vars false (#[.slice none 0 0, .int .i64 0, .string ByteArray.empty] : Array Value).toList 8 = some ([.nil, .lit (.int .i64 0), .lit (.string [])], [], places) := ⟨[], by kernel_rfl⟩
  refine returnsInHanded_of_row (C := Tryz.checked) (s := OpenSpec.ofChange Rows.linesWrongSpec) own started (by kernel_rfl) Tryz.func6
    (witness_shaped_row (enc := enc) (C := Tryz.checked) false (laidWorld os) #[.slice none 0 0, .int .i64 0, .string ByteArray.empty] (World.laidAll_os _ _ _) (World.shaped_of_ZipB (by kernel_rfl) (by kernel_rfl)) (by kernel_rfl)
      (OpenSpec.preRow_of_cond 8 hx (by kernel_rfl) (fun k hk => by cases hk) (by kernel_rfl) (laid_met os _))) ?_
  intro W base args ds gs before hval hW _ _ hz hL hsh _
  refine (linesWrong_walk H enc W base args ds gs before hval hW hz hL hsh).mono fun e W' ⟨he, hb⟩ => ⟨_, he, ?_⟩
  exact law_post (fn := Tryz.f6) (s := Rows.linesWrongSpec) (tb := 4) rfl (fun ds hd => by match ds, hd with | [d0, d1, d2], _ => rfl) rfl Tryz.underlying4 (by kernel_rfl) hW hb

theorem linesWrong_said : Rows.LinesWrongSaid :=
  OpenClaim.holds_of_cond 6 Tryz.f6 rfl rfl rfl rfl rfl rfl rfl ⟨rfl, rfl, rfl, rfl, rfl⟩ rfl rfl rfl rfl rfl (by kernel_rfl) Tryz.func6 (by kernel_rfl)
    (of_decide_eq_true (by kernel_rfl)) (by unfold Func.isWrapper; first | (rw [if_pos (by decide +kernel)]; kernel_rfl) | (rw [if_neg (by decide +kernel)]; exact ⟨rfl, rfl⟩))
    (fun os started H enc _ F => by rw [OpenClaim.pre_eq_preRow]; exact linesWrong_lifted os started H enc F)

theorem linesWrong_plain (f : FuncId) (fn : Func) (hf : Tryz.pinned.checked.prog.funcNamed Rows.linesWrongRow.func = some f) (hfn : Tryz.pinned.checked.prog.funcs[f]? = some fn) :
    true = Tryz.pinned.checked.prog.looks [] ∧ ∀ (j : Nat) t, fn.params[j]? = some t → Tryz.pinned.checked.prog.wantsStandIn t = false := by
  obtain rfl : f = 6 := Option.some.inj ((show Tryz.prog.funcNamed Rows.linesWrongRow.func = some 6 by kernel_rfl).symm.trans hf) |>.symm
  obtain rfl : fn = Tryz.f6 := (Option.some.inj (Tryz.func6.symm.trans hfn)).symm
  refine ⟨by kernel_rfl, fun j t ht => ?_⟩
  have h := Array.mem_of_getElem? ht
  have hall : Tryz.f6.params.all (fun t => !Tryz.prog.wantsStandIn t) = true := by kernel_rfl
  have := Array.all_eq_true_iff_forall_mem.1 hall t h
  show Tryz.prog.wantsStandIn t = false
  simpa using this

/-- THE STATEMENT. -/
theorem linesWrong_card : Rows.LinesWrongCardSaid :=
  Claim7.holds_tied_plain_at .later [] _ _ _ _ linesWrong_said (fun _ h => by cases h) (by kernel_rfl) (fun _ h => by cases h) linesWrong_row_tie rfl ⟨rfl, rfl⟩ (by kernel_rfl) rfl linesWrong_plain (by kernel_rfl)
end Go.Proofs.YtmfnbmbedplgcaaGreatDoor
