/- AutoMaybe: a maybe has the word of no steps, and else just the words of its Kid, for every path and word. -/
import Derived.Test.YtobcbaeoedpefaaDoorAuLaid
import Derived.Test.YtobcbaeoedpefaaDoorRfNew
namespace Go.Proofs.YtobcbaeoedpefaaDoor
set_option linter.unusedVariables false
set_option linter.unusedSimpArgs false
set_option maxRecDepth 100000
open Go.ChangeShapes Go.WideShapes Go.ChangeAt Go.RowKit
open Au
theorem wf_less {x : Pt} : ∀ {d : Nat}, x.wf (d + 1) = true → x.wf d = true := by
  induction x using Pt.ind with
  | h k t L K ih =>
    intro d h
    rw [wf_mk] at h ⊢
    simp only [Bool.and_eq_true, decide_eq_true_eq, Pt.wfs_all] at h ⊢
    exact ⟨⟨⟨by omega, h.1.1.2⟩, h.1.2⟩, fun y hy => ih y hy (h.2 y hy)⟩
theorem kid_may {k : Int} {x : Pt} (h : (Pt.mk k [] [] [x]).may = true) : x.may = true := by
  unfold Pt.may at h
  rw [wf_mk, size_mk] at h
  simp only [Bool.and_eq_true, Pt.wfs_all, Pt.sizes] at h
  have h1 := h.1.2 x (by simp)
  unfold Pt.may
  rw [Bool.and_eq_true, decide_eq_true_eq]
  have h2 : 1 + (x.size + 0) ≤ 30 := of_decide_eq_true h.2
  exact ⟨wf_less h1, by omega⟩
theorem rx_maybe (x : Pt) : (Pt.mk 7 [] [] [x]).rx false = .maybe (x.rx false) := by rw [Pt.rx]; rfl
theorem cnt_maybe (a : Rx) : Rx.cnt (.maybe a) = Rx.cnt a := rfl
theorem has_maybe (a : Rx) (w : List S) : (Rx.maybe a).has w = (w.isEmpty || a.has w) := by
  rw [Bool.eq_iff_iff, Rx.has_lang, Bool.or_eq_true, List.isEmpty_iff, Rx.has_lang]; rfl
theorem word_empty (L : List Stp) : (wordOf L).isEmpty = decide (L.length = 0) := by cases L <;> simp [wordOf]
set_option maxHeartbeats 16000000 in
theorem autoMaybe_any (x : Pt) (v u y : Value) (L : List Stp) (w : World) (hP : PtAt w v u x) (hL : StepsAt w y L) (hlow : ∀ t ∈ L, t.low) (hT : T8 w) :
    Calls Tryd.prog 12 #[pv x v u, y] w fun e w' => e = .returned (.bool true) ∧ Below w.heap.size w w' := by
  obtain ⟨a0, n0, c0, a1, n1, c1, rfl, rfl⟩ := pv_open hP
  obtain ⟨ya, yc, rfl, hyl, hym⟩ := hL.open
  obtain ⟨w1, hw1⟩ : ∃ w1, w1 = w.alloc (.cells #[.int .i64 x.kind, str x.text, .slice a0 n0 c0, .slice a1 n1 c1] 25) := ⟨_, rfl⟩
  obtain ⟨w2, hw2⟩ : ∃ w2, w2 = (w1.alloc (.cells #[.int .i64 x.kind, str x.text, .slice a0 n0 c0, .slice a1 n1 c1] 25)).alloc (.cells #[.int .i64 7, .string ⟨#[]⟩, .slice none 0 0, .slice (some ⟨w1.heap.size, 0, none⟩) 1 1] 25) := ⟨_, rfl⟩
  have hb1 : Below w.heap.size w w1 := by rw [hw1]; exact (Below.refl _ _).alloc (Nat.le_refl _) _
  have hb2 : Below w1.heap.size w1 w2 := by rw [hw2]; exact ((Below.refl _ _).alloc (Nat.le_refl _) _).alloc (by simp) _
  have hX : Blk w1 w.heap.size [.int .i64 x.kind, str x.text, .slice a0 n0 c0, .slice a1 n1 c1] 25 := by rw [hw1]; exact Blk.new w _ _
  have k0 : Blk w2 w1.heap.size [.int .i64 x.kind, str x.text, .slice a0 n0 c0, .slice a1 n1 c1] 25 := by rw [hw2]; exact (Blk.new w1 _ _).alloc _
  have k1 : Blk w2 (w1.heap.size + 1) [.int .i64 7, .string ⟨#[]⟩, .slice none 0 0, .slice (some ⟨w1.heap.size, 0, none⟩) 1 1] 25 := by rw [hw2]; exact Blk.new' (by simp) rfl
  have hb02 := below_then hb1 hb2
  have hP2 := hP.keep hb02
  have hQ2 := pt_one 7 (by decide) k0 hP2
  have BG := big_any _ w2 _ _ 0 hP2 (by omega)
  have WD := hid fun W (hb : Below w2.heap.size w2 W) => word_any _ L W ((hL.keep hb02).keep hb) hlow
  unfold pv at BG ⊢
  obtain ⟨bg, hbg⟩ : ∃ z, z = bigP 0 x := ⟨_, rfl⟩
  obtain ⟨wd, hwd⟩ : ∃ z, z = wordB L := ⟨_, rfl⟩
  rw [← hbg] at BG
  rw [← hwd] at WD
  have BG := hid BG
  have HB02 := hid hb02
  have HP2 := hid hP2
  have HQ2 := hid hQ2
  have HL2 := hid (hL.keep hb02)
  have HT2 := hid (hT.keep hb02)
  have HWD := hid hwd
  have HX2 := hid (hX.keep hb2)
  have HK1 := hid k1
  obtain ⟨x0, x1, x2, x3⟩ := blk4 hX
  obtain ⟨m, hm⟩ : ∃ m, m = L.length := ⟨_, rfl⟩
  have HML := hid hm
  rw [← hm] at WD hyl ⊢
  clear hb1 hb2 hX k0 k1 hP2 hQ2 hP hL hT hwd hm hbg hb02
  have early : Hid (∀ e w3, e = Ending.returned (.bool true) → Below w2.heap.size w2 w3 → e = .returned (.bool true) ∧ Below w.heap.size w w3) := fun e w3 h hb => ⟨h, below_then HB02.out hb⟩
  have hm8' : m ≤ 9223372036854775807 := by unfold maxLen at hym; omega
  obtain ⟨p0, p1, p2, p3⟩ := blk4 HX2.out
  obtain ⟨q0, q1, q2, q3⟩ := blk4 HK1.out
  cases bg
  case true =>
    go_enter Tryd.func12, Tryd.ntmps12
    go_upto_region 1 with fail
    rw [← hw1]
    clear hw1
    go_upto_region 2 with fail
    rw [← hw2]
    clear hw2 x0 x1 x2 x3
    go_wp2_with (go_at_call 13; refine BG.out.mono ?_; rintro e w3 ⟨rfl, hb3⟩)
    go_ret
    exact early.out _ _ rfl hb3
  cases wd
  case false =>
    go_enter Tryd.func12, Tryd.ntmps12
    go_upto_region 1 with fail
    rw [← hw1]
    clear hw1
    go_upto_region 2 with fail
    rw [← hw2]
    clear hw2 x0 x1 x2 x3
    go_wp2_with (first
      | (go_at_call 13; refine BG.out.mono ?_; rintro e w3 ⟨rfl, hb3⟩; have HB3 := hid hb3; clear hb3)
      | (go_at_call 22; refine (WD.out _ HB3.out).mono ?_; rintro e wq ⟨rfl, hw⟩; rw [hw]; clear hw wq))
    go_ret
    exact early.out _ _ rfl HB3.out
  go_enter Tryd.func12, Tryd.ntmps12
  go_upto_region 1 with fail
  rw [← hw1]
  clear hw1
  go_upto_region 2 with fail
  rw [← hw2]
  clear hw2 x0 x1 x2 x3
  go_upto_region 4 with (first
    | (go_at_call 13; refine BG.out.mono ?_; rintro e w3 ⟨rfl, hb3⟩; have p0 := below_keep hb3 p0; have p1 := below_keep hb3 p1; have p2 := below_keep hb3 p2; have p3 := below_keep hb3 p3; have q0 := below_keep hb3 q0; have q1 := below_keep hb3 q1; have q2 := below_keep hb3 q2; have q3 := below_keep hb3 q3; have HB3 := hid hb3; clear hb3)
    | (go_at_call 22; refine (WD.out _ HB3.out).mono ?_; rintro e wq ⟨rfl, hw⟩; rw [hw]; clear hw wq))
  have RN := rnew_any _ _ _ w3 (HQ2.out.keep HB3.out) (HT2.out.keep HB3.out)
  unfold pv at RN
  simp only [Pt.kind, Pt.text] at RN
  have RN := hid RN
  go_wp2_with fail
  refine RN.out.mono ?_
  rintro e w4 ⟨hb4, hres⟩
  have HB4 := hid (below_then HB3.out hb4)
  have p0 := below_keep hb4 p0
  have p1 := below_keep hb4 p1
  have p2 := below_keep hb4 p2
  have p3 := below_keep hb4 p3
  have q0 := below_keep hb4 q0
  have q1 := below_keep hb4 q1
  have q2 := below_keep hb4 q2
  have q3 := below_keep hb4 q3
  clear hb4
  rcases hres with ⟨_, rfl⟩ | ⟨_, _, rfl⟩ | ⟨hqm, hqc, pr, rfl, _⟩
  · go_wp2
    go_ret
    exact early.out _ _ rfl HB4.out
  · go_wp2
    go_ret
    exact early.out _ _ rfl HB4.out
  have hxm := kid_may hqm
  have hxc : Rx.cnt (x.rx false) ≤ 200 := by rw [rx_maybe, cnt_maybe] at hqc; exact hqc
  have N1 := new_ok (HP2.out.keep HB4.out) (HT2.out.keep HB4.out) hxm hxc
  have N2 := fun W (hb : Below w2.heap.size w2 W) => new_ok (HQ2.out.keep hb) (HT2.out.keep hb) hqm hqc
  rw [rx_maybe] at N2
  unfold pv at N1 N2
  simp only [Pt.kind, Pt.text] at N1 N2
  have N1 := hid N1
  have N2 := hid N2
  clear hqm hqc hxm hxc RN
  go_wp2_with fail
  refine N1.out.mono ?_
  rintro e w5 ⟨p, rfl, hb5, hA5⟩
  have HB5 := hid (below_then HB4.out hb5)
  have HA5 := hid hA5
  have q0 := below_keep hb5 q0
  have q1 := below_keep hb5 q1
  have q2 := below_keep hb5 q2
  have q3 := below_keep hb5 q3
  clear hb5 hA5 p0 p1 p2 p3
  go_wp2_with fail
  refine (N2.out _ HB5.out).mono ?_
  rintro e w6 ⟨pq, rfl, hb6, hA6⟩
  have HB6 := hid (below_then HB5.out hb6)
  obtain ⟨r, hrr⟩ : ∃ r, r = x.rx false := ⟨_, rfl⟩
  rw [← hrr] at hA6
  have HPA := hid fun W (hb : Below w6.heap.size w6 W) => (show IsAuto w4.heap.size W p r from by rw [hrr]; exact (HA5.out.keep hb6).keep hb)
  have HQA := hid fun W (hb : Below w6.heap.size w6 W) => (hA6.keep hb)
  have HW := HWD.out
  obtain ⟨hon, hl8⟩ := wordB_ones HW.symm
  have HL6 := hid (HL2.out.keep HB6.out)
  have TA := fun W (hb : Below w6.heap.size w6 W) => takes_au _ _ (HPA.out W hb) (HL6.out.keep hb) hon
  have TB := fun W (hb : Below w6.heap.size w6 W) => takes_au _ _ (HQA.out W hb) (HL6.out.keep hb) hon
  have TN := fun W (hb : Below w6.heap.size w6 W) => takes_au _ _ (HQA.out W hb) (StepsAt.nil W) (fun i hi => absurd hi (by simp))
  have LT := fun W (hb : Below w6.heap.size w6 W) => isauto_last 0 (HQA.out W hb)
  have KN := hid fun W (hb : Below w6.heap.size w6 W) => known_any W (HT2.out.keep (HB6.out.trans (hb.mono HB6.out.size)))
  obtain ⟨z, hz⟩ : ∃ z, z = r.has (wordOf L) := ⟨_, rfl⟩
  have hb1 : (Rx.maybe r).has (wordOf L) = (decide (m = 0) || z) := by rw [has_maybe, word_empty, hz, HML.out]
  have hb2 : (Rx.maybe r).has (wordOf []) = true := by rw [has_maybe]; rfl
  have hb3 : (decide ((0 : Int) ≤ 0) && decide ((0 : Int) < (1 + (Rx.maybe r).n : Nat)) && (Rx.maybe r).endd (0 : Int).toNat) = true := by
    have : (0 : Int) < ((1 + (Rx.maybe r).n : Nat) : Int) := by omega
    simp only [decide_eq_true this]
    rfl
  rw [← HML.out] at TA TB
  rw [← hz] at TA
  rw [hb1] at TB
  rw [hb2] at TN
  rw [hb3] at LT
  have TA := hid TA
  have TB := hid TB
  have TN := hid TN
  have LT := hid LT
  have HB9 := hid (Below.refl w6.heap.size w6)
  clear hb6 hA6 hrr HW hon hl8 hz hb1 hb2 hb3 q0 q1 q2 q3
  by_cases hm0 : m = 0
  · rw [decide_eq_true hm0, Bool.true_or] at TB
    have e1 : (((m : Nat) : Int) == 0) = true := by rw [hm0]; rfl
    clear hm0
    go_wp2_with fail
    refine (TB.out _ HB9.out).mono ?_
    rintro e w10 ⟨rfl, hb⟩
    have HB10 := hid (below_then HB9.out hb)
    clear hb
    go_wp2_with fail
    refine (TN.out _ HB10.out).mono ?_
    rintro e w12 ⟨rfl, hb⟩
    have HB12 := hid (below_then HB10.out hb)
    clear hb
    go_wp2_with (first
      | (go_at_call 21; refine (LT.out _ HB12.out).mono ?_; rintro e wq ⟨rfl, hw⟩; rw [hw]; clear hw wq)
      | (go_at_call 16; refine (KN.out _ HB12.out).mono ?_; rintro e w13 ⟨rfl, hb⟩; have HB13 := hid (below_then HB12.out hb); clear hb))
    go_ret
    exact early.out _ _ rfl (HB6.out.trans (HB13.out.mono HB6.out.size))
  · rw [decide_eq_false hm0, Bool.false_or] at TB
    have e1 : (((m : Nat) : Int) == 0) = false := beq_eq_false_iff_ne.2 (by omega)
    clear hm0
    cases z
    case false =>
      go_wp2_with fail
      refine (TB.out _ HB9.out).mono ?_
      rintro e w10 ⟨rfl, hb⟩
      have HB10 := hid (below_then HB9.out hb)
      clear hb
      go_wp2_with fail
      refine (TA.out _ HB10.out).mono ?_
      rintro e w11 ⟨rfl, hb⟩
      have HB10 := hid (below_then HB10.out hb)
      clear hb
      go_wp2_with fail
      refine (TN.out _ HB10.out).mono ?_
      rintro e w12 ⟨rfl, hb⟩
      have HB12 := hid (below_then HB10.out hb)
      clear hb
      go_wp2_with (first
        | (go_at_call 21; refine (LT.out _ HB12.out).mono ?_; rintro e wq ⟨rfl, hw⟩; rw [hw]; clear hw wq)
        | (go_at_call 16; refine (KN.out _ HB12.out).mono ?_; rintro e w13 ⟨rfl, hb⟩; have HB13 := hid (below_then HB12.out hb); clear hb))
      go_ret
      exact early.out _ _ rfl (HB6.out.trans (HB13.out.mono HB6.out.size))
    case true =>
      go_wp2_with fail
      refine (TB.out _ HB9.out).mono ?_
      rintro e w10 ⟨rfl, hb⟩
      have HB10 := hid (below_then HB9.out hb)
      clear hb
      go_wp2_with fail
      refine (TA.out _ HB10.out).mono ?_
      rintro e w11 ⟨rfl, hb⟩
      have HB10 := hid (below_then HB10.out hb)
      clear hb
      go_wp2_with fail
      refine (TN.out _ HB10.out).mono ?_
      rintro e w12 ⟨rfl, hb⟩
      have HB12 := hid (below_then HB10.out hb)
      clear hb
      go_wp2_with (first
        | (go_at_call 21; refine (LT.out _ HB12.out).mono ?_; rintro e wq ⟨rfl, hw⟩; rw [hw]; clear hw wq)
        | (go_at_call 16; refine (KN.out _ HB12.out).mono ?_; rintro e w13 ⟨rfl, hb⟩; have HB13 := hid (below_then HB12.out hb); clear hb))
      go_ret
      exact early.out _ _ rfl (HB6.out.trans (HB13.out.mono HB6.out.size))

theorem autoMaybe_walk (H : Type) (enc : TypeId × Value → H) (W : World) (base : Nat) (args : Array Value) (ds gs : List (DataW H)) (before : List MemPlace)
    (hval : ∀ (j : Nat) t v, Tryd.f12.params[j]? = some t → args[j]? = some v → Value.okWide Tryd.prog W .any base t v)
    (hW : DataW.Whole enc Tryd.prog Tryd.f12.params.toList Rows.autoMaybeSpec.vars false W args.toList ds gs before)
    (hz : (DataW.weightsEach Tryd.prog (Tryd.f12.params.toList ++ Rows.autoMaybeSpec.plain.varTypes Tryd.prog) (ds ++ gs)).all (· ≤ reachBytes) = true)
    (hL : laidMetH Tryd.prog Rows.autoMaybeRow.laid W) (hsh : W.ShapedOpen Tryd.prog) :
    Calls Tryd.prog 12 args W fun e W' => e = .returned (.bool true) ∧ Below W.heap.size W W' := by
  obtain ⟨p, q, hA, _, _, _, _⟩ := hW
  rw [Tryd.params12] at hA hval
  rw [Tryd.params12] at hz
  obtain ⟨v0, vs0, d0, ds0, p0, q0, hargs, rfl, rfl, h0, r0⟩ := trodAll_cons hA
  obtain ⟨v1, vs1, d1, ds1, p1, q1, rfl, rfl, rfl, h1, r1⟩ := trodAll_cons r0
  obtain ⟨rfl, rfl, rfl⟩ := trodAll_nil r1
  obtain rfl : args = #[v0, v1] := by cases args; simp_all
  obtain ⟨y0, a0, b0, rfl, P0⟩ := arg_pt (hval 0 25 v0 rfl rfl) h0 (sized_arg hz (j := 0) (t := 25) (d := d0) rfl rfl)
  obtain ⟨l1, L1, b1⟩ := arg_steps (hval 1 36 v1 rfl rfl) h1 (sized_arg hz (j := 1) (t := 36) (d := d1) rfl rfl)
  exact autoMaybe_any y0 a0 b0 v1 l1 W P0 L1 b1 (t8_of hL hsh)

theorem autoMaybe_lifted (os : Os) (started : os.Started) (H : Type) (enc : TypeId × Value → H) (F : Stop.Interp) :
    ReturnsInHanded {} Tryd.checked os 12 .any ((OpenSpec.ofChange Rows.autoMaybeSpec).preRow enc Tryd.prog Tryd.f12 Rows.autoMaybeRow.domain false Rows.autoMaybeRow.laid) (((OpenSpec.ofChange Rows.autoMaybeSpec).at F).post enc Tryd.prog Tryd.f12 false true false false) := by
  obtain ⟨places, hx⟩ : ∃ places, DataW.whole enc Tryd.prog ((laidWorld os).forCall (fun _ _ => 0) ⟨#[], #[.agg #[.int .i64 0, .string ByteArray.empty, .slice none 0 0, .slice none 0 0], .slice none 0 0], []⟩).memory Tryd.f12.params.toList Rows.autoMaybeSpec.vars false (#[.agg #[.int .i64 0, .string ByteArray.empty, .slice none 0 0, .slice none 0 0], .slice none 0 0] : Array Value).toList 8 = some ([.agg [.lit (.int .i64 0), .lit (.string []), .nil, .nil], .nil], [], places) := ⟨[], by kernel_rfl⟩
  refine returnsInHanded_of_row (C := Tryd.checked) (s := OpenSpec.ofChange Rows.autoMaybeSpec) own started (by kernel_rfl) Tryd.func12
    (witness_row_at (enc := enc) (C := Tryd.checked) false (laidWorld os) #[.agg #[.int .i64 0, .string ByteArray.empty, .slice none 0 0, .slice none 0 0], .slice none 0 0] rfl (by kernel_rfl) (by kernel_rfl) (by kernel_rfl)
      (OpenSpec.preRow_of_cond 8 hx (by kernel_rfl) (fun k hk => by cases hk) (by kernel_rfl) (laidMet_of_run' 8 (by kernel_rfl) (by kernel_rfl)))) ?_
  intro W base args ds gs before hval hW _ _ hz hL hsh _
  refine (autoMaybe_walk H enc W base args ds gs before hval hW hz hL hsh).mono fun e W' ⟨he, hb⟩ => ⟨_, he, ?_⟩
  exact law_post (fn := Tryd.f12) (s := Rows.autoMaybeSpec) (tb := 4) rfl (fun ds hd => by match ds, hd with | [d0, d1], _ => rfl) rfl Tryd.underlying4 (by kernel_rfl) hW hb

theorem autoMaybe_said : Rows.AutoMaybeSaid :=
  OpenClaim.holds_of_cond 12 Tryd.f12 rfl rfl rfl rfl rfl rfl rfl ⟨rfl, rfl, rfl, rfl, rfl⟩ rfl rfl rfl rfl rfl (by kernel_rfl) Tryd.func12 (by kernel_rfl)
    (of_decide_eq_true (by kernel_rfl)) (by unfold Func.isWrapper; first | (rw [if_pos (by decide +kernel)]; kernel_rfl) | (rw [if_neg (by decide +kernel)]; exact ⟨rfl, rfl⟩))
    (fun os started H enc _ F => by rw [OpenClaim.pre_eq_preRow]; exact autoMaybe_lifted os started H enc F)

theorem autoMaybe_plain (f : FuncId) (fn : Func) (hf : Tryd.pinned.checked.prog.funcNamed Rows.autoMaybeRow.func = some f) (hfn : Tryd.pinned.checked.prog.funcs[f]? = some fn) :
    false = Tryd.pinned.checked.prog.looks [] ∧ ∀ (j : Nat) t, fn.params[j]? = some t → Tryd.pinned.checked.prog.wantsStandIn t = false := by
  obtain rfl : f = 12 := Option.some.inj ((show Tryd.prog.funcNamed Rows.autoMaybeRow.func = some 12 by kernel_rfl).symm.trans hf) |>.symm
  obtain rfl : fn = Tryd.f12 := (Option.some.inj (Tryd.func12.symm.trans hfn)).symm
  refine ⟨by kernel_rfl, fun j t ht => ?_⟩
  have h := Array.mem_of_getElem? ht
  have hall : Tryd.f12.params.all (fun t => !Tryd.prog.wantsStandIn t) = true := by kernel_rfl
  have := Array.all_eq_true_iff_forall_mem.1 hall t h
  show Tryd.prog.wantsStandIn t = false
  simpa using this

/-- THE STATEMENT. -/
theorem autoMaybe_card : Rows.AutoMaybeCardSaid :=
  Claim7.holds_tied_plain_at .later [] _ _ _ _ autoMaybe_said (fun _ h => by cases h) (by kernel_rfl) (fun _ h => by cases h) autoMaybe_row_tie rfl ⟨rfl, rfl⟩ (by kernel_rfl) rfl autoMaybe_plain (by kernel_rfl)
end Go.Proofs.YtobcbaeoedpefaaDoor
