/- FrontOne: bytes with an entry that shares fewer bytes than it does, or more than there are, are none, for every input. -/
import Derived.Test.YtdahfejecbcakaaFrRead4
import Derived.Deep.AppendLies
namespace Go.Proofs.Ytdahfejecbcakaa
set_option linter.unusedVariables false
set_option linter.unusedSimpArgs false
set_option maxRecDepth 100000
open Go.ChangeShapes Go.WideShapes Go.ChangeAt Go.RowKit

theorem and_1023 (x : Int) : ∃ A : Nat, A ≤ 1023 ∧ bits BinOp.and IntKind.i64 x 1023 = (A : Int) := by
  refine ⟨((BitVec.ofInt 64 x) &&& 1023#64).toNat, ?_, ?_⟩
  · rw [BitVec.toNat_and]
    exact Nat.and_le_right
  · show IntKind.i64.wrap ((BitVec.ofInt 64 x &&& BitVec.ofInt 64 1023).toNat : Int) = _
    have h : ((BitVec.ofInt 64 x) &&& 1023#64).toNat ≤ 1023 := by rw [BitVec.toNat_and]; exact Nat.and_le_right
    rw [show BitVec.ofInt 64 1023 = 1023#64 from rfl]
    exact IntWalk.i64_in _ ⟨by omega, by omega⟩
theorem getD_set1 (B : List Nat) (q x i : Nat) (hq : q < B.length) : (B.set q x).getD i 0 = if i = q then x else B.getD i 0 := by
  simp only [List.getD, List.getElem?_set]
  by_cases h : i = q
  · subst h; simp [hq]
  · rw [if_neg (Ne.symm h), if_neg h]
theorem Fr.byt_split (L : List (List UInt8)) (i : Nat) : ∀ k, i < k → ∃ R, Fr.byt L k = Fr.byt L i ++ (Fr.enc L i ++ R) := by
  intro k
  induction k with
  | zero => intro h; omega
  | succ k ih =>
    intro h
    by_cases e : i = k
    · exact ⟨[], by rw [e]; show Fr.byt L k ++ Fr.enc L k = _; rw [List.append_nil]⟩
    · obtain ⟨R, hR⟩ := ih (by omega)
      exact ⟨R ++ Fr.enc L k, by show Fr.byt L k ++ Fr.enc L k = _; rw [hR]; simp⟩
theorem Fr.byt_entry (L : List (List UInt8)) {i k : Nat} (h : i < k) : (Fr.byt L k).getD (Fr.byt L i).length 0 = Fr.shAt L i ∧ (Fr.byt L k).getD ((Fr.byt L i).length + 1) 0 = (Fr.at_ L i).length - Fr.shAt L i ∧ (Fr.byt L (i + 1)).length = (Fr.byt L i).length + 2 + ((Fr.at_ L i).length - Fr.shAt L i) ∧ (Fr.byt L i).length + 2 ≤ (Fr.byt L k).length := by
  obtain ⟨R, hR⟩ := Fr.byt_split L i k h
  refine ⟨?_, ?_, ?_, ?_⟩
  · rw [hR, getD_right (Nat.le_refl _), Nat.sub_self]; rfl
  · rw [hR, getD_right (by omega), Nat.add_sub_cancel_left]; rfl
  · show (Fr.byt L i ++ Fr.enc L i).length = _
    rw [List.length_append, Fr.enc_len]; omega
  · rw [hR, List.length_append, List.length_append, Fr.enc_len]; omega
theorem one_out (v : Value) (L : List (List UInt8)) (at0 by0 : Int) (W : World) (hT : TextsAt W v L) (hl : ∀ i, (L.getD i []).length ≤ 140737488351232) (hn : L.length ≤ 9223372036854775806)
    (h : 20000 < Fr.lsum L L.length ∨ (Fr.lsum L L.length ≤ 20000 ∧ ¬ Fr.May L) ∨ (Fr.lsum L L.length ≤ 20000 ∧ Fr.May L ∧ L.length < 2) ∨ (Fr.lsum L L.length ≤ 20000 ∧ Fr.May L ∧ 2 ≤ L.length ∧ by0 = 0)) :
    Calls Try.prog 9 #[v, .int .i64 at0, .int .i64 by0] W fun e W' => e = .returned (.bool true) ∧ Below W.heap.size W W' := by
  have LG := hid (long_any v L W hT hl hn)
  have RM := hid (rmay_any v L W hT hl hn)
  obtain ⟨a, cap, rfl, _, _, _, _⟩ := hT.open
  obtain ⟨n, hnn⟩ : ∃ n, n = L.length := ⟨_, rfl⟩
  rcases h with h | ⟨h1, h⟩ | ⟨h1, h2, h⟩ | ⟨h1, h2, h3, h⟩
  · rw [decide_eq_true h] at LG
    clear h RM
    go_enter Try.func9, Try.ntmps9
    go_wp2_with (go_at_call 12; refine LG.out.mono ?_; rintro e w' ⟨rfl, rfl⟩)
    go_ret
    exact ⟨rfl, Below.refl _ _⟩
  · rw [decide_eq_false (by omega)] at LG
    rw [decide_eq_false h] at RM
    clear h1 h
    go_enter Try.func9, Try.ntmps9
    go_wp2_with (first
      | (go_at_call 12; refine LG.out.mono ?_; rintro e w' ⟨rfl, rfl⟩)
      | (go_at_call 14; refine RM.out.mono ?_; rintro e w' ⟨rfl, q, rfl⟩))
    go_ret
    exact ⟨rfl, below_drawn (Below.refl _ _) _⟩
  · rw [decide_eq_false (by omega)] at LG
    rw [decide_eq_true h2] at RM
    rw [← hnn] at LG RM h ⊢
    clear h1 h2 hT hnn hn hl
    go_enter Try.func9, Try.ntmps9
    go_wp2_with (first
      | (go_at_call 12; refine LG.out.mono ?_; rintro e w' ⟨rfl, rfl⟩)
      | (go_at_call 14; refine RM.out.mono ?_; rintro e w' ⟨rfl, q, rfl⟩))
    go_ret
    exact ⟨rfl, below_drawn (Below.refl _ _) _⟩
  · rw [decide_eq_false (by omega)] at LG
    rw [decide_eq_true h2] at RM
    rw [← hnn] at LG RM h3 hn ⊢
    subst h
    clear h1 h2 hT hnn hl
    go_enter Try.func9, Try.ntmps9
    go_wp2_with (first
      | (go_at_call 12; refine LG.out.mono ?_; rintro e w' ⟨rfl, rfl⟩)
      | (go_at_call 14; refine RM.out.mono ?_; rintro e w' ⟨rfl, q, rfl⟩))
    go_ret
    exact ⟨rfl, below_drawn (Below.refl _ _) _⟩
set_option maxHeartbeats 4000000 in
theorem one_in (v : Value) (L : List (List UInt8)) (at0 by0 : Int) (W : World) (hT : TextsAt W v L) (hl : ∀ i, (L.getD i []).length ≤ 140737488351232) (hn : L.length ≤ 9223372036854775806)
    (h1 : Fr.lsum L L.length ≤ 20000) (hm : Fr.May L) (h2 : 2 ≤ L.length) (h3 : by0 ≠ 0) :
    Calls Try.prog 9 #[v, .int .i64 at0, .int .i64 by0] W fun e W' => e = .returned (.bool true) ∧ Below W.heap.size W W' := by
  have LG := hid (long_any v L W hT hl hn)
  rw [decide_eq_false (by omega)] at LG
  have RM := hid (rmay_any v L W hT hl hn)
  rw [decide_eq_true hm] at RM
  have RB := hid (fun w h => rbytes_any v L w h hm)
  have KN := hid (fun W => known_any W)
  have HT := hid hT
  have HM := hid hm
  have HBL := hid (Fr.byt_len hm L.length (Nat.le_refl _))
  have HLB := hid (byt_getD hm)
  have hby0 : (by0 == 0) = false := beq_eq_false_iff_ne.2 h3
  obtain ⟨a, cap, rfl, _, _, _, _⟩ := hT.open
  obtain ⟨A, hA, hand⟩ := and_1023 at0
  obtain ⟨k, hk⟩ : ∃ k, k = A % L.length := ⟨_, rfl⟩
  have hkn : k < L.length := by rw [hk]; exact Nat.mod_lt _ (by omega)
  have hkI : Int.tmod (A : Int) (L.length : Int) = (k : Int) := by rw [Int.tmod_eq_emod_of_nonneg (by omega), hk, Int.natCast_emod]
  have ENT := hid (fun i (h : i < L.length) => Fr.byt_entry L h)
  have h300 := hm.1
  obtain ⟨n, hnn⟩ : ∃ n, n = L.length := ⟨_, rfl⟩
  rw [← hnn] at LG RM RB HBL HLB h2 hn hkI hkn ENT h300 HT ⊢
  have hkI2 : (A : Int) % (n : Int) = (k : Int) := by rw [← hkI, Int.tmod_eq_emod_of_nonneg (by omega)]
  have hnz : ((n : Int) == 0) = false := beq_eq_false_iff_ne.2 (by omega)
  clear hm hT h1 hl hnn hk h3
  go_enter Try.func9, Try.ntmps9
  go_wp2_with (first
    | (go_at_call 12; refine LG.out.mono ?_; rintro e w' ⟨rfl, rfl⟩)
    | (go_at_call 14; refine RM.out.mono ?_; rintro e w' ⟨rfl, q, rfl⟩))
  refine (RB.out _ (HT.out.keep (below_drawn (Below.refl _ _) q))).mono ?_
  rintro e w1 ⟨v1, rfl, hb1, hown⟩
  have HB1 := hid (below_then (below_drawn (Below.refl W.heap.size W) q) hb1)
  obtain ⟨B, hB⟩ : ∃ B, B = Fr.byt L n := ⟨_, rfl⟩
  rw [← hB] at hown HBL
  have hB2 : 2 ≤ B.length := by
    have := (ENT.out 0 (by omega)).2.2.2
    rw [← hB] at this; omega
  have HBv := hid hB
  have HL := hid (show ∀ i, B.getD i 0 < 256 from by rw [hB]; exact HLB.out)
  obtain ⟨g, cap1, rfl, hge, hgl⟩ := hown.form (by omega)
  have HO := hid hown
  clear hb1 hown hB RB
  have CELL := hid (fun i (h : i < B.length) => show w1.cell? ⟨g, i, none⟩ = some (.int .u8 ((B.getD i 0 : Nat) : Int)) by
    rw [HO.out.cellAt i (by omega)]
    simp [List.getD, h, u8v])
  have F1 := hid (fun i => HO.out.frozenAt i)
  go_wp2_with fail
  go_loop [9, 10] (fun s9 s10 => ∃ i : Nat, i ≤ k ∧ s10 = .int .i64 i ∧ s9 = .int .i64 ((Fr.byt L i).length : Nat)) (fun _ s10 => k - (intOf s10).toNat)
  case atStart => exact ⟨0, by omega, rfl, rfl⟩
  case round =>
    obtain ⟨i, hik, rfl, rfl⟩ := hrel
    by_cases hlt : i < k
    · obtain ⟨t1, t2, t3, t4⟩ := ENT.out i (by omega)
      rw [← HBv.out] at t1 t2 t4
      have c1 := CELL.out ((Fr.byt L i).length + 1) (by omega)
      have hcl := HL.out ((Fr.byt L i).length + 1)
      rw [t2] at c1 hcl
      obtain ⟨p, hp⟩ : ∃ p, p = (Fr.byt L i).length := ⟨_, rfl⟩
      obtain ⟨c, hc⟩ : ∃ c, c = (Fr.at_ L i).length - Fr.shAt L i := ⟨_, rfl⟩
      have HP2 := hid (show (Fr.byt L (i + 1)).length = p + 2 + c by rw [t3, hp, hc])
      rw [← hc] at c1 hcl
      rw [← hp] at c1 t4 ⊢
      have hbl := HBL.out
      clear t1 t2 t3 hp hc
      go_wp2
      go_round
      case rel => exact ⟨i + 1, by omega, by go_num, by rw [HP2.out]; go_num⟩
      case measure => simp [intOf]; omega
    · obtain rfl : i = k := by omega
      obtain ⟨t1, t2, t3, t4⟩ := ENT.out i hkn
      rw [← HBv.out] at t4
      obtain ⟨p, hp⟩ : ∃ p, p = (Fr.byt L i).length := ⟨_, rfl⟩
      rw [← hp] at t4 ⊢
      have c1 := CELL.out p (by omega)
      have f1 := F1.out p
      have hcl := HL.out p
      obtain ⟨c, hc⟩ : ∃ c, c = B.getD p 0 := ⟨_, rfl⟩
      rw [← hc] at c1 hcl
      obtain ⟨x, hx, hx256⟩ : ∃ x : Nat, ((c : Int) + by0) % 256 = (x : Int) ∧ x < 256 := ⟨(((c : Int) + by0) % 256).toNat, by omega, by omega⟩
      have hbl := HBL.out
      have hst := (HO.out.stored p (u8v x)).1
      have hls : (B.map u8v).set p (u8v x) = (B.set p x).map u8v := by rw [List.map_set]
      rw [hls] at hst
      have BQ := hid (SlAt.own (f := u8v) (d := 0) hst (by rw [List.length_set]))
      have hql : ∀ j, (B.set p x).getD j 0 < 256 := by
        intro j
        rw [getD_set1 _ _ _ _ (by omega)]
        split
        · exact hx256
        · exact HL.out j
      have HQ := hid hql
      have HB2 := hid (HB1.out.setCell (p := ⟨g, p, none⟩) (by show W.heap.size ≤ g; simpa using hge) (u8v x))
      obtain ⟨B2, hB2'⟩ : ∃ B2, B2 = B.set p x := ⟨_, rfl⟩
      have hB2l : B2.length = B.length := by rw [hB2', List.length_set]
      rw [← hB2'] at BQ HQ
      have RA := hid (read_any (.slice (some ⟨g, 0, none⟩) B.length cap1) B2 (w1.setCell ⟨g, p, none⟩ (u8v x)) BQ.out HQ.out)
      have HC := hid hB2l
      clear hst hls hql hp hc hB2' hB2l t1 t2 t3
      unfold u8v at RA HB2 BQ
      go_wp2_with fail
      refine RA.out.mono ?_
      rintro e w2 ⟨hb2, hr2⟩
      have HB3 := hid (below_then HB2.out hb2)
      have RR := hid (rread_any (.slice (some ⟨g, 0, none⟩) B.length cap1) B2 w2 (BQ.out.keep hb2) HQ.out (by rw [HC.out]; have := HBL.out; omega))
      clear hb2 RA
      rcases hr2 with ⟨hres, rfl⟩ | ⟨L2, d, hres, hm2, hbyt, rfl, hD⟩
      · have HRS := hid hres
        clear hres
        go_wp2_with fail
        refine RR.out.mono ?_
        rintro e w3 ⟨hb3, hr3⟩
        rcases hr3 with ⟨hres, rfl⟩ | ⟨L3, u, hres, rfl, hT3⟩
        · have HB4 := hid (below_then HB3.out hb3)
          clear hb3 hres RR
          go_wp2_with fail
          refine (KN.out _).mono ?_
          rintro e w4 ⟨rfl, hb4⟩
          have HB5 := hid (below_then HB4.out hb4)
          go_wp2
          go_ret
          exact ⟨rfl, HB5.out⟩
        · rw [HRS.out] at hres; cases hres
      · have HRS := hid hres
        have HD := hid hD
        have HM2 := hid hm2
        clear hres hD hm2 hbyt
        go_wp2_with fail
        refine RR.out.mono ?_
        rintro e w3 ⟨hb3, hr3⟩
        rcases hr3 with ⟨hres, rfl⟩ | ⟨L3, u, hres, rfl, hT3⟩
        · rw [HRS.out] at hres; cases hres
        · obtain rfl : L2 = L3 := by rw [HRS.out] at hres; simpa using hres
          have HB4 := hid (below_then HB3.out hb3)
          have HD3 := hid (HD.out.keep hb3)
          have TX := hid (txts_any d u L2 w3 HD3.out hT3 (by have := HM2.out.1; omega))
          clear hb3 hres RR hT3 HD
          go_wp2_with fail
          refine TX.out.mono ?_
          rintro e w' ⟨rfl, rfl⟩
          go_wp2_with fail
          refine (KN.out _).mono ?_
          rintro e w4 ⟨rfl, hb4⟩
          have HB5 := hid (below_then HB4.out hb4)
          go_wp2
          go_ret
          exact ⟨rfl, HB5.out⟩
theorem frontOne_any (v : Value) (L : List (List UInt8)) (at0 by0 : Int) (W : World) (hT : TextsAt W v L) (hl : ∀ i, (L.getD i []).length ≤ 140737488351232) (hn : L.length * 16 ≤ 140737488351232) :
    Calls Try.prog 9 #[v, .int .i64 at0, .int .i64 by0] W fun e W' => e = .returned (.bool true) ∧ Below W.heap.size W W' := by
  by_cases h1 : 20000 < Fr.lsum L L.length
  · exact one_out v L at0 by0 W hT hl (by omega) (.inl h1)
  · by_cases hm : Fr.May L
    · by_cases h2 : L.length < 2
      · exact one_out v L at0 by0 W hT hl (by omega) (.inr (.inr (.inl ⟨by omega, hm, h2⟩)))
      · by_cases h3 : by0 = 0
        · exact one_out v L at0 by0 W hT hl (by omega) (.inr (.inr (.inr ⟨by omega, hm, by omega, h3⟩)))
        · exact one_in v L at0 by0 W hT hl (by omega) (by omega) hm (by omega) h3
    · exact one_out v L at0 by0 W hT hl (by omega) (.inr (.inl ⟨by omega, hm⟩))

theorem frontOne_walk (H : Type) (enc : TypeId × Value → H) (W : World) (base : Nat) (args : Array Value) (ds gs : List (DataW H)) (before : List MemPlace)
    (hval : ∀ (j : Nat) t v, Try.f9.params[j]? = some t → args[j]? = some v → Value.okWide Try.prog W .any base t v)
    (hW : DataW.Whole enc Try.prog Try.f9.params.toList Rows.frontOneSpec.vars false W args.toList ds gs before)
    (hz : (DataW.weightsEach Try.prog (Try.f9.params.toList ++ Rows.frontOneSpec.plain.varTypes Try.prog) (ds ++ gs)).all (· ≤ reachBytes) = true)
    (hL : laidMetH Try.prog Rows.frontOneRow.laid W) (hsh : W.ShapedOpen Try.prog) :
    Calls Try.prog 9 args W fun e W' => e = .returned (.bool true) ∧ Below W.heap.size W W' := by
  obtain ⟨p, q, hA, _, _, _, _⟩ := hW
  rw [Try.params9] at hA hval
  rw [Try.params9] at hz
  obtain ⟨v0, vs0, d0, ds0, p0, q0, hargs, rfl, rfl, h0, r0⟩ := trodAll_cons hA
  obtain ⟨v1, vs1, d1, ds1, p1, q1, rfl, rfl, rfl, h1, r1⟩ := trodAll_cons r0
  obtain ⟨v2, vs2, d2, ds2, p2, q2, rfl, rfl, rfl, h2, r2⟩ := trodAll_cons r1
  obtain ⟨rfl, rfl, rfl⟩ := trodAll_nil r2
  obtain rfl : args = #[v0, v1, v2] := by cases args; simp_all
  obtain ⟨l0, L0, b0, z0⟩ := arg_strs Try.underlying22 Try.underlying9 (show Try.prog.cellsOf 9 = 1 ∧ Try.prog.bytesOf 9 = 16 by exact ⟨by kernel_rfl, by kernel_rfl⟩) (hval 0 22 v0 rfl rfl) h0 (sized_arg hz (j := 0) (t := 22) (d := d0) rfl rfl)
  obtain ⟨x1, rfl, rfl, rfl, w1⟩ := open_int Try.underlying3 (hval 1 3 v1 rfl rfl) h1
  have b1 := bounds_i64 w1
  obtain ⟨x2, rfl, rfl, rfl, w2⟩ := open_int Try.underlying3 (hval 2 3 v2 rfl rfl) h2
  have b2 := bounds_i64 w2
  exact frontOne_any v0 l0 x1 x2 W L0 b0 z0

theorem frontOne_lifted (os : Os) (started : os.Started) (H : Type) (enc : TypeId × Value → H) (F : Stop.Interp) :
    ReturnsInHanded {} Try.checked os 9 .any ((OpenSpec.ofChange Rows.frontOneSpec).preRow enc Try.prog Try.f9 Rows.frontOneRow.domain false Rows.frontOneRow.laid) (((OpenSpec.ofChange Rows.frontOneSpec).at F).post enc Try.prog Try.f9 false true false false) := by
  obtain ⟨places, hx⟩ : ∃ places, DataW.whole enc Try.prog ((World.holding Try.prog os ⟨#[], #[], []⟩).forCall (fun _ _ => 0) ⟨#[], #[.slice none 0 0, .int .i64 0, .int .i64 0], []⟩).memory Try.f9.params.toList Rows.frontOneSpec.vars false (#[.slice none 0 0, .int .i64 0, .int .i64 0] : Array Value).toList 8 = some ([.nil, .lit (.int .i64 0), .lit (.int .i64 0)], [], places) := ⟨[], by kernel_rfl⟩
  refine returnsInHanded_of_row (C := Try.checked) (s := OpenSpec.ofChange Rows.frontOneSpec) own started (by kernel_rfl) Try.func9
    (witness_row_at (enc := enc) (C := Try.checked) false (World.holding Try.prog os ⟨#[], #[], []⟩) #[.slice none 0 0, .int .i64 0, .int .i64 0] rfl (by kernel_rfl) (by kernel_rfl) (by kernel_rfl)
      (OpenSpec.preRow_of_cond 8 hx (by kernel_rfl) (fun k hk => by cases hk) (by kernel_rfl) (laidMet_nil _ _))) ?_
  intro W base args ds gs before hval hW _ _ hz hL hsh _
  refine (frontOne_walk H enc W base args ds gs before hval hW hz hL hsh).mono fun e W' ⟨he, hb⟩ => ⟨_, he, ?_⟩
  exact law_post (fn := Try.f9) (s := Rows.frontOneSpec) (tb := 4) rfl (fun ds hd => by match ds, hd with | [d0, d1, d2], _ => rfl) rfl Try.underlying4 (by kernel_rfl) hW hb

theorem frontOne_said : Rows.FrontOneSaid :=
  OpenClaim.holds_of_cond 9 Try.f9 rfl rfl rfl rfl rfl rfl rfl ⟨rfl, rfl, rfl, rfl, rfl⟩ rfl rfl rfl rfl rfl (by kernel_rfl) Try.func9 (by kernel_rfl)
    (of_decide_eq_true (by kernel_rfl)) (by unfold Func.isWrapper; first | (rw [if_pos (by decide +kernel)]; kernel_rfl) | (rw [if_neg (by decide +kernel)]; exact ⟨rfl, rfl⟩))
    (fun os started H enc _ F => by rw [OpenClaim.pre_eq_preRow]; exact frontOne_lifted os started H enc F)
end Go.Proofs.Ytdahfejecbcakaa
