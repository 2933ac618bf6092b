/- FrontBack: bytes are read as the Dict; cut short, or with more behind, they are none; each text is found, for every input. -/
import Derived.Test.YtdahfejecbcakaaFrBack
namespace Go.Proofs.Ytdahfejecbcakaa
set_option linter.unusedVariables false
set_option linter.unusedSimpArgs false
set_option maxRecDepth 100000
open Go.ChangeShapes Go.WideShapes Go.ChangeAt Go.RowKit

theorem and_64k (x : Int) : ∃ A : Nat, A ≤ 65535 ∧ bits BinOp.and IntKind.i64 x 65535 = (A : Int) := by
  refine ⟨((BitVec.ofInt 64 x) &&& 65535#64).toNat, ?_, ?_⟩
  · rw [BitVec.toNat_and]
    exact Nat.and_le_right
  · show IntKind.i64.wrap ((BitVec.ofInt 64 x &&& BitVec.ofInt 64 65535).toNat : Int) = _
    have h : ((BitVec.ofInt 64 x) &&& 65535#64).toNat ≤ 65535 := by rw [BitVec.toNat_and]; exact Nat.and_le_right
    rw [show BitVec.ofInt 64 65535 = 65535#64 from rfl]
    exact IntWalk.i64_in _ ⟨by omega, by omega⟩
theorem bytes_range2 (l : List Nat) (n : Nat) (hn : n = l.length) : (List.range n).map (fun i => u8v (l[i]?.getD 0)) = l.map u8v := by
  subst hn
  refine List.ext_getElem (by simp) fun i h1 h2 => ?_
  simp [show i < l.length by simpa using h1]
theorem Fr.loc_here {L : List (List UInt8)} (h : Fr.May L) {i : Nat} (hi : i < L.length) : Fr.loc L (Fr.at_ L i) = i + 1 :=
  Fr.loc_first hi rfl (fun j hj e => by have := h.inj (by omega) hi e; omega)
theorem back_out (v : Value) (L : List (List UInt8)) (cut : Int) (W : World) (hT : TextsAt W v L) (hl : ∀ i, (L.getD i []).length ≤ 140737488351232) (hn : L.length ≤ 9223372036854775806)
    (h : 20000 < Fr.lsum L L.length ∨ (Fr.lsum L L.length ≤ 20000 ∧ ¬ Fr.May L)) :
    Calls Try.prog 5 #[v, .int .i64 cut] W fun e W' => e = .returned (.bool true) ∧ Below W.heap.size W W' := by
  have LG := hid (long_any v L W hT hl hn)
  have RM := hid (rmay_any v L W hT hl hn)
  rcases h with h | ⟨h1, h⟩
  · rw [decide_eq_true h] at LG
    clear h RM
    go_enter Try.func5, Try.ntmps5
    go_wp2_with (go_at_call 12; refine LG.out.mono ?_; rintro e w' ⟨rfl, rfl⟩)
    go_ret
    exact ⟨rfl, Below.refl _ _⟩
  · rw [decide_eq_false (by omega)] at LG
    rw [decide_eq_false h] at RM
    clear h1 h
    go_enter Try.func5, Try.ntmps5
    go_wp2_with (first
      | (go_at_call 12; refine LG.out.mono ?_; rintro e w' ⟨rfl, rfl⟩)
      | (go_at_call 14; refine RM.out.mono ?_; rintro e w' ⟨rfl, q, rfl⟩))
    go_ret
    exact ⟨rfl, below_drawn (Below.refl _ _) _⟩
set_option maxHeartbeats 4000000 in
theorem back_in (v : Value) (L : List (List UInt8)) (cut : Int) (W : World) (hT : TextsAt W v L) (hl : ∀ i, (L.getD i []).length ≤ 140737488351232) (hn : L.length ≤ 9223372036854775806)
    (h1 : Fr.lsum L L.length ≤ 20000) (hm : Fr.May L) :
    Calls Try.prog 5 #[v, .int .i64 cut] W fun e W' => e = .returned (.bool true) ∧ Below W.heap.size W W' := by
  obtain ⟨i0, hi, hz0, hz1, hz2⟩ := info_parts Try.info5
  have LG := hid (long_any v L W hT hl hn)
  rw [decide_eq_false (by omega)] at LG
  have RM := hid (rmay_any v L W hT hl hn)
  rw [decide_eq_true hm] at RM
  have NW := hid (fun w h => new_ok v L w h hm)
  have BY := hid (fun p w h => bytes_any p L w h hm)
  have KN := hid (fun W => known_any W)
  have HT := hid hT
  have HM := hid hm
  have HBL := hid (Fr.byt_len hm L.length (Nat.le_refl _))
  have HLB := hid (byt_getD hm)
  have HRES := hid (Fr.back_res hm)
  have HCUT := hid (fun c hc => Fr.cut_res hm (c := c) hc)
  have HMORE := hid (Fr.more_res hm)
  have H2 := hid (Fr.cnt_byt hm).2
  have HXL := hid (fun i (h : i < L.length) => (hm.2 i h).2.1)
  have HLH := hid (fun i (h : i < L.length) => Fr.loc_here hm h)
  have LD := hid (fun p w t h => loc_any p L t w h hm)
  obtain ⟨A, hA, hand⟩ := and_64k cut
  obtain ⟨a, cap, rfl, _, _, _, hR⟩ := hT.open
  have HR := hid hR
  have h300 := hm.1
  obtain ⟨n, hnn⟩ : ∃ n, n = L.length := ⟨_, rfl⟩
  obtain ⟨B, hB⟩ : ∃ B, B = Fr.byt L L.length := ⟨_, rfl⟩
  rw [← hB] at BY HBL HLB HRES HCUT HMORE H2
  rw [← hnn] at LG RM NW HBL h300 HT HR HXL HLH ⊢
  have RL := hid (fun w t h => rloc_any (.slice a n cap) L t w h (by omega))
  have hBl2 := H2.out
  have hBlm := HBL.out
  obtain ⟨c, hc⟩ : ∃ c, c = A % B.length := ⟨_, rfl⟩
  have hcB : c < B.length := by rw [hc]; exact Nat.mod_lt _ (by omega)
  have hcI : (A : Int) % (B.length : Int) = (c : Int) := by rw [hc, Int.natCast_emod]
  have hcI2 : Int.tmod (A : Int) (B.length : Int) = (c : Int) := by rw [Int.tmod_eq_emod_of_nonneg (by omega), hcI]
  clear hm hT h1 hl hnn hc hR hB
  go_enter Try.func5, Try.ntmps5
  go_wp2_with (first
    | (go_at_call 12; refine LG.out.mono ?_; rintro e w' ⟨rfl, rfl⟩)
    | (go_at_call 14; refine RM.out.mono ?_; rintro e w' ⟨rfl, q, rfl⟩))
  refine (NW.out _ (HT.out.keep (below_drawn (Below.refl _ _) q))).mono ?_
  rintro e w1 ⟨p1, rfl, hb1, hD, _, _⟩
  have HD1 := hid hD
  have HB1 := hid (below_then (below_drawn (Below.refl W.heap.size W) q) hb1)
  clear hD hb1 NW RM LG
  go_wp2_with fail
  refine (BY.out p1 w1 HD1.out).mono ?_
  rintro e w2 ⟨v2, rfl, hb2, hown⟩
  have HB2 := hid (below_then HB1.out hb2)
  have HD2 := hid (HD1.out.keep hb2)
  have hbv := SlAt.own (f := u8v) (d := 0) hown rfl
  obtain ⟨a2, cap2, rfl, hcc, hcm, hcn, hR2⟩ := hbv.open
  have HV := hid hbv
  have HR2 := hid hR2
  have HF := hid (hbv.front c (by omega))
  clear hbv hown hb2 BY HD1 hcm hR2
  go_wp2_with fail
  refine (read_any _ B w2 HV.out HLB.out).mono ?_
  rintro e w3 ⟨hb3, hr3⟩
  rcases hr3 with ⟨hres, rfl⟩ | ⟨L2, p2, hres, _, _, rfl, hD⟩
  · rw [HRES.out] at hres; cases hres
  obtain rfl : L = L2 := by have := HRES.out; rw [this] at hres; simpa using hres
  have HB3 := hid (below_then HB2.out hb3)
  have HD3 := hid hD
  have HD3' := hid (HD2.out.keep hb3)
  have HV3 := hid (HV.out.keep hb3)
  have HF3 := hid (HF.out.keep hb3)
  have HR3 := hid (HR2.out.keep hb3)
  clear hD hb3 hres HD2 HV HF HR2
  go_wp2_with fail
  refine (read_any (.slice a2 c cap2) (B.take c) w3 HF3.out (fun i => by
    simp only [List.getD, List.getElem?_take]
    split
    · exact HLB.out i
    · simp)).mono ?_
  rintro e w4 ⟨hb4, hr4⟩
  rcases hr4 with ⟨_, rfl⟩ | ⟨L2, p4, hres, _, _, rfl, hD⟩
  rotate_left
  · rw [HCUT.out c hcB] at hres; cases hres
  have HB4 := hid (below_then HB3.out hb4)
  have HD4 := hid (HD3.out.keep hb4)
  have HD4' := hid (HD3'.out.keep hb4)
  have HR4 := hid (HR3.out.keep hb4)
  clear hb4 HD3 HD3' HV3 HF3 HR3
  go_wp2_with (at_builtin; refine wpList_append_row rfl (.tmp 55) (.tmp 56) 35 rfl w4.heap.size 5 i0 _ 1 Try.underlying35 hi hz0 hz1 hz2 rfl (.slice (some ⟨w4.heap.size, 0, none⟩) 0 0) 0 [] rfl ?own a2 B.length cap2 (fun i => u8v (B.getD i 0)) rfl ?nil ?row ?one ?b1 ?b2 ?base ?_)
  case own => exact World.ownsRow_made w4 #[] 0 (Nat.le_refl _) (by unfold maxLen; omega) rfl
  case nil => exact hcn
  case row => exact HR4.out.keep ((Below.refl _ _).alloc (Nat.le_refl _) _)
  case one => intro j _; rfl
  case b1 => unfold maxLen; omega
  case b2 => omega
  case base => simp
  intro v5 w5 hown5 hgr5
  rw [bytes_range2 B B.length rfl] at hown5
  have hb5 : Below w4.heap.size w4 w5 := ((Below.refl w4.heap.size w4).alloc (Nat.le_refl _) _).grown hgr5 (by simp) (fun k hk => by
    simp only [Value.ownBlock, Option.some.injEq] at hk; omega)
  have O5 := hid hown5
  have HG5 := hid hb5
  have hs5 := hb5.size
  clear hgr5 hown5 hb5
  go_wp2_with (at_builtin; refine wpList_append_row rfl (.tmp 57) (.tmp 58) 35 rfl w4.heap.size 5 i0 _ 1 Try.underlying35 hi hz0 hz1 hz2 rfl v5 _ _ rfl (O5.out.alloc _) (some ⟨w5.heap.size, 0, none⟩) 1 1 (fun _ => u8v 0) rfl ?nil ?row ?one ?b1 ?b2 ?base ?_)
  case nil => exact fun h => by cases h
  case row =>
    refine Or.inr ⟨_, _, rfl, fun j hj => ?_⟩
    rw [Nat.zero_add, cell_new, show j = 0 by omega]; rfl
  case one => intro j _; rfl
  case b1 => unfold maxLen; omega
  case b2 => omega
  case base => simp; omega
  intro v6 w6 hown6 hgr6
  have hb6 : Below w4.heap.size w4 w6 := (HG5.out.alloc hs5 _).grown hgr6 (by simp; omega) (fun k hk => (O5.out.lt k hk).1)
  have hown6' : w6.ownsRow w4.heap.size 5 1 v6 (B.length + 1) ((B ++ [0]).map u8v) := by rw [List.map_append]; exact hown6
  have RA := hid (read_any v6 (B ++ [0]) w6 (SlAt.own hown6' (by simp)) (fun i => by
    rcases Nat.lt_or_ge i B.length with h | h
    · rw [getD_left h]; exact HLB.out i
    · rw [getD_right h]
      cases i - B.length with
      | zero => simp
      | succ j => simp))
  have HB6 := hid (below_then HB4.out hb6)
  have HD6 := hid (HD4.out.keep hb6)
  have HD6' := hid (HD4'.out.keep hb6)
  clear hown6 hown6' hgr6 hb6 O5 HG5 HD4 HD4' HR4
  go_wp2_with fail
  refine RA.out.mono ?_
  rintro e w7 ⟨hb7, hr7⟩
  rcases hr7 with ⟨_, rfl⟩ | ⟨L2, p7, hres, _, _, rfl, hD⟩
  rotate_left
  · rw [HMORE.out] at hres; cases hres
  have HB7 := hid (below_then HB6.out hb7)
  have HD7 := hid (HD6.out.keep hb7)
  have HD7' := hid (HD6'.out.keep hb7)
  have TX := hid (txts_any p2 (.slice a n cap) L w7 HD7.out (HT.out.keep HB7.out) (by have := HM.out.1; omega))
  clear hb7 HD6 HD6' RA
  go_wp2_with fail
  refine TX.out.mono ?_
  rintro e w' ⟨rfl, rfl⟩
  go_wp2_with fail
  go_loopw [14] (fun s14 wr => ∃ i q : Nat, i ≤ n ∧ s14 = .int .i64 i ∧ wr = w7.drewN q) (fun s14 _ => n - (intOf s14).toNat)
  case atStart => exact ⟨0, 0, by omega, rfl, rfl⟩
  case round =>
    obtain ⟨i, q7, hin, rfl, rfl⟩ := hrel
    by_cases hlt : i < n
    · obtain ⟨b, off, rfl, hc⟩ := HR.out.get hlt
      have c0 := below_keep HB7.out (hc i hlt)
      have hxl := HXL.out i hlt
      have hlx := HLH.out i hlt
      unfold Fr.at_ at hxl hlx
      obtain ⟨x, hx⟩ : ∃ x, x = L.getD i [] := ⟨_, rfl⟩
      rw [← hx] at c0 hxl hlx
      have AX : (⟨x.toArray⟩ : ByteArray) ++ ⟨#[0]⟩ = ⟨(x ++ [0]).toArray⟩ := ba_app x [0]
      obtain ⟨y, hy⟩ : ∃ y, y = x ++ [0] := ⟨_, rfl⟩
      rw [← hy] at AX
      clear hx hy hc
      obtain ⟨wq, hwq⟩ : ∃ wq, wq = w7.drewN q7 := ⟨_, rfl⟩
      have HWQ := hid hwq
      have c2 : wq.cell? ⟨b, off + i, none⟩ = some (str x) := by rw [hwq]; exact c0
      have HBQ := hid (show Below w7.heap.size w7 wq by rw [hwq]; exact below_drawn (Below.refl _ _) _)
      have LQ := hid (fun (p : Nat) (t : List UInt8) (h : p = p1 ∨ p = p2) (W' : World) (hW : Below wq.heap.size wq W') => LD.out p W' t (by
        rcases h with h | h
        · rw [h]; exact HD7'.out.keep (below_then HBQ.out hW)
        · rw [h]; exact HD7.out.keep (below_then HBQ.out hW)))
      have RQ := hid (fun (t : List UInt8) (W' : World) (hW : Below wq.heap.size wq W') => RL.out W' t (HT.out.keep (below_then HB7.out (below_then HBQ.out hW))))
      rw [← hwq]
      clear hwq c0
      go_wp2
      go_quiet (first
        | (go_at_call 19; exact drawn_same fun W' hW => (LQ.out _ _ (by first | exact Or.inl rfl | exact Or.inr rfl) W' (by rw [hW]; exact below_drawn (Below.refl _ _) _)).mono fun _ _ h => ⟨h.1, h.2.symm⟩)
        | (go_at_call 20; exact drawn_same fun W' hW => (RQ.out _ W' (by rw [hW]; exact below_drawn (Below.refl _ _) _)).mono fun _ _ h => ⟨h.1, h.2.symm⟩))
      go_wp2
      go_roundw
      case rel => exact ⟨i + 1, q7 + nq, by omega, by go_num, by rw [HWQ.out]; exact World.drewN_drewN _ _ _⟩
      case measure => simp [intOf]; omega
    · obtain rfl : i = n := by omega
      go_wp2_with fail
      refine (KN.out _).mono ?_
      rintro e w8 ⟨rfl, hb8⟩
      have HB8 := hid (below_then (below_drawn HB7.out q7) hb8)
      go_wp2
      go_ret
      exact ⟨rfl, HB8.out⟩
theorem frontBack_any (v : Value) (L : List (List UInt8)) (cut : Int) (W : World) (hT : TextsAt W v L) (hl : ∀ i, (L.getD i []).length ≤ 140737488351232) (hn : L.length * 16 ≤ 140737488351232) :
    Calls Try.prog 5 #[v, .int .i64 cut] W fun e W' => e = .returned (.bool true) ∧ Below W.heap.size W W' := by
  by_cases h1 : 20000 < Fr.lsum L L.length
  · exact back_out v L cut W hT hl (by omega) (.inl h1)
  · by_cases hm : Fr.May L
    · exact back_in v L cut W hT hl (by omega) (by omega) hm
    · exact back_out v L cut W hT hl (by omega) (.inr ⟨by omega, hm⟩)

theorem frontBack_walk (H : Type) (enc : TypeId × Value → H) (W : World) (base : Nat) (args : Array Value) (ds gs : List (DataW H)) (before : List MemPlace)
    (hval : ∀ (j : Nat) t v, Try.f5.params[j]? = some t → args[j]? = some v → Value.okWide Try.prog W .any base t v)
    (hW : DataW.Whole enc Try.prog Try.f5.params.toList Rows.frontBackSpec.vars false W args.toList ds gs before)
    (hz : (DataW.weightsEach Try.prog (Try.f5.params.toList ++ Rows.frontBackSpec.plain.varTypes Try.prog) (ds ++ gs)).all (· ≤ reachBytes) = true)
    (hL : laidMetH Try.prog Rows.frontBackRow.laid W) (hsh : W.ShapedOpen Try.prog) :
    Calls Try.prog 5 args W fun e W' => e = .returned (.bool true) ∧ Below W.heap.size W W' := by
  obtain ⟨p, q, hA, _, _, _, _⟩ := hW
  rw [Try.params5] at hA hval
  rw [Try.params5] at hz
  obtain ⟨v0, vs0, d0, ds0, p0, q0, hargs, rfl, rfl, h0, r0⟩ := trodAll_cons hA
  obtain ⟨v1, vs1, d1, ds1, p1, q1, rfl, rfl, rfl, h1, r1⟩ := trodAll_cons r0
  obtain ⟨rfl, rfl, rfl⟩ := trodAll_nil r1
  obtain rfl : args = #[v0, v1] := by cases args; simp_all
  obtain ⟨l0, L0, b0, z0⟩ := arg_strs Try.underlying22 Try.underlying9 (show Try.prog.cellsOf 9 = 1 ∧ Try.prog.bytesOf 9 = 16 by exact ⟨by kernel_rfl, by kernel_rfl⟩) (hval 0 22 v0 rfl rfl) h0 (sized_arg hz (j := 0) (t := 22) (d := d0) rfl rfl)
  obtain ⟨x1, rfl, rfl, rfl, w1⟩ := open_int Try.underlying3 (hval 1 3 v1 rfl rfl) h1
  have b1 := bounds_i64 w1
  exact frontBack_any v0 l0 x1 W L0 b0 z0

theorem frontBack_lifted (os : Os) (started : os.Started) (H : Type) (enc : TypeId × Value → H) (F : Stop.Interp) :
    ReturnsInHanded {} Try.checked os 5 .any ((OpenSpec.ofChange Rows.frontBackSpec).preRow enc Try.prog Try.f5 Rows.frontBackRow.domain false Rows.frontBackRow.laid) (((OpenSpec.ofChange Rows.frontBackSpec).at F).post enc Try.prog Try.f5 false true false false) := by
  obtain ⟨places, hx⟩ : ∃ places, DataW.whole enc Try.prog ((World.holding Try.prog os ⟨#[], #[], []⟩).forCall (fun _ _ => 0) ⟨#[], #[.slice none 0 0, .int .i64 0], []⟩).memory Try.f5.params.toList Rows.frontBackSpec.vars false (#[.slice none 0 0, .int .i64 0] : Array Value).toList 8 = some ([.nil, .lit (.int .i64 0)], [], places) := ⟨[], by kernel_rfl⟩
  refine returnsInHanded_of_row (C := Try.checked) (s := OpenSpec.ofChange Rows.frontBackSpec) own started (by kernel_rfl) Try.func5
    (witness_row_at (enc := enc) (C := Try.checked) false (World.holding Try.prog os ⟨#[], #[], []⟩) #[.slice none 0 0, .int .i64 0] rfl (by kernel_rfl) (by kernel_rfl) (by kernel_rfl)
      (OpenSpec.preRow_of_cond 8 hx (by kernel_rfl) (fun k hk => by cases hk) (by kernel_rfl) (laidMet_nil _ _))) ?_
  intro W base args ds gs before hval hW _ _ hz hL hsh _
  refine (frontBack_walk H enc W base args ds gs before hval hW hz hL hsh).mono fun e W' ⟨he, hb⟩ => ⟨_, he, ?_⟩
  exact law_post (fn := Try.f5) (s := Rows.frontBackSpec) (tb := 4) rfl (fun ds hd => by match ds, hd with | [d0, d1], _ => rfl) rfl Try.underlying4 (by kernel_rfl) hW hb

theorem frontBack_said : Rows.FrontBackSaid :=
  OpenClaim.holds_of_cond 5 Try.f5 rfl rfl rfl rfl rfl rfl rfl ⟨rfl, rfl, rfl, rfl, rfl⟩ rfl rfl rfl rfl rfl (by kernel_rfl) Try.func5 (by kernel_rfl)
    (of_decide_eq_true (by kernel_rfl)) (by unfold Func.isWrapper; first | (rw [if_pos (by decide +kernel)]; kernel_rfl) | (rw [if_neg (by decide +kernel)]; exact ⟨rfl, rfl⟩))
    (fun os started H enc _ F => by rw [OpenClaim.pre_eq_preRow]; exact frontBack_lifted os started H enc F)
end Go.Proofs.Ytdahfejecbcakaa
