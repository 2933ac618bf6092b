/- BitsJoin: of two rows one behind the other the ones of the second stand behind those of the first: for every input. -/
import Derived.Test.YtmjnacbimafahaaDoorBitsRef
import Derived.Test.YtmjnacbimafahaaDoorLaid
namespace Go.Proofs.YtmjnacbimafahaaDoor
set_option linter.unusedVariables false
set_option maxRecDepth 100000
open Go.ChangeShapes Go.WideShapes Go.ChangeAt Go.RowKit

theorem Tryd.info4 : (Tryd.prog.info? 4).map (fun i => (i.zero, i.size, i.bytes)) = some (some (.bool false), 1, 1) := by kernel_rfl
theorem bitsJoin_big (a b : Option Addr) (n m cap cap2 : Nat) (W : World) (h : 200 < n ∨ (n ≤ 200 ∧ 200 < m)) :
    Calls Tryd.prog 8 #[.slice a n cap, .slice b m cap2] W fun e W' => e = .returned (.bool true) ∧ Below W.heap.size W W' := by
  rcases h with h | ⟨h, h2⟩
  all_goals
    go_enter Tryd.func8, Tryd.ntmps8
    go_wp2
    go_ret
    exact ⟨rfl, Below.refl _ _⟩

set_option maxHeartbeats 2000000 in
theorem bitsJoin_small (a b : Option Addr) (n m cap cap2 : Nat) (k l : List Bool) (W : World) (hT : Tab W) (hn : n = k.length) (hm : m = l.length) (h : n ≤ 200) (h2 : m ≤ 200)
    (hnil : a = none → cap = 0) (hnil2 : b = none → cap2 = 0) (hcap : n ≤ cap) (hcap2 : m ≤ cap2) (hR : RowAt W a n fun i => .bool (k.getD i false)) (hR2 : RowAt W b m fun i => .bool (l.getD i false)) :
    Calls Tryd.prog 8 #[.slice a n cap, .slice b m cap2] W fun e W' => e = .returned (.bool true) ∧ Below W.heap.size W W' := by
  obtain ⟨i0, hi, hz0, hz1, hz2⟩ := info_parts Tryd.info4
  have SX := hid (new_any a cap k W (by omega) (by rw [← hn]; exact hR))
  have SY := hid (fun W' (hW' : Below W.heap.size W W') => new_any b cap2 l W' (by omega) (by rw [← hm]; exact hR2.keep hW'))
  rw [← hn] at SX
  rw [← hm] at SY
  have HN := hid hn
  have HM := hid hm
  have HL := hid hnil
  have HL2 := hid hnil2
  have HNC := hid hcap
  have HMC := hid hcap2
  clear hn hm hnil hnil2
  go_enter Tryd.func8, Tryd.ntmps8
  go_wp2_with fail
  refine SX.out.mono ?_
  rintro e w1 ⟨p, rfl, hb1, VX, R1⟩
  clear R1
  go_wp2_with fail
  refine (SY.out _ hb1).mono ?_
  rintro e w2 ⟨q, rfl, hb2, VY, R2⟩
  clear R2
  have HX := hid VX
  have HY := hid VY
  clear VX VY SX SY
  have hb02 := below_then hb1 hb2
  have RK := hid (hR.keep hb02)
  have RL := hid (hR2.keep hb02)
  have HT := hid hT
  have HB02 := hid hb02
  clear hR hR2 hT hb1 hb02
  go_wp2_with (at_builtin; refine wpList_append_row rfl (.tmp 24) (.tmp 25) 22 rfl w2.heap.size 4 i0 _ 1 Tryd.underlying22 hi hz0 hz1 hz2 rfl (.slice (some ⟨w2.heap.size, 0, none⟩) 0 0) 0 [] rfl ?own a n cap (fun i => .bool (k.getD i false)) rfl ?nil ?row ?one ?b1 ?b2 ?base ?_)
  case own => exact World.ownsRow_made w2 #[] 0 (Nat.le_refl _) (by unfold maxLen; omega) rfl
  case nil =>
    intro h0
    have := HL.out h0
    have := HNC.out
    omega
  case row => exact RK.out.keep ((Below.refl _ _).alloc (Nat.le_refl _) _)
  case one => intro j _; rfl
  case b1 => unfold maxLen; omega
  case b2 => omega
  case base => simp
  intro v1 w3 hown hgr
  have hb3 : Below w2.heap.size w2 w3 := ((Below.refl w2.heap.size w2).alloc (Nat.le_refl _) _).grown hgr (by simp) (fun k hk => by
    simp only [Value.ownBlock, Option.some.injEq] at hk; omega)
  try simp only [Nat.zero_add, List.nil_append] at hown
  have HG3 := hid hb3
  have hs3 := hb3.size
  have HO := hid hown
  clear hgr hb3
  go_wp2_with (at_builtin; refine wpList_append_row rfl (.tmp 26) (.tmp 27) 22 rfl w2.heap.size 4 i0 _ 1 Tryd.underlying22 hi hz0 hz1 hz2 rfl v1 _ _ rfl HO.out b m cap2 (fun i => .bool (l.getD i false)) rfl ?nil ?row ?one ?b1 ?b2 ?base ?_)
  case nil =>
    intro h0
    have := HL2.out h0
    have := HMC.out
    omega
  case row => exact RL.out.keep HG3.out
  case one => intro j _; rfl
  case b1 => unfold maxLen; omega
  case b2 => omega
  case base => exact hs3
  intro v2 w4 hown2 hgr2
  have hb4 : Below w2.heap.size w2 w4 := HG3.out.grown hgr2 hs3 (fun k hk => (hown.lt k hk).1)
  obtain ⟨a3, cap3, hv2, hc1, hc2, hc3, hrow⟩ := rowAt_own hown2
  subst hv2
  have hkl : (k ++ l).length = n + m := by rw [List.length_append, ← HN.out, ← HM.out]
  have SZ := hid (start_bits (cap := cap3) (n := n + m) (l := k ++ l) (a := a3) (HT.out.keep (below_then HB02.out hb4)) hkl.symm (by omega) (by
    rcases hrow with h0 | ⟨b', off, ha, hc⟩
    · exact Or.inl h0
    · refine Or.inr ⟨b', off, ha, fun i hi => ?_⟩
      rw [hc i hi]
      congr 1
      dsimp only
      by_cases h1 : i < n
      · rw [getD_left (by simpa using h1), getD_left (by rw [← HN.out]; exact h1)]
        simp [List.getD, h1]
      · rw [getD_right (by simp; omega), getD_right (by rw [← HN.out]; omega), ← HN.out]
        simp [List.getD, show i - n < m by omega]))
  have HG4 := hid (below_then HB02.out hb4)
  have HG5 := hid hb4
  have hx1 := hid (below_then hb2 hb4)
  clear hown hown2 hgr2 hb4 HG3 hrow hc1 hc2 hc3 HO RK RL hb2 hs3
  go_wp2_with fail
  refine SZ.out.mono ?_
  rintro e w5 ⟨r, rfl, hb5, VZ, R5, K5⟩
  clear R5
  have HZ := hid VZ
  have hb05 := hid (below_then HG4.out hb5)
  have KN := hid K5
  have hw25 := hid (below_then HG5.out hb5)
  have hw15 := hid (below_then hx1.out hb5)
  have hbz := Below.refl w5.heap.size w5
  clear VZ K5 hb5 SZ HG4 HG5 hx1
  have hk5 : k.length ≤ 4096 := by rw [← HN.out]; omega
  have hl5 : l.length ≤ 4096 := by rw [← HM.out]; omega
  have X := hid (VecAt.mk' (HX.out.keep hw15.out) (HT.out.keep hb05.out) hk5)
  have Y := hid (VecAt.mk' (HY.out.keep hw25.out) (HT.out.keep hb05.out) hl5)
  have hcx : Bm.rank k n ≤ n := by unfold Bm.rank; have := Bm.cnt_le k n; simpa using this
  obtain ⟨r0, hr0⟩ : ∃ r0, r0 = Bm.rank k n := ⟨_, rfl⟩
  rw [← hr0] at hcx
  have RX := hid (fun W' hW' => X.out.rank W' n hW')
  rw [← hr0] at RX
  have hr1 : r0 = Bm.cnt k k.length := by rw [hr0]; unfold Bm.rank; rw [HN.out]; simp
  have HR0 := hid hr1
  have HKL := hid hkl
  clear hk5 hl5 hr0 hr1 hkl
  go_wp2_with fail
  refine (RX.out _ (by assumption)).mono ?_
  rintro e w6 ⟨rfl, hb6⟩
  go_wp2
  go_loopw [9] (fun s9 wr => ∃ t : Nat, t ≤ m ∧ s9 = .int .i64 t ∧ Below w5.heap.size w5 wr) (fun s9 _ => m - (intOf s9).toNat)
  case atStart => exact ⟨0, by omega, rfl, hb6⟩
  case round =>
    obtain ⟨t, ht, rfl, hb⟩ := hrel
    by_cases hlt : t < m
    · have SY := hid (fun W' hW' => Y.out.sel W' t hW')
      have SZ := hid (fun W' hW' => HZ.out.sel W' ((r0 + t : Nat) : Int) hW')
      have YR := hid (fun W' hW' => Y.out.rank W' t hW')
      have ZR := hid (fun W' hW' => HZ.out.rank W' ((n + t : Nat) : Int) hW')
      have e1 := Bm.sel_join k l t
      rw [← HR0.out, ← HN.out] at e1
      have e2 := Bm.rank_join k l t
      rw [← HR0.out, ← HN.out] at e2
      rw [e1, Int.natCast_add] at SZ
      rw [e2, Int.natCast_add, Int.natCast_add] at ZR
      have hrl : Bm.rank l t ≤ t := by unfold Bm.rank; have := Bm.cnt_le l t; simpa using this
      have hsl := Bm.sel_lt l t
      have hsg := Bm.sel_ge l t
      rw [← HM.out] at hsl
      obtain ⟨sv, hsv⟩ : ∃ sv, sv = Bm.sel l t := ⟨_, rfl⟩
      obtain ⟨rv, hrv⟩ : ∃ rv, rv = Bm.rank l t := ⟨_, rfl⟩
      rw [← hsv] at SY SZ hsl hsg
      rw [← hrv] at YR ZR hrl
      clear e1 e2 hsv hrv
      by_cases h0 : 0 ≤ sv
      · rw [if_pos h0] at SZ
        have hsl' : sv < m := by omega
        clear hsl hsg
        go_wp2_with fail
        refine (SY.out _ hb).mono ?_
        rintro e w7 ⟨rfl, hb7⟩
        go_wp2_with fail
        refine (SZ.out _ hb7).mono ?_
        rintro e w8 ⟨rfl, hb8⟩
        go_wp2_with fail
        refine (ZR.out _ hb8).mono ?_
        rintro e w9 ⟨rfl, hb9⟩
        go_wp2_with fail
        refine (YR.out _ hb9).mono ?_
        rintro e w10 ⟨rfl, hb10⟩
        go_wp2
        go_roundw
        case rel => exact ⟨t + 1, by omega, by go_num, hb10⟩
        case measure => simp [intOf]; omega
      · rw [if_neg h0] at SZ
        obtain rfl : sv = -1 := by omega
        clear hsl hsg
        go_wp2_with fail
        refine (SY.out _ hb).mono ?_
        rintro e w7 ⟨rfl, hb7⟩
        go_wp2_with fail
        refine (SZ.out _ hb7).mono ?_
        rintro e w8 ⟨rfl, hb8⟩
        go_wp2_with fail
        refine (ZR.out _ hb8).mono ?_
        rintro e w9 ⟨rfl, hb9⟩
        go_wp2_with fail
        refine (YR.out _ hb9).mono ?_
        rintro e w10 ⟨rfl, hb10⟩
        go_wp2
        go_roundw
        case rel => exact ⟨t + 1, by omega, by go_num, hb10⟩
        case measure => simp [intOf]; omega
    · obtain rfl : t = m := by omega
      have LZ := hid (fun W' hW' => HZ.out.len W' hW')
      rw [HKL.out, Int.natCast_add] at LZ
      go_wp2_with fail
      refine (LZ.out _ hb).mono ?_
      rintro e w7 ⟨rfl, hb7⟩
      go_wp2_with fail
      refine (KN.out _ hb7).mono ?_
      rintro e w8 ⟨rfl, hb8⟩
      have hz := below_then hb05.out (below_then hb7 hb8)
      go_wp2
      go_ret
      exact ⟨rfl, hz⟩

theorem bitsJoin_walk (H : Type) (enc : TypeId × Value → H) (W : World) (base : Nat) (args : Array Value) (ds gs : List (DataW H)) (before : List MemPlace)
    (hval : ∀ (j : Nat) t v, Tryd.f8.params[j]? = some t → args[j]? = some v → Value.okWide Tryd.prog W .any base t v)
    (hW : DataW.Whole enc Tryd.prog Tryd.f8.params.toList Rows.bitsJoinSpec.vars false W args.toList ds gs before)
    (hz : (DataW.weightsEach Tryd.prog (Tryd.f8.params.toList ++ Rows.bitsJoinSpec.plain.varTypes Tryd.prog) (ds ++ gs)).all (· ≤ reachBytes) = true)
    (hL : laidMetH Tryd.prog Rows.bitsJoinRow.laid W) (hsh : W.ShapedOpen Tryd.prog) :
    Calls Tryd.prog 8 args W fun e W' => e = .returned (.bool true) ∧ Below W.heap.size W W' := by
  obtain ⟨p, q, hA, _, _, _, _⟩ := hW
  rw [Tryd.params8] at hA hval
  obtain ⟨v0, vs0, d0, ds0, p0, q0, hargs, rfl, rfl, h0, r0⟩ := trodAll_cons hA
  obtain ⟨v1, vs1, d1, ds1, p1, q1, rfl, rfl, rfl, h1, r1⟩ := trodAll_cons r0
  obtain ⟨rfl, rfl, rfl⟩ := trodAll_nil r1
  obtain rfl : args = #[v0, v1] := by cases args; simp_all
  obtain ⟨a0, cap0, l0, rfl, hl0, hm0, hnil0, hr0⟩ := read_bools Tryd.underlying22 Tryd.underlying4 cellsBool (hval 0 22 v0 rfl rfl) h0
  obtain ⟨a1, cap1, l1, rfl, hl1, hm1, hnil1, hr1⟩ := read_bools Tryd.underlying22 Tryd.underlying4 cellsBool (hval 1 22 v1 rfl rfl) h1
  by_cases h : 200 < l0.length ∨ (l0.length ≤ 200 ∧ 200 < l1.length)
  · exact bitsJoin_big a0 a1 _ _ cap0 cap1 W h
  · exact bitsJoin_small a0 a1 _ _ cap0 cap1 l0 l1 W (tab_of hL) rfl rfl (by omega) (by omega) hnil0 hnil1 hl0 hl1 hr0 hr1

theorem bitsJoin_lifted (os : Os) (started : os.Started) (H : Type) (enc : TypeId × Value → H) (F : Stop.Interp) :
    ReturnsInHanded {} Tryd.checked os 8 .any ((OpenSpec.ofChange Rows.bitsJoinSpec).preRow enc Tryd.prog Tryd.f8 Rows.bitsJoinRow.domain false Rows.bitsJoinRow.laid) (((OpenSpec.ofChange Rows.bitsJoinSpec).at F).post enc Tryd.prog Tryd.f8 false true false false) := by
  obtain ⟨places, hx⟩ : ∃ places, DataW.whole enc Tryd.prog ((laidWorld os).forCall (fun _ _ => 0) ⟨#[], #[.slice none 0 0, .slice none 0 0], []⟩).memory Tryd.f8.params.toList Rows.bitsJoinSpec.vars false (#[.slice none 0 0, .slice none 0 0] : Array Value).toList 8 = some ([.nil, .nil], [], places) := ⟨[], by kernel_rfl⟩
  refine returnsInHanded_of_row (C := Tryd.checked) (s := OpenSpec.ofChange Rows.bitsJoinSpec) own started (by kernel_rfl) Tryd.func8
    (witness_row_at (enc := enc) (C := Tryd.checked) false (laidWorld os) #[.slice none 0 0, .slice none 0 0] rfl (by kernel_rfl) (by kernel_rfl) (by kernel_rfl)
      (OpenSpec.preRow_of_cond 8 hx (by kernel_rfl) (fun k hk => by cases hk) (by kernel_rfl) (laidMet_of_run' 8 (by kernel_rfl) (by kernel_rfl)))) ?_
  intro W base args ds gs before hval hW _ _ hz hL hsh _
  refine (bitsJoin_walk H enc W base args ds gs before hval hW hz hL hsh).mono fun e W' ⟨he, hb⟩ => ⟨_, he, ?_⟩
  exact law_post (fn := Tryd.f8) (s := Rows.bitsJoinSpec) (tb := 4) rfl (fun ds hd => by match ds, hd with | [d0, d1], _ => rfl) rfl Tryd.underlying4 (by kernel_rfl) hW hb

theorem bitsJoin_said : Rows.BitsJoinSaid :=
  OpenClaim.holds_of_cond 8 Tryd.f8 rfl rfl rfl rfl rfl rfl rfl ⟨rfl, rfl, rfl, rfl, rfl⟩ rfl rfl rfl rfl rfl (by kernel_rfl) Tryd.func8 (by kernel_rfl)
    (of_decide_eq_true (by kernel_rfl)) (by unfold Func.isWrapper; first | (rw [if_pos (by decide +kernel)]; kernel_rfl) | (rw [if_neg (by decide +kernel)]; exact ⟨rfl, rfl⟩))
    (fun os started H enc _ F => by rw [OpenClaim.pre_eq_preRow]; exact bitsJoin_lifted os started H enc F)

theorem bitsJoin_plain (f : FuncId) (fn : Func) (hf : Tryd.pinned.checked.prog.funcNamed Rows.bitsJoinRow.func = some f) (hfn : Tryd.pinned.checked.prog.funcs[f]? = some fn) :
    false = Tryd.pinned.checked.prog.looks [] ∧ ∀ (j : Nat) t, fn.params[j]? = some t → Tryd.pinned.checked.prog.wantsStandIn t = false := by
  obtain rfl : f = 8 := Option.some.inj ((show Tryd.prog.funcNamed Rows.bitsJoinRow.func = some 8 by kernel_rfl).symm.trans hf) |>.symm
  obtain rfl : fn = Tryd.f8 := (Option.some.inj (Tryd.func8.symm.trans hfn)).symm
  refine ⟨by kernel_rfl, fun j t ht => ?_⟩
  have h := Array.mem_of_getElem? ht
  have hall : Tryd.f8.params.all (fun t => !Tryd.prog.wantsStandIn t) = true := by kernel_rfl
  have := Array.all_eq_true_iff_forall_mem.1 hall t h
  show Tryd.prog.wantsStandIn t = false
  simpa using this

/-- THE STATEMENT. -/
theorem bitsJoin_card : Rows.BitsJoinCardSaid :=
  Claim7.holds_tied_plain_at .later [] _ _ _ _ bitsJoin_said (fun _ h => by cases h) (by kernel_rfl) (fun _ h => by cases h) bitsJoin_row_tie rfl ⟨rfl, rfl⟩ (by kernel_rfl) rfl bitsJoin_plain (by kernel_rfl)
end Go.Proofs.YtmjnacbimafahaaDoor
