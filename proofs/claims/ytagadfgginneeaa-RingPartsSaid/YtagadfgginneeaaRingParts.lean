/- RingParts: those that match are those that match with one more number asked, over all such numbers. -/
import Derived.Test.YtagadfgginneeaaRgLaw
import Derived.Test.YtagadfgginneeaaRgMath3
namespace Go.Proofs.Ytagadfgginneeaa
set_option linter.unusedVariables false
set_option linter.unusedSimpArgs false
set_option maxRecDepth 100000
open Go.ChangeShapes Go.WideShapes Go.ChangeAt Go.RowKit
theorem ringParts_out (v0 : Value) (l : List Rg.T) (t : Rg.T) (col : Int) (W : World) (h : IdsAt W v0 l) (hl : l.length ≤ 140737488351232) (ho : 60 < l.length ∨ ¬ RMay l ∨ col < 0 ∨ 2 < col ∨ Rg.at' t col.toNat ≠ 0) :
    Calls Try.prog 6 #[v0, tv t, .int .i64 col] W fun e W' => e = .returned (.bool true) ∧ Below W.heap.size W W' := by
  obtain ⟨a, cap, rfl, p1, p2, p3⟩ := h.open
  have MY := hid fun w (hb : Below W.heap.size W w) => rmay_any _ l w (h.keep hb) hl
  clear h
  by_cases hbig : 60 < l.length
  · clear ho
    unfold tv
    go_enter Try.func6, Try.ntmps6
    go_upto_region 1 with fail
    obtain ⟨w1, hw1, HX, HB, HD, hz⟩ := ids_box W t
    rw [← hw1]
    clear hw1 HD hz
    go_wp2
    go_ret
    exact ⟨rfl, HB.out⟩
  · by_cases hm : RMay l
    · rw [(mayB_iff l).2 hm] at MY
      by_cases h1 : col < 0
      · clear ho hm
        unfold tv
        go_enter Try.func6, Try.ntmps6
        go_upto_region 1 with fail
        obtain ⟨w1, hw1, HX, HB, HD, hz⟩ := ids_box W t
        rw [← hw1]
        clear hw1 HD hz
        have MY1 := MY.out w1 HB.out
        go_wp2_with (go_at_call 12; refine MY1.mono ?_; rintro e w2 ⟨rfl, hb2⟩)
        go_ret
        exact ⟨rfl, below_then HB.out hb2⟩
      · by_cases h2 : 2 < col
        · clear ho hm
          unfold tv
          go_enter Try.func6, Try.ntmps6
          go_upto_region 1 with fail
          obtain ⟨w1, hw1, HX, HB, HD, hz⟩ := ids_box W t
          rw [← hw1]
          clear hw1 HD hz
          have MY1 := MY.out w1 HB.out
          go_wp2_with (go_at_call 12; refine MY1.mono ?_; rintro e w2 ⟨rfl, hb2⟩)
          go_ret
          exact ⟨rfl, below_then HB.out hb2⟩
        · have h3 : Rg.at' t col.toNat ≠ 0 := by
            rcases ho with h | h | h | h | h
            · exact absurd h hbig
            · exact absurd hm h
            · exact absurd h h1
            · exact absurd h h2
            · exact h
          obtain ⟨c, hc⟩ : ∃ c : Nat, col = c := ⟨col.toNat, by omega⟩
          subst hc
          rw [Int.toNat_natCast] at h3
          have hc3 : c < 3 := by omega
          obtain ⟨x, hx⟩ : ∃ x, x = Rg.at' t c := ⟨_, rfl⟩
          have HXE := hid hx
          rw [← hx] at h3
          have hb : (x != 0) = true := by simp [h3]
          clear ho hm hx
          unfold tv
          go_enter Try.func6, Try.ntmps6
          go_upto_region 1 with fail
          obtain ⟨w1, hw1, HX, HB, HD, hz⟩ := ids_box W t
          rw [← hw1]
          clear hw1 HD hz
          have MY1 := MY.out w1 HB.out
          have hcell := HX.out.cell (tl_get t c hc3)
          rw [← HXE.out] at hcell
          have HC := hid hcell
          clear hcell
          go_wp2_with (go_at_call 12; refine MY1.mono ?_; rintro e w2 ⟨rfl, hb2⟩; have hc2 := below_keep hb2 HC.out)
          go_ret
          exact ⟨rfl, below_then HB.out hb2⟩
    · rw [mayB_no hm] at MY
      clear ho hm
      unfold tv
      go_enter Try.func6, Try.ntmps6
      go_upto_region 1 with fail
      obtain ⟨w1, hw1, HX, HB, HD, hz⟩ := ids_box W t
      rw [← hw1]
      clear hw1 HD hz
      have MY1 := MY.out w1 HB.out
      go_wp2_with (go_at_call 12; refine MY1.mono ?_; rintro e w2 ⟨rfl, hb2⟩)
      go_ret
      exact ⟨rfl, below_then HB.out hb2⟩
def nmeas (x : Int) : Nat := if x = 0 then 0 else (2000 - x).toNat
theorem nmeas_lt {x v : Int} (hv : ¬ v = 0) (h2 : v ≤ 1000) (h : x = 0 ∨ v + 1 ≤ x ∧ x ≤ 1000) : nmeas x < nmeas v := by
  unfold nmeas
  rw [if_neg hv]
  rcases h with h | ⟨h, h'⟩
  · rw [if_pos h]; omega
  · by_cases hx : x = 0
    · rw [if_pos hx]; omega
    · rw [if_neg hx]; omega
theorem put_eq (t : Rg.T) (c : Nat) (v : Int) (hc : c < 3) : (tl t).set c (.int .i64 v) = tl (Rg.put t c v) := by
  rcases Rg.c3 hc with rfl | rfl | rfl <;> rfl
theorem put_low {t : Rg.T} (h : Fits t) (c : Nat) (v : Int) (hc : c < 3) (hv : -9223372036854775808 ≤ v) : ∀ d, d < 3 → -9223372036854775808 ≤ Rg.at' (Rg.put t c v) d := by
  intro d hd
  have h0 := (h 0 (by omega)).1
  have h1 := (h 1 (by omega)).1
  have h2 := (h 2 (by omega)).1
  rcases Rg.c3 hc with rfl | rfl | rfl <;> rcases Rg.c3 hd with rfl | rfl | rfl <;> simp [Rg.put, Rg.at'] at * <;> omega
set_option maxHeartbeats 2000000 in
theorem ringParts_yes (v0 : Value) (c : Nat) (l : List Rg.T) (t : Rg.T) (W : World) (h : IdsAt W v0 l) (ht : Fits t) (hm : RMay l) (h60 : ¬ 60 < l.length) (hc : c < 3) (h0 : Rg.at' t c = 0) :
    Calls Try.prog 6 #[v0, tv t, .int .i64 c] W fun e W' => e = .returned (.bool true) ∧ Below W.heap.size W W' := by
  obtain ⟨a, cap, hv0, p1, p2, p3⟩ := h.open
  have hl := hm.2.2
  have hl140 : l.length ≤ 140737488351232 := by omega
  have HI := hid h
  have HM := hid hm
  have HT := hid ht
  have H0 := hid h0
  have MY := hid fun w (h : Below W.heap.size W w) => rmay_any v0 l w (HI.out.keep h) hl140
  rw [(mayB_iff l).2 hm] at MY
  have NW := hid fun w (h : Below W.heap.size W w) => rgnew_ok v0 l w (HI.out.keep h) hm
  have NX := hid fun p u w (h : IsRing w p l) => rnext_any p c l t u w h HT.out.low hc
  have CN := hid fun p q w (h : IsRing w p l) (hq : ∀ c, c < 3 → -9223372036854775808 ≤ Rg.at' q c) => count_any p l q w h hq
  subst hv0
  clear h hm ht h0
  unfold tv at *
  go_enter Try.func6, Try.ntmps6
  go_upto_region 1 with fail
  obtain ⟨w1, hw1, HX, HB, HD, hz⟩ := ids_box W t
  rw [← hw1]
  clear hw1 HD hz
  have MY1 := MY.out w1 HB.out
  have hcell := HX.out.cell (tl_get t c hc)
  rw [H0.out] at hcell
  have HC := hid hcell
  clear hcell
  go_upto_region 3 with (go_at_call 12; refine MY1.mono ?_; rintro e w2 ⟨rfl, hb2⟩; have hc2 := below_keep hb2 HC.out)
  have HB2 := hid (below_then HB.out hb2)
  have HX2 := hid (HX.out.keep hb2)
  have NW2 := NW.out w2 HB2.out
  clear MY1 hb2 hc2 HC
  go_upto_region 7 with (go_at_call 11; refine NW2.mono ?_; rintro e w3 ⟨p, rfl, hb3, hF3⟩)
  have HB3 := hid (below_then HB2.out hb3)
  have HX3 := hid (HX2.out.keep hb3)
  have HR3 := hid hF3.it
  obtain ⟨c0, c1, c2⟩ := ids_cells HX3.out
  have NX3 := NX.out p 0 w3 HR3.out
  clear NW2 hb3 hF3 HX HX2
  go_upto_region 8 with (go_at_call 19; refine NX3.mono ?_; rintro e w4 ⟨rfl, hb4⟩)
  have HB4 := hid (below_then HB3.out hb4)
  have HX4 := hid (HX3.out.keep hb4)
  have HR4 := hid (HR3.out.keep hb4)
  clear NX3 hb4 c0 c1 c2 HX3 HR3
  go_loopw [9, 10, 11] (fun s9 s10 s11 wr => ∃ (n k : Nat) (u : Int), s9 = .int .i64 n ∧ s10 = .int .i64 k ∧ s11 = .int .i64 (Rg.nxR l t c u) ∧ k ≤ n ∧ n ≤ 100 ∧ Hid (n = Rg.cb l t c u) ∧ Hid (Below W.heap.size W wr) ∧ Hid (Blk wr W.heap.size (tl t) 24) ∧ Hid (IsRing wr p l)) (fun s9 s10 s11 _ => nmeas (intOf s11))
  case atStart => exact ⟨0, 0, 0, rfl, rfl, rfl, by omega, by omega, hid (Rg.cb_zero hc HM.out.2.1).symm, HB4.out, HX4.out, HR4.out⟩
  case round =>
    obtain ⟨n, k, u, rfl, rfl, rfl, hkn, hn100, HN, HBr, HXr, HRr⟩ := hrel
    have hnl : n ≤ l.length := by rw [HN.out]; exact Nat.le_trans (Rg.cb_le l t c u) List.countP_le_length
    rcases Rg.nx_facts t u hc HM.out.2.1 with ⟨h1, h2⟩ | ⟨h1, h2, h3, h4, h5⟩
    · have hend := Rg.cb_end h2
      rw [h1]
      obtain ⟨c0, c1, c2⟩ := ids_cells HXr.out
      have CNr := CN.out p t wr HRr.out HT.out.low
      rw [← hend, ← HN.out] at CNr
      clear h1 h2 hend
      go_wp2_with (first
        | (go_at_call 16; refine CNr.mono ?_; rintro e w5 ⟨rfl, hb5⟩)
        | (go_at_call 13; refine (known_any _).mono ?_; rintro e w6 ⟨rfl, hb6⟩))
      go_ret
      exact ⟨rfl, below_then (below_then HBr.out hb5) hb6⟩
    · obtain ⟨v, hv⟩ : ∃ v, v = Rg.nxR l t c u := ⟨_, rfl⟩
      rw [← hv] at h1 h2 h3 h4 h5 ⊢
      have hv0 : ¬ v = 0 := by omega
      have hbv : (v == 0) = false := by rw [beq_eq_false_iff_ne]; exact hv0
      have hbv2 : (v != 0) = true := by simp [hv0]
      have hcs := Rg.cb_same h3 h5
      have hsc := Rg.cb_succ (l := l) (p := t) (v := v) hc (Or.inl H0.out) hv0
      have hpos := Rg.put_pos (l := l) hc (Or.inl H0.out) hv0 h4
      obtain ⟨m, hmm⟩ : ∃ m, m = l.countP (Rg.mt (Rg.put t c v)) := ⟨_, rfl⟩
      rw [← hmm] at hsc hpos
      have hn2 : n + m = Rg.cb l t c (v + 1) := by rw [hsc, hcs, HN.out]
      have hn3 : n + m ≤ l.length := by rw [hn2]; exact Nat.le_trans (Rg.cb_le l t c _) List.countP_le_length
      have HN2 := hid hn2
      have hlow := put_low HT.out c v hc (by omega)
      have HLOW := hid hlow
      have HMM := hid hmm
      have hnf := Rg.nx_facts t (v + 1) hc HM.out.2.1
      have hmeas : (Rg.nxR l t c (v + 1) = 0 ∨ v + 1 ≤ Rg.nxR l t c (v + 1) ∧ Rg.nxR l t c (v + 1) ≤ 1000) := by
        rcases hnf with h | h
        · exact Or.inl h.1
        · exact Or.inr ⟨h.2.2.1, h.2.1⟩
      obtain ⟨x, hx⟩ : ∃ x, x = Rg.nxR l t c (v + 1) := ⟨_, rfl⟩
      rw [← hx] at hmeas
      have HXX := hid hx
      have HVV := hid hv
      obtain ⟨c0, c1, c2⟩ := ids_cells HXr.out
      have hwsz := HBr.out.size
      have hlt := HXr.out.lt
      clear h3 h4 h5 hcs hsc hn2 hlow hmm hnf hx hv
      go_upto_region 11 with fail
      obtain ⟨w5, hw5, HQ, HB5⟩ := new3 wr (.int .i64 t.1) (.int .i64 t.2.1) (.int .i64 t.2.2) 24
      rw [← hw5]
      have HQ2 := hid (show Blk w5 wr.heap.size (tl t) 24 from HQ.out)
      have q0 := HQ2.out.cell (tl_get t c hc)
      have qf := HQ2.out.free c
      have HX5 := hid (HXr.out.keep HB5.out)
      have HR5 := hid (HRr.out.keep HB5.out)
      clear hw5 HQ c0 c1 c2
      go_upto_region 12 with fail
      obtain ⟨w6, hw6⟩ : ∃ w6, w6 = w5.setCell ⟨wr.heap.size, c, none⟩ (.int .i64 v) := ⟨_, rfl⟩
      rw [← hw6]
      have HQ6 := hid (show Blk w6 wr.heap.size (tl (Rg.put t c v)) 24 by rw [hw6, ← put_eq t c v hc]; exact HQ2.out.set c _)
      have HB6 := hid (show Below wr.heap.size wr w6 by rw [hw6]; exact HB5.out.setCell (Nat.le_refl _) _)
      have HX6 := hid (HXr.out.keep HB6.out)
      have HR6 := hid (HRr.out.keep HB6.out)
      obtain ⟨q, hq⟩ : ∃ q, q = Rg.put t c v := ⟨_, rfl⟩
      rw [← hq] at HQ6 HLOW HMM
      have HQQ := hid hq
      obtain ⟨y0, y1, y2⟩ := ids_cells HQ6.out
      have CN6 := CN.out p q w6 HR6.out HLOW.out
      rw [← HMM.out] at CN6
      clear hw6 q0 qf HQ2 HX5 HR5 HB5 hq
      go_upto_region 13 with (go_at_call 16; refine CN6.mono ?_; rintro e w7 ⟨rfl, hb7⟩)
      have HB7 := hid (below_then HB6.out hb7)
      have HX7 := hid (HX6.out.keep hb7)
      have HR7 := hid (HR6.out.keep hb7)
      obtain ⟨z0, z1, z2⟩ := ids_cells HX7.out
      have NX7 := NX.out p (v + 1) w7 HR7.out
      rw [← HXX.out] at NX7
      clear CN6 hb7 y0 y1 y2
      go_wp2_with (go_at_call 19; refine NX7.mono ?_; rintro e w8 ⟨rfl, hb8⟩)
      go_roundw
      case rel => exact ⟨n + m, k + 1, v + 1, by go_num, by go_num, by rw [HXX.out], by omega, by omega, HN2.out, below_then (below_then HBr.out HB7.out) hb8, HX7.out.keep hb8, HR7.out.keep hb8⟩
      case measure => exact nmeas_lt hv0 h2 hmeas
theorem ringParts_in (l : List Rg.T) (v0 : Value) (t : Rg.T) (col : Int) (W : World) (h : IdsAt W v0 l) (ht : Fits t) (hl : l.length ≤ 140737488351232) :
    Calls Try.prog 6 #[v0, tv t, .int .i64 col] W fun e W' => e = .returned (.bool true) ∧ Below W.heap.size W W' := by
  by_cases ho : 60 < l.length ∨ ¬ RMay l ∨ col < 0 ∨ 2 < col ∨ Rg.at' t col.toNat ≠ 0
  · exact ringParts_out v0 l t col W h hl ho
  · have h1 : ¬ 60 < l.length := fun k => ho (Or.inl k)
    have h2 : RMay l := Classical.byContradiction fun k => ho (Or.inr (Or.inl k))
    have h3 : ¬ col < 0 := fun k => ho (Or.inr (Or.inr (Or.inl k)))
    have h4 : ¬ 2 < col := fun k => ho (Or.inr (Or.inr (Or.inr (Or.inl k))))
    have h5 : Rg.at' t col.toNat = 0 := Classical.byContradiction fun k => ho (Or.inr (Or.inr (Or.inr (Or.inr k))))
    have := ringParts_yes v0 col.toNat l t W h ht h2 h1 (by omega) h5
    rwa [Int.toNat_of_nonneg (by omega)] at this

theorem ringParts_walk (H : Type) (enc : TypeId × Value → H) (W : World) (base : Nat) (args : Array Value) (ds gs : List (DataW H)) (before : List MemPlace)
    (hval : ∀ (j : Nat) t v, Try.f6.params[j]? = some t → args[j]? = some v → Value.okWide Try.prog W .any base t v)
    (hW : DataW.Whole enc Try.prog Try.f6.params.toList Rows.ringPartsSpec.vars false W args.toList ds gs before)
    (hz : (DataW.weightsEach Try.prog (Try.f6.params.toList ++ Rows.ringPartsSpec.plain.varTypes Try.prog) (ds ++ gs)).all (· ≤ reachBytes) = true)
    (hL : laidMetH Try.prog Rows.ringPartsRow.laid W) (hsh : W.ShapedOpen Try.prog) :
    Calls Try.prog 6 args W fun e W' => e = .returned (.bool true) ∧ Below W.heap.size W W' := by
  obtain ⟨p, q, hA, _, _, _, _⟩ := hW
  rw [Try.params6] at hA hval
  rw [Try.params6] at hz
  obtain ⟨v0, vs0, d0, ds0, p0, q0, hargs, rfl, rfl, h0, r0⟩ := trodAll_cons hA
  obtain ⟨v1, vs1, d1, ds1, p1, q1, rfl, rfl, rfl, h1, r1⟩ := trodAll_cons r0
  obtain ⟨v2, vs2, d2, ds2, p2, q2, rfl, rfl, rfl, h2, r2⟩ := trodAll_cons r1
  obtain ⟨rfl, rfl, rfl⟩ := trodAll_nil r2
  obtain rfl : args = #[v0, v1, v2] := by cases args; simp_all
  obtain ⟨l0, L0, b0, z0⟩ := arg_ids (hval 0 22 v0 rfl rfl) h0 (sized_arg hz (j := 0) (t := 22) (d := d0) rfl rfl)
  obtain ⟨t1, rfl, b1⟩ := arg_id h1
  obtain ⟨x2, rfl, rfl, rfl, w2⟩ := open_int Try.underlying3 (hval 2 3 v2 rfl rfl) h2
  have b2 := bounds_i64 w2
  exact ringParts_in l0 v0 t1 x2 W L0 b1 z0

theorem ringParts_lifted (os : Os) (started : os.Started) (H : Type) (enc : TypeId × Value → H) (F : Stop.Interp) :
    ReturnsInHanded {} Try.checked os 6 .any ((OpenSpec.ofChange Rows.ringPartsSpec).preRow enc Try.prog Try.f6 Rows.ringPartsRow.domain false Rows.ringPartsRow.laid) (((OpenSpec.ofChange Rows.ringPartsSpec).at F).post enc Try.prog Try.f6 false true false false) := by
  obtain ⟨places, hx⟩ : ∃ places, DataW.whole enc Try.prog ((World.holding Try.prog os ⟨#[], #[], []⟩).forCall (fun _ _ => 0) ⟨#[], #[.slice none 0 0, .agg #[.int .i64 0, .int .i64 0, .int .i64 0], .int .i64 0], []⟩).memory Try.f6.params.toList Rows.ringPartsSpec.vars false (#[.slice none 0 0, .agg #[.int .i64 0, .int .i64 0, .int .i64 0], .int .i64 0] : Array Value).toList 8 = some ([.nil, .agg [.lit (.int .i64 0), .lit (.int .i64 0), .lit (.int .i64 0)], .lit (.int .i64 0)], [], places) := ⟨[], by kernel_rfl⟩
  refine returnsInHanded_of_row (C := Try.checked) (s := OpenSpec.ofChange Rows.ringPartsSpec) own started (by kernel_rfl) Try.func6
    (witness_row_at (enc := enc) (C := Try.checked) false (World.holding Try.prog os ⟨#[], #[], []⟩) #[.slice none 0 0, .agg #[.int .i64 0, .int .i64 0, .int .i64 0], .int .i64 0] rfl (by kernel_rfl) (by kernel_rfl) (by kernel_rfl)
      (OpenSpec.preRow_of_cond 8 hx (by kernel_rfl) (fun k hk => by cases hk) (by kernel_rfl) (laidMet_nil _ _))) ?_
  intro W base args ds gs before hval hW _ _ hz hL hsh _
  refine (ringParts_walk H enc W base args ds gs before hval hW hz hL hsh).mono fun e W' ⟨he, hb⟩ => ⟨_, he, ?_⟩
  exact law_post (fn := Try.f6) (s := Rows.ringPartsSpec) (tb := 4) rfl (fun ds hd => by match ds, hd with | [d0, d1, d2], _ => rfl) rfl Try.underlying4 (by kernel_rfl) hW hb

theorem ringParts_said : Rows.RingPartsSaid :=
  OpenClaim.holds_of_cond 6 Try.f6 rfl rfl rfl rfl rfl rfl rfl ⟨rfl, rfl, rfl, rfl, rfl⟩ rfl rfl rfl rfl rfl (by kernel_rfl) Try.func6 (by kernel_rfl)
    (of_decide_eq_true (by kernel_rfl)) (by unfold Func.isWrapper; first | (rw [if_pos (by decide +kernel)]; kernel_rfl) | (rw [if_neg (by decide +kernel)]; exact ⟨rfl, rfl⟩))
    (fun os started H enc _ F => by rw [OpenClaim.pre_eq_preRow]; exact ringParts_lifted os started H enc F)
end Go.Proofs.Ytagadfgginneeaa
