/- WaveOwn: what is handed in is not kept; a nil Wave has no numbers, for every input. -/
import Derived.Test.YtpjflmocbmmmaaaWvLaw
namespace Go.Proofs.Ytpjflmocbmmmaaa
set_option linter.unusedVariables false
set_option linter.unusedSimpArgs false
set_option maxRecDepth 100000
open Go.ChangeShapes Go.WideShapes Go.ChangeAt Go.RowKit

theorem waveOwn_long (a : Option Addr) (n cap : Nat) (width : Int) (x y z : Int) (W : World) (hn2 : n ≤ 9223372036854775807) (h : 200 < n) :
    Calls Try.prog 7 #[.slice a n cap, .int .i64 width, .int .i64 x, .int .i64 y, .int .i64 z] W fun e W' => e = .returned (.bool true) ∧ Below W.heap.size W W' := by
  go_enter Try.func7, Try.ntmps7
  go_wp2
  go_ret
  exact ⟨rfl, Below.refl _ _⟩

theorem waveOwn_none (a : Option Addr) (n cap : Nat) (L : List Int) (width : Int) (x y z : Int) (W : World) (hn : n = L.length) (hn2 : n ≤ 9223372036854775807) (hb : ∀ i, -9223372036854775808 ≤ L.getD i 0 ∧ L.getD i 0 ≤ 9223372036854775807) (hR : RowAt W a n fun i => i64v (L.getD i 0)) (h : n ≤ 200) (hM : ¬ Pm.May L width) :
    Calls Try.prog 7 #[.slice a n cap, .int .i64 width, .int .i64 x, .int .i64 y, .int .i64 z] W fun e W' => e = .returned (.bool true) ∧ Below W.heap.size W W' := by
  have MN := hid (rmay_no' a n cap width L W hn hn2 hb hR hM)
  clear hn hb hR hM
  go_enter Try.func7, Try.ntmps7
  go_wp2_with (go_at_call 12; refine MN.out.mono ?_; rintro e w' ⟨rfl, rfl⟩)
  go_ret
  exact ⟨rfl, Below.refl _ _⟩

theorem Try.woinfo3 : (Try.prog.info? 3).map (fun i => (i.zero, i.size, i.bytes)) = some (some (.int .i64 0), 1, 8) := by kernel_rfl
theorem Fresh.setOld {B : Nat} {w : World} {P : World → Prop} (h : Fresh B w P) (g o : Nat) (u : Value) (hg : g < B) : Fresh B (w.setCell ⟨g, o, none⟩ u) P :=
  fun w'' hw => h w'' fun k hk hl => by rw [hw k hk (by simpa using hl), Below.heap_setCell _ _ _ _ (by show k ≠ g; omega)]
set_option maxHeartbeats 2000000 in
theorem waveOwn_in (a : Option Addr) (n cap wd : Nat) (l : List Nat) (x y z : Int) (W : World) (hn : n = l.length) (hcap : n ≤ cap) (hcm : cap ≤ maxLen) (hM : Pm.May (l.map fun x : Nat => (x : Int)) wd) (hA : NatsAt W a l) (hnil : a = none → n = 0 ∧ cap = 0) (h : n ≤ 200) :
    Calls Try.prog 7 #[.slice a n cap, .int .i64 wd, .int .i64 x, .int .i64 y, .int .i64 z] W fun e W' => e = .returned (.bool true) ∧ Below W.heap.size W W' := by
  obtain ⟨i0, hi, hz0, hz1, hz2⟩ := info_parts Try.woinfo3
  have HNIL := hid hnil
  have HN := hid hn
  have HM := hid hM
  have HA := hid hA
  have HLT := hid (may_nat hM).2.2
  have hwd : wd ≤ 20 := (may_nat hM).1
  have hP := hid (Below.refl W.heap.size W)
  clear hn hM hA hnil
  go_enter Try.func7, Try.ntmps7
  go_upto_region 3 with (go_at_call 12; refine (rmay_yes' a n cap wd l W _ HN.out HA.out HM.out hP.out).mono ?_; rintro e w' ⟨rfl, hww⟩; have hww' := hww.symm; subst hww')
  go_wp2_with (at_builtin; refine wpList_append_row rfl (.tmp 26) (.tmp 27) 22 rfl W.heap.size 3 i0 _ 8 Try.underlying22 hi hz0 hz1 hz2 rfl (.slice (some ⟨W.heap.size, 0, none⟩) 0 0) 0 [] rfl ?own a n cap (fun i => iv l i) rfl ?nil ?row ?one ?b1 ?b2 ?base ?_)
  case own => exact World.ownsRow_made W #[] 0 (Nat.le_refl _) (by unfold maxLen; omega) rfl
  case nil => exact HNIL.out
  case row =>
    have h := NatsAt.keep HA.out ((Below.refl W.heap.size W).alloc (Nat.le_refl _) (.cells #[] 3))
    unfold NatsAt at h
    rw [← HN.out] at h
    exact h
  case one => intro j _; rfl
  case b1 => unfold maxLen; omega
  case b2 => omega
  case base => simp
  intro v1 w1 hown hgr
  rw [ivs_range l n HN.out] at hown
  have hb1 : Below W.heap.size W w1 := ((Below.refl W.heap.size W).alloc (Nat.le_refl _) _).grown hgr (by simp) (fun k hk => by
    simp only [Value.ownBlock, Option.some.injEq] at hk; omega)
  have HB1 := hid hb1
  have HO1 := hid hown
  obtain ⟨a1, cap1, rfl, h11, h12, h13, h1A⟩ := numsAt_own hown HN.out
  have NW := hid (wnew_ok a1 n cap1 wd l w1 HN.out HM.out h1A)
  clear hown hgr hb1 h1A
  go_wp2_with (go_at_call 11; refine NW.out.mono ?_; rintro e w2 ⟨p, rfl, hB2, hF2⟩)
  have HF2 := hid hF2
  have HB2 := hid (below_then HB1.out hB2)
  have HO2 := hid (own_below HO1.out hB2)
  have hltown : ∀ g, a1 = some ⟨g, 0, none⟩ → W.heap.size ≤ g ∧ g < w1.heap.size := fun g hg => HO1.out.lt g (by rw [hg]; rfl)
  have HLO := hid hltown
  clear hltown hF2 hB2 NW HO1
  go_loopw [14] (fun s14 wr => ∃ (i : Nat) (xs : List Value), i ≤ n ∧ s14 = .int .i64 i ∧ Hid (wr.ownsRow W.heap.size 3 1 (.slice a1 n cap1) n xs) ∧ Hid (Fresh w1.heap.size wr (fun W => IsWave W p l wd)) ∧ Hid (Below W.heap.size W wr)) (fun s14 _ => n - (intOf s14).toNat)
  case atStart => exact ⟨0, _, by omega, rfl, HO2, HF2, HB2⟩
  case round =>
    obtain ⟨i, xs, hin, rfl, HO, HF, HB⟩ := hrel
    by_cases hlt : i < n
    · obtain ⟨g, rfl⟩ : ∃ g, a1 = some ⟨g, 0, none⟩ := by
        rcases HO.out.2 with ⟨e, h0⟩ | ⟨g, cp, cur, e, _⟩
        · cases e; omega
        · cases e; exact ⟨g, rfl⟩
      have hg := HLO.out g rfl
      have hxl : xs.length = n * 1 := HO.out.1
      have c1 : wr.cell? ⟨g, i, none⟩ = some (xs[i]'(by omega)) := by rw [HO.out.cellAt i (by omega), List.getElem?_eq_getElem]
      have f1 := HO.out.frozenAt i
      have HST := hid (HO.out.stored i (.int .i64 (-1))).1
      have HFS := hid (HF.out.setOld g i (.int .i64 (-1)) hg.2)
      have HBS := hid (show Below W.heap.size W (wr.setCell ⟨g, i, none⟩ (.int .i64 (-1))) from HB.out.setCell hg.1 _)
      generalize xs[i]'(by omega) = u at c1
      have hltI : (i : Int) < n := by omega
      clear hxl
      go_wp2
      go_roundw
      case rel => exact ⟨i + 1, _, by omega, by go_num, HST, HFS, HBS⟩
      case measure => simp [intOf]; omega
    · obtain rfl : i = n := by omega
      have IW := hid HF.out.it
      have hD := HB
      clear HO HF HO2 HF2 HB2 HLO
      go_wp2
      obtain ⟨wo, rfl⟩ : ∃ wo : World, wo = wr := ⟨_, rfl⟩
      go_loopw [15] (fun s15 wr => ∃ k : Nat, k ≤ i ∧ s15 = .int .i64 k ∧ Hid (Below wo.heap.size wo wr)) (fun s15 _ => i - (intOf s15).toNat)
      case atStart => exact ⟨0, by omega, rfl, Below.refl _ _⟩
      case round =>
        obtain ⟨k, hkn, rfl, HB3⟩ := hrel
        by_cases hlt2 : k < i
        · obtain ⟨b, off, rfl, hc⟩ := (NatsAt.keep HA.out (below_then hD.out HB3.out)).get (i := k) (by rw [← HN.out]; exact hlt2)
          have hcw := hc k (by rw [← HN.out]; exact hlt2)
          have AC := hid (fun q : Later wr.heap.size wr => wacc_in p wd k l q.it (IW.out.keep (below_then HB3.out q.low)) (by rw [← HN.out]; exact hlt2))
          obtain ⟨t, ht⟩ : ∃ t, t = l.getD k 0 := ⟨_, rfl⟩
          rw [← ht] at AC hcw
          have g0 := fun q : Later wr.heap.size wr => q.keep hcw
          have hltI : (k : Int) < i := by omega
          clear hc ht hcw
          go_wp2
          refine wp_region_later wr.heap.size (by kernel_rfl) (by kernel_rfl) ?_
          repeat (go_big_quiet_step ((go_at_call 15; with_reducible exact Later.call (Nat.le_refl _) (AC.out _))))
          refine wpQuiet_nil ?_
          rintro _ ⟨q, rfl⟩
          go_wp2
          go_roundw
          case rel => exact ⟨k + 1, by omega, by go_num, below_then HB3.out q.low⟩
          case measure => simp [intOf]; omega
        · obtain rfl : k = i := by omega
          have hC := hid HB3.out
          go_wp2_with (first
            | (go_at_call 14; refine (wlen_nil _).mono ?_; rintro e w' ⟨rfl, rfl⟩)
            | (go_at_call 16; refine (wrank_nil _ _ _).mono ?_; rintro e w' ⟨rfl, hB⟩; have hC := hid (below_then hC.out hB))
            | (go_at_call 20; refine (wcount_nil _ _ _ _ _).mono ?_; rintro e w' ⟨rfl, hB⟩; have hC := hid (below_then hC.out hB))
            | (go_at_call 25; refine (wdist_nil _ _ _).mono ?_; rintro e w' ⟨ad, cp, rfl, hB⟩; have hC := hid (below_then hC.out hB))
            | (go_at_call 15; refine (wacc_nil _ _).mono ?_; rintro e w' ⟨rfl, rfl⟩)
            | (go_at_call 18; refine (wsel_nil _ _ _).mono ?_; rintro e w' ⟨rfl, hB⟩; have hC := hid (below_then hC.out hB))
            | (go_at_call 22; refine (wnext_nil _ _ _ _).mono ?_; rintro e w' ⟨rfl, hB⟩; have hC := hid (below_then hC.out hB))
            | (go_at_call 13; refine (known_any _).mono ?_; rintro e w' ⟨rfl, hB⟩; have hC := hid (below_then hC.out hB)))
          go_ret
          exact ⟨rfl, below_then hD.out hC.out⟩

theorem waveOwn_walk (H : Type) (enc : TypeId × Value → H) (W : World) (base : Nat) (args : Array Value) (ds gs : List (DataW H)) (before : List MemPlace)
    (hval : ∀ (j : Nat) t v, Try.f7.params[j]? = some t → args[j]? = some v → Value.okWide Try.prog W .any base t v)
    (hW : DataW.Whole enc Try.prog Try.f7.params.toList Rows.waveOwnSpec.vars false W args.toList ds gs before)
    (hz : (DataW.weightsEach Try.prog (Try.f7.params.toList ++ Rows.waveOwnSpec.plain.varTypes Try.prog) (ds ++ gs)).all (· ≤ reachBytes) = true)
    (hL : laidMetH Try.prog Rows.waveOwnRow.laid W) (hsh : W.ShapedOpen Try.prog) :
    Calls Try.prog 7 args W fun e W' => e = .returned (.bool true) ∧ Below W.heap.size W W' := by
  obtain ⟨p, q, hA, _, _, _, _⟩ := hW
  rw [Try.params7] at hA hval
  rw [Try.params7] at hz
  obtain ⟨v0, vs0, d0, ds0, p0, q0, hargs, rfl, rfl, h0, r0⟩ := trodAll_cons hA
  obtain ⟨v1, vs1, d1, ds1, p1, q1, rfl, rfl, rfl, h1, r1⟩ := trodAll_cons r0
  obtain ⟨v2, vs2, d2, ds2, p2, q2, rfl, rfl, rfl, h2, r2⟩ := trodAll_cons r1
  obtain ⟨v3, vs3, d3, ds3, p3, q3, rfl, rfl, rfl, h3, r3⟩ := trodAll_cons r2
  obtain ⟨v4, vs4, d4, ds4, p4, q4, rfl, rfl, rfl, h4, r4⟩ := trodAll_cons r3
  obtain ⟨rfl, rfl, rfl⟩ := trodAll_nil r4
  obtain rfl : args = #[v0, v1, v2, v3, v4] := by cases args; simp_all
  obtain ⟨l0, L0, b0, z0⟩ := arg_ints Try.underlying22 Try.underlying3 (show Try.prog.cellsOf 3 = 1 ∧ Try.prog.bytesOf 3 = 8 by exact ⟨by kernel_rfl, by kernel_rfl⟩) (hval 0 22 v0 rfl rfl) h0 (sized_arg hz (j := 0) (t := 22) (d := d0) rfl rfl)
  obtain ⟨x1, rfl, rfl, rfl, w1⟩ := open_int Try.underlying3 (hval 1 3 v1 rfl rfl) h1
  have b1 := bounds_i64 w1
  obtain ⟨x2, rfl, rfl, rfl, w2⟩ := open_int Try.underlying3 (hval 2 3 v2 rfl rfl) h2
  have b2 := bounds_i64 w2
  obtain ⟨x3, rfl, rfl, rfl, w3⟩ := open_int Try.underlying3 (hval 3 3 v3 rfl rfl) h3
  have b3 := bounds_i64 w3
  obtain ⟨x4, rfl, rfl, rfl, w4⟩ := open_int Try.underlying3 (hval 4 3 v4 rfl rfl) h4
  have b4 := bounds_i64 w4
  obtain ⟨a, cap, rfl, h1, h2, h3, hr⟩ := id L0
  have hn2 : l0.length ≤ 9223372036854775807 := by unfold maxLen at h2; omega
  by_cases h200 : 200 < l0.length
  · exact waveOwn_long a _ cap x1 x2 x3 x4 W hn2 h200
  · by_cases hM : Pm.May l0 x1
    · have hnl : a = none → l0.length = 0 ∧ cap = 0 := fun e => ⟨by have := h3 e; omega, h3 e⟩
      have h200' : l0.length ≤ 200 := by omega
      obtain ⟨l, wd, rfl, rfl⟩ := may_split hM
      exact waveOwn_in a _ cap wd l x2 x3 x4 W (by simp) (by simpa using h1) h2 hM (natsAt_of (by simp) hr) hnl h200'
    · exact waveOwn_none a _ cap l0 x1 x2 x3 x4 W rfl hn2 b0 hr (by omega) hM

theorem waveOwn_lifted (os : Os) (started : os.Started) (H : Type) (enc : TypeId × Value → H) (F : Stop.Interp) :
    ReturnsInHanded {} Try.checked os 7 .any ((OpenSpec.ofChange Rows.waveOwnSpec).preRow enc Try.prog Try.f7 Rows.waveOwnRow.domain false Rows.waveOwnRow.laid) (((OpenSpec.ofChange Rows.waveOwnSpec).at F).post enc Try.prog Try.f7 false true false false) := by
  obtain ⟨places, hx⟩ : ∃ places, DataW.whole enc Try.prog ((World.holding Try.prog os ⟨#[], #[], []⟩).forCall (fun _ _ => 0) ⟨#[], #[.slice none 0 0, .int .i64 0, .int .i64 0, .int .i64 0, .int .i64 0], []⟩).memory Try.f7.params.toList Rows.waveOwnSpec.vars false (#[.slice none 0 0, .int .i64 0, .int .i64 0, .int .i64 0, .int .i64 0] : Array Value).toList 8 = some ([.nil, .lit (.int .i64 0), .lit (.int .i64 0), .lit (.int .i64 0), .lit (.int .i64 0)], [], places) := ⟨[], by kernel_rfl⟩
  refine returnsInHanded_of_row (C := Try.checked) (s := OpenSpec.ofChange Rows.waveOwnSpec) own started (by kernel_rfl) Try.func7
    (witness_row_at (enc := enc) (C := Try.checked) false (World.holding Try.prog os ⟨#[], #[], []⟩) #[.slice none 0 0, .int .i64 0, .int .i64 0, .int .i64 0, .int .i64 0] rfl (by kernel_rfl) (by kernel_rfl) (by kernel_rfl)
      (OpenSpec.preRow_of_cond 8 hx (by kernel_rfl) (fun k hk => by cases hk) (by kernel_rfl) (laidMet_nil _ _))) ?_
  intro W base args ds gs before hval hW _ _ hz hL hsh _
  refine (waveOwn_walk H enc W base args ds gs before hval hW hz hL hsh).mono fun e W' ⟨he, hb⟩ => ⟨_, he, ?_⟩
  exact law_post (fn := Try.f7) (s := Rows.waveOwnSpec) (tb := 4) rfl (fun ds hd => by match ds, hd with | [d0, d1, d2, d3, d4], _ => rfl) rfl Try.underlying4 (by kernel_rfl) hW hb

theorem waveOwn_said : Rows.WaveOwnSaid :=
  OpenClaim.holds_of_cond 7 Try.f7 rfl rfl rfl rfl rfl rfl rfl ⟨rfl, rfl, rfl, rfl, rfl⟩ rfl rfl rfl rfl rfl (by kernel_rfl) Try.func7 (by kernel_rfl)
    (of_decide_eq_true (by kernel_rfl)) (by unfold Func.isWrapper; first | (rw [if_pos (by decide +kernel)]; kernel_rfl) | (rw [if_neg (by decide +kernel)]; exact ⟨rfl, rfl⟩))
    (fun os started H enc _ F => by rw [OpenClaim.pre_eq_preRow]; exact waveOwn_lifted os started H enc F)
end Go.Proofs.Ytpjflmocbmmmaaa
