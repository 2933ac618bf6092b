/- WaveNext: the next one is there, and none lies between; so all are found, rising, for every input. -/
import Derived.Test.YtpjflmocbmmmaaaWvLaw
namespace Go.Proofs.Ytpjflmocbmmmaaa
set_option linter.unusedVariables false
set_option linter.unusedSimpArgs false
set_option maxRecDepth 100000
open Go.ChangeShapes Go.WideShapes Go.ChangeAt Go.RowKit

theorem waveNext_long (a : Option Addr) (n cap : Nat) (width : Int) (fr ed : Int) (W : World) (hn2 : n ≤ 9223372036854775807) (h : 200 < n) :
    Calls Try.prog 6 #[.slice a n cap, .int .i64 width, .int .i64 fr, .int .i64 ed] W fun e W' => e = .returned (.bool true) ∧ Below W.heap.size W W' := by
  go_enter Try.func6, Try.ntmps6
  go_wp2
  go_ret
  exact ⟨rfl, Below.refl _ _⟩

theorem waveNext_none (a : Option Addr) (n cap : Nat) (L : List Int) (width : Int) (fr ed : Int) (W : World) (hn : n = L.length) (hn2 : n ≤ 9223372036854775807) (hb : ∀ i, -9223372036854775808 ≤ L.getD i 0 ∧ L.getD i 0 ≤ 9223372036854775807) (hR : RowAt W a n fun i => i64v (L.getD i 0)) (h : n ≤ 200) (hM : ¬ Pm.May L width) :
    Calls Try.prog 6 #[.slice a n cap, .int .i64 width, .int .i64 fr, .int .i64 ed] W fun e W' => e = .returned (.bool true) ∧ Below W.heap.size W W' := by
  have MN := hid (rmay_no' a n cap width L W hn hn2 hb hR hM)
  clear hn hb hR hM
  go_enter Try.func6, Try.ntmps6
  go_wp2_with (go_at_call 12; refine MN.out.mono ?_; rintro e w' ⟨rfl, rfl⟩)
  go_ret
  exact ⟨rfl, Below.refl _ _⟩

/-- One found, and what is left. -/
theorem dis_step (s : List Nat) (y : Int) (D : List Int) (i : Nat) (h0 : 0 ≤ y) (hi : i < D.length) (h : Wv.disV s y = D.drop i) :
    Wv.nxt s y = D.getD i 0 ∧ y ≤ D.getD i 0 ∧ Wv.disV s (D.getD i 0 + 1) = D.drop (i + 1) ∧ 1 ≤ Wv.cntR s (D.getD i 0) (D.getD i 0) ∧ ∃ x ∈ s, D.getD i 0 = (x : Int) := by
  have hd : D.drop i = D.getD i 0 :: D.drop (i + 1) := by
    rw [List.getD, List.getElem?_eq_getElem hi]
    exact List.drop_eq_getElem_cons hi
  by_cases hn : Wv.nxt s y = -1
  · rw [Wv.disV_none hn, hd] at h; cases h
  · rw [Wv.disV_some hn, hd] at h
    obtain ⟨e1, e2⟩ := List.cons.inj h
    rw [e1] at e2
    refine ⟨e1, ?_⟩
    rcases Wv.nxt_is s y with ⟨h1, _⟩ | ⟨x, hx, h1, h2, _⟩
    · exact absurd h1 hn
    · rw [← e1] at e2 ⊢
      rw [h1] at e2 ⊢
      refine ⟨h2, e2, ?_, x, hx, rfl⟩
      have : 0 < s.countP fun n : Nat => decide ((x : Int) ≤ n) && decide ((n : Int) ≤ x) := by
        rw [List.countP_pos_iff]; exact ⟨x, hx, by simp⟩
      exact this
set_option maxHeartbeats 2000000 in
theorem waveNext_in (a : Option Addr) (n cap wd : Nat) (l : List Nat) (fr ed : Int) (W : World) (hn : n = l.length) (hcap : n ≤ cap) (hcm : cap ≤ maxLen) (hM : Pm.May (l.map fun x : Nat => (x : Int)) wd) (hA : NatsAt W a l) (h : n ≤ 200) :
    Calls Try.prog 6 #[.slice a n cap, .int .i64 wd, .int .i64 fr, .int .i64 ed] W fun e W' => e = .returned (.bool true) ∧ Below W.heap.size W W' := by
  have HN := hid hn
  have HM := hid hM
  have HA := hid hA
  have HLT := hid (may_nat hM).2.2
  have hwd : wd ≤ 20 := (may_nat hM).1
  have hP := hid (Below.refl W.heap.size W)
  clear hn hM hA
  have h20 := Nat.pow_le_pow_right (n := 2) (by omega) hwd
  have hl : ∀ x ∈ Wv.rng l fr ed, x < 1048576 := fun x hx => by have := HLT.out x (Wv.rng_mem hx); omega
  have HL := hid hl
  have DS := hid (fun p W (h : IsWave W p l wd) => wdist_any p wd l fr ed W h)
  have NX := hid (fun p W (y : Int) (h : IsWave W p l wd) => wnext_any p wd l fr ed y W h)
  have CN := hid (fun p W (y : Int) (hy : -9223372036854775808 ≤ y) (h : IsWave W p l wd) => wcount_any p wd l fr ed y y W h hy)
  have hdl : (Wv.disV (Wv.rng l fr ed) 0).length ≤ n := by
    have h1 := Wv.disV_length (Wv.rng l fr ed) _ 0 (Wv.fromR_le _ _)
    have h2 := Wv.rng_length l fr ed
    have h3 := Wv.hiEnd_le l.length ed
    have := HN.out
    omega
  have hc200 : ∀ y, Wv.cntR (Wv.rng l fr ed) y y ≤ 200 := fun y => by
    have h1 := Wv.cntR_le (Wv.rng l fr ed) y y
    have h2 := Wv.rng_length l fr ed
    have h3 := Wv.hiEnd_le l.length ed
    have := HN.out
    omega
  have HC200 := hid hc200
  generalize Wv.rng l fr ed = s at *
  obtain ⟨D, hD⟩ : ∃ D, D = Wv.disV s 0 := ⟨_, rfl⟩
  rw [← hD] at DS hdl
  have HD := hid hD
  obtain ⟨m, hm⟩ : ∃ m, m = D.length := ⟨_, rfl⟩
  rw [← hm] at DS hdl
  have HM2 := hid hm
  clear hD hm hl hc200
  go_enter Try.func6, Try.ntmps6
  go_wp2_with (first
      | (go_at_call 12; refine (rmay_yes' a n cap wd l W _ HN.out HA.out HM.out hP.out).mono ?_; rintro e w' ⟨rfl, rfl⟩)
      | (go_at_call 11; refine (wnew_ok a n cap wd l _ HN.out HM.out (NatsAt.keep HA.out hP.out)).mono ?_; rintro e w1 ⟨p, rfl, hB1, hF1⟩; have IW := hid (Fresh.it hF1); have hC := hid (Below.refl w1.heap.size w1); have hD := hid (below_then hP.out hB1))
      | (go_at_call 25; refine (DS.out p _ IW.out).mono ?_; rintro e w2 ⟨ad, cp, rfl, hR1, hB2⟩))
  have HR := hid hR1
  have HB2 := hid hB2
  clear hR1 hB2
  go_loopw [12, 13] (fun s12 s13 wr => ∃ (i : Nat) (y : Int), i ≤ m ∧ s13 = .int .i64 i ∧ s12 = .int .i64 y ∧ 0 ≤ y ∧ y ≤ 1048576 ∧ Hid (Wv.disV s y = D.drop i) ∧ Hid (Below w2.heap.size w2 wr)) (fun _ s13 _ => m - (intOf s13).toNat)
  case atStart => exact ⟨0, 0, by omega, rfl, rfl, by omega, by omega, hid (by rw [← HD.out, List.drop_zero]), Below.refl _ _⟩
  case round =>
    obtain ⟨i, y, him, rfl, rfl, hy0, hy1, HI, HB⟩ := hrel
    have HBC := hid (below_then HB2.out HB.out)
    by_cases hlt : i < m
    · obtain ⟨b, off, rfl, hc⟩ := (RowAt.keep HR.out HB.out).get (i := i) hlt
      have hcw := hc i hlt
      have hst := dis_step s y D i hy0 (by rw [← HM2.out]; exact hlt) HI.out
      have NX1 := hid (fun q : Later wr.heap.size wr => NX.out p q.it y (IW.out.keep (below_then HBC.out q.low)))
      have CN1 := hid (fun q : Later wr.heap.size wr => CN.out p q.it (D.getD i 0) (by have := hst.2.1; omega) (IW.out.keep (below_then HBC.out q.low)))
      have hc2 := HC200.out (D.getD i 0)
      rw [hst.1] at NX1
      obtain ⟨x, hx⟩ : ∃ x, x = D.getD i 0 := ⟨_, rfl⟩
      rw [← hx] at hst NX1 CN1 hcw hc2
      have g0 := fun q : Later wr.heap.size wr => q.keep hcw
      have hyx := hst.2.1
      have hx1 : x < 1048576 := by
        obtain ⟨z, hz, e⟩ := hst.2.2.2.2
        have := HL.out z hz; omega
      have hcp := hst.2.2.2.1
      generalize Wv.cntR s x x = c at *
      have hcI : (1 : Int) ≤ c := by omega
      have hb1 : decide (x < y) = false := decide_eq_false (by omega)
      have hb2 : decide ((c : Int) < 1) = false := decide_eq_false (by omega)
      have hltI : (i : Int) < m := by omega
      have hin : (i : Int) ≤ n := by omega
      have HST := hid hst.2.2.1
      have hcw' := hcw
      clear hst hc hx hcw
      go_wp2
      refine wp_region_later wr.heap.size (by kernel_rfl) (by kernel_rfl) ?_
      repeat (go_big_quiet_step (first
        | (go_at_call 22; with_reducible exact Later.call (Nat.le_refl _) (NX1.out _))
        | (go_at_call 20; with_reducible exact Later.call (Nat.le_refl _) (CN1.out _))))
      refine wpQuiet_nil ?_
      rintro _ ⟨q, rfl⟩
      have g1 := g0 q
      clear g0 hcw'
      go_wp2
      go_roundw
      case rel => exact ⟨i + 1, x + 1, by omega, by go_num, rfl, by omega, by omega, HST, below_then HB.out q.low⟩
      case measure => simp [intOf]; omega
    · obtain rfl : i = m := by omega
      have hn1 : Wv.nxt s y = -1 := by
        apply Classical.byContradiction; intro hn
        have h1 := HI.out
        rw [Wv.disV_some hn, List.drop_of_length_le (by rw [← HM2.out]; exact Nat.le_refl _)] at h1
        cases h1
      have hC := hid HBC.out
      have NX2 := hid (fun W (h : IsWave W p l wd) => by
        have := NX.out p W y h
        rw [hn1] at this; exact this)
      have hinI : (i : Int) ≤ n := by omega
      clear hn1
      go_wp2_with (first
        | (go_at_call 22; refine (NX2.out _ (IW.out.keep hC.out)).mono ?_; rintro e w' ⟨rfl, hB⟩; have hC := hid (below_then hC.out hB))
        | (go_at_call 13; refine (known_any _).mono ?_; rintro e w' ⟨rfl, hB⟩; have hC := hid (below_then hC.out hB)))
      go_ret
      exact ⟨rfl, below_then hD.out hC.out⟩

theorem waveNext_walk (H : Type) (enc : TypeId × Value → H) (W : World) (base : Nat) (args : Array Value) (ds gs : List (DataW H)) (before : List MemPlace)
    (hval : ∀ (j : Nat) t v, Try.f6.params[j]? = some t → args[j]? = some v → Value.okWide Try.prog W .any base t v)
    (hW : DataW.Whole enc Try.prog Try.f6.params.toList Rows.waveNextSpec.vars false W args.toList ds gs before)
    (hz : (DataW.weightsEach Try.prog (Try.f6.params.toList ++ Rows.waveNextSpec.plain.varTypes Try.prog) (ds ++ gs)).all (· ≤ reachBytes) = true)
    (hL : laidMetH Try.prog Rows.waveNextRow.laid W) (hsh : W.ShapedOpen Try.prog) :
    Calls Try.prog 6 args W fun e W' => e = .returned (.bool true) ∧ Below W.heap.size W W' := by
  obtain ⟨p, q, hA, _, _, _, _⟩ := hW
  rw [Try.params6] at hA hval
  rw [Try.params6] at hz
  obtain ⟨v0, vs0, d0, ds0, p0, q0, hargs, rfl, rfl, h0, r0⟩ := trodAll_cons hA
  obtain ⟨v1, vs1, d1, ds1, p1, q1, rfl, rfl, rfl, h1, r1⟩ := trodAll_cons r0
  obtain ⟨v2, vs2, d2, ds2, p2, q2, rfl, rfl, rfl, h2, r2⟩ := trodAll_cons r1
  obtain ⟨v3, vs3, d3, ds3, p3, q3, rfl, rfl, rfl, h3, r3⟩ := trodAll_cons r2
  obtain ⟨rfl, rfl, rfl⟩ := trodAll_nil r3
  obtain rfl : args = #[v0, v1, v2, v3] := by cases args; simp_all
  obtain ⟨l0, L0, b0, z0⟩ := arg_ints Try.underlying22 Try.underlying3 (show Try.prog.cellsOf 3 = 1 ∧ Try.prog.bytesOf 3 = 8 by exact ⟨by kernel_rfl, by kernel_rfl⟩) (hval 0 22 v0 rfl rfl) h0 (sized_arg hz (j := 0) (t := 22) (d := d0) rfl rfl)
  obtain ⟨x1, rfl, rfl, rfl, w1⟩ := open_int Try.underlying3 (hval 1 3 v1 rfl rfl) h1
  have b1 := bounds_i64 w1
  obtain ⟨x2, rfl, rfl, rfl, w2⟩ := open_int Try.underlying3 (hval 2 3 v2 rfl rfl) h2
  have b2 := bounds_i64 w2
  obtain ⟨x3, rfl, rfl, rfl, w3⟩ := open_int Try.underlying3 (hval 3 3 v3 rfl rfl) h3
  have b3 := bounds_i64 w3
  obtain ⟨a, cap, rfl, h1, h2, h3, hr⟩ := id L0
  have hn2 : l0.length ≤ 9223372036854775807 := by unfold maxLen at h2; omega
  by_cases h200 : 200 < l0.length
  · exact waveNext_long a _ cap x1 x2 x3 W hn2 h200
  · by_cases hM : Pm.May l0 x1
    · obtain ⟨l, wd, rfl, rfl⟩ := may_split hM
      exact waveNext_in a _ cap wd l x2 x3 W (by simp) (by simpa using h1) h2 hM (natsAt_of (by simp) hr) (by simpa using h200)
    · exact waveNext_none a _ cap l0 x1 x2 x3 W rfl hn2 b0 hr (by omega) hM

theorem waveNext_lifted (os : Os) (started : os.Started) (H : Type) (enc : TypeId × Value → H) (F : Stop.Interp) :
    ReturnsInHanded {} Try.checked os 6 .any ((OpenSpec.ofChange Rows.waveNextSpec).preRow enc Try.prog Try.f6 Rows.waveNextRow.domain false Rows.waveNextRow.laid) (((OpenSpec.ofChange Rows.waveNextSpec).at F).post enc Try.prog Try.f6 false true false false) := by
  obtain ⟨places, hx⟩ : ∃ places, DataW.whole enc Try.prog ((World.holding Try.prog os ⟨#[], #[], []⟩).forCall (fun _ _ => 0) ⟨#[], #[.slice none 0 0, .int .i64 0, .int .i64 0, .int .i64 0], []⟩).memory Try.f6.params.toList Rows.waveNextSpec.vars false (#[.slice none 0 0, .int .i64 0, .int .i64 0, .int .i64 0] : Array Value).toList 8 = some ([.nil, .lit (.int .i64 0), .lit (.int .i64 0), .lit (.int .i64 0)], [], places) := ⟨[], by kernel_rfl⟩
  refine returnsInHanded_of_row (C := Try.checked) (s := OpenSpec.ofChange Rows.waveNextSpec) own started (by kernel_rfl) Try.func6
    (witness_row_at (enc := enc) (C := Try.checked) false (World.holding Try.prog os ⟨#[], #[], []⟩) #[.slice none 0 0, .int .i64 0, .int .i64 0, .int .i64 0] rfl (by kernel_rfl) (by kernel_rfl) (by kernel_rfl)
      (OpenSpec.preRow_of_cond 8 hx (by kernel_rfl) (fun k hk => by cases hk) (by kernel_rfl) (laidMet_nil _ _))) ?_
  intro W base args ds gs before hval hW _ _ hz hL hsh _
  refine (waveNext_walk H enc W base args ds gs before hval hW hz hL hsh).mono fun e W' ⟨he, hb⟩ => ⟨_, he, ?_⟩
  exact law_post (fn := Try.f6) (s := Rows.waveNextSpec) (tb := 4) rfl (fun ds hd => by match ds, hd with | [d0, d1, d2, d3], _ => rfl) rfl Try.underlying4 (by kernel_rfl) hW hb

theorem waveNext_said : Rows.WaveNextSaid :=
  OpenClaim.holds_of_cond 6 Try.f6 rfl rfl rfl rfl rfl rfl rfl ⟨rfl, rfl, rfl, rfl, rfl⟩ rfl rfl rfl rfl rfl (by kernel_rfl) Try.func6 (by kernel_rfl)
    (of_decide_eq_true (by kernel_rfl)) (by unfold Func.isWrapper; first | (rw [if_pos (by decide +kernel)]; kernel_rfl) | (rw [if_neg (by decide +kernel)]; exact ⟨rfl, rfl⟩))
    (fun os started H enc _ F => by rw [OpenClaim.pre_eq_preRow]; exact waveNext_lifted os started H enc F)
end Go.Proofs.Ytpjflmocbmmmaaa
