/- WaveEnds: places beyond the ends, and turned ones, are held within, for every input. -/
import Derived.Test.YtpjflmocbmmmaaaWvLaw
namespace Go.Proofs.Ytpjflmocbmmmaaa
set_option linter.unusedVariables false
set_option linter.unusedSimpArgs false
set_option maxRecDepth 100000
open Go.ChangeShapes Go.WideShapes Go.ChangeAt Go.RowKit

theorem waveEnds_long (a : Option Addr) (n cap : Nat) (width : Int) (fr ed : Int) (W : World) (hn2 : n ≤ 9223372036854775807) (h : 200 < n) :
    Calls Try.prog 8 #[.slice a n cap, .int .i64 width, .int .i64 fr, .int .i64 ed] W fun e W' => e = .returned (.bool true) ∧ Below W.heap.size W W' := by
  go_enter Try.func8, Try.ntmps8
  go_wp2
  go_ret
  exact ⟨rfl, Below.refl _ _⟩

theorem waveEnds_none (a : Option Addr) (n cap : Nat) (L : List Int) (width : Int) (fr ed : Int) (W : World) (hn : n = L.length) (hn2 : n ≤ 9223372036854775807) (hb : ∀ i, -9223372036854775808 ≤ L.getD i 0 ∧ L.getD i 0 ≤ 9223372036854775807) (hR : RowAt W a n fun i => i64v (L.getD i 0)) (h : n ≤ 200) (hM : ¬ Pm.May L width) :
    Calls Try.prog 8 #[.slice a n cap, .int .i64 width, .int .i64 fr, .int .i64 ed] W fun e W' => e = .returned (.bool true) ∧ Below W.heap.size W W' := by
  have MN := hid (rmay_no' a n cap width L W hn hn2 hb hR hM)
  clear hn hb hR hM
  go_enter Try.func8, Try.ntmps8
  go_wp2_with (go_at_call 12; refine MN.out.mono ?_; rintro e w' ⟨rfl, rfl⟩)
  go_ret
  exact ⟨rfl, Below.refl _ _⟩

set_option maxHeartbeats 1000000 in
theorem waveEnds_in (a : Option Addr) (n cap wd : Nat) (l : List Nat) (fr ed : Int) (W : World) (hn : n = l.length) (hcap : n ≤ cap) (hcm : cap ≤ maxLen) (hM : Pm.May (l.map fun x : Nat => (x : Int)) wd) (hA : NatsAt W a l) (h : n ≤ 200) :
    Calls Try.prog 8 #[.slice a n cap, .int .i64 wd, .int .i64 fr, .int .i64 ed] W fun e W' => e = .returned (.bool true) ∧ Below W.heap.size W W' := by
  have HN := hid hn
  have HM := hid hM
  have HA := hid hA
  have HLT := hid (may_nat hM).2.2
  have hwd : wd ≤ 20 := (may_nat hM).1
  have hP := hid (Below.refl W.heap.size W)
  clear hn hM hA
  have hdl : (Wv.disV (Wv.rng l fr ed) 0).length ≤ 200 := by
    have h1 := Wv.disV_length (Wv.rng l fr ed) _ 0 (Wv.fromR_le _ _)
    have h2 := Wv.rng_length l fr ed
    have h3 := Wv.hiEnd_le l.length ed
    have := HN.out
    omega
  obtain ⟨A, hA0⟩ : ∃ A : Nat, A = (min (max fr 0) n).toNat := ⟨_, rfl⟩
  obtain ⟨B, hB0⟩ : ∃ B : Nat, B = (min (max ed 0) n).toNat := ⟨_, rfl⟩
  have hrg : Wv.rng l A B = Wv.rng l fr ed := by
    unfold Wv.rng
    have e0 := HN.out
    have e1 : Wv.hiEnd l.length B = Wv.hiEnd l.length ed := by unfold Wv.hiEnd; omega
    have e2 : Wv.loEnd l.length A B = Wv.loEnd l.length fr ed := by unfold Wv.loEnd Wv.hiEnd; omega
    rw [e1, e2]
  have hcl : (Wv.cntR (Wv.rng l fr ed) 0 2097152 : Int) = max ((B : Int) - A) 0 := by
    have h1 := Wv.rng_length l fr ed
    have e0 := HN.out
    have : Wv.cntR (Wv.rng l fr ed) 0 2097152 = (Wv.rng l fr ed).length := by
      unfold Wv.cntR
      rw [List.countP_eq_length]
      intro x hx
      have := HLT.out x (Wv.rng_mem hx)
      have h2 := Nat.pow_le_pow_right (n := 2) (by omega) hwd
      simp only [Bool.and_eq_true, decide_eq_true_eq]; omega
    rw [this, h1]; unfold Wv.loEnd Wv.hiEnd; omega
  have D1 := hid (fun p W (h : IsWave W p l wd) => wdist_any p wd l fr ed W h)
  have D2 := hid (fun p W (h : IsWave W p l wd) => by
    have := wdist_any p wd l A B W h
    rw [hrg] at this; exact this)
  have R2 := hid (fun W (h : NatsAt W a l) => by
    have := rnext_any a n cap l A B 0 W HN.out h hcap hcm (by omega)
    rw [hrg] at this; exact this)
  have CN := hid (fun p W (h : IsWave W p l wd) => wcount_any p wd l fr ed 0 2097152 W h (by omega))
  generalize Wv.cntR (Wv.rng l fr ed) 0 2097152 = C at hcl CN
  have hA1 : A ≤ 200 := by omega
  have hB1' : B ≤ 200 := by omega
  have HAA := hid hA0
  have HBB := hid hB0
  clear hA0 hB0 hrg
  go_enter Try.func8, Try.ntmps8
  go_upto_region 6 with (first
      | (go_at_call 12; refine (rmay_yes' a n cap wd l W _ HN.out HA.out HM.out hP.out).mono ?_; rintro e w' ⟨rfl, rfl⟩)
      | (go_at_call 11; refine (wnew_ok a n cap wd l _ HN.out HM.out (NatsAt.keep HA.out hP.out)).mono ?_; rintro e w1 ⟨p, rfl, hB1, hF1⟩; have IW := hid (Fresh.it hF1); have hC := hid (Below.refl w1.heap.size w1); have hD := hid (below_then hP.out hB1)))
  go_cut [11, 12] (fun s11 s12 wx => s11 = .int .i64 A ∧ s12 = .int .i64 B ∧ wx = w1)
  case first =>
    go_wp2_with fail
    all_goals
      go_meet
      refine ⟨?_, ?_, rfl⟩ <;> (first | rfl | (congr 1; have := HAA.out; have := HBB.out; omega))
  case rest =>
    obtain ⟨rfl, rfl, rfl⟩ := hcut
    have hC := hid (Below.refl wc.heap.size wc)
    rcases (show A < B ∨ (A = B ∧ C = 0) ∨ (B < A ∧ C = 0) by omega) with hAB | ⟨hAB, hC0⟩ | ⟨hAB, hC0⟩
    · have hcl2 : (C : Int) = (B : Int) - A := by omega
      have hq1 : ((C : Int) == (B : Int) - A) = true := by rw [beq_iff_eq]; exact hcl2
      have hq2 : (0 : Int) < (B : Int) - A := by omega
      clear hcl hcl2
      go_wp2_with (first
        | (go_at_call 20; refine (CN.out p _ (IW.out.keep hC.out)).mono ?_; rintro e w' ⟨rfl, hB⟩; have hC := hid (below_then hC.out hB))
        | (go_at_call 25; with_reducible refine (D1.out p _ (IW.out.keep hC.out)).mono ?_; rintro e w' ⟨ad1, cp1, rfl, hR1, hB⟩; have hR1 := hid hR1; have hC := hid (below_then hC.out hB))
        | (go_at_call 25; with_reducible refine (D2.out p _ (IW.out.keep hC.out)).mono ?_; rintro e w' ⟨ad2, cp2, rfl, hR2, hB⟩; have hR1 := hid (hR1.out.keep hB); have hR2 := hid hR2; have hC := hid (below_then hC.out hB))
        | (go_at_call 24; refine (rsame_yes ad1 ad2 _ cp1 cp2 _ _ rfl (by omega) hR1.out hR2.out).mono ?_; rintro e w' ⟨rfl, hB⟩; have hC := hid (below_then hC.out hB))
        | (go_at_call 22; refine (wnext_any p wd l _ _ _ _ (IW.out.keep hC.out)).mono ?_; rintro e w' ⟨rfl, hB⟩; have hC := hid (below_then hC.out hB))
        | (go_at_call 23; refine (R2.out _ (NatsAt.keep HA.out (below_then hD.out hC.out))).mono ?_; rintro e w' ⟨rfl, rfl⟩)
        | (go_at_call 13; refine (known_any _).mono ?_; rintro e w' ⟨rfl, hB⟩; have hC := hid (below_then hC.out hB)))
      all_goals
        go_ret
        exact ⟨rfl, below_then hD.out hC.out⟩
    · subst hC0
      subst hAB
      clear hcl
      go_wp2_with (first
        | (go_at_call 20; refine (CN.out p _ (IW.out.keep hC.out)).mono ?_; rintro e w' ⟨rfl, hB⟩; have hC := hid (below_then hC.out hB))
        | (go_at_call 25; with_reducible refine (D1.out p _ (IW.out.keep hC.out)).mono ?_; rintro e w' ⟨ad1, cp1, rfl, hR1, hB⟩; have hR1 := hid hR1; have hC := hid (below_then hC.out hB))
        | (go_at_call 25; with_reducible refine (D2.out p _ (IW.out.keep hC.out)).mono ?_; rintro e w' ⟨ad2, cp2, rfl, hR2, hB⟩; have hR1 := hid (hR1.out.keep hB); have hR2 := hid hR2; have hC := hid (below_then hC.out hB))
        | (go_at_call 24; refine (rsame_yes ad1 ad2 _ cp1 cp2 _ _ rfl (by omega) hR1.out hR2.out).mono ?_; rintro e w' ⟨rfl, hB⟩; have hC := hid (below_then hC.out hB))
        | (go_at_call 22; refine (wnext_any p wd l _ _ _ _ (IW.out.keep hC.out)).mono ?_; rintro e w' ⟨rfl, hB⟩; have hC := hid (below_then hC.out hB))
        | (go_at_call 23; refine (R2.out _ (NatsAt.keep HA.out (below_then hD.out hC.out))).mono ?_; rintro e w' ⟨rfl, rfl⟩)
        | (go_at_call 13; refine (known_any _).mono ?_; rintro e w' ⟨rfl, hB⟩; have hC := hid (below_then hC.out hB)))
      all_goals
        go_ret
        exact ⟨rfl, below_then hD.out hC.out⟩
    · subst hC0
      have hq2 : (B : Int) - A < 0 := by omega
      clear hcl
      go_wp2_with (first
        | (go_at_call 20; refine (CN.out p _ (IW.out.keep hC.out)).mono ?_; rintro e w' ⟨rfl, hB⟩; have hC := hid (below_then hC.out hB))
        | (go_at_call 25; with_reducible refine (D1.out p _ (IW.out.keep hC.out)).mono ?_; rintro e w' ⟨ad1, cp1, rfl, hR1, hB⟩; have hR1 := hid hR1; have hC := hid (below_then hC.out hB))
        | (go_at_call 25; with_reducible refine (D2.out p _ (IW.out.keep hC.out)).mono ?_; rintro e w' ⟨ad2, cp2, rfl, hR2, hB⟩; have hR1 := hid (hR1.out.keep hB); have hR2 := hid hR2; have hC := hid (below_then hC.out hB))
        | (go_at_call 24; refine (rsame_yes ad1 ad2 _ cp1 cp2 _ _ rfl (by omega) hR1.out hR2.out).mono ?_; rintro e w' ⟨rfl, hB⟩; have hC := hid (below_then hC.out hB))
        | (go_at_call 22; refine (wnext_any p wd l _ _ _ _ (IW.out.keep hC.out)).mono ?_; rintro e w' ⟨rfl, hB⟩; have hC := hid (below_then hC.out hB))
        | (go_at_call 23; refine (R2.out _ (NatsAt.keep HA.out (below_then hD.out hC.out))).mono ?_; rintro e w' ⟨rfl, rfl⟩)
        | (go_at_call 13; refine (known_any _).mono ?_; rintro e w' ⟨rfl, hB⟩; have hC := hid (below_then hC.out hB)))
      all_goals
        go_ret
        exact ⟨rfl, below_then hD.out hC.out⟩

theorem waveEnds_walk (H : Type) (enc : TypeId × Value → H) (W : World) (base : Nat) (args : Array Value) (ds gs : List (DataW H)) (before : List MemPlace)
    (hval : ∀ (j : Nat) t v, Try.f8.params[j]? = some t → args[j]? = some v → Value.okWide Try.prog W .any base t v)
    (hW : DataW.Whole enc Try.prog Try.f8.params.toList Rows.waveEndsSpec.vars false W args.toList ds gs before)
    (hz : (DataW.weightsEach Try.prog (Try.f8.params.toList ++ Rows.waveEndsSpec.plain.varTypes Try.prog) (ds ++ gs)).all (· ≤ reachBytes) = true)
    (hL : laidMetH Try.prog Rows.waveEndsRow.laid W) (hsh : W.ShapedOpen Try.prog) :
    Calls Try.prog 8 args W fun e W' => e = .returned (.bool true) ∧ Below W.heap.size W W' := by
  obtain ⟨p, q, hA, _, _, _, _⟩ := hW
  rw [Try.params8] at hA hval
  rw [Try.params8] at hz
  obtain ⟨v0, vs0, d0, ds0, p0, q0, hargs, rfl, rfl, h0, r0⟩ := trodAll_cons hA
  obtain ⟨v1, vs1, d1, ds1, p1, q1, rfl, rfl, rfl, h1, r1⟩ := trodAll_cons r0
  obtain ⟨v2, vs2, d2, ds2, p2, q2, rfl, rfl, rfl, h2, r2⟩ := trodAll_cons r1
  obtain ⟨v3, vs3, d3, ds3, p3, q3, rfl, rfl, rfl, h3, r3⟩ := trodAll_cons r2
  obtain ⟨rfl, rfl, rfl⟩ := trodAll_nil r3
  obtain rfl : args = #[v0, v1, v2, v3] := by cases args; simp_all
  obtain ⟨l0, L0, b0, z0⟩ := arg_ints Try.underlying22 Try.underlying3 (show Try.prog.cellsOf 3 = 1 ∧ Try.prog.bytesOf 3 = 8 by exact ⟨by kernel_rfl, by kernel_rfl⟩) (hval 0 22 v0 rfl rfl) h0 (sized_arg hz (j := 0) (t := 22) (d := d0) rfl rfl)
  obtain ⟨x1, rfl, rfl, rfl, w1⟩ := open_int Try.underlying3 (hval 1 3 v1 rfl rfl) h1
  have b1 := bounds_i64 w1
  obtain ⟨x2, rfl, rfl, rfl, w2⟩ := open_int Try.underlying3 (hval 2 3 v2 rfl rfl) h2
  have b2 := bounds_i64 w2
  obtain ⟨x3, rfl, rfl, rfl, w3⟩ := open_int Try.underlying3 (hval 3 3 v3 rfl rfl) h3
  have b3 := bounds_i64 w3
  obtain ⟨a, cap, rfl, h1, h2, h3, hr⟩ := id L0
  have hn2 : l0.length ≤ 9223372036854775807 := by unfold maxLen at h2; omega
  by_cases h200 : 200 < l0.length
  · exact waveEnds_long a _ cap x1 x2 x3 W hn2 h200
  · by_cases hM : Pm.May l0 x1
    · obtain ⟨l, wd, rfl, rfl⟩ := may_split hM
      exact waveEnds_in a _ cap wd l x2 x3 W (by simp) (by simpa using h1) h2 hM (natsAt_of (by simp) hr) (by simpa using h200)
    · exact waveEnds_none a _ cap l0 x1 x2 x3 W rfl hn2 b0 hr (by omega) hM

theorem waveEnds_lifted (os : Os) (started : os.Started) (H : Type) (enc : TypeId × Value → H) (F : Stop.Interp) :
    ReturnsInHanded {} Try.checked os 8 .any ((OpenSpec.ofChange Rows.waveEndsSpec).preRow enc Try.prog Try.f8 Rows.waveEndsRow.domain false Rows.waveEndsRow.laid) (((OpenSpec.ofChange Rows.waveEndsSpec).at F).post enc Try.prog Try.f8 false true false false) := by
  obtain ⟨places, hx⟩ : ∃ places, DataW.whole enc Try.prog ((World.holding Try.prog os ⟨#[], #[], []⟩).forCall (fun _ _ => 0) ⟨#[], #[.slice none 0 0, .int .i64 0, .int .i64 0, .int .i64 0], []⟩).memory Try.f8.params.toList Rows.waveEndsSpec.vars false (#[.slice none 0 0, .int .i64 0, .int .i64 0, .int .i64 0] : Array Value).toList 8 = some ([.nil, .lit (.int .i64 0), .lit (.int .i64 0), .lit (.int .i64 0)], [], places) := ⟨[], by kernel_rfl⟩
  refine returnsInHanded_of_row (C := Try.checked) (s := OpenSpec.ofChange Rows.waveEndsSpec) own started (by kernel_rfl) Try.func8
    (witness_row_at (enc := enc) (C := Try.checked) false (World.holding Try.prog os ⟨#[], #[], []⟩) #[.slice none 0 0, .int .i64 0, .int .i64 0, .int .i64 0] rfl (by kernel_rfl) (by kernel_rfl) (by kernel_rfl)
      (OpenSpec.preRow_of_cond 8 hx (by kernel_rfl) (fun k hk => by cases hk) (by kernel_rfl) (laidMet_nil _ _))) ?_
  intro W base args ds gs before hval hW _ _ hz hL hsh _
  refine (waveEnds_walk H enc W base args ds gs before hval hW hz hL hsh).mono fun e W' ⟨he, hb⟩ => ⟨_, he, ?_⟩
  exact law_post (fn := Try.f8) (s := Rows.waveEndsSpec) (tb := 4) rfl (fun ds hd => by match ds, hd with | [d0, d1, d2, d3], _ => rfl) rfl Try.underlying4 (by kernel_rfl) hW hb

theorem waveEnds_said : Rows.WaveEndsSaid :=
  OpenClaim.holds_of_cond 8 Try.f8 rfl rfl rfl rfl rfl rfl rfl ⟨rfl, rfl, rfl, rfl, rfl⟩ rfl rfl rfl rfl rfl (by kernel_rfl) Try.func8 (by kernel_rfl)
    (of_decide_eq_true (by kernel_rfl)) (by unfold Func.isWrapper; first | (rw [if_pos (by decide +kernel)]; kernel_rfl) | (rw [if_neg (by decide +kernel)]; exact ⟨rfl, rfl⟩))
    (fun os started H enc _ F => by rw [OpenClaim.pre_eq_preRow]; exact waveEnds_lifted os started H enc F)
end Go.Proofs.Ytpjflmocbmmmaaa
