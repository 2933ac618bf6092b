/- WaveWide: the same row in more bits tells the same, for every input. -/
import Derived.Test.YtpjflmocbmmmaaaWvLaw
namespace Go.Proofs.Ytpjflmocbmmmaaa
set_option linter.unusedVariables false
set_option linter.unusedSimpArgs false
set_option maxRecDepth 100000
open Go.ChangeShapes Go.WideShapes Go.ChangeAt Go.RowKit

theorem waveWide_out (a : Option Addr) (n cap : Nat) (width v fr ed : Int) (W : World) (hn2 : n ≤ 9223372036854775807)
    (h : 100 < n ∨ (n ≤ 100 ∧ width < 0) ∨ (n ≤ 100 ∧ 0 ≤ width ∧ 19 < width) ∨ (n ≤ 100 ∧ 0 ≤ width ∧ width ≤ 19 ∧ v < 0) ∨ (n ≤ 100 ∧ 0 ≤ width ∧ width ≤ 19 ∧ 0 ≤ v ∧ 2097152 < v)) :
    Calls Try.prog 10 #[.slice a n cap, .int .i64 width, .int .i64 v, .int .i64 fr, .int .i64 ed] W fun e W' => e = .returned (.bool true) ∧ Below W.heap.size W W' := by
  rcases h with h | ⟨h, h1⟩ | ⟨h, h1, h2⟩ | ⟨h, h1, h2, h3⟩ | ⟨h, h1, h2, h3, h4⟩
  all_goals
    go_enter Try.func10, Try.ntmps10
    go_wp2
    go_ret
    exact ⟨rfl, Below.refl _ _⟩
theorem waveWide_none (a : Option Addr) (n cap : Nat) (L : List Int) (width : Int) (v fr ed : Int) (W : World) (hn : n = L.length) (hn2 : n ≤ 9223372036854775807) (hb : ∀ i, -9223372036854775808 ≤ L.getD i 0 ∧ L.getD i 0 ≤ 9223372036854775807) (hR : RowAt W a n fun i => i64v (L.getD i 0)) (h : n ≤ 100 ∧ 0 ≤ width ∧ width ≤ 19 ∧ 0 ≤ v ∧ v ≤ 2097152) (hM : ¬ Pm.May L width) :
    Calls Try.prog 10 #[.slice a n cap, .int .i64 width, .int .i64 v, .int .i64 fr, .int .i64 ed] W fun e W' => e = .returned (.bool true) ∧ Below W.heap.size W W' := by
  have MN := hid (rmay_no' a n cap width L W hn hn2 hb hR hM)
  obtain ⟨h1, h2, h3, h4, h5⟩ := h
  clear hn hb hR hM
  go_enter Try.func10, Try.ntmps10
  go_wp2_with (go_at_call 12; refine MN.out.mono ?_; rintro e w' ⟨rfl, rfl⟩)
  go_ret
  exact ⟨rfl, Below.refl _ _⟩
theorem may_wider {L : List Int} {wd : Nat} (h : Pm.May L wd) (hw : wd ≤ 19) : Pm.May L ((wd + 1 : Nat) : Int) := by
  obtain ⟨h1, h2, h3, h4⟩ := h
  refine ⟨by omega, by omega, h3, fun i hi => ?_⟩
  have := h4 i hi
  rw [Int.toNat_natCast] at this ⊢
  rw [Nat.pow_succ]; omega
set_option maxHeartbeats 1000000 in
theorem waveWide_in (a : Option Addr) (n cap wd : Nat) (l : List Nat) (v fr ed : Int) (W : World) (hn : n = l.length) (hcap : n ≤ cap) (hcm : cap ≤ maxLen) (hM : Pm.May (l.map fun x : Nat => (x : Int)) wd) (hA : NatsAt W a l) (h : n ≤ 100) (hw19 : wd ≤ 19) (hv0 : 0 ≤ v) (hv1 : v ≤ 2097152) :
    Calls Try.prog 10 #[.slice a n cap, .int .i64 wd, .int .i64 v, .int .i64 fr, .int .i64 ed] W fun e W' => e = .returned (.bool true) ∧ Below W.heap.size W W' := by
  have N1 := hid (fun W' (hW : Below W.heap.size W W') => wnew_ok a n cap wd l W' hn hM (NatsAt.keep hA hW))
  have N2 := hid (fun W' (hW : Below W.heap.size W W') => by
    have := wnew_ok a n cap (wd + 1) l W' hn (may_wider hM hw19) (NatsAt.keep hA hW)
    rw [show ((wd + 1 : Nat) : Int) = (wd : Int) + 1 by omega] at this; exact this)
  have HN := hid hn
  have HM := hid hM
  have HA := hid hA
  have HLT := hid (may_nat hM).2.2
  have hwd : wd ≤ 20 := (may_nat hM).1
  have hP := hid (Below.refl W.heap.size W)
  clear hn hM hA
  have hdl : (Wv.disV (Wv.rng l fr ed) 0).length ≤ 200 := by
    have h1 := Wv.disV_length (Wv.rng l fr ed) _ 0 (Wv.fromR_le _ _)
    have h2 := Wv.rng_length l fr ed
    have h3 := Wv.hiEnd_le l.length ed
    have := HN.out
    omega
  have RK := hid (fun p {k} W (h : IsWave W p l k) => wrank_any p k l v ed W h (by omega))
  have NX := hid (fun p {k} W (h : IsWave W p l k) => wnext_any p k l fr ed v W h)
  have CN := hid (fun p {k} W (h : IsWave W p l k) => wcount_any p k l fr ed v (v + 5) W h (by omega))
  have DS := hid (fun p {k} W (h : IsWave W p l k) => wdist_any p k l fr ed W h)
  go_enter Try.func10, Try.ntmps10
  go_wp2_with (first
      | (go_at_call 12; refine (rmay_yes' a n cap wd l W _ HN.out HA.out HM.out hP.out).mono ?_; rintro e w' ⟨rfl, rfl⟩)
      | (go_at_call 11; with_reducible refine (N1.out _ hP.out).mono ?_; rintro e w1 ⟨p1, rfl, hB1, hF1⟩; have IW1 := hid (Fresh.it hF1); have hD := hid (below_then hP.out hB1))
      | (go_at_call 11; with_reducible refine (N2.out _ hD.out).mono ?_; rintro e w2 ⟨p2, rfl, hB2, hF2⟩; have IW1 := hid (IW1.out.keep hB2); have IW2 := hid (Fresh.it hF2); have hC := hid (Below.refl w2.heap.size w2); have hD := hid (below_then hD.out hB2))
      | (go_at_call 16; with_reducible refine (RK.out p1 _ (IW1.out.keep hC.out)).mono ?_; rintro e w' ⟨rfl, hB⟩; have hC := hid (below_then hC.out hB))
      | (go_at_call 16; with_reducible refine (RK.out p2 _ (IW2.out.keep hC.out)).mono ?_; rintro e w' ⟨rfl, hB⟩; have hC := hid (below_then hC.out hB))
      | (go_at_call 22; with_reducible refine (NX.out p1 _ (IW1.out.keep hC.out)).mono ?_; rintro e w' ⟨rfl, hB⟩; have hC := hid (below_then hC.out hB))
      | (go_at_call 22; with_reducible refine (NX.out p2 _ (IW2.out.keep hC.out)).mono ?_; rintro e w' ⟨rfl, hB⟩; have hC := hid (below_then hC.out hB))
      | (go_at_call 20; with_reducible refine (CN.out p1 _ (IW1.out.keep hC.out)).mono ?_; rintro e w' ⟨rfl, hB⟩; have hC := hid (below_then hC.out hB))
      | (go_at_call 20; with_reducible refine (CN.out p2 _ (IW2.out.keep hC.out)).mono ?_; rintro e w' ⟨rfl, hB⟩; have hC := hid (below_then hC.out hB))
      | (go_at_call 25; with_reducible refine (DS.out p1 _ (IW1.out.keep hC.out)).mono ?_; rintro e w' ⟨ad1, cp1, rfl, hR1, hB⟩; have hR1 := hid hR1; have hC := hid (below_then hC.out hB))
      | (go_at_call 25; with_reducible refine (DS.out p2 _ (IW2.out.keep hC.out)).mono ?_; rintro e w' ⟨ad2, cp2, rfl, hR2, hB⟩; have hR1 := hid (hR1.out.keep hB); have hR2 := hid hR2; have hC := hid (below_then hC.out hB))
      | (go_at_call 24; refine (rsame_yes ad1 ad2 _ cp1 cp2 _ _ rfl (by omega) hR1.out hR2.out).mono ?_; rintro e w' ⟨rfl, hB⟩; have hC := hid (below_then hC.out hB))
      | (go_at_call 13; refine (known_any _).mono ?_; rintro e w' ⟨rfl, hB⟩; have hC := hid (below_then hC.out hB)))
  go_ret
  exact ⟨rfl, below_then hD.out hC.out⟩

theorem waveWide_walk (H : Type) (enc : TypeId × Value → H) (W : World) (base : Nat) (args : Array Value) (ds gs : List (DataW H)) (before : List MemPlace)
    (hval : ∀ (j : Nat) t v, Try.f10.params[j]? = some t → args[j]? = some v → Value.okWide Try.prog W .any base t v)
    (hW : DataW.Whole enc Try.prog Try.f10.params.toList Rows.waveWideSpec.vars false W args.toList ds gs before)
    (hz : (DataW.weightsEach Try.prog (Try.f10.params.toList ++ Rows.waveWideSpec.plain.varTypes Try.prog) (ds ++ gs)).all (· ≤ reachBytes) = true)
    (hL : laidMetH Try.prog Rows.waveWideRow.laid W) (hsh : W.ShapedOpen Try.prog) :
    Calls Try.prog 10 args W fun e W' => e = .returned (.bool true) ∧ Below W.heap.size W W' := by
  obtain ⟨p, q, hA, _, _, _, _⟩ := hW
  rw [Try.params10] at hA hval
  rw [Try.params10] at hz
  obtain ⟨v0, vs0, d0, ds0, p0, q0, hargs, rfl, rfl, h0, r0⟩ := trodAll_cons hA
  obtain ⟨v1, vs1, d1, ds1, p1, q1, rfl, rfl, rfl, h1, r1⟩ := trodAll_cons r0
  obtain ⟨v2, vs2, d2, ds2, p2, q2, rfl, rfl, rfl, h2, r2⟩ := trodAll_cons r1
  obtain ⟨v3, vs3, d3, ds3, p3, q3, rfl, rfl, rfl, h3, r3⟩ := trodAll_cons r2
  obtain ⟨v4, vs4, d4, ds4, p4, q4, rfl, rfl, rfl, h4, r4⟩ := trodAll_cons r3
  obtain ⟨rfl, rfl, rfl⟩ := trodAll_nil r4
  obtain rfl : args = #[v0, v1, v2, v3, v4] := by cases args; simp_all
  obtain ⟨l0, L0, b0, z0⟩ := arg_ints Try.underlying22 Try.underlying3 (show Try.prog.cellsOf 3 = 1 ∧ Try.prog.bytesOf 3 = 8 by exact ⟨by kernel_rfl, by kernel_rfl⟩) (hval 0 22 v0 rfl rfl) h0 (sized_arg hz (j := 0) (t := 22) (d := d0) rfl rfl)
  obtain ⟨x1, rfl, rfl, rfl, w1⟩ := open_int Try.underlying3 (hval 1 3 v1 rfl rfl) h1
  have b1 := bounds_i64 w1
  obtain ⟨x2, rfl, rfl, rfl, w2⟩ := open_int Try.underlying3 (hval 2 3 v2 rfl rfl) h2
  have b2 := bounds_i64 w2
  obtain ⟨x3, rfl, rfl, rfl, w3⟩ := open_int Try.underlying3 (hval 3 3 v3 rfl rfl) h3
  have b3 := bounds_i64 w3
  obtain ⟨x4, rfl, rfl, rfl, w4⟩ := open_int Try.underlying3 (hval 4 3 v4 rfl rfl) h4
  have b4 := bounds_i64 w4
  obtain ⟨a, cap, rfl, h1, h2, h3, hr⟩ := id L0
  have hn2 : l0.length ≤ 9223372036854775807 := by unfold maxLen at h2; omega
  by_cases hb : 100 < l0.length ∨ (l0.length ≤ 100 ∧ x1 < 0) ∨ (l0.length ≤ 100 ∧ 0 ≤ x1 ∧ 19 < x1) ∨ (l0.length ≤ 100 ∧ 0 ≤ x1 ∧ x1 ≤ 19 ∧ x2 < 0) ∨ (l0.length ≤ 100 ∧ 0 ≤ x1 ∧ x1 ≤ 19 ∧ 0 ≤ x2 ∧ 2097152 < x2)
  · exact waveWide_out a _ cap x1 x2 x3 x4 W hn2 hb
  · by_cases hM : Pm.May l0 x1
    · have h100 : l0.length ≤ 100 := by omega
      obtain ⟨l, wd, rfl, rfl⟩ := may_split hM
      exact waveWide_in a _ cap wd l x2 x3 x4 W (by simp) (by simpa using h1) h2 hM (natsAt_of (by simp) hr) h100 (by omega) (by omega) (by omega)
    · exact waveWide_none a _ cap l0 x1 x2 x3 x4 W rfl hn2 b0 hr (by omega) hM

theorem waveWide_lifted (os : Os) (started : os.Started) (H : Type) (enc : TypeId × Value → H) (F : Stop.Interp) :
    ReturnsInHanded {} Try.checked os 10 .any ((OpenSpec.ofChange Rows.waveWideSpec).preRow enc Try.prog Try.f10 Rows.waveWideRow.domain false Rows.waveWideRow.laid) (((OpenSpec.ofChange Rows.waveWideSpec).at F).post enc Try.prog Try.f10 false true false false) := by
  obtain ⟨places, hx⟩ : ∃ places, DataW.whole enc Try.prog ((World.holding Try.prog os ⟨#[], #[], []⟩).forCall (fun _ _ => 0) ⟨#[], #[.slice none 0 0, .int .i64 0, .int .i64 0, .int .i64 0, .int .i64 0], []⟩).memory Try.f10.params.toList Rows.waveWideSpec.vars false (#[.slice none 0 0, .int .i64 0, .int .i64 0, .int .i64 0, .int .i64 0] : Array Value).toList 8 = some ([.nil, .lit (.int .i64 0), .lit (.int .i64 0), .lit (.int .i64 0), .lit (.int .i64 0)], [], places) := ⟨[], by kernel_rfl⟩
  refine returnsInHanded_of_row (C := Try.checked) (s := OpenSpec.ofChange Rows.waveWideSpec) own started (by kernel_rfl) Try.func10
    (witness_row_at (enc := enc) (C := Try.checked) false (World.holding Try.prog os ⟨#[], #[], []⟩) #[.slice none 0 0, .int .i64 0, .int .i64 0, .int .i64 0, .int .i64 0] rfl (by kernel_rfl) (by kernel_rfl) (by kernel_rfl)
      (OpenSpec.preRow_of_cond 8 hx (by kernel_rfl) (fun k hk => by cases hk) (by kernel_rfl) (laidMet_nil _ _))) ?_
  intro W base args ds gs before hval hW _ _ hz hL hsh _
  refine (waveWide_walk H enc W base args ds gs before hval hW hz hL hsh).mono fun e W' ⟨he, hb⟩ => ⟨_, he, ?_⟩
  exact law_post (fn := Try.f10) (s := Rows.waveWideSpec) (tb := 4) rfl (fun ds hd => by match ds, hd with | [d0, d1, d2, d3, d4], _ => rfl) rfl Try.underlying4 (by kernel_rfl) hW hb

theorem waveWide_said : Rows.WaveWideSaid :=
  OpenClaim.holds_of_cond 10 Try.f10 rfl rfl rfl rfl rfl rfl rfl ⟨rfl, rfl, rfl, rfl, rfl⟩ rfl rfl rfl rfl rfl (by kernel_rfl) Try.func10 (by kernel_rfl)
    (of_decide_eq_true (by kernel_rfl)) (by unfold Func.isWrapper; first | (rw [if_pos (by decide +kernel)]; kernel_rfl) | (rw [if_neg (by decide +kernel)]; exact ⟨rfl, rfl⟩))
    (fun os started H enc _ F => by rw [OpenClaim.pre_eq_preRow]; exact waveWide_lifted os started H enc F)
end Go.Proofs.Ytpjflmocbmmmaaa
