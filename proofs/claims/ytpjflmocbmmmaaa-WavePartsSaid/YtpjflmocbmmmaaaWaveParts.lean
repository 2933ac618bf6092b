/- WaveParts: what lies in a range is what lies in its parts, by places, and by numbers, for every input. -/
import Derived.Test.YtpjflmocbmmmaaaWvLaw
namespace Go.Proofs.Ytpjflmocbmmmaaa
set_option linter.unusedVariables false
set_option linter.unusedSimpArgs false
set_option maxRecDepth 100000
open Go.ChangeShapes Go.WideShapes Go.ChangeAt Go.RowKit

theorem waveParts_long (a : Option Addr) (n cap : Nat) (width : Int) (cut v : Int) (W : World) (hn2 : n ≤ 9223372036854775807) (h : 200 < n) :
    Calls Try.prog 5 #[.slice a n cap, .int .i64 width, .int .i64 cut, .int .i64 v] W fun e W' => e = .returned (.bool true) ∧ Below W.heap.size W W' := by
  go_enter Try.func5, Try.ntmps5
  go_wp2
  go_ret
  exact ⟨rfl, Below.refl _ _⟩

theorem waveParts_none (a : Option Addr) (n cap : Nat) (L : List Int) (width : Int) (cut v : Int) (W : World) (hn : n = L.length) (hn2 : n ≤ 9223372036854775807) (hb : ∀ i, -9223372036854775808 ≤ L.getD i 0 ∧ L.getD i 0 ≤ 9223372036854775807) (hR : RowAt W a n fun i => i64v (L.getD i 0)) (h : n ≤ 200) (hM : ¬ Pm.May L width) :
    Calls Try.prog 5 #[.slice a n cap, .int .i64 width, .int .i64 cut, .int .i64 v] W fun e W' => e = .returned (.bool true) ∧ Below W.heap.size W W' := by
  have MN := hid (rmay_no' a n cap width L W hn hn2 hb hR hM)
  clear hn hb hR hM
  go_enter Try.func5, Try.ntmps5
  go_wp2_with (go_at_call 12; refine MN.out.mono ?_; rintro e w' ⟨rfl, rfl⟩)
  go_ret
  exact ⟨rfl, Below.refl _ _⟩
theorem waveParts_off (a : Option Addr) (n cap wd : Nat) (l : List Nat) (cut v : Int) (W : World) (hn : n = l.length) (hcap : n ≤ cap) (hcm : cap ≤ maxLen) (hM : Pm.May (l.map fun x : Nat => (x : Int)) wd) (hA : NatsAt W a l) (h : n ≤ 200) (hv : v < 0 ∨ (0 ≤ v ∧ 2097152 < v)) :
    Calls Try.prog 5 #[.slice a n cap, .int .i64 wd, .int .i64 cut, .int .i64 v] W fun e W' => e = .returned (.bool true) ∧ Below W.heap.size W W' := by
  have HN := hid hn
  have HM := hid hM
  have HA := hid hA
  have HLT := hid (may_nat hM).2.2
  have hwd : wd ≤ 20 := (may_nat hM).1
  have hP := hid (Below.refl W.heap.size W)
  clear hn hM hA
  rcases hv with hv | ⟨hv, hv2⟩
  all_goals
    go_enter Try.func5, Try.ntmps5
    go_wp2_with ((go_at_call 12; refine (rmay_yes' a n cap wd l W _ HN.out HA.out HM.out hP.out).mono ?_; rintro e w' ⟨rfl, rfl⟩))
    go_ret
    exact ⟨rfl, Below.refl _ _⟩
theorem cntR_all (l : List Nat) (lo : Int) (hlo : lo ≤ 0) (h : ∀ x ∈ l, x < 1048576 + 1) : Wv.cntR l lo 2097152 = l.length := by
  unfold Wv.cntR
  rw [List.countP_eq_length]
  intro x hx
  have := h x hx
  simp only [Bool.and_eq_true, decide_eq_true_eq]; omega
theorem cntR_split (l : List Nat) (v : Int) (h0 : 0 ≤ v) (hv : v ≤ 2097152) (h : ∀ x ∈ l, x < 1048576 + 1) : Wv.cntR l 0 v + Wv.cntR l (v + 1) 2097152 = l.length := by
  rw [← cntR_all l 0 (by omega) h]
  unfold Wv.cntR
  clear h
  induction l with
  | nil => rfl
  | cons x l ih =>
    simp only [List.countP_cons, Bool.and_eq_true, decide_eq_true_eq] at ih ⊢
    (repeat' split) <;> omega
set_option maxHeartbeats 1000000 in
theorem waveParts_in (a : Option Addr) (n cap wd : Nat) (l : List Nat) (cut v : Int) (W : World) (hn : n = l.length) (hcap : n ≤ cap) (hcm : cap ≤ maxLen) (hM : Pm.May (l.map fun x : Nat => (x : Int)) wd) (hA : NatsAt W a l) (h : n ≤ 200) (hv0 : 0 ≤ v) (hv1 : v ≤ 2097152) :
    Calls Try.prog 5 #[.slice a n cap, .int .i64 wd, .int .i64 cut, .int .i64 v] W fun e W' => e = .returned (.bool true) ∧ Below W.heap.size W W' := by
  have HN := hid hn
  have HM := hid hM
  have HA := hid hA
  have HLT := hid (may_nat hM).2.2
  have hwd : wd ≤ 20 := (may_nat hM).1
  have hP := hid (Below.refl W.heap.size W)
  clear hn hM hA
  have h20 := Nat.pow_le_pow_right (n := 2) (by omega) hwd
  have hl : ∀ fr ed, ∀ x ∈ Wv.rng l fr ed, x < 1048576 + 1 := fun fr ed x hx => by have := HLT.out x (Wv.rng_mem hx); omega
  have hln : ∀ fr ed, (Wv.rng l fr ed).length ≤ n := fun fr ed => by
    have h1 := Wv.rng_length l fr ed
    have h3 := Wv.hiEnd_le l.length ed
    have := HN.out
    omega
  have hfull : (Wv.rng l 0 n).length = n := by
    have h1 := Wv.rng_length l 0 n
    have := HN.out
    rw [h1]; unfold Wv.loEnd Wv.hiEnd; omega
  have C1 := hid (fun p W (h : IsWave W p l wd) => by
    have := wcount_any p wd l 0 cut 0 2097152 W h (by omega)
    rw [cntR_all _ 0 (by omega) (hl _ _)] at this; exact this)
  have C2 := hid (fun p W (h : IsWave W p l wd) => by
    have := wcount_any p wd l cut n 0 2097152 W h (by omega)
    rw [cntR_all _ 0 (by omega) (hl _ _)] at this; exact this)
  have C3 := hid (fun p W (h : IsWave W p l wd) => wcount_any p wd l 0 n 0 v W h (by omega))
  have C4 := hid (fun p W (h : IsWave W p l wd) => wcount_any p wd l 0 n (v + 1) 2097152 W h (by omega))
  have C5 := hid (fun p W (h : IsWave W p l wd) => by
    have := wcount_any p wd l 0 n 0 2097152 W h (by omega)
    rw [cntR_all _ 0 (by omega) (hl _ _), hfull] at this; exact this)
  have C6 := hid (fun p W (h : IsWave W p l wd) => wcount_any p wd l 0 n v v W h (by omega))
  have hs := cntR_split (Wv.rng l 0 n) v hv0 hv1 (hl _ _)
  rw [hfull] at hs
  have hab : ¬ (cut < 0) → ¬ ((n : Int) < cut) → (Wv.rng l 0 cut).length + (Wv.rng l cut n).length = n := fun g1 g2 => by
    have e0 := HN.out
    rw [Wv.rng_length, Wv.rng_length]; unfold Wv.loEnd Wv.hiEnd; omega
  have hA1 := hln 0 cut
  have hB1 := hln cut n
  have hr6 := Wv.cntR_le (Wv.rng l 0 n) v v
  rw [hfull] at hr6
  generalize (Wv.rng l 0 cut).length = c1 at *
  generalize (Wv.rng l cut n).length = c2 at *
  generalize Wv.cntR (Wv.rng l 0 n) 0 v = c3 at *
  generalize Wv.cntR (Wv.rng l 0 n) (v + 1) 2097152 = c4 at *
  have hs2 : ((c3 : Int) + c4 == n) = true := by rw [beq_iff_eq]; omega
  have hc3 : c3 ≤ 200 := by omega
  have hc4 : c4 ≤ 200 := by omega
  clear hs hl hln hfull
  rcases (show cut < 0 ∨ (0 ≤ cut ∧ (n : Int) < cut) ∨ (0 ≤ cut ∧ cut ≤ n) by omega) with h1 | ⟨h1, h2⟩ | ⟨h1, h2⟩
  case' inr.inr =>
    have hq := hab (by omega) (by omega)
    have hq2 : ((c1 : Int) + c2 == n) = true := by rw [beq_iff_eq]; omega
    clear hq
  all_goals
    clear hab
    go_enter Try.func5, Try.ntmps5
    go_wp2_with (first
      | (go_at_call 12; refine (rmay_yes' a n cap wd l W _ HN.out HA.out HM.out hP.out).mono ?_; rintro e w' ⟨rfl, rfl⟩)
      | (go_at_call 11; refine (wnew_ok a n cap wd l _ HN.out HM.out (NatsAt.keep HA.out hP.out)).mono ?_; rintro e w1 ⟨p, rfl, hB1, hF1⟩; have IW := hid (Fresh.it hF1); have hC := hid (Below.refl w1.heap.size w1); have hD := hid (below_then hP.out hB1))
      | (go_at_call 20; with_reducible refine (C1.out p _ (IW.out.keep hC.out)).mono ?_; rintro e w' ⟨rfl, hB⟩; have hC := hid (below_then hC.out hB))
      | (go_at_call 20; with_reducible refine (C2.out p _ (IW.out.keep hC.out)).mono ?_; rintro e w' ⟨rfl, hB⟩; have hC := hid (below_then hC.out hB))
      | (go_at_call 20; with_reducible refine (C3.out p _ (IW.out.keep hC.out)).mono ?_; rintro e w' ⟨rfl, hB⟩; have hC := hid (below_then hC.out hB))
      | (go_at_call 20; with_reducible refine (C4.out p _ (IW.out.keep hC.out)).mono ?_; rintro e w' ⟨rfl, hB⟩; have hC := hid (below_then hC.out hB))
      | (go_at_call 20; with_reducible refine (C5.out p _ (IW.out.keep hC.out)).mono ?_; rintro e w' ⟨rfl, hB⟩; have hC := hid (below_then hC.out hB))
      | (go_at_call 20; with_reducible refine (C6.out p _ (IW.out.keep hC.out)).mono ?_; rintro e w' ⟨rfl, hB⟩; have hC := hid (below_then hC.out hB))
      | (go_at_call 16; refine (wrank_any p wd l _ _ _ (IW.out.keep hC.out) (by omega)).mono ?_; rintro e w' ⟨rfl, hB⟩; have hC := hid (below_then hC.out hB))
      | (go_at_call 13; refine (known_any _).mono ?_; rintro e w' ⟨rfl, hB⟩; have hC := hid (below_then hC.out hB)))
    go_ret
    exact ⟨rfl, below_then hD.out hC.out⟩

theorem waveParts_walk (H : Type) (enc : TypeId × Value → H) (W : World) (base : Nat) (args : Array Value) (ds gs : List (DataW H)) (before : List MemPlace)
    (hval : ∀ (j : Nat) t v, Try.f5.params[j]? = some t → args[j]? = some v → Value.okWide Try.prog W .any base t v)
    (hW : DataW.Whole enc Try.prog Try.f5.params.toList Rows.wavePartsSpec.vars false W args.toList ds gs before)
    (hz : (DataW.weightsEach Try.prog (Try.f5.params.toList ++ Rows.wavePartsSpec.plain.varTypes Try.prog) (ds ++ gs)).all (· ≤ reachBytes) = true)
    (hL : laidMetH Try.prog Rows.wavePartsRow.laid W) (hsh : W.ShapedOpen Try.prog) :
    Calls Try.prog 5 args W fun e W' => e = .returned (.bool true) ∧ Below W.heap.size W W' := by
  obtain ⟨p, q, hA, _, _, _, _⟩ := hW
  rw [Try.params5] at hA hval
  rw [Try.params5] at hz
  obtain ⟨v0, vs0, d0, ds0, p0, q0, hargs, rfl, rfl, h0, r0⟩ := trodAll_cons hA
  obtain ⟨v1, vs1, d1, ds1, p1, q1, rfl, rfl, rfl, h1, r1⟩ := trodAll_cons r0
  obtain ⟨v2, vs2, d2, ds2, p2, q2, rfl, rfl, rfl, h2, r2⟩ := trodAll_cons r1
  obtain ⟨v3, vs3, d3, ds3, p3, q3, rfl, rfl, rfl, h3, r3⟩ := trodAll_cons r2
  obtain ⟨rfl, rfl, rfl⟩ := trodAll_nil r3
  obtain rfl : args = #[v0, v1, v2, v3] := by cases args; simp_all
  obtain ⟨l0, L0, b0, z0⟩ := arg_ints Try.underlying22 Try.underlying3 (show Try.prog.cellsOf 3 = 1 ∧ Try.prog.bytesOf 3 = 8 by exact ⟨by kernel_rfl, by kernel_rfl⟩) (hval 0 22 v0 rfl rfl) h0 (sized_arg hz (j := 0) (t := 22) (d := d0) rfl rfl)
  obtain ⟨x1, rfl, rfl, rfl, w1⟩ := open_int Try.underlying3 (hval 1 3 v1 rfl rfl) h1
  have b1 := bounds_i64 w1
  obtain ⟨x2, rfl, rfl, rfl, w2⟩ := open_int Try.underlying3 (hval 2 3 v2 rfl rfl) h2
  have b2 := bounds_i64 w2
  obtain ⟨x3, rfl, rfl, rfl, w3⟩ := open_int Try.underlying3 (hval 3 3 v3 rfl rfl) h3
  have b3 := bounds_i64 w3
  obtain ⟨a, cap, rfl, h1, h2, h3, hr⟩ := id L0
  have hn2 : l0.length ≤ 9223372036854775807 := by unfold maxLen at h2; omega
  by_cases h200 : 200 < l0.length
  · exact waveParts_long a _ cap x1 x2 x3 W hn2 h200
  · by_cases hM : Pm.May l0 x1
    · obtain ⟨l, wd, rfl, rfl⟩ := may_split hM
      by_cases hv : x3 < 0 ∨ (0 ≤ x3 ∧ 2097152 < x3)
      · exact waveParts_off a _ cap wd l x2 x3 W (by simp) (by simpa using h1) h2 hM (natsAt_of (by simp) hr) (by simpa using h200) hv
      · exact waveParts_in a _ cap wd l x2 x3 W (by simp) (by simpa using h1) h2 hM (natsAt_of (by simp) hr) (by simpa using h200) (by omega) (by omega)
    · exact waveParts_none a _ cap l0 x1 x2 x3 W rfl hn2 b0 hr (by omega) hM

theorem waveParts_lifted (os : Os) (started : os.Started) (H : Type) (enc : TypeId × Value → H) (F : Stop.Interp) :
    ReturnsInHanded {} Try.checked os 5 .any ((OpenSpec.ofChange Rows.wavePartsSpec).preRow enc Try.prog Try.f5 Rows.wavePartsRow.domain false Rows.wavePartsRow.laid) (((OpenSpec.ofChange Rows.wavePartsSpec).at F).post enc Try.prog Try.f5 false true false false) := by
  obtain ⟨places, hx⟩ : ∃ places, DataW.whole enc Try.prog ((World.holding Try.prog os ⟨#[], #[], []⟩).forCall (fun _ _ => 0) ⟨#[], #[.slice none 0 0, .int .i64 0, .int .i64 0, .int .i64 0], []⟩).memory Try.f5.params.toList Rows.wavePartsSpec.vars false (#[.slice none 0 0, .int .i64 0, .int .i64 0, .int .i64 0] : Array Value).toList 8 = some ([.nil, .lit (.int .i64 0), .lit (.int .i64 0), .lit (.int .i64 0)], [], places) := ⟨[], by kernel_rfl⟩
  refine returnsInHanded_of_row (C := Try.checked) (s := OpenSpec.ofChange Rows.wavePartsSpec) own started (by kernel_rfl) Try.func5
    (witness_row_at (enc := enc) (C := Try.checked) false (World.holding Try.prog os ⟨#[], #[], []⟩) #[.slice none 0 0, .int .i64 0, .int .i64 0, .int .i64 0] rfl (by kernel_rfl) (by kernel_rfl) (by kernel_rfl)
      (OpenSpec.preRow_of_cond 8 hx (by kernel_rfl) (fun k hk => by cases hk) (by kernel_rfl) (laidMet_nil _ _))) ?_
  intro W base args ds gs before hval hW _ _ hz hL hsh _
  refine (waveParts_walk H enc W base args ds gs before hval hW hz hL hsh).mono fun e W' ⟨he, hb⟩ => ⟨_, he, ?_⟩
  exact law_post (fn := Try.f5) (s := Rows.wavePartsSpec) (tb := 4) rfl (fun ds hd => by match ds, hd with | [d0, d1, d2, d3], _ => rfl) rfl Try.underlying4 (by kernel_rfl) hW hb

theorem waveParts_said : Rows.WavePartsSaid :=
  OpenClaim.holds_of_cond 5 Try.f5 rfl rfl rfl rfl rfl rfl rfl ⟨rfl, rfl, rfl, rfl, rfl⟩ rfl rfl rfl rfl rfl (by kernel_rfl) Try.func5 (by kernel_rfl)
    (of_decide_eq_true (by kernel_rfl)) (by unfold Func.isWrapper; first | (rw [if_pos (by decide +kernel)]; kernel_rfl) | (rw [if_neg (by decide +kernel)]; exact ⟨rfl, rfl⟩))
    (fun os started H enc _ F => by rw [OpenClaim.pre_eq_preRow]; exact waveParts_lifted os started H enc F)
end Go.Proofs.Ytpjflmocbmmmaaa
