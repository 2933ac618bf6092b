/- WaveTells: of any row each number, how often each is ahead, where each is, for every input. -/
import Derived.Test.YtpjflmocbmmmaaaWvLaw
namespace Go.Proofs.Ytpjflmocbmmmaaa
set_option linter.unusedVariables false
set_option linter.unusedSimpArgs false
set_option maxRecDepth 100000
open Go.ChangeShapes Go.WideShapes Go.ChangeAt Go.RowKit

theorem waveTells_long (a : Option Addr) (n cap : Nat) (width : Int) (v q : Int) (W : World) (hn2 : n ≤ 9223372036854775807) (h : 200 < n) :
    Calls Try.prog 3 #[.slice a n cap, .int .i64 width, .int .i64 v, .int .i64 q] W fun e W' => e = .returned (.bool true) ∧ Below W.heap.size W W' := by
  go_enter Try.func3, Try.ntmps3
  go_wp2
  go_ret
  exact ⟨rfl, Below.refl _ _⟩

theorem waveTells_none (a : Option Addr) (n cap : Nat) (L : List Int) (width : Int) (v q : Int) (W : World) (hn : n = L.length) (hn2 : n ≤ 9223372036854775807) (hb : ∀ i, -9223372036854775808 ≤ L.getD i 0 ∧ L.getD i 0 ≤ 9223372036854775807) (hR : RowAt W a n fun i => i64v (L.getD i 0)) (h : n ≤ 200) (hM : ¬ Pm.May L width) :
    Calls Try.prog 3 #[.slice a n cap, .int .i64 width, .int .i64 v, .int .i64 q] W fun e W' => e = .returned (.bool true) ∧ Below W.heap.size W W' := by
  have NW := hid (wnew_no a n cap width L W hn hM (fun i _ => (hb i).2) hR)
  have MN := hid (rmay_no' a n cap width L W hn hn2 hb hR hM)
  clear hn hb hR hM
  go_enter Try.func3, Try.ntmps3
  go_wp2_with (first
    | (go_at_call 11; refine NW.out.mono ?_; rintro e w' ⟨rfl, rfl⟩)
    | (go_at_call 12; refine MN.out.mono ?_; rintro e w' ⟨rfl, rfl⟩)
    | (go_at_call 13; refine (known_any _).mono ?_; rintro e w' ⟨rfl, hB⟩))
  go_ret
  exact ⟨rfl, hB⟩
set_option maxHeartbeats 2000000 in
theorem waveTells_in (a : Option Addr) (n cap wd : Nat) (l : List Nat) (v q : Int) (W : World) (hn : n = l.length) (hcap : n ≤ cap) (hcm : cap ≤ maxLen) (hM : Pm.May (l.map fun x : Nat => (x : Int)) wd) (hA : NatsAt W a l) (h : n ≤ 200) (hv : -9223372036854775808 ≤ v) :
    Calls Try.prog 3 #[.slice a n cap, .int .i64 wd, .int .i64 v, .int .i64 q] W fun e W' => e = .returned (.bool true) ∧ Below W.heap.size W W' := by
  have HN := hid hn
  have HM := hid hM
  have HA := hid hA
  have HLT := hid (may_nat hM).2.2
  have hwd : wd ≤ 20 := (may_nat hM).1
  have hP := hid (Below.refl W.heap.size W)
  clear hn hM hA
  have AC1 := hid (fun p W (h : IsWave W p l wd) => wacc_out' p wd l (-1) W h (Or.inl (by omega)))
  have AC2 := hid (fun p W (h : IsWave W p l wd) => by
    have := wacc_out' p wd l l.length W h (Or.inr (by omega))
    rw [← HN.out] at this; exact this)
  have LN := hid (fun p W (h : IsWave W p l wd) => by
    have := wlen_wave p wd l W h
    rw [← HN.out] at this; exact this)
  go_enter Try.func3, Try.ntmps3
  go_wp2_with (first
      | (go_at_call 11; refine (wnew_ok a n cap wd l _ HN.out HM.out (NatsAt.keep HA.out hP.out)).mono ?_; rintro e w1 ⟨p, rfl, hB1, hF1⟩; have IW := hid (Fresh.it hF1); have hC := hid (Below.refl w1.heap.size w1); have hD := hid (below_then hP.out hB1))
      | (go_at_call 12; refine (rmay_yes' a n cap wd l W _ HN.out HA.out HM.out hD.out).mono ?_; rintro e w' ⟨rfl, rfl⟩)
      | (go_at_call 14; refine (LN.out p _ IW.out).mono ?_; rintro e w' ⟨rfl, rfl⟩))
  generalize hwo : w' = wo at *
  clear hwo
  go_loopw [12] (fun s12 wr => ∃ i : Nat, i ≤ n ∧ s12 = .int .i64 i ∧ Hid (Below wo.heap.size wo wr)) (fun s12 _ => n - (intOf s12).toNat)
  case atStart => exact ⟨0, by omega, rfl, Below.refl _ _⟩
  case round =>
    obtain ⟨i, hin, rfl, HB⟩ := hrel
    by_cases hlt : i < n
    · obtain ⟨b, off, hab, hc⟩ := (NatsAt.keep HA.out (below_then hD.out HB.out)).get (i := i) (by rw [← HN.out]; exact hlt)
      subst hab
      have hcw := hc i (by rw [← HN.out]; exact hlt)
      have hgi := Wv.eqs_get l ((l.getD i 0 : Nat) : Int) i (by rw [← HN.out]; exact hlt)
      have RK := hid (fun q : Later wr.heap.size wr => wrank_any p wd l ((l.getD i 0 : Nat) : Int) i q.it (IW.out.keep (below_then HB.out q.low)) (by omega))
      have RRK := hid (fun q : Later wr.heap.size wr => rrank_any (some ⟨b, off, none⟩) n cap l ((l.getD i 0 : Nat) : Int) i q.it HN.out (NatsAt.keep HA.out (below_then (below_then hD.out HB.out) q.low)) (by omega))
      rw [rank_eqs l _ i (by rw [← HN.out]; omega)] at RK RRK
      have hrl := Bm.cnt_le (Wv.eqs l ((l.getD i 0 : Nat) : Int)) i
      have SL := hid (fun q : Later wr.heap.size wr => by
        have := wsel_any p wd l ((l.getD i 0 : Nat) : Int) (Bm.cnt (Wv.eqs l ((l.getD i 0 : Nat) : Int)) i : Nat) q.it (IW.out.keep (below_then HB.out q.low)) (by omega)
        rw [Bm.sel_eq (by rw [hgi]; simp) rfl] at this; exact this)
      have AC := hid (fun q : Later wr.heap.size wr => wacc_in p wd i l q.it (IW.out.keep (below_then HB.out q.low)) (by rw [← HN.out]; exact hlt))
      generalize Bm.cnt (Wv.eqs l ((l.getD i 0 : Nat) : Int)) i = r at *
      obtain ⟨x, hx⟩ : ∃ x, x = l.getD i 0 := ⟨_, rfl⟩
      rw [← hx] at RK RRK SL AC hcw
      have g0 := fun q : Later wr.heap.size wr => q.keep hcw
      have hltI : (i : Int) < n := by omega
      clear hc hgi hx hcw
      go_wp2
      refine wp_region_later wr.heap.size (by kernel_rfl) (by kernel_rfl) ?_
      repeat (go_big_quiet_step (first
        | (go_at_call 15; with_reducible exact Later.call (Nat.le_refl _) (AC.out _))
        | (go_at_call 16; with_reducible exact Later.call (Nat.le_refl _) (RK.out _))
        | (go_at_call 17; with_reducible exact Later.call_same (RRK.out _))
        | (go_at_call 18; with_reducible exact Later.call (Nat.le_refl _) (SL.out _))))
      refine wpQuiet_nil ?_
      rintro _ ⟨q, rfl⟩
      go_wp2
      go_roundw
      case rel => exact ⟨i + 1, by omega, by go_num, below_then HB.out q.low⟩
      case measure => simp [intOf]; omega
    · obtain rfl : i = n := by omega
      have hC := hid HB.out
      go_wp2_with (first
        | (go_at_call 15; with_reducible refine (AC1.out p _ (IW.out.keep hC.out)).mono ?_; rintro e w' ⟨rfl, hB⟩; have hC := hid (below_then hC.out hB))
        | (go_at_call 15; with_reducible refine (AC2.out p _ (IW.out.keep hC.out)).mono ?_; rintro e w' ⟨rfl, hB⟩; have hC := hid (below_then hC.out hB))
        | (go_at_call 16; refine (wrank_any p wd l _ _ _ (IW.out.keep hC.out) (by omega)).mono ?_; rintro e w' ⟨rfl, hB⟩; have hC := hid (below_then hC.out hB))
        | (go_at_call 17; refine (rrank_any a i cap l _ _ _ HN.out (NatsAt.keep HA.out (below_then hD.out hC.out)) (by omega)).mono ?_; rintro e w' ⟨rfl, rfl⟩)
        | (go_at_call 18; refine (wsel_any p wd l _ _ _ (IW.out.keep hC.out) (by omega)).mono ?_; rintro e w' ⟨rfl, hB⟩; have hC := hid (below_then hC.out hB))
        | (go_at_call 19; refine (rsel_any a i cap l _ _ _ HN.out (NatsAt.keep HA.out (below_then hD.out hC.out)) (by omega)).mono ?_; rintro e w' ⟨rfl, rfl⟩)
        | (go_at_call 13; refine (known_any _).mono ?_; rintro e w' ⟨rfl, hB⟩; have hC := hid (below_then hC.out hB)))
      go_ret
      exact ⟨rfl, below_then hD.out hC.out⟩

theorem waveTells_walk (H : Type) (enc : TypeId × Value → H) (W : World) (base : Nat) (args : Array Value) (ds gs : List (DataW H)) (before : List MemPlace)
    (hval : ∀ (j : Nat) t v, Try.f3.params[j]? = some t → args[j]? = some v → Value.okWide Try.prog W .any base t v)
    (hW : DataW.Whole enc Try.prog Try.f3.params.toList Rows.waveTellsSpec.vars false W args.toList ds gs before)
    (hz : (DataW.weightsEach Try.prog (Try.f3.params.toList ++ Rows.waveTellsSpec.plain.varTypes Try.prog) (ds ++ gs)).all (· ≤ reachBytes) = true)
    (hL : laidMetH Try.prog Rows.waveTellsRow.laid W) (hsh : W.ShapedOpen Try.prog) :
    Calls Try.prog 3 args W fun e W' => e = .returned (.bool true) ∧ Below W.heap.size W W' := by
  obtain ⟨p, q, hA, _, _, _, _⟩ := hW
  rw [Try.params3] at hA hval
  rw [Try.params3] at hz
  obtain ⟨v0, vs0, d0, ds0, p0, q0, hargs, rfl, rfl, h0, r0⟩ := trodAll_cons hA
  obtain ⟨v1, vs1, d1, ds1, p1, q1, rfl, rfl, rfl, h1, r1⟩ := trodAll_cons r0
  obtain ⟨v2, vs2, d2, ds2, p2, q2, rfl, rfl, rfl, h2, r2⟩ := trodAll_cons r1
  obtain ⟨v3, vs3, d3, ds3, p3, q3, rfl, rfl, rfl, h3, r3⟩ := trodAll_cons r2
  obtain ⟨rfl, rfl, rfl⟩ := trodAll_nil r3
  obtain rfl : args = #[v0, v1, v2, v3] := by cases args; simp_all
  obtain ⟨l0, L0, b0, z0⟩ := arg_ints Try.underlying22 Try.underlying3 (show Try.prog.cellsOf 3 = 1 ∧ Try.prog.bytesOf 3 = 8 by exact ⟨by kernel_rfl, by kernel_rfl⟩) (hval 0 22 v0 rfl rfl) h0 (sized_arg hz (j := 0) (t := 22) (d := d0) rfl rfl)
  obtain ⟨x1, rfl, rfl, rfl, w1⟩ := open_int Try.underlying3 (hval 1 3 v1 rfl rfl) h1
  have b1 := bounds_i64 w1
  obtain ⟨x2, rfl, rfl, rfl, w2⟩ := open_int Try.underlying3 (hval 2 3 v2 rfl rfl) h2
  have b2 := bounds_i64 w2
  obtain ⟨x3, rfl, rfl, rfl, w3⟩ := open_int Try.underlying3 (hval 3 3 v3 rfl rfl) h3
  have b3 := bounds_i64 w3
  obtain ⟨a, cap, rfl, h1, h2, h3, hr⟩ := id L0
  have hn2 : l0.length ≤ 9223372036854775807 := by unfold maxLen at h2; omega
  by_cases h200 : 200 < l0.length
  · exact waveTells_long a _ cap x1 x2 x3 W hn2 h200
  · by_cases hM : Pm.May l0 x1
    · obtain ⟨l, wd, rfl, rfl⟩ := may_split hM
      exact waveTells_in a _ cap wd l x2 x3 W (by simp) (by simpa using h1) h2 hM (natsAt_of (by simp) hr) (by simpa using h200) (by omega)
    · exact waveTells_none a _ cap l0 x1 x2 x3 W rfl hn2 b0 hr (by omega) hM

theorem waveTells_lifted (os : Os) (started : os.Started) (H : Type) (enc : TypeId × Value → H) (F : Stop.Interp) :
    ReturnsInHanded {} Try.checked os 3 .any ((OpenSpec.ofChange Rows.waveTellsSpec).preRow enc Try.prog Try.f3 Rows.waveTellsRow.domain false Rows.waveTellsRow.laid) (((OpenSpec.ofChange Rows.waveTellsSpec).at F).post enc Try.prog Try.f3 false true false false) := by
  obtain ⟨places, hx⟩ : ∃ places, DataW.whole enc Try.prog ((World.holding Try.prog os ⟨#[], #[], []⟩).forCall (fun _ _ => 0) ⟨#[], #[.slice none 0 0, .int .i64 0, .int .i64 0, .int .i64 0], []⟩).memory Try.f3.params.toList Rows.waveTellsSpec.vars false (#[.slice none 0 0, .int .i64 0, .int .i64 0, .int .i64 0] : Array Value).toList 8 = some ([.nil, .lit (.int .i64 0), .lit (.int .i64 0), .lit (.int .i64 0)], [], places) := ⟨[], by kernel_rfl⟩
  refine returnsInHanded_of_row (C := Try.checked) (s := OpenSpec.ofChange Rows.waveTellsSpec) own started (by kernel_rfl) Try.func3
    (witness_row_at (enc := enc) (C := Try.checked) false (World.holding Try.prog os ⟨#[], #[], []⟩) #[.slice none 0 0, .int .i64 0, .int .i64 0, .int .i64 0] rfl (by kernel_rfl) (by kernel_rfl) (by kernel_rfl)
      (OpenSpec.preRow_of_cond 8 hx (by kernel_rfl) (fun k hk => by cases hk) (by kernel_rfl) (laidMet_nil _ _))) ?_
  intro W base args ds gs before hval hW _ _ hz hL hsh _
  refine (waveTells_walk H enc W base args ds gs before hval hW hz hL hsh).mono fun e W' ⟨he, hb⟩ => ⟨_, he, ?_⟩
  exact law_post (fn := Try.f3) (s := Rows.waveTellsSpec) (tb := 4) rfl (fun ds hd => by match ds, hd with | [d0, d1, d2, d3], _ => rfl) rfl Try.underlying4 (by kernel_rfl) hW hb

theorem waveTells_said : Rows.WaveTellsSaid :=
  OpenClaim.holds_of_cond 3 Try.f3 rfl rfl rfl rfl rfl rfl rfl ⟨rfl, rfl, rfl, rfl, rfl⟩ rfl rfl rfl rfl rfl (by kernel_rfl) Try.func3 (by kernel_rfl)
    (of_decide_eq_true (by kernel_rfl)) (by unfold Func.isWrapper; first | (rw [if_pos (by decide +kernel)]; kernel_rfl) | (rw [if_neg (by decide +kernel)]; exact ⟨rfl, rfl⟩))
    (fun os started H enc _ F => by rw [OpenClaim.pre_eq_preRow]; exact waveTells_lifted os started H enc F)
end Go.Proofs.Ytpjflmocbmmmaaa
