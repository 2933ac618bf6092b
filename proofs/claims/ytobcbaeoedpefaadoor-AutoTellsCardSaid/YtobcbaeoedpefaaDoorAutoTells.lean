/- AutoTells: of every path both say whether it may be, and tell the same places, steps, and where a word may end. -/
import Derived.Test.YtobcbaeoedpefaaDoorAuLaid
import Derived.Test.YtobcbaeoedpefaaDoorRfNew
namespace Go.Proofs.YtobcbaeoedpefaaDoor
set_option linter.unusedVariables false
set_option linter.unusedSimpArgs false
set_option maxRecDepth 100000
open Go.ChangeShapes Go.WideShapes Go.ChangeAt Go.RowKit
open Au
set_option maxHeartbeats 16000000 in
theorem autoTells_any (x : Pt) (v u : Value) (w : World) (hP : PtAt w v u x) (hT : T8 w) :
    Calls Tryd.prog 3 #[pv x v u] w fun e w' => e = .returned (.bool true) ∧ Below w.heap.size w w' := by
  obtain ⟨a0, n0, c0, a1, n1, c1, rfl, rfl⟩ := pv_open hP
  obtain ⟨w1, hw1⟩ : ∃ w1, w1 = w.alloc (.cells #[.int .i64 x.kind, str x.text, .slice a0 n0 c0, .slice a1 n1 c1] 25) := ⟨_, rfl⟩
  have hb1 : Below w.heap.size w w1 := by rw [hw1]; exact (Below.refl _ _).alloc (Nat.le_refl _) _
  have hX : Blk w1 w.heap.size [.int .i64 x.kind, str x.text, .slice a0 n0 c0, .slice a1 n1 c1] 25 := by rw [hw1]; exact Blk.new w _ _
  have BG := big_any _ w1 _ _ 0 (hP.keep hb1) (by omega)
  have NA := hid fun W (hb : Below w1.heap.size w1 W) => new_any _ _ _ W ((hP.keep hb1).keep hb) ((hT.keep hb1).keep hb)
  have RN := hid fun W (hb : Below w1.heap.size w1 W) => rnew_any _ _ _ W ((hP.keep hb1).keep hb) ((hT.keep hb1).keep hb)
  have KN := hid fun W (hb : Below w1.heap.size w1 W) => known_any W ((hT.keep hb1).keep hb)
  unfold pv at BG NA RN ⊢
  obtain ⟨bg, hbg⟩ : ∃ z, z = bigP 0 x := ⟨_, rfl⟩
  rw [← hbg] at BG
  have BG := hid BG
  have HB1 := hid hb1
  obtain ⟨x0, x1, x2, x3⟩ := blk4 hX
  clear hb1 hX hP hT hbg
  have early : Hid (∀ e w2, e = Ending.returned (.bool true) → Below w1.heap.size w1 w2 → e = .returned (.bool true) ∧ Below w.heap.size w w2) := fun e w2 h hb => ⟨h, below_then HB1.out hb⟩
  cases bg
  case true =>
    go_enter Tryd.func3, Tryd.ntmps3
    go_upto_region 1 with fail
    rw [← hw1]
    clear hw1
    go_wp2_with (go_at_call 13; refine BG.out.mono ?_; rintro e w2 ⟨rfl, hb2⟩)
    go_ret
    exact early.out _ _ rfl hb2
  go_enter Tryd.func3, Tryd.ntmps3
  go_upto_region 1 with fail
  rw [← hw1]
  clear hw1
  go_wp2_with (go_at_call 13; refine BG.out.mono ?_; rintro e w2 ⟨rfl, hb2⟩; have x0 := below_keep hb2 x0; have x1 := below_keep hb2 x1; have x2 := below_keep hb2 x2; have x3 := below_keep hb2 x3; have HB2 := hid hb2; clear hb2)
  refine (NA.out _ HB2.out).mono ?_
  rintro e w3 ⟨hb3, hA⟩
  have x0 := below_keep hb3 x0
  have x1 := below_keep hb3 x1
  have x2 := below_keep hb3 x2
  have x3 := below_keep hb3 x3
  have HB3 := hid (below_then HB2.out hb3)
  clear hb3
  rcases hA with ⟨hm, rfl⟩ | ⟨hm, hc, rfl⟩ | ⟨hm, hc, p0, rfl, hI⟩
  · have HM := hid hm
    clear hm
    go_wp2_with fail
    refine (RN.out _ HB3.out).mono ?_
    rintro e w4 ⟨hb4, hR⟩
    have HB4 := hid (below_then HB3.out hb4)
    clear hb4 x0 x1 x2 x3
    rcases hR with ⟨_, rfl⟩ | ⟨hm', _, rfl⟩ | ⟨hm', _, q, rfl, _⟩
    · go_wp2_with (go_at_call 16; refine (KN.out _ HB4.out).mono ?_; rintro e w5 ⟨rfl, hb5⟩)
      go_ret
      exact early.out _ _ rfl (below_then HB4.out hb5)
    · have := HM.out; rw [hm'] at this; cases this
    · have := HM.out; rw [hm'] at this; cases this
  · have HM := hid hm
    have HC := hid hc
    clear hc
    clear hm
    go_wp2_with fail
    refine (RN.out _ HB3.out).mono ?_
    rintro e w4 ⟨hb4, hR⟩
    have HB4 := hid (below_then HB3.out hb4)
    clear hb4 x0 x1 x2 x3
    rcases hR with ⟨hm', _⟩ | ⟨_, _, rfl⟩ | ⟨_, hc', q, rfl, _⟩
    · have := HM.out; rw [hm'] at this; cases this
    · go_wp2_with (go_at_call 16; refine (KN.out _ HB4.out).mono ?_; rintro e w5 ⟨rfl, hb5⟩)
      go_ret
      exact early.out _ _ rfl (below_then HB4.out hb5)
    · have := HC.out; omega
  have HI3 := hid hI
  have HM := hid hm
  have HC := hid hc
  clear hI hm hc
  go_wp2_with fail
  refine (RN.out _ HB3.out).mono ?_
  rintro e w4 ⟨hb4, hR⟩
  have HB4 := hid (below_then HB3.out hb4)
  have HI4 := hid (HI3.out.keep hb4)
  clear hb4 x0 x1 x2 x3
  rcases hR with ⟨hm', _⟩ | ⟨_, hc', _⟩ | ⟨_, _, q, rfl, hQ⟩
  · have := HM.out; rw [hm'] at this; cases this
  · have := HC.out; omega
  have hn30 : (x.rx false).n ≤ 30 := by
    have h1 := (Pt.rx_n x false).2
    have h2 := HM.out
    unfold Pt.may at h2
    rw [Bool.and_eq_true, decide_eq_true_eq] at h2
    omega
  obtain ⟨r, hr⟩ : ∃ r, r = x.rx false := ⟨_, rfl⟩
  have HI5 := HI4.out
  rw [← hr] at HI5 hQ hn30
  have HI := hid HI5
  have HQ := hid hQ
  obtain ⟨av, g, fcap, eb, rb, k1, k2, k3, k4, k5, k6, k7⟩ := hQ
  have HE := hid k7
  obtain ⟨_, _, d2, _⟩ := blk3 k1
  clear k1 k2 k3 k4 k5 k6 k7 HI5 HI3 HI4 HM HC hr
  obtain ⟨L, hL⟩ : ∃ L, L = stepsOf r := ⟨_, rfl⟩
  have PL4 := hid fun W (hb : Below w4.heap.size w4 W) => isauto_places (HI.out.keep hb)
  have LA4 := hid fun W i (hb : Below w4.heap.size w4 W) => isauto_last i (HI.out.keep hb)
  have SA4 := hid fun W (hb : Below w4.heap.size w4 W) => (steps_au (HI.out.keep hb)).mono fun e w' k => (k.1.elim fun v h => ⟨v, h.1, by rw [hL]; exact h.2, below_then hb k.2⟩ : ∃ v, e = .returned v ∧ StepsAt w' v L ∧ Below w4.heap.size w4 w')
  have RS4 := hid fun W v0 (h0 : StepsAt W v0 L) (hb : Below w4.heap.size w4 W) => (rsteps_any (HQ.out.keep hb) hn30).mono fun e w' k => (k.1.elim fun v h => ⟨v, h.1, by rw [hL]; exact h.2, h0.keep k.2, below_then hb k.2⟩ : ∃ v, e = .returned v ∧ StepsAt w' v L ∧ StepsAt w' v0 L ∧ Below w4.heap.size w4 w')
  have LS4 := hid fun W v v' (h : StepsAt W v L) (h' : StepsAt W v' L) (hb : Below w4.heap.size w4 W) => (lsteps_any v v' L L W h h').mono fun e w' k => (⟨by rw [k.1, sameSs_refl], below_then hb k.2⟩ : e = .returned (.bool true) ∧ Below w4.heap.size w4 w')
  have KN4 := hid fun W (hb : Below w4.heap.size w4 W) => (KN.out W (below_then HB4.out hb)).mono fun e w' k => (⟨k.1, below_then hb k.2⟩ : e = .returned (.bool true) ∧ Below w4.heap.size w4 w')
  have hd4 : Below w4.heap.size w4 w4.drew := below_drawn (Below.refl _ _) 1
  obtain ⟨m, hm⟩ : ∃ m, m = 1 + r.n := ⟨_, rfl⟩
  rw [← hm] at PL4 LA4 HE d2
  have hm31 : m ≤ 31 := by omega
  have hm1 : 1 ≤ m := by omega
  clear hL hm hn30 HQ HI KN RN NA
  go_upto_region 9 with fail
  go_region_held3 (fun w' => w'.cell? ⟨q, 2, none⟩ = some (.slice (some ⟨eb, 0, none⟩) m m))
    (first
      | exact below_keep hb9 d2
      | go_keep)
    (first
      | (go_at_call 17; refine (PL4.out _ (by with_reducible assumption)).mono ?_; rintro e w9 ⟨rfl, rfl⟩)
      | (go_at_call 19; refine (SA4.out _ (by with_reducible assumption)).mono ?_; rintro e w9 ⟨v9, rfl, hs9, hb9⟩)
      | (go_at_call 20; refine (RS4.out _ _ (by with_reducible assumption) (by with_reducible assumption)).mono ?_; rintro e w9 ⟨v9, rfl, hs9, hs8, hb9⟩)
      | (go_at_call 18; refine (LS4.out _ _ _ (by with_reducible assumption) (by with_reducible assumption) (by with_reducible assumption)).mono ?_; rintro e w9 ⟨rfl, hb9⟩))
  have HB9 := hid hb9
  have d2 := below_keep hb9 d2
  have LA9 := hid fun W i (hb : Below w9.heap.size w9 W) => LA4.out W i (below_then HB9.out hb)
  have HE9 := hid fun k hk => below_keep HB9.out (HE.out k hk)
  have KN9 := hid fun W (hb : Below w9.heap.size w9 W) => KN4.out W (below_then HB9.out hb)
  have hm64 : m ≤ 9223372036854775807 := by omega
  clear hb9 hs9 hs8 hd4 PL4 SA4 RS4 LS4 KN4
  go_wp2
  go_loopw [7] (fun s7 wr => ∃ i : Nat, i ≤ m ∧ s7 = .int .i64 i ∧ Hid (Below w9.heap.size w9 wr)) (fun s7 _ => m - (intOf s7).toNat)
  case atStart => exact ⟨0, by omega, rfl, Below.refl _ _⟩
  case round =>
    obtain ⟨i, hi, rfl, HBr⟩ := hrel
    have d2r := below_keep HBr.out d2
    by_cases hlt : i < m
    case pos =>
      have e1 : (decide ((0 : Int) ≤ (i : Int)) && decide ((i : Int) < (m : Nat)) && r.endd (i : Int).toNat) = r.endd i := by
        rw [decide_eq_true (by omega : (0 : Int) ≤ (i : Int)), decide_eq_true (by omega : (i : Int) < (m : Nat))]
        rfl
      have k0 := below_keep HBr.out (HE9.out i hlt)
      obtain ⟨z, hz⟩ : ∃ z, z = r.endd i := ⟨_, rfl⟩
      have L1 := hid fun p : Later wr.heap.size wr => (show Calls Tryd.prog 21 #[.pointer (some ⟨p0, 0, none⟩), .int .i64 (i : Nat)] p.it fun e w' => e = .returned (.bool z) ∧ w' = p.it by have h := LA9.out p.it (i : Int) (below_then HBr.out p.low); rw [e1, ← hz] at h; exact h)
      rw [← hz] at k0
      have d2q := fun p : Later wr.heap.size wr => p.keep d2r
      have k0q := fun p : Later wr.heap.size wr => p.keep k0
      have z1 : (z == z) = true := by cases z <;> rfl
      have z2 : (z != z) = false := by cases z <;> rfl
      clear hz e1
      go_upto_region 14 with fail
      refine wp_region_later wr.heap.size (by kernel_rfl) (by kernel_rfl) ?_
      repeat (go_big_quiet_step (first | (go_at_call 21; with_reducible exact Later.call_same (L1.out _)) | fail))
      refine wpQuiet_nil ?_
      rintro wn ⟨p, rfl⟩
      have HBn := hid (below_then HBr.out p.low)
      clear d2q k0q
      go_wp2
      go_roundw
      case rel => exact ⟨i + 1, by omega, by go_num, HBn.out⟩
      case measure => simp [intOf]; omega
    obtain rfl : i = m := by omega
    have L1 := fun W (hb : Below wr.heap.size wr W) => LA9.out W (-1) (below_then HBr.out hb)
    have L2 := fun W (hb : Below wr.heap.size wr W) => LA9.out W (i : Int) (below_then HBr.out hb)
    rw [show (decide ((0 : Int) ≤ -1) && decide ((-1 : Int) < (i : Nat)) && r.endd (-1 : Int).toNat) = false from rfl] at L1
    rw [show (decide ((0 : Int) ≤ (i : Int)) && decide ((i : Int) < (i : Nat)) && r.endd (i : Int).toNat) = false from by rw [decide_eq_false (by omega : ¬ (i : Int) < (i : Nat)), Bool.and_false, Bool.false_and]] at L2
    have L1 := hid L1
    have L2 := hid L2
    have KN := hid (KN9.out wr HBr.out)
    have hi0 : ¬ ((i : Int) = -1) := by omega
    go_wp2_with fail
    refine (L1.out _ (Below.refl _ _)).mono ?_
    rintro e wq ⟨rfl, hw⟩
    rw [hw]
    clear hw wq
    go_wp2_with fail
    refine (L2.out _ (Below.refl _ _)).mono ?_
    rintro e wq ⟨rfl, hw⟩
    rw [hw]
    clear hw wq
    go_wp2_with fail
    refine KN.out.mono ?_
    rintro e w13 ⟨rfl, hb⟩
    have HB13 := hid hb
    clear hb
    go_wp2
    go_ret
    exact early.out _ _ rfl (HB4.out.trans (HB13.out.mono HB4.out.size))

theorem autoTells_walk (H : Type) (enc : TypeId × Value → H) (W : World) (base : Nat) (args : Array Value) (ds gs : List (DataW H)) (before : List MemPlace)
    (hval : ∀ (j : Nat) t v, Tryd.f3.params[j]? = some t → args[j]? = some v → Value.okWide Tryd.prog W .any base t v)
    (hW : DataW.Whole enc Tryd.prog Tryd.f3.params.toList Rows.autoTellsSpec.vars false W args.toList ds gs before)
    (hz : (DataW.weightsEach Tryd.prog (Tryd.f3.params.toList ++ Rows.autoTellsSpec.plain.varTypes Tryd.prog) (ds ++ gs)).all (· ≤ reachBytes) = true)
    (hL : laidMetH Tryd.prog Rows.autoTellsRow.laid W) (hsh : W.ShapedOpen Tryd.prog) :
    Calls Tryd.prog 3 args W fun e W' => e = .returned (.bool true) ∧ Below W.heap.size W W' := by
  obtain ⟨p, q, hA, _, _, _, _⟩ := hW
  rw [Tryd.params3] at hA hval
  rw [Tryd.params3] at hz
  obtain ⟨v0, vs0, d0, ds0, p0, q0, hargs, rfl, rfl, h0, r0⟩ := trodAll_cons hA
  obtain ⟨rfl, rfl, rfl⟩ := trodAll_nil r0
  obtain rfl : args = #[v0] := by cases args; simp_all
  obtain ⟨y0, a0, b0, rfl, P0⟩ := arg_pt (hval 0 25 v0 rfl rfl) h0 (sized_arg hz (j := 0) (t := 25) (d := d0) rfl rfl)
  exact autoTells_any y0 a0 b0 W P0 (t8_of hL hsh)

theorem autoTells_lifted (os : Os) (started : os.Started) (H : Type) (enc : TypeId × Value → H) (F : Stop.Interp) :
    ReturnsInHanded {} Tryd.checked os 3 .any ((OpenSpec.ofChange Rows.autoTellsSpec).preRow enc Tryd.prog Tryd.f3 Rows.autoTellsRow.domain false Rows.autoTellsRow.laid) (((OpenSpec.ofChange Rows.autoTellsSpec).at F).post enc Tryd.prog Tryd.f3 false true false false) := by
  obtain ⟨places, hx⟩ : ∃ places, DataW.whole enc Tryd.prog ((laidWorld os).forCall (fun _ _ => 0) ⟨#[], #[.agg #[.int .i64 0, .string ByteArray.empty, .slice none 0 0, .slice none 0 0]], []⟩).memory Tryd.f3.params.toList Rows.autoTellsSpec.vars false (#[.agg #[.int .i64 0, .string ByteArray.empty, .slice none 0 0, .slice none 0 0]] : Array Value).toList 8 = some ([.agg [.lit (.int .i64 0), .lit (.string []), .nil, .nil]], [], places) := ⟨[], by kernel_rfl⟩
  refine returnsInHanded_of_row (C := Tryd.checked) (s := OpenSpec.ofChange Rows.autoTellsSpec) own started (by kernel_rfl) Tryd.func3
    (witness_row_at (enc := enc) (C := Tryd.checked) false (laidWorld os) #[.agg #[.int .i64 0, .string ByteArray.empty, .slice none 0 0, .slice none 0 0]] rfl (by kernel_rfl) (by kernel_rfl) (by kernel_rfl)
      (OpenSpec.preRow_of_cond 8 hx (by kernel_rfl) (fun k hk => by cases hk) (by kernel_rfl) (laidMet_of_run' 8 (by kernel_rfl) (by kernel_rfl)))) ?_
  intro W base args ds gs before hval hW _ _ hz hL hsh _
  refine (autoTells_walk H enc W base args ds gs before hval hW hz hL hsh).mono fun e W' ⟨he, hb⟩ => ⟨_, he, ?_⟩
  exact law_post (fn := Tryd.f3) (s := Rows.autoTellsSpec) (tb := 4) rfl (fun ds hd => by match ds, hd with | [d0], _ => rfl) rfl Tryd.underlying4 (by kernel_rfl) hW hb

theorem autoTells_said : Rows.AutoTellsSaid :=
  OpenClaim.holds_of_cond 3 Tryd.f3 rfl rfl rfl rfl rfl rfl rfl ⟨rfl, rfl, rfl, rfl, rfl⟩ rfl rfl rfl rfl rfl (by kernel_rfl) Tryd.func3 (by kernel_rfl)
    (of_decide_eq_true (by kernel_rfl)) (by unfold Func.isWrapper; first | (rw [if_pos (by decide +kernel)]; kernel_rfl) | (rw [if_neg (by decide +kernel)]; exact ⟨rfl, rfl⟩))
    (fun os started H enc _ F => by rw [OpenClaim.pre_eq_preRow]; exact autoTells_lifted os started H enc F)

theorem autoTells_plain (f : FuncId) (fn : Func) (hf : Tryd.pinned.checked.prog.funcNamed Rows.autoTellsRow.func = some f) (hfn : Tryd.pinned.checked.prog.funcs[f]? = some fn) :
    false = Tryd.pinned.checked.prog.looks [] ∧ ∀ (j : Nat) t, fn.params[j]? = some t → Tryd.pinned.checked.prog.wantsStandIn t = false := by
  obtain rfl : f = 3 := Option.some.inj ((show Tryd.prog.funcNamed Rows.autoTellsRow.func = some 3 by kernel_rfl).symm.trans hf) |>.symm
  obtain rfl : fn = Tryd.f3 := (Option.some.inj (Tryd.func3.symm.trans hfn)).symm
  refine ⟨by kernel_rfl, fun j t ht => ?_⟩
  have h := Array.mem_of_getElem? ht
  have hall : Tryd.f3.params.all (fun t => !Tryd.prog.wantsStandIn t) = true := by kernel_rfl
  have := Array.all_eq_true_iff_forall_mem.1 hall t h
  show Tryd.prog.wantsStandIn t = false
  simpa using this

/-- THE STATEMENT. -/
theorem autoTells_card : Rows.AutoTellsCardSaid :=
  Claim7.holds_tied_plain_at .later [] _ _ _ _ autoTells_said (fun _ h => by cases h) (by kernel_rfl) (fun _ h => by cases h) autoTells_row_tie rfl ⟨rfl, rfl⟩ (by kernel_rfl) rfl autoTells_plain (by kernel_rfl)
end Go.Proofs.YtobcbaeoedpefaaDoor
