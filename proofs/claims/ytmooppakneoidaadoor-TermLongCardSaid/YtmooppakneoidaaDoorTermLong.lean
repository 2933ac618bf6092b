/- TermLong: texts may have so many bytes, and be no wrong ones, for every input. -/
import Derived.Test.YtmooppakneoidaaDoorTmLaid
import Derived.Test.YtmooppakneoidaaDoorTmRIs
namespace Go.Proofs.YtmooppakneoidaaDoor
set_option linter.unusedVariables false
set_option linter.unusedSimpArgs false
set_option maxRecDepth 100000
open Go.ChangeShapes Go.WideShapes Go.ChangeAt Go.RowKit

theorem long_out (n : Int) (b : Bool) (W : World) (h : n < 0 ∨ (0 ≤ n ∧ 70 < n)) :
    Calls Tryd.prog 9 #[.int .i64 n, .bool b] W fun e W' => e = .returned (.bool true) ∧ Below W.heap.size W W' := by
  rcases h with h | ⟨h, h'⟩
  all_goals
    go_enter Tryd.func9, Tryd.ntmps9
    go_wp2
    go_ret
    exact ⟨rfl, Below.refl _ _⟩
theorem xs_valid : ∀ n, Lib.validD (List.replicate n 120) = true
  | 0 => rfl
  | n + 1 => by rw [List.replicate_succ, Lib.validD_cons _ _ (by decide), xs_valid n]
theorem xs_runes : ∀ n m, Tm.runesAll Tm.irune m (List.replicate n 120) = true
  | 0, m => Tm.runesAll_nil _ m
  | n + 1, 0 => rfl
  | n + 1, m + 1 => by
    rw [List.replicate_succ, Tm.runesAll_step _ _ _ (by simp), Lib.decodeL_ascii _ _ (by decide)]
    simp only [List.drop_succ_cons, List.drop_zero]
    rw [xs_runes n m]; decide
theorem xs_bad : ∀ n, Lib.validD (List.replicate n 120 ++ [255]) = false
  | 0 => by decide
  | n + 1 => by rw [List.replicate_succ, List.cons_append, Lib.validD_cons _ _ (by decide), xs_bad n]
theorem xs_iri (n : Nat) : Tm.isIRI (List.replicate n 120) = (decide (1 ≤ n) && decide (n ≤ 60)) := by
  unfold Tm.isIRI
  rw [xs_valid, xs_runes, List.length_replicate]; simp
theorem xs_iri_bad (n : Nat) : Tm.isIRI (List.replicate n 120 ++ [255]) = false := by
  unfold Tm.isIRI
  rw [xs_bad]; simp
theorem xs_is3 (n : Nat) : Tm.is 3 (List.replicate n 120) [] = decide (n ≤ 30) := by
  unfold Tm.is Tm.text
  rw [xs_valid, List.length_replicate]; simp
theorem xs_is3_bad (n : Nat) : Tm.is 3 (List.replicate n 120 ++ [255]) [] = false := by
  unfold Tm.is Tm.text
  rw [xs_bad]; simp
theorem xs_is2 (n : Nat) : Tm.is 2 (List.replicate n 120) [] = (decide (1 ≤ n) && decide (n ≤ 8)) := by
  unfold Tm.is Tm.label
  have : (List.replicate n (120 : UInt8)).all Tm.alnum = true := by rw [List.all_eq_true]; intro x hx; rw [List.eq_of_mem_replicate hx]; decide
  rw [this, List.length_replicate]; simp
theorem xs_snoc (k : Nat) : List.replicate k (120 : UInt8) ++ [120] = List.replicate (k + 1) 120 := by rw [List.replicate_succ']
set_option maxHeartbeats 4000000 in
theorem long_wrong (n : Nat) (hn : n ≤ 70) (W : World) (hV : Vars W) :
    Calls Tryd.prog 9 #[.int .i64 n, .bool true] W fun e W' => e = .returned (.bool true) ∧ Below W.heap.size W W' := by
  have HV := hid hV
  obtain ⟨X, hX⟩ : ∃ X : Nat → List UInt8, ∀ k, X k = List.replicate k 120 := ⟨fun k => List.replicate k 120, fun _ => rfl⟩
  have HL := hid (fun k => show (X k).length = k by rw [hX, List.length_replicate])
  have HS := hid (fun k => show X k ++ [120] = X (k + 1) by rw [hX, hX, xs_snoc])
  have H0 := hid (show X 0 = [] by rw [hX]; rfl)
  have C1 := hid (fun w h => tis_any 3 (X n ++ [255]) [] w (by rw [List.length_append, HL.out]; simp; omega) (by decide) h)
  rw [hX, xs_is3_bad, ← hX] at C1
  have C2 := hid (fun w h => tiri_any (X n ++ [255]) w (by rw [List.length_append, HL.out]; simp; omega) h)
  rw [hX, xs_iri_bad, ← hX] at C2
  have KN := hid (fun w h => known_any w h)
  clear hX hV
  go_enter Tryd.func9, Tryd.ntmps9
  go_wp2
  go_loop [5, 6] (fun s5 s6 => ∃ k : Nat, k ≤ n ∧ s6 = .int .i64 k ∧ s5 = str (X k)) (fun _ s6 => n - (intOf s6).toNat)
  case atStart => exact ⟨0, by omega, rfl, by rw [H0.out]⟩
  case round =>
    obtain ⟨k, hk, rfl, rfl⟩ := hrel
    have hl := HL.out k
    have hl2 : (X k).length ≤ 70 := by omega
    have HS1 := hid (HS.out k)
    clear hl
    by_cases hlt : k < n
    · go_wp2
      go_round
      case rel => exact ⟨k + 1, by omega, by go_num, by rw [← HS1.out]; simp [ba_append]⟩
      case measure => simp [intOf]; omega
    · obtain rfl : k = n := by omega
      have hap : (⟨(X k).toArray⟩ ++ ⟨#[255]⟩ : ByteArray) = ⟨(X k ++ [255]).toArray⟩ := ba_append (X k) [255]
      go_wp2_with fail
      refine (C1.out _ HV.out).mono ?_
      rintro e w1 ⟨rfl, hb⟩
      have HB1 := hid hb
      clear hb
      go_wp2_with fail
      refine (C2.out _ (HV.out.keep HB1.out).1).mono ?_
      rintro e w2 ⟨rfl, hb⟩
      have HB2 := hid (below_then HB1.out hb)
      clear hb
      go_wp2_with fail
      refine (KN.out _ (HV.out.keep HB2.out)).mono ?_
      rintro e w3 ⟨rfl, hb⟩
      have HB3 := hid (below_then HB2.out hb)
      clear hb
      go_wp2
      go_ret
      exact ⟨rfl, HB3.out⟩
set_option maxHeartbeats 8000000 in
theorem long_right (n : Nat) (hn : n ≤ 70) (W : World) (hV : Vars W) :
    Calls Tryd.prog 9 #[.int .i64 n, .bool false] W fun e W' => e = .returned (.bool true) ∧ Below W.heap.size W W' := by
  have HV := hid hV
  obtain ⟨X, hX⟩ : ∃ X : Nat → List UInt8, ∀ k, X k = List.replicate k 120 := ⟨fun k => List.replicate k 120, fun _ => rfl⟩
  have HL := hid (fun k => show (X k).length = k by rw [hX, List.length_replicate])
  have HS := hid (fun k => show X k ++ [120] = X (k + 1) by rw [hX, hX, xs_snoc])
  have H0 := hid (show X 0 = [] by rw [hX]; rfl)
  have C1 := hid (fun w h => tis_any 3 (X n) [] w (by rw [HL.out]; omega) (by decide) h)
  rw [hX, xs_is3, ← hX] at C1
  have C2 := hid (fun w h => tiri_any (X n) w (by rw [HL.out]; omega) h)
  rw [hX, xs_iri, ← hX] at C2
  have C3 := hid (fun w h => tis_any 2 (X n) [] w (by rw [HL.out]; omega) (by decide) h)
  rw [hX, xs_is2, ← hX] at C3
  have KN := hid (fun w h => known_any w h)
  clear hX hV
  go_enter Tryd.func9, Tryd.ntmps9
  go_wp2
  go_loop [5, 6] (fun s5 s6 => ∃ k : Nat, k ≤ n ∧ s6 = .int .i64 k ∧ s5 = str (X k)) (fun _ s6 => n - (intOf s6).toNat)
  case atStart => exact ⟨0, by omega, rfl, by rw [H0.out]⟩
  case round =>
    obtain ⟨k, hk, rfl, rfl⟩ := hrel
    have hl := HL.out k
    have hl2 : (X k).length ≤ 70 := by omega
    have HS1 := hid (HS.out k)
    clear hl
    by_cases hlt : k < n
    · clear C1 C2 C3
      go_wp2
      go_round
      case rel => exact ⟨k + 1, by omega, by go_num, by rw [← HS1.out]; simp [ba_append]⟩
      case measure => simp [intOf]; omega
    · obtain rfl : k = n := by omega
      rcases (show k = 0 ∨ (1 ≤ k ∧ k ≤ 8) ∨ (8 < k ∧ k ≤ 30) ∨ (30 < k ∧ k ≤ 60) ∨ 60 < k by omega) with h | ⟨h, h'⟩ | ⟨h, h'⟩ | ⟨h, h'⟩ | h
      · rw [decide_eq_true (show k ≤ 30 by omega)] at C1
        rw [decide_eq_false (show ¬ 1 ≤ k by omega), decide_eq_true (show k ≤ 60 by omega)] at C2
        rw [decide_eq_false (show ¬ 1 ≤ k by omega), decide_eq_true (show k ≤ 8 by omega)] at C3
        have g30 : decide ((k : Int) ≤ 30) = true := by simp <;> omega
        have g1 : decide ((1 : Int) ≤ (k : Int)) = false := by simp <;> omega
        clear h
        go_wp2_with fail
        refine (C1.out _ HV.out).mono ?_
        rintro e w1 ⟨rfl, hb⟩
        have HB1 := hid hb
        clear hb
        go_wp2_with fail
        refine (C2.out _ (HV.out.keep HB1.out).1).mono ?_
        rintro e w2 ⟨rfl, hb⟩
        have HB2 := hid (below_then HB1.out hb)
        clear hb
        go_wp2_with fail
        refine (C3.out _ (HV.out.keep HB2.out)).mono ?_
        rintro e w3 ⟨rfl, hb⟩
        have HB3 := hid (below_then HB2.out hb)
        clear hb
        go_wp2_with fail
        refine (KN.out _ (HV.out.keep HB3.out)).mono ?_
        rintro e w4 ⟨rfl, hb⟩
        have HB4 := hid (below_then HB3.out hb)
        clear hb
        go_wp2
        go_ret
        exact ⟨rfl, HB4.out⟩
      · rw [decide_eq_true (show k ≤ 30 by omega)] at C1
        rw [decide_eq_true (show 1 ≤ k by omega), decide_eq_true (show k ≤ 60 by omega)] at C2
        rw [decide_eq_true (show 1 ≤ k by omega), decide_eq_true (show k ≤ 8 by omega)] at C3
        have g30 : decide ((k : Int) ≤ 30) = true := by simp <;> omega
        have g1 : decide ((1 : Int) ≤ (k : Int)) = true := by simp <;> omega
        have g60 : decide ((k : Int) ≤ 60) = true := by simp <;> omega
        have g8 : decide ((k : Int) ≤ 8) = true := by simp <;> omega
        clear hlt
        go_wp2_with fail
        refine (C1.out _ HV.out).mono ?_
        rintro e w1 ⟨rfl, hb⟩
        have HB1 := hid hb
        clear hb
        go_wp2_with fail
        refine (C2.out _ (HV.out.keep HB1.out).1).mono ?_
        rintro e w2 ⟨rfl, hb⟩
        have HB2 := hid (below_then HB1.out hb)
        clear hb
        go_wp2_with fail
        refine (C3.out _ (HV.out.keep HB2.out)).mono ?_
        rintro e w3 ⟨rfl, hb⟩
        have HB3 := hid (below_then HB2.out hb)
        clear hb
        go_wp2_with fail
        refine (KN.out _ (HV.out.keep HB3.out)).mono ?_
        rintro e w4 ⟨rfl, hb⟩
        have HB4 := hid (below_then HB3.out hb)
        clear hb
        go_wp2
        go_ret
        exact ⟨rfl, HB4.out⟩
      · rw [decide_eq_true (show k ≤ 30 by omega)] at C1
        rw [decide_eq_true (show 1 ≤ k by omega), decide_eq_true (show k ≤ 60 by omega)] at C2
        rw [decide_eq_true (show 1 ≤ k by omega), decide_eq_false (show ¬ k ≤ 8 by omega)] at C3
        have g30 : decide ((k : Int) ≤ 30) = true := by simp <;> omega
        have g1 : decide ((1 : Int) ≤ (k : Int)) = true := by simp <;> omega
        have g60 : decide ((k : Int) ≤ 60) = true := by simp <;> omega
        have g8 : decide ((k : Int) ≤ 8) = false := by simp <;> omega
        clear hlt
        go_wp2_with fail
        refine (C1.out _ HV.out).mono ?_
        rintro e w1 ⟨rfl, hb⟩
        have HB1 := hid hb
        clear hb
        go_wp2_with fail
        refine (C2.out _ (HV.out.keep HB1.out).1).mono ?_
        rintro e w2 ⟨rfl, hb⟩
        have HB2 := hid (below_then HB1.out hb)
        clear hb
        go_wp2_with fail
        refine (C3.out _ (HV.out.keep HB2.out)).mono ?_
        rintro e w3 ⟨rfl, hb⟩
        have HB3 := hid (below_then HB2.out hb)
        clear hb
        go_wp2_with fail
        refine (KN.out _ (HV.out.keep HB3.out)).mono ?_
        rintro e w4 ⟨rfl, hb⟩
        have HB4 := hid (below_then HB3.out hb)
        clear hb
        go_wp2
        go_ret
        exact ⟨rfl, HB4.out⟩
      · rw [decide_eq_false (show ¬ k ≤ 30 by omega)] at C1
        rw [decide_eq_true (show 1 ≤ k by omega), decide_eq_true (show k ≤ 60 by omega)] at C2
        rw [decide_eq_true (show 1 ≤ k by omega), decide_eq_false (show ¬ k ≤ 8 by omega)] at C3
        have g30 : decide ((k : Int) ≤ 30) = false := by simp <;> omega
        have g1 : decide ((1 : Int) ≤ (k : Int)) = true := by simp <;> omega
        have g60 : decide ((k : Int) ≤ 60) = true := by simp <;> omega
        have g8 : decide ((k : Int) ≤ 8) = false := by simp <;> omega
        clear hlt
        go_wp2_with fail
        refine (C1.out _ HV.out).mono ?_
        rintro e w1 ⟨rfl, hb⟩
        have HB1 := hid hb
        clear hb
        go_wp2_with fail
        refine (C2.out _ (HV.out.keep HB1.out).1).mono ?_
        rintro e w2 ⟨rfl, hb⟩
        have HB2 := hid (below_then HB1.out hb)
        clear hb
        go_wp2_with fail
        refine (C3.out _ (HV.out.keep HB2.out)).mono ?_
        rintro e w3 ⟨rfl, hb⟩
        have HB3 := hid (below_then HB2.out hb)
        clear hb
        go_wp2_with fail
        refine (KN.out _ (HV.out.keep HB3.out)).mono ?_
        rintro e w4 ⟨rfl, hb⟩
        have HB4 := hid (below_then HB3.out hb)
        clear hb
        go_wp2
        go_ret
        exact ⟨rfl, HB4.out⟩
      · rw [decide_eq_false (show ¬ k ≤ 30 by omega)] at C1
        rw [decide_eq_true (show 1 ≤ k by omega), decide_eq_false (show ¬ k ≤ 60 by omega)] at C2
        rw [decide_eq_true (show 1 ≤ k by omega), decide_eq_false (show ¬ k ≤ 8 by omega)] at C3
        have g30 : decide ((k : Int) ≤ 30) = false := by simp <;> omega
        have g1 : decide ((1 : Int) ≤ (k : Int)) = true := by simp <;> omega
        have g60 : decide ((k : Int) ≤ 60) = false := by simp <;> omega
        have g8 : decide ((k : Int) ≤ 8) = false := by simp <;> omega
        clear hlt
        go_wp2_with fail
        refine (C1.out _ HV.out).mono ?_
        rintro e w1 ⟨rfl, hb⟩
        have HB1 := hid hb
        clear hb
        go_wp2_with fail
        refine (C2.out _ (HV.out.keep HB1.out).1).mono ?_
        rintro e w2 ⟨rfl, hb⟩
        have HB2 := hid (below_then HB1.out hb)
        clear hb
        go_wp2_with fail
        refine (C3.out _ (HV.out.keep HB2.out)).mono ?_
        rintro e w3 ⟨rfl, hb⟩
        have HB3 := hid (below_then HB2.out hb)
        clear hb
        go_wp2_with fail
        refine (KN.out _ (HV.out.keep HB3.out)).mono ?_
        rintro e w4 ⟨rfl, hb⟩
        have HB4 := hid (below_then HB3.out hb)
        clear hb
        go_wp2
        go_ret
        exact ⟨rfl, HB4.out⟩

theorem termLong_walk (H : Type) (enc : TypeId × Value → H) (W : World) (base : Nat) (args : Array Value) (ds gs : List (DataW H)) (before : List MemPlace)
    (hval : ∀ (j : Nat) t v, Tryd.f9.params[j]? = some t → args[j]? = some v → Value.okWide Tryd.prog W .any base t v)
    (hW : DataW.Whole enc Tryd.prog Tryd.f9.params.toList Rows.termLongSpec.vars false W args.toList ds gs before)
    (hz : (DataW.weightsEach Tryd.prog (Tryd.f9.params.toList ++ Rows.termLongSpec.plain.varTypes Tryd.prog) (ds ++ gs)).all (· ≤ reachBytes) = true)
    (hL : laidMetH Tryd.prog Rows.termLongRow.laid W) (hsh : W.ShapedOpen Tryd.prog) :
    Calls Tryd.prog 9 args W fun e W' => e = .returned (.bool true) ∧ Below W.heap.size W W' := by
  obtain ⟨p, q, hA, _, _, _, _⟩ := hW
  rw [Tryd.params9] at hA hval
  rw [Tryd.params9] at hz
  obtain ⟨v0, vs0, d0, ds0, p0, q0, hargs, rfl, rfl, h0, r0⟩ := trodAll_cons hA
  obtain ⟨v1, vs1, d1, ds1, p1, q1, rfl, rfl, rfl, h1, r1⟩ := trodAll_cons r0
  obtain ⟨rfl, rfl, rfl⟩ := trodAll_nil r1
  obtain rfl : args = #[v0, v1] := by cases args; simp_all
  obtain ⟨x0, rfl, rfl, rfl, w0⟩ := open_int Tryd.underlying3 (hval 0 3 v0 rfl rfl) h0
  have b0 := bounds_i64 w0
  obtain ⟨x1, rfl, rfl, rfl⟩ := Go.RowKit.open_bool Tryd.underlying4 (hval 1 4 v1 rfl rfl) h1
  by_cases h : 0 ≤ x0 ∧ x0 ≤ 70
  · obtain ⟨n, rfl⟩ : ∃ n : Nat, x0 = n := ⟨x0.toNat, by omega⟩
    cases x1
    · exact long_right n (by omega) W (vars_of hL hsh)
    · exact long_wrong n (by omega) W (vars_of hL hsh)
  · exact long_out x0 x1 W (by omega)

theorem termLong_lifted (os : Os) (started : os.Started) (H : Type) (enc : TypeId × Value → H) (F : Stop.Interp) :
    ReturnsInHanded {} Tryd.checked os 9 .any ((OpenSpec.ofChange Rows.termLongSpec).preRow enc Tryd.prog Tryd.f9 Rows.termLongRow.domain false Rows.termLongRow.laid) (((OpenSpec.ofChange Rows.termLongSpec).at F).post enc Tryd.prog Tryd.f9 false true false false) := by
  obtain ⟨places, hx⟩ : ∃ places, DataW.whole enc Tryd.prog ((laidWorld os).forCall (fun _ _ => 0) ⟨#[], #[.int .i64 0, .bool false], []⟩).memory Tryd.f9.params.toList Rows.termLongSpec.vars false (#[.int .i64 0, .bool false] : Array Value).toList 8 = some ([.lit (.int .i64 0), .lit (.bool false)], [], places) := ⟨[], by kernel_rfl⟩
  refine returnsInHanded_of_row (C := Tryd.checked) (s := OpenSpec.ofChange Rows.termLongSpec) own started (by kernel_rfl) Tryd.func9
    (witness_row_at (enc := enc) (C := Tryd.checked) false (laidWorld os) #[.int .i64 0, .bool false] rfl (by kernel_rfl) (by kernel_rfl) (by kernel_rfl)
      (OpenSpec.preRow_of_cond 8 hx (by kernel_rfl) (fun k hk => by cases hk) (by kernel_rfl) (laidMet_of_run' 8 (by kernel_rfl) (by kernel_rfl)))) ?_
  intro W base args ds gs before hval hW _ _ hz hL hsh _
  refine (termLong_walk H enc W base args ds gs before hval hW hz hL hsh).mono fun e W' ⟨he, hb⟩ => ⟨_, he, ?_⟩
  exact law_post (fn := Tryd.f9) (s := Rows.termLongSpec) (tb := 4) rfl (fun ds hd => by match ds, hd with | [d0, d1], _ => rfl) rfl Tryd.underlying4 (by kernel_rfl) hW hb

theorem termLong_said : Rows.TermLongSaid :=
  OpenClaim.holds_of_cond 9 Tryd.f9 rfl rfl rfl rfl rfl rfl rfl ⟨rfl, rfl, rfl, rfl, rfl⟩ rfl rfl rfl rfl rfl (by kernel_rfl) Tryd.func9 (by kernel_rfl)
    (of_decide_eq_true (by kernel_rfl)) (by unfold Func.isWrapper; first | (rw [if_pos (by decide +kernel)]; kernel_rfl) | (rw [if_neg (by decide +kernel)]; exact ⟨rfl, rfl⟩))
    (fun os started H enc _ F => by rw [OpenClaim.pre_eq_preRow]; exact termLong_lifted os started H enc F)

theorem termLong_plain (f : FuncId) (fn : Func) (hf : Tryd.pinned.checked.prog.funcNamed Rows.termLongRow.func = some f) (hfn : Tryd.pinned.checked.prog.funcs[f]? = some fn) :
    false = Tryd.pinned.checked.prog.looks [] ∧ ∀ (j : Nat) t, fn.params[j]? = some t → Tryd.pinned.checked.prog.wantsStandIn t = false := by
  obtain rfl : f = 9 := Option.some.inj ((show Tryd.prog.funcNamed Rows.termLongRow.func = some 9 by kernel_rfl).symm.trans hf) |>.symm
  obtain rfl : fn = Tryd.f9 := (Option.some.inj (Tryd.func9.symm.trans hfn)).symm
  refine ⟨by kernel_rfl, fun j t ht => ?_⟩
  have h := Array.mem_of_getElem? ht
  have hall : Tryd.f9.params.all (fun t => !Tryd.prog.wantsStandIn t) = true := by kernel_rfl
  have := Array.all_eq_true_iff_forall_mem.1 hall t h
  show Tryd.prog.wantsStandIn t = false
  simpa using this

/-- THE STATEMENT. -/
theorem termLong_card : Rows.TermLongCardSaid :=
  Claim7.holds_tied_plain_at .later [] _ _ _ _ termLong_said (fun _ h => by cases h) (by kernel_rfl) (fun _ h => by cases h) termLong_row_tie rfl ⟨rfl, rfl⟩ (by kernel_rfl) rfl termLong_plain (by kernel_rfl)
end Go.Proofs.YtmooppakneoidaaDoor
