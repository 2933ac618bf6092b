/- TermNumbers: just literals of number types have a number: that of their text, for every input. -/
import Derived.Test.YtmooppakneoidaaDoorTmLaid
import Derived.Test.YtmooppakneoidaaDoorTmRIs
import Derived.Test.YtmooppakneoidaaDoorTmNum
import Derived.Test.YtmooppakneoidaaDoorDblRef2
import Derived.Test.YtmooppakneoidaaDoorDblOrd
namespace Go.Proofs.YtmooppakneoidaaDoor
set_option linter.unusedVariables false
set_option linter.unusedSimpArgs false
set_option maxRecDepth 100000
open Go.ChangeShapes Go.WideShapes Go.ChangeAt Go.RowKit

theorem numbers_out (p : List UInt8) (k n : Int) (W : World) (hl : p.length ≤ 9223372036854775807) (h : 30 < p.length ∨ (p.length ≤ 30 ∧ n < 0) ∨ (p.length ≤ 30 ∧ 0 ≤ n ∧ 4 < n)) :
    Calls Tryd.prog 4 #[str p, .int .i64 k, .int .i64 n] W fun e W' => e = .returned (.bool true) ∧ Below W.heap.size W W' := by
  rcases h with h | ⟨h, h'⟩ | ⟨h, h', h2⟩
  all_goals
    go_enter Tryd.func4, Tryd.ntmps4
    go_wp2
    go_ret
    exact ⟨rfl, Below.refl _ _⟩
theorem numbers_none (p : List UInt8) (k : Int) (n : Nat) (W : World) (hl : p.length ≤ 30) (hn : n ≤ 4) (hV : Vars W) (h : Tm.is 3 p [] = false) :
    Calls Tryd.prog 4 #[str p, .int .i64 k, .int .i64 n] W fun e W' => e = .returned (.bool true) ∧ Below W.heap.size W W' := by
  have C := hid (ris_any 3 p [] W (by omega) (by decide) hV)
  rw [h] at C
  clear hV
  go_enter Tryd.func4, Tryd.ntmps4
  go_wp2_with (go_at_call 11; refine C.out.mono ?_; rintro e w' ⟨rfl, hb⟩)
  go_ret
  exact ⟨rfl, hb⟩
set_option maxHeartbeats 2000000 in
theorem numbers_0 (p : List UInt8) (k : Int) (W : World) (hl : p.length ≤ 30) (hV : Vars W) (h : Tm.is 3 p [] = true) :
    Calls Tryd.prog 4 #[str p, .int .i64 k, .int .i64 0] W fun e W' => e = .returned (.bool true) ∧ Below W.heap.size W W' := by
  have C := hid (ris_any 3 p [] W (by omega) (by decide) hV)
  rw [h] at C
  have HV := hid hV
  have NU := hid (fun w => tnum_any 5 p [104, 116, 116, 112, 58, 47, 47, 119, 119, 119, 46, 119, 51, 46, 111, 114, 103, 47, 50, 48, 48, 49, 47, 88, 77, 76, 83, 99, 104, 101, 109, 97, 35, 100, 111, 117, 98, 108, 101] w (by omega))
  rw [show Tm.num 5 p [104, 116, 116, 112, 58, 47, 47, 119, 119, 119, 46, 119, 51, 46, 111, 114, 103, 47, 50, 48, 48, 49, 47, 88, 77, 76, 83, 99, 104, 101, 109, 97, 35, 100, 111, 117, 98, 108, 101] = Db.parse p by unfold Tm.num; rw [if_pos ⟨rfl, by decide⟩]] at NU
  have NP := hid (fun w => tnum_not 3 p [] w (by decide))
  have RP := hid (fun w => rparse_any p w (by omega))
  have KN := hid (fun w h => known_any w h)
  have SA := hid (fun w => rsame_self _ w (Db.parse_lt p))
  obtain ⟨v, hv⟩ : ∃ v, v = (Db.parse p).getD 0 := ⟨_, rfl⟩
  obtain ⟨o, ho⟩ : ∃ v, v = (Db.parse p).isSome := ⟨_, rfl⟩
  rw [← hv, ← ho] at RP NU
  rw [← hv] at SA
  have e1 : (o == o) = true := by simp
  clear hv ho h hV
  go_enter Tryd.func4, Tryd.ntmps4
  go_wp2_with fail
  refine C.out.mono ?_
  rintro e w1 ⟨rfl, hb⟩
  have HB1 := hid hb
  clear hb C
  go_wp2_with fail
  refine (NU.out _).mono ?_
  rintro e w2 ⟨rfl, hb⟩
  have HB2 := hid (below_then ((HB1.out.alloc HB1.out.size _).alloc (by have := HB1.out.size; simp; omega) _) (hb.mono (Nat.le_refl _)))
  clear hb
  go_wp2_with fail
  refine (RP.out _).mono ?_
  rintro e w3 ⟨rfl, rfl⟩
  go_wp2_with fail
  refine (NP.out _).mono ?_
  rintro e w4 ⟨rfl, hb⟩
  have HB4 := hid (below_then (HB2.out.alloc HB2.out.size _) hb)
  clear hb
  go_wp2_with fail
  refine (SA.out _).mono ?_
  rintro e w5 ⟨rfl, rfl⟩
  go_wp2_with fail
  refine (KN.out _ (HV.out.keep HB4.out)).mono ?_
  rintro e w6 ⟨rfl, hb⟩
  have HB6 := hid (below_then HB4.out hb)
  clear hb
  go_wp2
  go_ret
  exact ⟨rfl, HB6.out⟩
set_option maxHeartbeats 2000000 in
theorem numbers_1 (p : List UInt8) (k : Int) (W : World) (hl : p.length ≤ 30) (hV : Vars W) (h : Tm.is 3 p [] = true) :
    Calls Tryd.prog 4 #[str p, .int .i64 k, .int .i64 1] W fun e W' => e = .returned (.bool true) ∧ Below W.heap.size W W' := by
  have C := hid (ris_any 3 p [] W (by omega) (by decide) hV)
  rw [h] at C
  have HV := hid hV
  have NU := hid (fun w => tnum_any 5 p [104, 116, 116, 112, 58, 47, 47, 119, 119, 119, 46, 119, 51, 46, 111, 114, 103, 47, 50, 48, 48, 49, 47, 88, 77, 76, 83, 99, 104, 101, 109, 97, 35, 100, 101, 99, 105, 109, 97, 108] w (by omega))
  rw [show Tm.num 5 p [104, 116, 116, 112, 58, 47, 47, 119, 119, 119, 46, 119, 51, 46, 111, 114, 103, 47, 50, 48, 48, 49, 47, 88, 77, 76, 83, 99, 104, 101, 109, 97, 35, 100, 101, 99, 105, 109, 97, 108] = Db.parse p by unfold Tm.num; rw [if_pos ⟨rfl, by decide⟩]] at NU
  have NP := hid (fun w => tnum_not 3 p [] w (by decide))
  have RP := hid (fun w => rparse_any p w (by omega))
  have KN := hid (fun w h => known_any w h)
  have SA := hid (fun w => rsame_self _ w (Db.parse_lt p))
  obtain ⟨v, hv⟩ : ∃ v, v = (Db.parse p).getD 0 := ⟨_, rfl⟩
  obtain ⟨o, ho⟩ : ∃ v, v = (Db.parse p).isSome := ⟨_, rfl⟩
  rw [← hv, ← ho] at RP NU
  rw [← hv] at SA
  have e1 : (o == o) = true := by simp
  clear hv ho h hV
  go_enter Tryd.func4, Tryd.ntmps4
  go_wp2_with fail
  refine C.out.mono ?_
  rintro e w1 ⟨rfl, hb⟩
  have HB1 := hid hb
  clear hb C
  go_wp2_with fail
  refine (NU.out _).mono ?_
  rintro e w2 ⟨rfl, hb⟩
  have HB2 := hid (below_then ((HB1.out.alloc HB1.out.size _).alloc (by have := HB1.out.size; simp; omega) _) (hb.mono (Nat.le_refl _)))
  clear hb
  go_wp2_with fail
  refine (RP.out _).mono ?_
  rintro e w3 ⟨rfl, rfl⟩
  go_wp2_with fail
  refine (NP.out _).mono ?_
  rintro e w4 ⟨rfl, hb⟩
  have HB4 := hid (below_then (HB2.out.alloc HB2.out.size _) hb)
  clear hb
  go_wp2_with fail
  refine (SA.out _).mono ?_
  rintro e w5 ⟨rfl, rfl⟩
  go_wp2_with fail
  refine (KN.out _ (HV.out.keep HB4.out)).mono ?_
  rintro e w6 ⟨rfl, hb⟩
  have HB6 := hid (below_then HB4.out hb)
  clear hb
  go_wp2
  go_ret
  exact ⟨rfl, HB6.out⟩
set_option maxHeartbeats 2000000 in
theorem numbers_2 (p : List UInt8) (k : Int) (W : World) (hl : p.length ≤ 30) (hV : Vars W) (h : Tm.is 3 p [] = true) :
    Calls Tryd.prog 4 #[str p, .int .i64 k, .int .i64 2] W fun e W' => e = .returned (.bool true) ∧ Below W.heap.size W W' := by
  have C := hid (ris_any 3 p [] W (by omega) (by decide) hV)
  rw [h] at C
  have HV := hid hV
  have NU := hid (fun w => tnum_any 5 p [104, 116, 116, 112, 58, 47, 47, 119, 119, 119, 46, 119, 51, 46, 111, 114, 103, 47, 50, 48, 48, 49, 47, 88, 77, 76, 83, 99, 104, 101, 109, 97, 35, 105, 110, 116, 101, 103, 101, 114] w (by omega))
  rw [show Tm.num 5 p [104, 116, 116, 112, 58, 47, 47, 119, 119, 119, 46, 119, 51, 46, 111, 114, 103, 47, 50, 48, 48, 49, 47, 88, 77, 76, 83, 99, 104, 101, 109, 97, 35, 105, 110, 116, 101, 103, 101, 114] = Db.parse p by unfold Tm.num; rw [if_pos ⟨rfl, by decide⟩]] at NU
  have NP := hid (fun w => tnum_not 3 p [] w (by decide))
  have RP := hid (fun w => rparse_any p w (by omega))
  have KN := hid (fun w h => known_any w h)
  have SA := hid (fun w => rsame_self _ w (Db.parse_lt p))
  obtain ⟨v, hv⟩ : ∃ v, v = (Db.parse p).getD 0 := ⟨_, rfl⟩
  obtain ⟨o, ho⟩ : ∃ v, v = (Db.parse p).isSome := ⟨_, rfl⟩
  rw [← hv, ← ho] at RP NU
  rw [← hv] at SA
  have e1 : (o == o) = true := by simp
  clear hv ho h hV
  go_enter Tryd.func4, Tryd.ntmps4
  go_wp2_with fail
  refine C.out.mono ?_
  rintro e w1 ⟨rfl, hb⟩
  have HB1 := hid hb
  clear hb C
  go_wp2_with fail
  refine (NU.out _).mono ?_
  rintro e w2 ⟨rfl, hb⟩
  have HB2 := hid (below_then ((HB1.out.alloc HB1.out.size _).alloc (by have := HB1.out.size; simp; omega) _) (hb.mono (Nat.le_refl _)))
  clear hb
  go_wp2_with fail
  refine (RP.out _).mono ?_
  rintro e w3 ⟨rfl, rfl⟩
  go_wp2_with fail
  refine (NP.out _).mono ?_
  rintro e w4 ⟨rfl, hb⟩
  have HB4 := hid (below_then (HB2.out.alloc HB2.out.size _) hb)
  clear hb
  go_wp2_with fail
  refine (SA.out _).mono ?_
  rintro e w5 ⟨rfl, rfl⟩
  go_wp2_with fail
  refine (KN.out _ (HV.out.keep HB4.out)).mono ?_
  rintro e w6 ⟨rfl, hb⟩
  have HB6 := hid (below_then HB4.out hb)
  clear hb
  go_wp2
  go_ret
  exact ⟨rfl, HB6.out⟩
set_option maxHeartbeats 2000000 in
theorem numbers_3 (p : List UInt8) (k : Int) (W : World) (hl : p.length ≤ 30) (hV : Vars W) (h : Tm.is 3 p [] = true) :
    Calls Tryd.prog 4 #[str p, .int .i64 k, .int .i64 3] W fun e W' => e = .returned (.bool true) ∧ Below W.heap.size W W' := by
  have C := hid (ris_any 3 p [] W (by omega) (by decide) hV)
  rw [h] at C
  have HV := hid hV
  have NU := hid (fun w => tnum_any 5 p [104, 116, 116, 112, 58, 47, 47, 119, 119, 119, 46, 119, 51, 46, 111, 114, 103, 47, 50, 48, 48, 49, 47, 88, 77, 76, 83, 99, 104, 101, 109, 97, 35, 115, 116, 114, 105, 110, 103] w (by omega))
  rw [show Tm.num 5 p [104, 116, 116, 112, 58, 47, 47, 119, 119, 119, 46, 119, 51, 46, 111, 114, 103, 47, 50, 48, 48, 49, 47, 88, 77, 76, 83, 99, 104, 101, 109, 97, 35, 115, 116, 114, 105, 110, 103] = none by unfold Tm.num; rw [if_neg (fun h => absurd h.2 (by decide))]] at NU
  have NP := hid (fun w => tnum_not 3 p [] w (by decide))
  have RP := hid (fun w => rparse_any p w (by omega))
  have KN := hid (fun w h => known_any w h)
  obtain ⟨v, hv⟩ : ∃ v, v = (Db.parse p).getD 0 := ⟨_, rfl⟩
  obtain ⟨o, ho⟩ : ∃ v, v = (Db.parse p).isSome := ⟨_, rfl⟩
  rw [← hv, ← ho] at RP
  clear hv ho h hV
  go_enter Tryd.func4, Tryd.ntmps4
  go_wp2_with fail
  refine C.out.mono ?_
  rintro e w1 ⟨rfl, hb⟩
  have HB1 := hid hb
  clear hb C
  go_wp2_with fail
  refine (NU.out _).mono ?_
  rintro e w2 ⟨rfl, hb⟩
  have HB2 := hid (below_then ((HB1.out.alloc HB1.out.size _).alloc (by have := HB1.out.size; simp; omega) _) (hb.mono (Nat.le_refl _)))
  clear hb
  go_wp2_with fail
  refine (RP.out _).mono ?_
  rintro e w3 ⟨rfl, rfl⟩
  go_wp2_with fail
  refine (NP.out _).mono ?_
  rintro e w4 ⟨rfl, hb⟩
  have HB4 := hid (below_then (HB2.out.alloc HB2.out.size _) hb)
  clear hb
  go_wp2_with fail
  refine (KN.out _ (HV.out.keep HB4.out)).mono ?_
  rintro e w6 ⟨rfl, hb⟩
  have HB6 := hid (below_then HB4.out hb)
  clear hb
  go_wp2
  go_ret
  exact ⟨rfl, HB6.out⟩
set_option maxHeartbeats 2000000 in
theorem numbers_4 (p : List UInt8) (k : Int) (W : World) (hl : p.length ≤ 30) (hV : Vars W) (h : Tm.is 3 p [] = true) :
    Calls Tryd.prog 4 #[str p, .int .i64 k, .int .i64 4] W fun e W' => e = .returned (.bool true) ∧ Below W.heap.size W W' := by
  have C := hid (ris_any 3 p [] W (by omega) (by decide) hV)
  rw [h] at C
  have HV := hid hV
  have NU := hid (fun w => tnum_any 5 p [120, 58, 121] w (by omega))
  rw [show Tm.num 5 p [120, 58, 121] = none by unfold Tm.num; rw [if_neg (fun h => absurd h.2 (by decide))]] at NU
  have NP := hid (fun w => tnum_not 3 p [] w (by decide))
  have RP := hid (fun w => rparse_any p w (by omega))
  have KN := hid (fun w h => known_any w h)
  obtain ⟨v, hv⟩ : ∃ v, v = (Db.parse p).getD 0 := ⟨_, rfl⟩
  obtain ⟨o, ho⟩ : ∃ v, v = (Db.parse p).isSome := ⟨_, rfl⟩
  rw [← hv, ← ho] at RP
  clear hv ho h hV
  go_enter Tryd.func4, Tryd.ntmps4
  go_wp2_with fail
  refine C.out.mono ?_
  rintro e w1 ⟨rfl, hb⟩
  have HB1 := hid hb
  clear hb C
  go_wp2_with fail
  refine (NU.out _).mono ?_
  rintro e w2 ⟨rfl, hb⟩
  have HB2 := hid (below_then ((HB1.out.alloc HB1.out.size _).alloc (by have := HB1.out.size; simp; omega) _) (hb.mono (Nat.le_refl _)))
  clear hb
  go_wp2_with fail
  refine (RP.out _).mono ?_
  rintro e w3 ⟨rfl, rfl⟩
  go_wp2_with fail
  refine (NP.out _).mono ?_
  rintro e w4 ⟨rfl, hb⟩
  have HB4 := hid (below_then (HB2.out.alloc HB2.out.size _) hb)
  clear hb
  go_wp2_with fail
  refine (KN.out _ (HV.out.keep HB4.out)).mono ?_
  rintro e w6 ⟨rfl, hb⟩
  have HB6 := hid (below_then HB4.out hb)
  clear hb
  go_wp2
  go_ret
  exact ⟨rfl, HB6.out⟩
theorem termNumbers_any (p : List UInt8) (k n : Int) (W : World) (hl : p.length ≤ 9223372036854775807) (hV : Vars W) :
    Calls Tryd.prog 4 #[str p, .int .i64 k, .int .i64 n] W fun e W' => e = .returned (.bool true) ∧ Below W.heap.size W W' := by
  by_cases h : 30 < p.length ∨ (p.length ≤ 30 ∧ n < 0) ∨ (p.length ≤ 30 ∧ 0 ≤ n ∧ 4 < n)
  · exact numbers_out p k n W hl h
  · cases hi : Tm.is 3 p []
    · obtain ⟨m, rfl⟩ : ∃ m : Nat, n = m := ⟨n.toNat, by omega⟩
      exact numbers_none p k m W (by omega) (by omega) hV hi
    · rcases (show n = 0 ∨ n = 1 ∨ n = 2 ∨ n = 3 ∨ n = 4 by omega) with rfl | rfl | rfl | rfl | rfl
      · exact numbers_0 p k W (by omega) hV hi
      · exact numbers_1 p k W (by omega) hV hi
      · exact numbers_2 p k W (by omega) hV hi
      · exact numbers_3 p k W (by omega) hV hi
      · exact numbers_4 p k W (by omega) hV hi

theorem termNumbers_walk (H : Type) (enc : TypeId × Value → H) (W : World) (base : Nat) (args : Array Value) (ds gs : List (DataW H)) (before : List MemPlace)
    (hval : ∀ (j : Nat) t v, Tryd.f4.params[j]? = some t → args[j]? = some v → Value.okWide Tryd.prog W .any base t v)
    (hW : DataW.Whole enc Tryd.prog Tryd.f4.params.toList Rows.termNumbersSpec.vars false W args.toList ds gs before)
    (hz : (DataW.weightsEach Tryd.prog (Tryd.f4.params.toList ++ Rows.termNumbersSpec.plain.varTypes Tryd.prog) (ds ++ gs)).all (· ≤ reachBytes) = true)
    (hL : laidMetH Tryd.prog Rows.termNumbersRow.laid W) (hsh : W.ShapedOpen Tryd.prog) :
    Calls Tryd.prog 4 args W fun e W' => e = .returned (.bool true) ∧ Below W.heap.size W W' := by
  obtain ⟨p, q, hA, _, _, _, _⟩ := hW
  rw [Tryd.params4] at hA hval
  rw [Tryd.params4] at hz
  obtain ⟨v0, vs0, d0, ds0, p0, q0, hargs, rfl, rfl, h0, r0⟩ := trodAll_cons hA
  obtain ⟨v1, vs1, d1, ds1, p1, q1, rfl, rfl, rfl, h1, r1⟩ := trodAll_cons r0
  obtain ⟨v2, vs2, d2, ds2, p2, q2, rfl, rfl, rfl, h2, r2⟩ := trodAll_cons r1
  obtain ⟨rfl, rfl, rfl⟩ := trodAll_nil r2
  obtain rfl : args = #[v0, v1, v2] := by cases args; simp_all
  obtain ⟨x0, rfl, rfl, rfl, w0⟩ := Go.ChangeMaps.open_string Tryd.underlying9 (hval 0 9 v0 rfl rfl) h0
  obtain ⟨x1, rfl, rfl, rfl, w1⟩ := open_int Tryd.underlying3 (hval 1 3 v1 rfl rfl) h1
  have b1 := bounds_i64 w1
  obtain ⟨x2, rfl, rfl, rfl, w2⟩ := open_int Tryd.underlying3 (hval 2 3 v2 rfl rfl) h2
  have b2 := bounds_i64 w2
  rw [str_of x0]
  exact termNumbers_any x0.data.toList x1 x2 W (by rw [show x0.data.toList.length = x0.size from Array.length_toList]; unfold maxLen at w0; omega) (vars_of hL hsh)

theorem termNumbers_lifted (os : Os) (started : os.Started) (H : Type) (enc : TypeId × Value → H) (F : Stop.Interp) :
    ReturnsInHanded {} Tryd.checked os 4 .any ((OpenSpec.ofChange Rows.termNumbersSpec).preRow enc Tryd.prog Tryd.f4 Rows.termNumbersRow.domain false Rows.termNumbersRow.laid) (((OpenSpec.ofChange Rows.termNumbersSpec).at F).post enc Tryd.prog Tryd.f4 false true false false) := by
  obtain ⟨places, hx⟩ : ∃ places, DataW.whole enc Tryd.prog ((laidWorld os).forCall (fun _ _ => 0) ⟨#[], #[.string ByteArray.empty, .int .i64 0, .int .i64 0], []⟩).memory Tryd.f4.params.toList Rows.termNumbersSpec.vars false (#[.string ByteArray.empty, .int .i64 0, .int .i64 0] : Array Value).toList 8 = some ([.lit (.string []), .lit (.int .i64 0), .lit (.int .i64 0)], [], places) := ⟨[], by kernel_rfl⟩
  refine returnsInHanded_of_row (C := Tryd.checked) (s := OpenSpec.ofChange Rows.termNumbersSpec) own started (by kernel_rfl) Tryd.func4
    (witness_row_at (enc := enc) (C := Tryd.checked) false (laidWorld os) #[.string ByteArray.empty, .int .i64 0, .int .i64 0] rfl (by kernel_rfl) (by kernel_rfl) (by kernel_rfl)
      (OpenSpec.preRow_of_cond 8 hx (by kernel_rfl) (fun k hk => by cases hk) (by kernel_rfl) (laidMet_of_run' 8 (by kernel_rfl) (by kernel_rfl)))) ?_
  intro W base args ds gs before hval hW _ _ hz hL hsh _
  refine (termNumbers_walk H enc W base args ds gs before hval hW hz hL hsh).mono fun e W' ⟨he, hb⟩ => ⟨_, he, ?_⟩
  exact law_post (fn := Tryd.f4) (s := Rows.termNumbersSpec) (tb := 4) rfl (fun ds hd => by match ds, hd with | [d0, d1, d2], _ => rfl) rfl Tryd.underlying4 (by kernel_rfl) hW hb

theorem termNumbers_said : Rows.TermNumbersSaid :=
  OpenClaim.holds_of_cond 4 Tryd.f4 rfl rfl rfl rfl rfl rfl rfl ⟨rfl, rfl, rfl, rfl, rfl⟩ rfl rfl rfl rfl rfl (by kernel_rfl) Tryd.func4 (by kernel_rfl)
    (of_decide_eq_true (by kernel_rfl)) (by unfold Func.isWrapper; first | (rw [if_pos (by decide +kernel)]; kernel_rfl) | (rw [if_neg (by decide +kernel)]; exact ⟨rfl, rfl⟩))
    (fun os started H enc _ F => by rw [OpenClaim.pre_eq_preRow]; exact termNumbers_lifted os started H enc F)

theorem termNumbers_plain (f : FuncId) (fn : Func) (hf : Tryd.pinned.checked.prog.funcNamed Rows.termNumbersRow.func = some f) (hfn : Tryd.pinned.checked.prog.funcs[f]? = some fn) :
    false = Tryd.pinned.checked.prog.looks [] ∧ ∀ (j : Nat) t, fn.params[j]? = some t → Tryd.pinned.checked.prog.wantsStandIn t = false := by
  obtain rfl : f = 4 := Option.some.inj ((show Tryd.prog.funcNamed Rows.termNumbersRow.func = some 4 by kernel_rfl).symm.trans hf) |>.symm
  obtain rfl : fn = Tryd.f4 := (Option.some.inj (Tryd.func4.symm.trans hfn)).symm
  refine ⟨by kernel_rfl, fun j t ht => ?_⟩
  have h := Array.mem_of_getElem? ht
  have hall : Tryd.f4.params.all (fun t => !Tryd.prog.wantsStandIn t) = true := by kernel_rfl
  have := Array.all_eq_true_iff_forall_mem.1 hall t h
  show Tryd.prog.wantsStandIn t = false
  simpa using this

/-- THE STATEMENT. -/
theorem termNumbers_card : Rows.TermNumbersCardSaid :=
  Claim7.holds_tied_plain_at .later [] _ _ _ _ termNumbers_said (fun _ h => by cases h) (by kernel_rfl) (fun _ h => by cases h) termNumbers_row_tie rfl ⟨rfl, rfl⟩ (by kernel_rfl) rfl termNumbers_plain (by kernel_rfl)
end Go.Proofs.YtmooppakneoidaaDoor
