/- PackWidths: a number fits just from its width on: for every input. -/
import Derived.Test.YtjfbgfbmfknndaaPackLaw
namespace Go.Proofs.Ytjfbgfbmfknndaa
set_option linter.unusedVariables false
set_option linter.unusedSimpArgs false
set_option maxRecDepth 100000
open Go.ChangeShapes Go.WideShapes Go.ChangeAt Go.RowKit

theorem packWidths_out (n w : Int) (W : World) (h : w < -1 ∨ (-1 ≤ w ∧ 22 < w)) :
    Calls Try.prog 6 #[.int .i64 n, .int .i64 w] W fun e W' => e = .returned (.bool true) ∧ Below W.heap.size W W' := by
  rcases h with h | ⟨h0, h⟩
  all_goals
    go_enter Try.func6, Try.ntmps6
    go_wp2
    go_ret
    exact ⟨rfl, Below.refl _ _⟩
theorem one_at {w : World} {n : Int} {v : Value} {b : Nat} (hb : w.heap.size = b) (hv : v = .slice (some ⟨b, 0, none⟩) 1 1) : NumsAt (w.alloc (.cells #[.int .i64 n] 3)) v [n] := by
  subst hb
  refine ⟨_, _, hv, Or.inr ⟨_, _, rfl, fun i hi => ?_⟩⟩
  obtain rfl : i = 0 := by simp at hi; omega
  rw [Nat.zero_add, World.cell?_alloc_at _ _ _ _ rfl]
  rfl
theorem one_le {n : Int} (h : n ≤ 9223372036854775807) (i : Nat) (hi : i < [n].length) : [n].getD i 0 ≤ 9223372036854775807 := by
  obtain rfl : i = 0 := by simpa using hi
  simpa [List.getD] using h
theorem may_one (n w : Int) : Pm.May [n] w ↔ 0 ≤ w ∧ w ≤ 20 ∧ 0 ≤ n ∧ (Bn.width n.toNat : Int) ≤ w := by
  unfold Pm.May
  constructor
  · rintro ⟨a, b, _, c⟩
    have := c 0 (by simp)
    simp [List.getD] at this
    have h := (Bn.width_le n.toNat w.toNat).2 this.2
    exact ⟨a, b, this.1, by omega⟩
  · rintro ⟨a, b, c, d⟩
    refine ⟨a, b, by simp, fun i hi => ?_⟩
    obtain rfl : i = 0 := by simp at hi; omega
    have h := (Bn.width_le n.toNat w.toNat).1 (by omega)
    simpa [List.getD] using ⟨c, h⟩
theorem width_top (n : Nat) (h : 0 < n) : ∃ d, Bn.width n = d + 1 ∧ n / 2 ^ (d + 1) = 0 ∧ n / 2 ^ d = 1 := by
  have h1 := Bn.width_le n (Bn.width n)
  have h2 := Bn.width_le n (Bn.width n - 1)
  have h0 : Bn.width n ≠ 0 := by
    intro h0
    have := (Bn.width_le n 0).1 (by omega)
    simp at this; omega
  refine ⟨Bn.width n - 1, by omega, ?_, ?_⟩
  · rw [show Bn.width n - 1 + 1 = Bn.width n by omega]
    exact Nat.div_eq_of_lt (h1.1 (Nat.le_refl _))
  · have h3 : 2 ^ (Bn.width n - 1) ≤ n := by
      rcases Nat.lt_or_ge n (2 ^ (Bn.width n - 1)) with h | h
      · have := h2.2 h; omega
      · exact h
    have h4 := h1.1 (Nat.le_refl _)
    rw [show Bn.width n = Bn.width n - 1 + 1 by omega, Nat.pow_succ] at h4
    have h5 : 0 < 2 ^ (Bn.width n - 1) := Nat.two_pow_pos _
    refine Nat.div_eq_of_lt_le (by omega) (by omega)

set_option maxHeartbeats 1000000 in
theorem packWidths_pos (n : Nat) (w : Int) (W : World) (h0 : 0 < n) (hmax : n ≤ 9223372036854775807) (h1 : -1 ≤ w) (h2 : w ≤ 22) :
    Calls Try.prog 6 #[.int .i64 n, .int .i64 w] W fun e W' => e = .returned (.bool true) ∧ Below W.heap.size W W' := by
  have KN := hid (fun W' => known_any W')
  have hmaxI : (n : Int) ≤ 9223372036854775807 := by omega
  have SP := hid (fun W' v (h : NumsAt W' v [(n : Int)]) => pack_all v W' [(n : Int)] w (one_le hmaxI) h)
  have HO := hid (one_at (w := W) (n := (n : Int)) rfl rfl)
  have WD := hid (fun W' => width_any n W' (by omega))
  obtain ⟨d, hd, e1, e2⟩ := width_top n h0
  have hd63 : d < 63 := by
    have := (Bn.width_le n 63).2 (by omega)
    omega
  have hmay := may_one n w
  rw [Int.toNat_natCast, hd] at hmay
  rw [Int.toNat_natCast, hd] at WD
  have d1 : (n : Int) / 2 ^ (d + 1) = 0 := by rw [Bn.natCast_shr, e1]; rfl
  have d2 : (n : Int) / 2 ^ d = 1 := by rw [Bn.natCast_shr, e2]; rfl
  have hc : (0 ≤ w ∧ w ≤ 20 ∧ (d : Int) + 1 ≤ w) ∨ w < 0 ∨ (0 ≤ w ∧ 20 < w) ∨ (0 ≤ w ∧ w ≤ 20 ∧ w < (d : Int) + 1) := by omega
  have hb0 : ((d : Int) + 1 == 0) = false := beq_eq_false_iff_ne.2 (by omega)
  rcases hc with ⟨a1, a2, a3⟩ | a1 | ⟨a1, a2⟩ | ⟨a1, a2, a3⟩
  · have hp := (pk_yes (hmay.2 ⟨a1, a2, by omega, by omega⟩)).1
    rw [hp] at SP
    clear hp hmay hd e1 e2
    go_enter Try.func6, Try.ntmps6
    go_wp2_with fail
    refine (SP.out _ _ HO.out).mono ?_
    rintro e w1 ⟨p1, rfl, hb1, B1⟩
    have HB1 := hid (((Below.refl _ _).alloc (Nat.le_refl _) _).trans (hb1.mono (by simp)))
    clear SP HO hb1 B1
    go_wp2_with (first
      | (go_at_call 15; refine (WD.out _).mono ?_; rintro e w' ⟨rfl, rfl⟩)
      | (go_at_call 17; refine (KN.out _).mono ?_; rintro e w' ⟨rfl, hb⟩; have HB8 := hid (below_then HB1.out hb); clear hb))
    go_ret
    exact ⟨rfl, HB8.out⟩
  · have hp := (pk_no (fun h => by have := hmay.1 h; omega)).1
    rw [hp] at SP
    clear hp hmay hd e1 e2
    go_enter Try.func6, Try.ntmps6
    go_wp2_with fail
    refine (SP.out _ _ HO.out).mono ?_
    rintro e w1 ⟨p1, rfl, hb1, B1⟩
    have HB1 := hid (((Below.refl _ _).alloc (Nat.le_refl _) _).trans (hb1.mono (by simp)))
    clear SP HO hb1 B1
    go_wp2_with (first
      | (go_at_call 15; refine (WD.out _).mono ?_; rintro e w' ⟨rfl, rfl⟩)
      | (go_at_call 17; refine (KN.out _).mono ?_; rintro e w' ⟨rfl, hb⟩; have HB8 := hid (below_then HB1.out hb); clear hb))
    go_ret
    exact ⟨rfl, HB8.out⟩
  · have hp := (pk_no (fun h => by have := hmay.1 h; omega)).1
    rw [hp] at SP
    clear hp hmay hd e1 e2
    go_enter Try.func6, Try.ntmps6
    go_wp2_with fail
    refine (SP.out _ _ HO.out).mono ?_
    rintro e w1 ⟨p1, rfl, hb1, B1⟩
    have HB1 := hid (((Below.refl _ _).alloc (Nat.le_refl _) _).trans (hb1.mono (by simp)))
    clear SP HO hb1 B1
    go_wp2_with (first
      | (go_at_call 15; refine (WD.out _).mono ?_; rintro e w' ⟨rfl, rfl⟩)
      | (go_at_call 17; refine (KN.out _).mono ?_; rintro e w' ⟨rfl, hb⟩; have HB8 := hid (below_then HB1.out hb); clear hb))
    go_ret
    exact ⟨rfl, HB8.out⟩
  · have hp := (pk_no (fun h => by have := hmay.1 h; omega)).1
    rw [hp] at SP
    have hd4 : decide ((d : Int) + 1 ≤ w) = false := by rw [decide_eq_false_iff_not]; omega
    clear hp hmay hd e1 e2
    go_enter Try.func6, Try.ntmps6
    go_wp2_with fail
    refine (SP.out _ _ HO.out).mono ?_
    rintro e w1 ⟨p1, rfl, hb1, B1⟩
    have HB1 := hid (((Below.refl _ _).alloc (Nat.le_refl _) _).trans (hb1.mono (by simp)))
    clear SP HO hb1 B1
    go_wp2_with (first
      | (go_at_call 15; refine (WD.out _).mono ?_; rintro e w' ⟨rfl, rfl⟩)
      | (go_at_call 17; refine (KN.out _).mono ?_; rintro e w' ⟨rfl, hb⟩; have HB8 := hid (below_then HB1.out hb); clear hb))
    go_ret
    exact ⟨rfl, HB8.out⟩
set_option maxHeartbeats 1000000 in
theorem packWidths_neg (n : Int) (w : Int) (W : World) (h0 : n ≤ 0) (h1 : -1 ≤ w) (h2 : w ≤ 22) :
    Calls Try.prog 6 #[.int .i64 n, .int .i64 w] W fun e W' => e = .returned (.bool true) ∧ Below W.heap.size W W' := by
  have KN := hid (fun W' => known_any W')
  have SP := hid (fun W' v (h : NumsAt W' v [n]) => pack_all v W' [n] w (one_le (by omega)) h)
  have HO := hid (one_at (w := W) (n := n) rfl rfl)
  have WD := hid (fun W' => width_any n W' (by omega))
  have hmay := may_one n w
  rw [width_low n h0] at hmay WD
  have hc : (0 ≤ n ∧ 0 ≤ w ∧ w ≤ 20) ∨ n < 0 ∨ (0 ≤ n ∧ w < 0) ∨ (0 ≤ n ∧ 0 ≤ w ∧ 20 < w) := by omega
  rcases hc with ⟨a0, a1, a2⟩ | a0 | ⟨a0, a1⟩ | ⟨a0, a1, a2⟩
  · obtain rfl : n = 0 := by omega
    have hp := (pk_yes (hmay.2 ⟨a1, a2, by omega, by omega⟩)).1
    rw [hp] at SP
    clear hp hmay
    go_enter Try.func6, Try.ntmps6
    go_wp2_with fail
    refine (SP.out _ _ HO.out).mono ?_
    rintro e w1 ⟨p1, rfl, hb1, B1⟩
    have HB1 := hid (((Below.refl _ _).alloc (Nat.le_refl _) _).trans (hb1.mono (by simp)))
    clear SP HO hb1 B1
    go_wp2_with (first
      | (go_at_call 15; refine (WD.out _).mono ?_; rintro e w' ⟨rfl, rfl⟩)
      | (go_at_call 17; refine (KN.out _).mono ?_; rintro e w' ⟨rfl, hb⟩; have HB8 := hid (below_then HB1.out hb); clear hb))
    go_ret
    exact ⟨rfl, HB8.out⟩
  · have hp := (pk_no (fun h => by have := hmay.1 h; omega)).1
    rw [hp] at SP
    clear hp hmay
    go_enter Try.func6, Try.ntmps6
    go_wp2_with fail
    refine (SP.out _ _ HO.out).mono ?_
    rintro e w1 ⟨p1, rfl, hb1, B1⟩
    have HB1 := hid (((Below.refl _ _).alloc (Nat.le_refl _) _).trans (hb1.mono (by simp)))
    clear SP HO hb1 B1
    go_wp2_with (first
      | (go_at_call 15; refine (WD.out _).mono ?_; rintro e w' ⟨rfl, rfl⟩)
      | (go_at_call 17; refine (KN.out _).mono ?_; rintro e w' ⟨rfl, hb⟩; have HB8 := hid (below_then HB1.out hb); clear hb))
    go_ret
    exact ⟨rfl, HB8.out⟩
  · have hp := (pk_no (fun h => by have := hmay.1 h; omega)).1
    rw [hp] at SP
    obtain rfl : n = 0 := by omega
    clear hp hmay
    go_enter Try.func6, Try.ntmps6
    go_wp2_with fail
    refine (SP.out _ _ HO.out).mono ?_
    rintro e w1 ⟨p1, rfl, hb1, B1⟩
    have HB1 := hid (((Below.refl _ _).alloc (Nat.le_refl _) _).trans (hb1.mono (by simp)))
    clear SP HO hb1 B1
    go_wp2_with (first
      | (go_at_call 15; refine (WD.out _).mono ?_; rintro e w' ⟨rfl, rfl⟩)
      | (go_at_call 17; refine (KN.out _).mono ?_; rintro e w' ⟨rfl, hb⟩; have HB8 := hid (below_then HB1.out hb); clear hb))
    go_ret
    exact ⟨rfl, HB8.out⟩
  · have hp := (pk_no (fun h => by have := hmay.1 h; omega)).1
    rw [hp] at SP
    obtain rfl : n = 0 := by omega
    clear hp hmay
    go_enter Try.func6, Try.ntmps6
    go_wp2_with fail
    refine (SP.out _ _ HO.out).mono ?_
    rintro e w1 ⟨p1, rfl, hb1, B1⟩
    have HB1 := hid (((Below.refl _ _).alloc (Nat.le_refl _) _).trans (hb1.mono (by simp)))
    clear SP HO hb1 B1
    go_wp2_with (first
      | (go_at_call 15; refine (WD.out _).mono ?_; rintro e w' ⟨rfl, rfl⟩)
      | (go_at_call 17; refine (KN.out _).mono ?_; rintro e w' ⟨rfl, hb⟩; have HB8 := hid (below_then HB1.out hb); clear hb))
    go_ret
    exact ⟨rfl, HB8.out⟩

theorem packWidths_walk (H : Type) (enc : TypeId × Value → H) (W : World) (base : Nat) (args : Array Value) (ds gs : List (DataW H)) (before : List MemPlace)
    (hval : ∀ (j : Nat) t v, Try.f6.params[j]? = some t → args[j]? = some v → Value.okWide Try.prog W .any base t v)
    (hW : DataW.Whole enc Try.prog Try.f6.params.toList Rows.packWidthsSpec.vars false W args.toList ds gs before)
    (hz : (DataW.weightsEach Try.prog (Try.f6.params.toList ++ Rows.packWidthsSpec.plain.varTypes Try.prog) (ds ++ gs)).all (· ≤ reachBytes) = true)
    (hL : laidMetH Try.prog Rows.packWidthsRow.laid W) (hsh : W.ShapedOpen Try.prog) :
    Calls Try.prog 6 args W fun e W' => e = .returned (.bool true) ∧ Below W.heap.size W W' := by
  obtain ⟨p, q, hA, _, _, _, _⟩ := hW
  rw [Try.params6] at hA hval
  obtain ⟨v0, vs0, d0, ds0, p0, q0, hargs, rfl, rfl, h0, r0⟩ := trodAll_cons hA
  obtain ⟨v1, vs1, d1, ds1, p1, q1, rfl, rfl, rfl, h1, r1⟩ := trodAll_cons r0
  obtain ⟨rfl, rfl, rfl⟩ := trodAll_nil r1
  obtain rfl : args = #[v0, v1] := by cases args; simp_all
  obtain ⟨x0, rfl, rfl, rfl, w0⟩ := open_int Try.underlying3 (hval 0 3 v0 rfl rfl) h0
  obtain ⟨x1, rfl, rfl, rfl, w1⟩ := open_int Try.underlying3 (hval 1 3 v1 rfl rfl) h1
  by_cases hb : x1 < -1 ∨ (-1 ≤ x1 ∧ 22 < x1)
  · exact packWidths_out x0 x1 W hb
  · have hw := bounds_i64 w0
    by_cases hp : 0 < x0
    · obtain ⟨n, rfl⟩ : ∃ n : Nat, x0 = n := ⟨x0.toNat, by omega⟩
      exact packWidths_pos n x1 W (by omega) (by omega) (by omega) (by omega)
    · exact packWidths_neg x0 x1 W (by omega) (by omega) (by omega)

theorem packWidths_lifted (os : Os) (started : os.Started) (H : Type) (enc : TypeId × Value → H) (F : Stop.Interp) :
    ReturnsInHanded {} Try.checked os 6 .any ((OpenSpec.ofChange Rows.packWidthsSpec).preRow enc Try.prog Try.f6 Rows.packWidthsRow.domain false Rows.packWidthsRow.laid) (((OpenSpec.ofChange Rows.packWidthsSpec).at F).post enc Try.prog Try.f6 false true false false) := by
  obtain ⟨places, hx⟩ : ∃ places, DataW.whole enc Try.prog ((World.holding Try.prog os ⟨#[], #[], []⟩).forCall (fun _ _ => 0) ⟨#[], #[.int .i64 0, .int .i64 0], []⟩).memory Try.f6.params.toList Rows.packWidthsSpec.vars false (#[.int .i64 0, .int .i64 0] : Array Value).toList 8 = some ([.lit (.int .i64 0), .lit (.int .i64 0)], [], places) := ⟨[], by kernel_rfl⟩
  refine returnsInHanded_of_row (C := Try.checked) (s := OpenSpec.ofChange Rows.packWidthsSpec) own started (by kernel_rfl) Try.func6
    (witness_row_at (enc := enc) (C := Try.checked) false (World.holding Try.prog os ⟨#[], #[], []⟩) #[.int .i64 0, .int .i64 0] rfl (by kernel_rfl) (by kernel_rfl) (by kernel_rfl)
      (OpenSpec.preRow_of_cond 8 hx (by kernel_rfl) (fun k hk => by cases hk) (by kernel_rfl) (laidMet_nil _ _))) ?_
  intro W base args ds gs before hval hW _ _ hz hL hsh _
  refine (packWidths_walk H enc W base args ds gs before hval hW hz hL hsh).mono fun e W' ⟨he, hb⟩ => ⟨_, he, ?_⟩
  exact law_post (fn := Try.f6) (s := Rows.packWidthsSpec) (tb := 4) rfl (fun ds hd => by match ds, hd with | [d0, d1], _ => rfl) rfl Try.underlying4 (by kernel_rfl) hW hb

theorem packWidths_said : Rows.PackWidthsSaid :=
  OpenClaim.holds_of_cond 6 Try.f6 rfl rfl rfl rfl rfl rfl rfl ⟨rfl, rfl, rfl, rfl, rfl⟩ rfl rfl rfl rfl rfl (by kernel_rfl) Try.func6 (by kernel_rfl)
    (of_decide_eq_true (by kernel_rfl)) (by unfold Func.isWrapper; first | (rw [if_pos (by decide +kernel)]; kernel_rfl) | (rw [if_neg (by decide +kernel)]; exact ⟨rfl, rfl⟩))
    (fun os started H enc _ F => by rw [OpenClaim.pre_eq_preRow]; exact packWidths_lifted os started H enc F)
end Go.Proofs.Ytjfbgfbmfknndaa
