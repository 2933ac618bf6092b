/- FrontLess: without its last text a dictionary has all the others, by the same numbers, for every input. -/
import Derived.Test.YtdahfejecbcakaaFrLaw
namespace Go.Proofs.Ytdahfejecbcakaa
set_option linter.unusedVariables false
set_option linter.unusedSimpArgs false
set_option maxRecDepth 100000
open Go.ChangeShapes Go.WideShapes Go.ChangeAt Go.RowKit

theorem Fr.at_take (L : List (List UInt8)) {k i : Nat} (h : i < k) : Fr.at_ (L.take k) i = Fr.at_ L i := by
  unfold Fr.at_
  simp [List.getD, List.getElem?_take, h]
theorem Fr.May.take {L : List (List UInt8)} (h : Fr.May L) (k : Nat) : Fr.May (L.take k) := by
  refine ⟨by rw [List.length_take]; have := h.1; omega, fun i hi => ?_⟩
  rw [List.length_take] at hi
  obtain ⟨h1, h2, h3⟩ := h.2 i (by omega)
  unfold Fr.OkAt
  rw [Fr.at_take L (show i < k by omega)]
  refine ⟨h1, h2, fun h0 => ?_⟩
  rw [Fr.at_take L (show i - 1 < k by omega)]
  exact h3 h0
theorem Fr.loc_at {L : List (List UInt8)} (h : Fr.May L) {i : Nat} (hi : i < L.length) : Fr.loc L (Fr.at_ L i) = i + 1 :=
  Fr.loc_first hi rfl (fun j hj e => by have := h.inj (by omega) hi e; omega)
theorem Fr.loc_no {L : List (List UInt8)} (h : Fr.May L) {k i : Nat} (hi : i < L.length) (hk : k ≤ i) : Fr.loc (L.take k) (Fr.at_ L i) = 0 :=
  Fr.loc_none (fun j hj e => by
    rw [List.length_take] at hj
    rw [Fr.at_take L (show j < k by omega)] at e
    have := h.inj (by omega) hi e
    omega)
theorem less_out (v : Value) (L : List (List UInt8)) (W : World) (hT : TextsAt W v L) (hl : ∀ i, (L.getD i []).length ≤ 140737488351232) (hn : L.length ≤ 9223372036854775806)
    (h : 20000 < Fr.lsum L L.length ∨ (Fr.lsum L L.length ≤ 20000 ∧ ¬ Fr.May L) ∨ (Fr.lsum L L.length ≤ 20000 ∧ Fr.May L ∧ L.length = 0)) :
    Calls Try.prog 10 #[v] W fun e W' => e = .returned (.bool true) ∧ Below W.heap.size W W' := by
  have LG := hid (long_any v L W hT hl hn)
  have RM := hid (rmay_any v L W hT hl hn)
  rcases h with h | ⟨h1, h⟩ | ⟨h1, h2, h⟩
  · rw [decide_eq_true h] at LG
    clear h RM
    go_enter Try.func10, Try.ntmps10
    go_wp2_with (go_at_call 12; refine LG.out.mono ?_; rintro e w' ⟨rfl, rfl⟩)
    go_ret
    exact ⟨rfl, Below.refl _ _⟩
  · rw [decide_eq_false (by omega)] at LG
    rw [decide_eq_false h] at RM
    clear h1 h
    go_enter Try.func10, Try.ntmps10
    go_wp2_with (first
      | (go_at_call 12; refine LG.out.mono ?_; rintro e w' ⟨rfl, rfl⟩)
      | (go_at_call 14; refine RM.out.mono ?_; rintro e w' ⟨rfl, q, rfl⟩))
    go_ret
    exact ⟨rfl, below_drawn (Below.refl _ _) _⟩
  · rw [decide_eq_false (by omega)] at LG
    rw [decide_eq_true h2] at RM
    obtain ⟨a, cap, rfl, _, _, _, _⟩ := hT.open
    rw [h] at LG RM ⊢
    clear h1 h2 h hT
    go_enter Try.func10, Try.ntmps10
    go_wp2_with (first
      | (go_at_call 12; refine LG.out.mono ?_; rintro e w' ⟨rfl, rfl⟩)
      | (go_at_call 14; refine RM.out.mono ?_; rintro e w' ⟨rfl, q, rfl⟩))
    go_ret
    exact ⟨rfl, below_drawn (Below.refl _ _) _⟩
set_option maxHeartbeats 1000000 in
theorem less_in (v : Value) (L : List (List UInt8)) (W : World) (hT : TextsAt W v L) (hl : ∀ i, (L.getD i []).length ≤ 140737488351232) (hn : L.length ≤ 9223372036854775806)
    (h1 : Fr.lsum L L.length ≤ 20000) (hm : Fr.May L) (h0 : 1 ≤ L.length) :
    Calls Try.prog 10 #[v] W fun e W' => e = .returned (.bool true) ∧ Below W.heap.size W W' := by
  have LG := hid (long_any v L W hT hl hn)
  rw [decide_eq_false (by omega)] at LG
  have RM := hid (rmay_any v L W hT hl hn)
  rw [decide_eq_true hm] at RM
  have hm2 := hm.take (L.length - 1)
  obtain ⟨a, cap, rfl, hc1, hc2, hc3, hR⟩ := hT.open
  have hT2 := hT.front (L.length - 1) (by omega)
  have NW1 := hid (fun w h => new_ok (.slice a L.length cap) L w h hm)
  have NW2 := hid (fun w h => new_ok (.slice a (L.length - 1) cap) (L.take (L.length - 1)) w h hm2)
  have hlt : (L.take (L.length - 1)).length = L.length - 1 := by rw [List.length_take]; omega
  have KN := hid (fun W => known_any W)
  have HT := hid hT
  have HT2 := hid hT2
  have HR := hid hR
  have EX1 := hid (fun p w h id hid => ext_any p L id w h hid)
  have EX2 := hid (fun p w h id hid => ext_any p (L.take (L.length - 1)) id w h hid)
  have LC1 := hid (fun p w t h => loc_any p L t w h hm)
  have LC2 := hid (fun p w t h => loc_any p (L.take (L.length - 1)) t w h hm2)
  have EE := hid (fun (i : Nat) (hi1 : 1 ≤ i) (hi2 : i < L.length) => show Fr.ext L (i : Int) = Fr.at_ L (i - 1) by unfold Fr.ext; rw [if_neg (by omega), Int.toNat_natCast])
  have EF := hid (fun (i : Nat) (hi1 : 1 ≤ i) (hi2 : i < L.length) => show Fr.ext (L.take (L.length - 1)) (i : Int) = Fr.at_ L (i - 1) by unfold Fr.ext; rw [if_neg (by rw [hlt]; omega), Int.toNat_natCast, Fr.at_take L (by omega)])
  have EL := hid (fun (i : Nat) (hi1 : 1 ≤ i) (hi2 : i < L.length) => show Fr.loc (L.take (L.length - 1)) (Fr.at_ L (i - 1)) = i by
    have := Fr.loc_at hm2 (i := i - 1) (by rw [hlt]; omega)
    rw [Fr.at_take L (by omega)] at this
    rw [this]; omega)
  have EZ := hid (Fr.loc_no hm (k := L.length - 1) (i := L.length - 1) (by omega) (Nat.le_refl _))
  have EY := hid (Fr.loc_at hm (i := L.length - 1) (by omega))
  have h300 := hm.1
  obtain ⟨n, hnn⟩ : ∃ n, n = L.length := ⟨_, rfl⟩
  rw [← hnn] at LG RM NW1 NW2 EX2 LC2 EE EF EL EZ EY HT HT2 HR h300 h0 hc1 ⊢
  clear hm hm2 hT hT2 hR hc3 h1 hl hn hnn hlt
  go_enter Try.func10, Try.ntmps10
  go_wp2_with (first
    | (go_at_call 12; refine LG.out.mono ?_; rintro e w' ⟨rfl, rfl⟩)
    | (go_at_call 14; refine RM.out.mono ?_; rintro e w' ⟨rfl, q, rfl⟩))
  refine (NW1.out _ (HT.out.keep (below_drawn (Below.refl _ _) q))).mono ?_
  rintro e w1 ⟨p, rfl, hb1, hD, hp, _⟩
  have HD1 := hid hD
  have HB1 := hid (below_then (below_drawn (Below.refl W.heap.size W) q) hb1)
  clear hD hp hb1
  go_wp2_with fail
  refine (NW2.out _ (HT2.out.keep HB1.out)).mono ?_
  rintro e w2 ⟨p2, rfl, hb2, hD2, _, _⟩
  have HD2 := hid hD2
  have HD1' := hid (HD1.out.keep hb2)
  have HB2 := hid (below_then HB1.out hb2)
  clear hD2 hb2 NW1 NW2 HD1
  go_wp2_with fail
  go_loop [7] (fun s7 => ∃ i : Nat, 1 ≤ i ∧ i ≤ n ∧ s7 = .int .i64 i) (fun s7 => n - (intOf s7).toNat)
  case atStart => exact ⟨1, by omega, by omega, rfl⟩
  case round =>
    obtain ⟨i, hi1, hin, rfl⟩ := hrel
    by_cases hlt : i < n
    · have E1 := EX1.out p w2 HD1'.out (i : Int) (by omega)
      have E2 := EX2.out p2 w2 HD2.out (i : Int) (by omega)
      rw [EE.out i hi1 hlt] at E1
      rw [EF.out i hi1 hlt] at E2
      have E3 := LC2.out p2 w2 (Fr.at_ L (i - 1)) HD2.out
      rw [EL.out i hi1 hlt] at E3
      obtain ⟨x, hx⟩ : ∃ x, x = Fr.at_ L (i - 1) := ⟨_, rfl⟩
      rw [← hx] at E1 E2 E3
      have E1 := hid E1
      have E2 := hid E2
      have E3 := hid E3
      have hxx : (x == x) = true := by simp
      clear hx
      go_wp2_with fail
      refine E1.out.mono ?_
      rintro e w' ⟨rfl, rfl⟩
      go_wp2_with fail
      refine E2.out.mono ?_
      rintro e w' ⟨rfl, rfl⟩
      go_wp2_with fail
      refine E1.out.mono ?_
      rintro e w' ⟨rfl, rfl⟩
      go_wp2_with fail
      refine E3.out.mono ?_
      rintro e w' ⟨rfl, rfl⟩
      go_wp2
      go_round
      case rel => exact ⟨i + 1, by omega, by omega, by go_num⟩
      case measure => simp [intOf]; omega
    · obtain rfl : i = n := by omega
      obtain ⟨b, off, rfl, hc⟩ := HR.out.get (show i - 1 < i by omega)
      have c0 := below_keep HB2.out (hc (i - 1) (by omega))
      have E4 := LC2.out p2 w2 (Fr.at_ L (i - 1)) HD2.out
      have E5 := LC1.out p w2 (Fr.at_ L (i - 1)) HD1'.out
      rw [EZ.out] at E4
      rw [EY.out] at E5
      unfold Fr.at_ at E4 E5
      obtain ⟨x, hx⟩ : ∃ x, x = L.getD (i - 1) [] := ⟨_, rfl⟩
      rw [← hx] at E4 E5 c0
      have E4 := hid E4
      have E5 := hid E5
      have hii : ((i - 1 : Nat) : Int) + 1 = (i : Int) := by omega
      clear hx hc
      go_wp2_with fail
      refine E4.out.mono ?_
      rintro e w' ⟨rfl, rfl⟩
      go_wp2_with fail
      refine E5.out.mono ?_
      rintro e w' ⟨rfl, rfl⟩
      go_wp2_with fail
      refine (KN.out _).mono ?_
      rintro e w' ⟨rfl, hk⟩
      have HB := hid (below_then HB2.out hk)
      go_wp2
      go_ret
      exact ⟨rfl, HB.out⟩
theorem frontLess_any (v : Value) (L : List (List UInt8)) (W : World) (hT : TextsAt W v L) (hl : ∀ i, (L.getD i []).length ≤ 140737488351232) (hn : L.length * 16 ≤ 140737488351232) :
    Calls Try.prog 10 #[v] W fun e W' => e = .returned (.bool true) ∧ Below W.heap.size W W' := by
  by_cases h1 : 20000 < Fr.lsum L L.length
  · exact less_out v L W hT hl (by omega) (.inl h1)
  · by_cases hm : Fr.May L
    · by_cases h0 : L.length = 0
      · exact less_out v L W hT hl (by omega) (.inr (.inr ⟨by omega, hm, h0⟩))
      · exact less_in v L W hT hl (by omega) (by omega) hm (by omega)
    · exact less_out v L W hT hl (by omega) (.inr (.inl ⟨by omega, hm⟩))

theorem frontLess_walk (H : Type) (enc : TypeId × Value → H) (W : World) (base : Nat) (args : Array Value) (ds gs : List (DataW H)) (before : List MemPlace)
    (hval : ∀ (j : Nat) t v, Try.f10.params[j]? = some t → args[j]? = some v → Value.okWide Try.prog W .any base t v)
    (hW : DataW.Whole enc Try.prog Try.f10.params.toList Rows.frontLessSpec.vars false W args.toList ds gs before)
    (hz : (DataW.weightsEach Try.prog (Try.f10.params.toList ++ Rows.frontLessSpec.plain.varTypes Try.prog) (ds ++ gs)).all (· ≤ reachBytes) = true)
    (hL : laidMetH Try.prog Rows.frontLessRow.laid W) (hsh : W.ShapedOpen Try.prog) :
    Calls Try.prog 10 args W fun e W' => e = .returned (.bool true) ∧ Below W.heap.size W W' := by
  obtain ⟨p, q, hA, _, _, _, _⟩ := hW
  rw [Try.params10] at hA hval
  rw [Try.params10] at hz
  obtain ⟨v0, vs0, d0, ds0, p0, q0, hargs, rfl, rfl, h0, r0⟩ := trodAll_cons hA
  obtain ⟨rfl, rfl, rfl⟩ := trodAll_nil r0
  obtain rfl : args = #[v0] := by cases args; simp_all
  obtain ⟨l0, L0, b0, z0⟩ := arg_strs Try.underlying22 Try.underlying9 (show Try.prog.cellsOf 9 = 1 ∧ Try.prog.bytesOf 9 = 16 by exact ⟨by kernel_rfl, by kernel_rfl⟩) (hval 0 22 v0 rfl rfl) h0 (sized_arg hz (j := 0) (t := 22) (d := d0) rfl rfl)
  exact frontLess_any v0 l0 W L0 b0 z0

theorem frontLess_lifted (os : Os) (started : os.Started) (H : Type) (enc : TypeId × Value → H) (F : Stop.Interp) :
    ReturnsInHanded {} Try.checked os 10 .any ((OpenSpec.ofChange Rows.frontLessSpec).preRow enc Try.prog Try.f10 Rows.frontLessRow.domain false Rows.frontLessRow.laid) (((OpenSpec.ofChange Rows.frontLessSpec).at F).post enc Try.prog Try.f10 false true false false) := by
  obtain ⟨places, hx⟩ : ∃ places, DataW.whole enc Try.prog ((World.holding Try.prog os ⟨#[], #[], []⟩).forCall (fun _ _ => 0) ⟨#[], #[.slice none 0 0], []⟩).memory Try.f10.params.toList Rows.frontLessSpec.vars false (#[.slice none 0 0] : Array Value).toList 8 = some ([.nil], [], places) := ⟨[], by kernel_rfl⟩
  refine returnsInHanded_of_row (C := Try.checked) (s := OpenSpec.ofChange Rows.frontLessSpec) own started (by kernel_rfl) Try.func10
    (witness_row_at (enc := enc) (C := Try.checked) false (World.holding Try.prog os ⟨#[], #[], []⟩) #[.slice none 0 0] rfl (by kernel_rfl) (by kernel_rfl) (by kernel_rfl)
      (OpenSpec.preRow_of_cond 8 hx (by kernel_rfl) (fun k hk => by cases hk) (by kernel_rfl) (laidMet_nil _ _))) ?_
  intro W base args ds gs before hval hW _ _ hz hL hsh _
  refine (frontLess_walk H enc W base args ds gs before hval hW hz hL hsh).mono fun e W' ⟨he, hb⟩ => ⟨_, he, ?_⟩
  exact law_post (fn := Try.f10) (s := Rows.frontLessSpec) (tb := 4) rfl (fun ds hd => by match ds, hd with | [d0], _ => rfl) rfl Try.underlying4 (by kernel_rfl) hW hb

theorem frontLess_said : Rows.FrontLessSaid :=
  OpenClaim.holds_of_cond 10 Try.f10 rfl rfl rfl rfl rfl rfl rfl ⟨rfl, rfl, rfl, rfl, rfl⟩ rfl rfl rfl rfl rfl (by kernel_rfl) Try.func10 (by kernel_rfl)
    (of_decide_eq_true (by kernel_rfl)) (by unfold Func.isWrapper; first | (rw [if_pos (by decide +kernel)]; kernel_rfl) | (rw [if_neg (by decide +kernel)]; exact ⟨rfl, rfl⟩))
    (fun os started H enc _ F => by rw [OpenClaim.pre_eq_preRow]; exact frontLess_lifted os started H enc F)
end Go.Proofs.Ytdahfejecbcakaa
