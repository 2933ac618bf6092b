/- BoxOwn: sections that are read hang no more on the file, for every input. -/
import Derived.Test.YtgbhnkiballeeaaBxLaw
import Derived.Deep.AppendLies
import Derived.Deep.DeepCutAuto
namespace Go.Proofs.Ytgbhnkiballeeaa
set_option linter.unusedVariables false
set_option linter.unusedSimpArgs false
set_option maxRecDepth 100000
open Go.ChangeShapes Go.WideShapes Go.ChangeAt Go.RowKit

theorem boxOwn_out (a : Option Addr) (n cap : Nat) (L : List Bx.Sec) (W : World) (hn : n = L.length) (h : SecsAt W (.slice a n cap) L) (hby : Bx.Bytes L) (hbd : ∀ s ∈ L, -9223372036854775808 ≤ s.1 ∧ s.1 ≤ 9223372036854775807 ∧ s.2.length ≤ 140737488351232) (hnm : n ≤ 9223372036854775807) (ho : longB L 0 = true ∨ (longB L 0 = false ∧ ¬ Bx.May L)) :
    Calls Try.prog 9 #[.slice a n cap] W fun e W' => e = .returned (.bool true) ∧ Below W.heap.size W W' := by
  have LG := hid (long_any a n cap L W hn h hnm (fun s hs => (hbd s hs).2.2))
  rcases ho with ho | ⟨ho, hM⟩
  · rw [ho] at LG
    clear hn h hby hbd ho
    go_enter Try.func9, Try.ntmps9
    go_wp2_with (go_at_call 11; refine LG.out.mono ?_; rintro e w' ⟨rfl, rfl⟩)
    go_ret
    exact ⟨rfl, Below.refl _ _⟩
  · have hs := long_no ho
    have MY := hid (rmay_any a n cap L W hn h (by omega) (by omega) (fun s hs => ⟨(hbd s hs).1, (hbd s hs).2.1⟩))
    rw [show Bx.mayB L = false by cases hh : Bx.mayB L with
      | false => rfl
      | true => exact absurd ((Bx.mayB_iff L).1 hh) hM] at MY
    rw [ho] at LG
    clear hn h hby hbd ho hM hs
    go_enter Try.func9, Try.ntmps9
    go_wp2_with (first
      | (go_at_call 11; refine LG.out.mono ?_; rintro e w' ⟨rfl, hww⟩; have hww' := hww.symm; subst hww')
      | (go_at_call 18; refine MY.out.mono ?_; rintro e w1 ⟨rfl, hB1⟩))
    go_ret
    exact ⟨rfl, hB1⟩

set_option maxHeartbeats 1000000 in
theorem boxOwn_in (a : Option Addr) (n cap : Nat) (L : List Bx.Sec) (W : World) (hn : n = L.length) (h : SecsAt W (.slice a n cap) L) (hby : Bx.Bytes L) (hbd : ∀ s ∈ L, -9223372036854775808 ≤ s.1 ∧ s.1 ≤ 9223372036854775807 ∧ s.2.length ≤ 140737488351232) (hnm : n ≤ 9223372036854775807) (hlo : longB L 0 = false) (hM : Bx.May L) :
    Calls Try.prog 9 #[.slice a n cap] W fun e W' => e = .returned (.bool true) ∧ Below W.heap.size W W' := by
  have LG := hid (long_any a n cap L W hn h hnm (fun s hs => (hbd s hs).2.2))
  have hs := long_no hlo
  have MY := hid (rmay_any a n cap L W hn h (by omega) (by omega) (fun s hs => ⟨(hbd s hs).1, (hbd s hs).2.1⟩))
  rw [(Bx.mayB_iff L).2 hM] at MY
  rw [hlo] at LG
  have PK := hid (fun W' (hW : Below W.heap.size W W') => bpack_ok a n cap L W' hn (h.keep hW) hM hby)
  have HN := hid hn
  have HS := hid h
  have HM := hid hM
  have HBY := hid hby
  have hT9 : 9 ≤ Bx.total L := by unfold Bx.total; omega
  have hT := hM.2.2
  clear hn h hby hbd hlo hM hs
  go_enter Try.func9, Try.ntmps9
  go_upto_region 4 with (first
      | (go_at_call 11; refine LG.out.mono ?_; rintro e w' ⟨rfl, hww⟩; have hww' := hww.symm; subst hww')
      | (go_at_call 18; refine MY.out.mono ?_; rintro e w1 ⟨rfl, hB1⟩)
      | (go_at_call 12; refine (PK.out _ hB1).mono ?_; rintro e w2 ⟨v2, rfl, hB2, hown⟩; obtain ⟨g, cap2, rfl, hge, hgl⟩ := hown.form (by omega)))
  have HB2 := hid (below_then hB1 hB2)
  have HO2 := hid hown
  have hgw : W.heap.size ≤ g := Nat.le_trans hB1.size hge
  have UN := hid (bunp_any (some ⟨g, 0, none⟩) (Bx.total L) cap2 (Bx.file L) w2 (Bx.file_length L).symm (own_bytes hown (Bx.file_length L).symm) (file_lt L HBY.out))
  clear hown hB2 hge PK LG MY
  go_wp2_with fail
  refine UN.out.mono ?_
  rintro e w3 ⟨hB3, hE⟩
  obtain ⟨v3, rfl, hF3⟩ := ends_some hE (unp_back HM.out)
  obtain ⟨a3, c3, rfl, _, _, _⟩ := SecsAt.open hF3.it
  have HF3 := hid hF3
  have HB3 := hid (below_then HB2.out hB3)
  have HO3 := hid (own_below HO2.out hB3)
  generalize Bx.total L = T at *
  clear hE hF3 hB3 UN HO2
  go_wp2
  go_loopw [7] (fun s7 wr => ∃ (i : Nat) (xs : List Value), i ≤ T ∧ s7 = .int .i64 i ∧ Hid (wr.ownsRow w1.heap.size 5 1 (.slice (some ⟨g, 0, none⟩) T cap2) T xs) ∧ Hid (Fresh w2.heap.size wr (fun W => SecsAt W (.slice a3 L.length c3) L)) ∧ Hid (Below W.heap.size W wr)) (fun s7 _ => T - (intOf s7).toNat)
  case atStart => exact ⟨0, _, by omega, rfl, HO3, HF3, HB3⟩
  case round =>
    obtain ⟨i, xs, hin, rfl, HO, HF, HB⟩ := hrel
    by_cases hlt : i < T
    · have hxl : xs.length = T * 1 := HO.out.1
      have c1 : wr.cell? ⟨g, i, none⟩ = some (xs[i]'(by omega)) := by rw [HO.out.cellAt i (by omega), List.getElem?_eq_getElem]
      have f1 := HO.out.frozenAt i
      have HST := hid (HO.out.stored i (.int .u8 0)).1
      have HFS := hid (HF.out.setOld g i (.int .u8 0) hgl)
      have HBS := hid (show Below W.heap.size W (wr.setCell ⟨g, i, none⟩ (.int .u8 0)) from HB.out.setCell hgw _)
      generalize xs[i]'(by omega) = u at c1
      have hltI : (i : Int) < T := by omega
      clear hxl
      go_wp2
      go_roundw
      case rel => exact ⟨i + 1, _, by omega, by go_num, HST, HFS, HBS⟩
      case measure => simp [intOf]; omega
    · obtain rfl : i = T := by omega
      have SM := hid (rsame_any (.slice a3 L.length c3) (.slice a n cap) L L wr HF.out.it (HS.out.keep HB.out) HBY.out HBY.out (by have := HM.out.1; omega) true (by simp))
      clear HO HF HO3 HF3 HB3
      go_wp2_with (first
        | (go_at_call 17; refine SM.out.mono ?_; rintro e w5 ⟨rfl, hB5⟩)
        | (go_at_call 14; refine (known_any _).mono ?_; rintro e w6 ⟨rfl, hB6⟩))
      go_ret
      exact ⟨rfl, below_then (below_then HB.out hB5) hB6⟩

theorem boxOwn_walk (H : Type) (enc : TypeId × Value → H) (W : World) (base : Nat) (args : Array Value) (ds gs : List (DataW H)) (before : List MemPlace)
    (hval : ∀ (j : Nat) t v, Try.f9.params[j]? = some t → args[j]? = some v → Value.okWide Try.prog W .any base t v)
    (hW : DataW.Whole enc Try.prog Try.f9.params.toList Rows.boxOwnSpec.vars false W args.toList ds gs before)
    (hz : (DataW.weightsEach Try.prog (Try.f9.params.toList ++ Rows.boxOwnSpec.plain.varTypes Try.prog) (ds ++ gs)).all (· ≤ reachBytes) = true)
    (hL : laidMetH Try.prog Rows.boxOwnRow.laid W) (hsh : W.ShapedOpen Try.prog) :
    Calls Try.prog 9 args W fun e W' => e = .returned (.bool true) ∧ Below W.heap.size W W' := by
  obtain ⟨p, q, hA, _, _, _, _⟩ := hW
  rw [Try.params9] at hA hval
  rw [Try.params9] at hz
  obtain ⟨v0, vs0, d0, ds0, p0, q0, hargs, rfl, rfl, h0, r0⟩ := trodAll_cons hA
  obtain ⟨rfl, rfl, rfl⟩ := trodAll_nil r0
  obtain rfl : args = #[v0] := by cases args; simp_all
  obtain ⟨l0, L0, b0, y0, z0⟩ := arg_secs (hval 0 22 v0 rfl rfl) h0 (sized_arg hz (j := 0) (t := 22) (d := d0) rfl rfl)
  obtain ⟨a, cap, rfl, h1, h2, h3⟩ := SecsAt.open L0
  have hnm : l0.length ≤ 9223372036854775807 := by unfold maxLen at h2; omega
  by_cases hlo : longB l0 0 = true
  · exact boxOwn_out a _ cap l0 W rfl L0 b0 y0 hnm (Or.inl hlo)
  · have hlo' : longB l0 0 = false := by simpa using hlo
    by_cases hM : Bx.May l0
    · exact boxOwn_in a _ cap l0 W rfl L0 b0 y0 hnm hlo' hM
    · exact boxOwn_out a _ cap l0 W rfl L0 b0 y0 hnm (Or.inr ⟨hlo', hM⟩)

theorem boxOwn_lifted (os : Os) (started : os.Started) (H : Type) (enc : TypeId × Value → H) (F : Stop.Interp) :
    ReturnsInHanded {} Try.checked os 9 .any ((OpenSpec.ofChange Rows.boxOwnSpec).preRow enc Try.prog Try.f9 Rows.boxOwnRow.domain false Rows.boxOwnRow.laid) (((OpenSpec.ofChange Rows.boxOwnSpec).at F).post enc Try.prog Try.f9 false true false false) := by
  obtain ⟨places, hx⟩ : ∃ places, DataW.whole enc Try.prog ((World.holding Try.prog os ⟨#[], #[], []⟩).forCall (fun _ _ => 0) ⟨#[], #[.slice none 0 0], []⟩).memory Try.f9.params.toList Rows.boxOwnSpec.vars false (#[.slice none 0 0] : Array Value).toList 8 = some ([.nil], [], places) := ⟨[], by kernel_rfl⟩
  refine returnsInHanded_of_row (C := Try.checked) (s := OpenSpec.ofChange Rows.boxOwnSpec) own started (by kernel_rfl) Try.func9
    (witness_row_at (enc := enc) (C := Try.checked) false (World.holding Try.prog os ⟨#[], #[], []⟩) #[.slice none 0 0] rfl (by kernel_rfl) (by kernel_rfl) (by kernel_rfl)
      (OpenSpec.preRow_of_cond 8 hx (by kernel_rfl) (fun k hk => by cases hk) (by kernel_rfl) (laidMet_nil _ _))) ?_
  intro W base args ds gs before hval hW _ _ hz hL hsh _
  refine (boxOwn_walk H enc W base args ds gs before hval hW hz hL hsh).mono fun e W' ⟨he, hb⟩ => ⟨_, he, ?_⟩
  exact law_post (fn := Try.f9) (s := Rows.boxOwnSpec) (tb := 4) rfl (fun ds hd => by match ds, hd with | [d0], _ => rfl) rfl Try.underlying4 (by kernel_rfl) hW hb

theorem boxOwn_said : Rows.BoxOwnSaid :=
  OpenClaim.holds_of_cond 9 Try.f9 rfl rfl rfl rfl rfl rfl rfl ⟨rfl, rfl, rfl, rfl, rfl⟩ rfl rfl rfl rfl rfl (by kernel_rfl) Try.func9 (by kernel_rfl)
    (of_decide_eq_true (by kernel_rfl)) (by unfold Func.isWrapper; first | (rw [if_pos (by decide +kernel)]; kernel_rfl) | (rw [if_neg (by decide +kernel)]; exact ⟨rfl, rfl⟩))
    (fun os started H enc _ F => by rw [OpenClaim.pre_eq_preRow]; exact boxOwn_lifted os started H enc F)
end Go.Proofs.Ytgbhnkiballeeaa
