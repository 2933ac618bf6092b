/- PrHxN, PrHxS. -/
import Derived.Test.YtjaebndajhppgaaGreatDoorPrEsc
import Derived.Deep.RegionWith
namespace Go.Proofs.YtjaebndajhppgaaGreatDoor
set_option linter.unusedVariables false
set_option linter.unusedSimpArgs false
set_option maxRecDepth 100000
open Go.ChangeShapes Go.WideShapes Go.ChangeAt Go.RowKit
theorem phex_short (q n : Nat) (l : List UInt8) (i : Nat) (w : World) (hE : ErrAt w) (hn : n = 4 ∨ n = 8) (hr : Pr w q l i) (hl : l.length ≤ 100000000) (hi : i ≤ l.length) (hs : l.length < i + n) :
    Calls Tryz.prog 251 #[rdp q, .int .i64 (n : Nat)] w fun x w' => x = .returned (runeV (Tm.hexR n (l.drop i))) ∧ (∃ j, j ≤ l.length ∧ (Tm.hexR n (l.drop i) ≠ none → j = i + n) ∧ Pr w' q l j) ∧ But q w w' := by
  obtain ⟨c0, c1, f0, f1⟩ := hr.cells
  have HR := hid hr
  have HE := hid hE
  have hiI : (i : Int) ≤ (l.length : Int) := by omega
  have hn8 : n ≤ 8 := by omega
  have hn0 : 0 < n := by omega
  clear hr hE
  have HN := hid (show Tm.hexR n (l.drop i) = none by unfold Tm.hexR; rw [hexL_short n _ 0 (by rw [List.length_drop]; omega)])
  have hz : decide ((l.length : Int) - (i : Int) < (n : Int)) = true := decide_eq_true (by omega)
  clear hn hs
  go_enter Tryz.func251, Tryz.ntmps251
  go_wp2
  go_quiet (fail)
  go_wp2
  go_ret2
  exact ⟨by rw [HN.out]; rfl, ⟨i, hi, fun h => absurd HN.out h, HR.out⟩, But.drawn q w _⟩
set_option maxHeartbeats 2000000 in
theorem phex_none (q n : Nat) (l : List UInt8) (i : Nat) (w : World) (hE : ErrAt w) (hn : n = 4 ∨ n = 8) (hr : Pr w q l i) (hl : l.length ≤ 100000000) (hi : i ≤ l.length) (hs : ¬ l.length < i + n) (hx : Tm.hexL n (l.drop i) 0 = none) :
    Calls Tryz.prog 251 #[rdp q, .int .i64 (n : Nat)] w fun x w' => x = .returned (runeV (Tm.hexR n (l.drop i))) ∧ (∃ j, j ≤ l.length ∧ (Tm.hexR n (l.drop i) ≠ none → j = i + n) ∧ Pr w' q l j) ∧ But q w w' := by
  obtain ⟨c0, c1, f0, f1⟩ := hr.cells
  have HR := hid hr
  have HE := hid hE
  have hiI : (i : Int) ≤ (l.length : Int) := by omega
  have hn8 : n ≤ 8 := by omega
  have hn0 : 0 < n := by omega
  clear hr hE
  have hdl : n ≤ (l.drop i).length := by rw [List.length_drop]; omega
  have htl : ((l.drop i).take n).length = n := by rw [List.length_take]; omega
  obtain ⟨m, hm⟩ : ∃ m, m = i + n := ⟨_, rfl⟩
  have hex : (⟨l.toArray⟩ : ByteArray).extract i m = ⟨((l.drop i).take n).toArray⟩ := by
    rw [hm, ba_extract]; congr 3; omega
  have hw : IntKind.i64.wrap ((i : Int) + (n : Int)) = (m : Int) := by rw [IntKind.wrap_i64]; omega
  have him : i ≤ m := by omega
  have hml : m ≤ l.length := by omega
  have hmz : (i : Int) ≤ (m : Int) := by omega
  have hmz2 : (m : Int) ≤ (l.length : Int) := by omega
  have hz : decide ((l.length : Int) - (i : Int) < (n : Int)) = false := decide_eq_false (by omega)
  have HM := hid hm
  have HN := hid (show Tm.hexR n (l.drop i) = none by unfold Tm.hexR; rw [hx])
  have SP := hid fun w h => spu_none ((l.drop i).take n) w h (by omega) (by omega) (by rw [htl, ← hx, ← hexL_take n _ 0 hdl, htl])
  clear hn hs hx hdl htl hm
  go_enter Tryz.func251, Tryz.ntmps251
  go_wp2
  go_quiet (fail)
  go_wp2
  go_region_with ((go_at_call 260; refine (SP.out _ (show ErrAt (w.drewN (nq + 1)) from HE.out)).mono ?_; rintro e w2 ⟨⟨t, a, rfl⟩, hb⟩; have HR2 : Hid (Pr w2 q l i) := hid (by refine Pr.keep ?_ hb; exact HR.out); have HC2 := HR2.out.cells; obtain ⟨d0, d1, g0, g1⟩ := HC2))
  all_goals
    go_wp2
    go_ret2
    exact ⟨by rw [HN.out]; rfl, ⟨m, hml, fun h => absurd HN.out h, HR2.out.to _⟩, (But.below (below_then (below_drawn (Below.refl w.heap.size w) _) hb)).trans (But.set q _ 1 _)⟩
end Go.Proofs.YtjaebndajhppgaaGreatDoor
namespace Go.Proofs.YtjaebndajhppgaaGreatDoor
set_option linter.unusedVariables false
set_option linter.unusedSimpArgs false
set_option maxRecDepth 100000
open Go.ChangeShapes Go.WideShapes Go.ChangeAt Go.RowKit
set_option maxHeartbeats 2000000 in
theorem phex_some (q n : Nat) (l : List UInt8) (i : Nat) (w : World) (hE : ErrAt w) (hn : n = 4 ∨ n = 8) (hr : Pr w q l i) (hl : l.length ≤ 100000000) (hi : i ≤ l.length) (x : Nat) (hs : ¬ l.length < i + n) (hx : Tm.hexL n (l.drop i) 0 = some x) :
    Calls Tryz.prog 251 #[rdp q, .int .i64 (n : Nat)] w fun x w' => x = .returned (runeV (Tm.hexR n (l.drop i))) ∧ (∃ j, j ≤ l.length ∧ (Tm.hexR n (l.drop i) ≠ none → j = i + n) ∧ Pr w' q l j) ∧ But q w w' := by
  obtain ⟨c0, c1, f0, f1⟩ := hr.cells
  have HR := hid hr
  have HE := hid hE
  have hiI : (i : Int) ≤ (l.length : Int) := by omega
  have hn8 : n ≤ 8 := by omega
  have hn0 : 0 < n := by omega
  clear hr hE
  have hdl : n ≤ (l.drop i).length := by rw [List.length_drop]; omega
  have htl : ((l.drop i).take n).length = n := by rw [List.length_take]; omega
  obtain ⟨m, hm⟩ : ∃ m, m = i + n := ⟨_, rfl⟩
  have hex : (⟨l.toArray⟩ : ByteArray).extract i m = ⟨((l.drop i).take n).toArray⟩ := by
    rw [hm, ba_extract]; congr 3; omega
  have hw : IntKind.i64.wrap ((i : Int) + (n : Int)) = (m : Int) := by rw [IntKind.wrap_i64]; omega
  have him : i ≤ m := by omega
  have hml : m ≤ l.length := by omega
  have hmz : (i : Int) ≤ (m : Int) := by omega
  have hmz2 : (m : Int) ≤ (l.length : Int) := by omega
  have hz : decide ((l.length : Int) - (i : Int) < (n : Int)) = false := decide_eq_false (by omega)
  have HM := hid hm
  have hxl := hexL_lt n _ 0 x hx
  have hx32 : x < 4294967296 := by
    have h1 := Nat.pow_le_pow_right (show 0 < 16 by omega) hn8
    have h2 : (16 : Nat) ^ 8 = 4294967296 := by decide
    omega
  have SP := hid fun w => spu_some ((l.drop i).take n) x w (by omega) (by omega) (by rw [htl, ← hx, ← hexL_take n _ 0 hdl, htl])
  have HX := hid hx
  have VR := hid fun h w => vrune_any x h w
  clear hn hs hx hdl htl hm hxl
  rcases (show 1114111 < x ∨ (x ≤ 1114111 ∧ (55296 ≤ x ∧ x ≤ 57343)) ∨ (x ≤ 1114111 ∧ ¬ (55296 ≤ x ∧ x ≤ 57343)) by omega) with h | ⟨h, h'⟩ | ⟨h, h'⟩
  · have HN := hid (show Tm.hexR n (l.drop i) = none by unfold Tm.hexR; rw [HX.out]; simp only; rw [if_pos (.inl h)])
    go_enter Tryz.func251, Tryz.ntmps251
    go_wp2
    go_quiet (fail)
    go_wp2
    go_region_with ((go_at_call 260; refine (SP.out (w.drewN (nq + 1))).mono ?_; rintro e w2 ⟨rfl, hb⟩; have HR2 : Hid (Pr w2 q l i) := hid (by refine Pr.keep ?_ hb; exact HR.out); have HC2 := HR2.out.cells; obtain ⟨d0, d1, g0, g1⟩ := HC2))
    all_goals
      go_wp2
      go_ret2
      exact ⟨by rw [HN.out]; rfl, ⟨m, hml, fun h => absurd HN.out h, HR2.out.to _⟩, (But.below (below_then (below_drawn (Below.refl w.heap.size w) _) hb)).trans (But.set q _ 1 _)⟩
  · have HN := hid (show Tm.hexR n (l.drop i) = none by unfold Tm.hexR; rw [HX.out]; simp only; rw [if_pos (.inr h')])
    have VR2 := hid (VR.out h)
    rw [decide_eq_false (by omega)] at VR2
    clear h'
    go_enter Tryz.func251, Tryz.ntmps251
    go_wp2
    go_quiet (fail)
    go_wp2
    go_region_with ((go_at_call 260; refine (SP.out (w.drewN (nq + 1))).mono ?_; rintro e w2 ⟨rfl, hb⟩; have HR2 : Hid (Pr w2 q l i) := hid (by refine Pr.keep ?_ hb; exact HR.out); have HC2 := HR2.out.cells; obtain ⟨d0, d1, g0, g1⟩ := HC2))
    all_goals
      go_wp2_with (go_at_call 261; refine (VR2.out _).mono ?_; rintro e w' ⟨rfl, hww⟩; have hw2 := hww.symm; subst hw2)
      go_ret2
      exact ⟨by rw [HN.out]; rfl, ⟨m, hml, fun h => absurd HN.out h, HR2.out.to _⟩, (But.below (below_then (below_drawn (Below.refl w.heap.size w) _) hb)).trans (But.set q _ 1 _)⟩
  · have HN := hid (show Tm.hexR n (l.drop i) = some x by unfold Tm.hexR; rw [HX.out]; simp only; rw [if_neg (by omega)])
    have VR2 := hid (VR.out h)
    rw [decide_eq_true (by omega)] at VR2
    clear h'
    go_enter Tryz.func251, Tryz.ntmps251
    go_wp2
    go_quiet (fail)
    go_wp2
    go_region_with ((go_at_call 260; refine (SP.out (w.drewN (nq + 1))).mono ?_; rintro e w2 ⟨rfl, hb⟩; have HR2 : Hid (Pr w2 q l i) := hid (by refine Pr.keep ?_ hb; exact HR.out); have HC2 := HR2.out.cells; obtain ⟨d0, d1, g0, g1⟩ := HC2))
    all_goals
      go_wp2_with (go_at_call 261; refine (VR2.out _).mono ?_; rintro e w' ⟨rfl, hww⟩; have hw2 := hww.symm; subst hw2)
      go_ret2
      exact ⟨by rw [HN.out]; rfl, ⟨m, hml, fun _ => HM.out, HR2.out.to _⟩, (But.below (below_then (below_drawn (Below.refl w.heap.size w) _) hb)).trans (But.set q _ 1 _)⟩
end Go.Proofs.YtjaebndajhppgaaGreatDoor
