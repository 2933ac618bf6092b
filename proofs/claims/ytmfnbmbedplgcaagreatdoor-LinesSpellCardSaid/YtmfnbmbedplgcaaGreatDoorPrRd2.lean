/- The program's reader of a line: names, ends, one letter behind a backslash. -/
import Derived.Test.YtmfnbmbedplgcaaGreatDoorPrRd
import Derived.Shelf.Abstract
namespace Go.Proofs.YtmfnbmbedplgcaaGreatDoor
set_option linter.unusedVariables false
set_option linter.unusedSimpArgs false
set_option maxRecDepth 100000
open Go.ChangeShapes Go.WideShapes Go.ChangeAt Go.RowKit
theorem plabel_any (c : UInt8) (w : World) :
    Calls Tryz.prog 78 #[.int .u8 (c.toNat : Nat)] w fun e w' => e = .returned (.bool (Tm.alnum c)) ∧ w' = w := by
  unfold Tm.alnum Tm.small Tm.digit
  go_enter Tryz.func78, Tryz.ntmps78
  rcases (show c.toNat < 48 ∨ (48 ≤ c.toNat ∧ c.toNat ≤ 57) ∨ (57 < c.toNat ∧ c.toNat < 65) ∨ (65 ≤ c.toNat ∧ c.toNat ≤ 90) ∨ (90 < c.toNat ∧ c.toNat < 97) ∨ (97 ≤ c.toNat ∧ c.toNat ≤ 122) ∨ 122 < c.toNat by omega) with h | ⟨h, h'⟩ | ⟨h, h'⟩ | ⟨h, h'⟩ | ⟨h, h'⟩ | ⟨h, h'⟩ | h
  all_goals
    go_wp2
    go_ret
    refine ⟨ret_bool ?_, rfl⟩
    rw [Bool.eq_iff_iff]
    all_goals (simp <;> omega)
theorem plang_any (c : UInt8) (w : World) :
    Calls Tryz.prog 93 #[.int .u8 (c.toNat : Nat)] w fun e w' => e = .returned (.bool (Tm.alnumD c)) ∧ w' = w := by
  have LB := hid fun w => plabel_any c w
  by_cases h : c.toNat = 45
  · have hc : c = 45 := UInt8.toNat_inj.1 h
    have HR := hid (show Tm.alnumD c = true by rw [hc]; decide)
    go_enter Tryz.func93, Tryz.ntmps93
    go_wp2_with (go_at_call 78; refine (LB.out _).mono ?_; rintro e w' ⟨rfl, rfl⟩)
    go_ret
    exact ⟨by rw [HR.out]; rfl, rfl⟩
  · have hb : ((c.toNat : Int) == 45) = false := beq_eq_false_iff_ne.2 (by omega)
    have HR := hid (show Tm.alnumD c = Tm.alnum c by
      unfold Tm.alnumD
      have : (c == 45) = false := beq_eq_false_iff_ne.2 (fun e => h (by rw [e]; rfl))
      rw [this, Bool.or_false])
    go_enter Tryz.func93, Tryz.ntmps93
    go_wp2_with (go_at_call 78; refine (LB.out _).mono ?_; rintro e w' ⟨rfl, rfl⟩)
    go_ret
    exact ⟨by rw [HR.out]; rfl, rfl⟩
theorem pended_any (q : Nat) (l : List UInt8) (i : Nat) (w : World) (hr : Pr w q l i) (hl : l.length ≤ 100000000) (hi : i ≤ l.length) :
    Calls Tryz.prog 44 #[rdp q] w fun x w' => x = .returned (.bool (decide (l.drop i = [] ∨ (l.drop i).head? = some 35))) ∧ ∃ n, w' = w.drewN n := by
  obtain ⟨c0, c1, f0, f1⟩ := hr.cells
  clear hr
  match hd : l.drop i with
  | [] =>
    have hil : i = l.length := by have := drop_none l i hd; omega
    subst hil
    clear hd
    go_enter Tryz.func44, Tryz.ntmps44
    go_wp2
    go_quiet (fail)
    go_wp2
    go_ret
    exact ⟨rfl, _, rfl⟩
  | c :: u =>
    obtain ⟨hjl, hget, hdu⟩ := drop_get l i c u hd
    have hcc := fun q => ba_get l i c hget q
    have hjI : (i : Int) < (l.length : Int) := by omega
    have hne : ((i : Int) == (l.length : Int)) = false := beq_eq_false_iff_ne.2 (by omega)
    have HR := hid (show decide (c :: u = [] ∨ (c :: u).head? = some 35) = ((c.toNat : Int) == 35) by
      rw [Bool.eq_iff_iff]
      simp only [decide_eq_true_eq, List.head?_cons, Option.some.injEq, beq_iff_eq, reduceCtorEq, false_or]
      constructor
      · intro e; rw [e]; rfl
      · intro e; exact UInt8.toNat_inj.1 (by show c.toNat = 35; omega))
    clear hd hget hdu
    go_enter Tryz.func44, Tryz.ntmps44
    go_wp2
    go_quiet (fail)
    go_wp2
    go_ret
    exact ⟨by rw [HR.out]; rfl, _, rfl⟩
set_option maxHeartbeats 1000000 in
theorem pname_any (g q : Nat) (p : UInt8 → Bool) (l : List UInt8) (i : Nat) (w : World) (eg : ∀ args w, (callFunc g args).run Tryz.prog w = .ok (.enter g args) w) (hg : ∀ (c : UInt8) W, Calls Tryz.prog g #[.int .u8 (c.toNat : Nat)] W fun e w' => e = .returned (.bool (p c)) ∧ w' = W)
    (hr : Pr w q l i) (hl : l.length ≤ 100000000) (hi : i ≤ l.length) :
    Calls Tryz.prog 77 #[rdp q, .func (.func g) #[] #[]] w fun x w' => x = .returned (str ((l.drop i).takeWhile p)) ∧ (∃ j, j ≤ l.length ∧ l.drop j = (l.drop i).dropWhile p ∧ Pr w' q l j) ∧ But q w w' := by
  have HR := hid hr
  have HG := hid hg
  obtain ⟨k0, k1, h0, h1⟩ := hr.cells
  clear hr hg h0 h1
  go_enter Tryz.func77, Tryz.ntmps77
  go_wp2
  go_loopg [] l.length (fun gk wr => ∃ j : Nat, i ≤ j ∧ j ≤ l.length ∧ l.length - j ≤ gk ∧ Hid (Pr wr q l j) ∧ Hid (But q w wr) ∧ Hid (((l.drop i).take (j - i)).all p = true))
  case atStart => exact ⟨i, Nat.le_refl _, hi, by omega, HR, But.refl _ _, hid (by simp)⟩
  case round =>
    obtain ⟨j, hij, hj, hgk, HT, HB, HA⟩ := hrel
    obtain ⟨c0, c1, f0, f1⟩ := HT.out.cells
    have hex : (⟨l.toArray⟩ : ByteArray).extract i j = ⟨((l.drop i).take (j - i)).toArray⟩ := ba_extract l i j
    have hijI : (i : Int) ≤ (j : Int) := by omega
    have hjlI : (j : Int) ≤ (l.length : Int) := by omega
    have hdd : (l.drop i).drop (j - i) = l.drop j := by rw [List.drop_drop]; congr 1; omega
    by_cases hlt : j < l.length
    · obtain ⟨c, hc⟩ : ∃ c, l[j]? = some c := ⟨_, List.getElem?_eq_getElem hlt⟩
      have hc2 : (l.drop i)[j - i]? = some c := by rw [List.getElem?_drop, show i + (j - i) = j by omega]; exact hc
      have hcc := fun q => ba_get l j c hc q
      have hjI : (j : Int) < (l.length : Int) := by omega
      have GC := hid fun W => HG.out c W
      have hjb : decide ((j : Int) < (l.length : Int)) = true := decide_eq_true hjI
      cases hp : p c
      · have HTW := hid (takeWhile_at p (l.drop i) (j - i) (by rw [List.length_drop]; omega) HA.out (fun c' hc' => by rw [hc2] at hc'; cases hc'; exact hp))
        rw [hp] at GC
        have HDD := hid hdd
        clear hp hc hc2 hdd
        go_wp2
        go_quiet ((go_at_fn g; exact drawn_same fun W hW => GC.out W))
        go_wp2
        go_quiet (fail)
        go_wp2
        go_ret
        refine ⟨by rw [HTW.out.1]; rfl, ⟨j, hj, by rw [HTW.out.2, HDD.out], HT.out⟩, ?_⟩
        first | exact HB.out.trans (But.drawn q wr _) | exact HB.out.trans ((But.drawn q wr _).trans (But.drawn q _ _))
      · have hstep : ((l.drop i).take (j + 1 - i)).all p = true := by
          rw [show j + 1 - i = (j - i) + 1 by omega]
          exact all_step (f := p) HA.out hc2 hp
        have HST := hid hstep
        rw [hp] at GC
        clear hp hc hc2 hdd hstep
        go_wp2
        go_quiet ((go_at_fn g; exact drawn_same fun W hW => GC.out W))
        go_wp2
        go_roundg (l.length - (j + 1))
        case measure => omega
        case rel => exact ⟨j + 1, by omega, by omega, Nat.le_refl _, hid (Pr.to (w := wr.drewN nq) HT.out (j + 1)), hid ((HB.out.trans (But.drawn q wr nq)).trans (But.set q _ 1 _)), HST⟩
    · obtain rfl : j = l.length := by omega
      have HTW := hid (takeWhile_at p (l.drop i) (l.length - i) (by rw [List.length_drop]; omega) HA.out (fun c' hc' => by rw [List.getElem?_drop, List.getElem?_eq_none (by omega)] at hc'; cases hc'))
      have HDD := hid hdd
      have hjb : decide ((l.length : Int) < (l.length : Int)) = false := decide_eq_false (by omega)
      clear hdd
      go_wp2
      go_quiet (fail)
      go_wp2
      go_quiet (fail)
      go_wp2
      go_ret
      refine ⟨by rw [HTW.out.1]; rfl, ⟨l.length, Nat.le_refl _, by rw [HTW.out.2, HDD.out], HT.out⟩, ?_⟩
      first | exact HB.out.trans (But.drawn q wr _) | exact HB.out.trans ((But.drawn q wr _).trans (But.drawn q _ _))
/-- A letter behind a backslash, as the program answers. -/
def shortV (r : Option UInt8) : Value := match r with
  | some d => .tuple #[.int .i32 (d.toNat : Nat), .bool true]
  | none => .tuple #[.int .i32 0, .bool false]
theorem letter_none {c : UInt8} (h : c ≠ 34 ∧ c ≠ 92 ∧ c ≠ 110 ∧ c ≠ 114 ∧ c ≠ 116 ∧ c ≠ 98 ∧ c ≠ 102 ∧ c ≠ 39) : Tm.letter c = none := by
  obtain ⟨h1, h2, h3, h4, h5, h6, h7, h8⟩ := h
  unfold Tm.letter
  simp only [if_neg h1, if_neg h2, if_neg h3, if_neg h4, if_neg h5, if_neg h6, if_neg h7, if_neg h8]
theorem pshort_any (c : UInt8) (w : World) : Calls Tryz.prog 106 #[.int .u8 (c.toNat : Nat)] w fun e w' => e = .returned (shortV (Tm.letter c)) ∧ w' = w := by
  by_cases h : c = 34 ∨ c = 92 ∨ c = 110 ∨ c = 114 ∨ c = 116 ∨ c = 98 ∨ c = 102 ∨ c = 39
  · rcases h with rfl | rfl | rfl | rfl | rfl | rfl | rfl | rfl
    all_goals
      go_enter Tryz.func106, Tryz.ntmps106
      go_wp2
      go_ret2
      exact ⟨rfl, rfl⟩
  · have hn : c ≠ 34 ∧ c ≠ 92 ∧ c ≠ 110 ∧ c ≠ 114 ∧ c ≠ 116 ∧ c ≠ 98 ∧ c ≠ 102 ∧ c ≠ 39 := by
      simp only [not_or] at h; exact h
    rw [letter_none hn]
    have ne : ∀ k : UInt8, c ≠ k → ((c.toNat : Int) == (k.toNat : Int)) = false := fun k hk => beq_eq_false_iff_ne.2 (fun e => hk (UInt8.toNat_inj.1 (by omega)))
    have b1 : ((c.toNat : Int) == 34) = false := ne 34 hn.1
    have b2 : ((c.toNat : Int) == 92) = false := ne 92 hn.2.1
    have b3 : ((c.toNat : Int) == 110) = false := ne 110 hn.2.2.1
    have b4 : ((c.toNat : Int) == 114) = false := ne 114 hn.2.2.2.1
    have b5 : ((c.toNat : Int) == 116) = false := ne 116 hn.2.2.2.2.1
    have b6 : ((c.toNat : Int) == 98) = false := ne 98 hn.2.2.2.2.2.1
    have b7 : ((c.toNat : Int) == 102) = false := ne 102 hn.2.2.2.2.2.2.1
    have b8 : ((c.toNat : Int) == 39) = false := ne 39 hn.2.2.2.2.2.2.2
    clear ne hn h
    go_enter Tryz.func106, Tryz.ntmps106
    go_wp2
    go_ret2
    exact ⟨rfl, rfl⟩
end Go.Proofs.YtmfnbmbedplgcaaGreatDoor
