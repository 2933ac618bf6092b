/- The program's reader of a line: what it holds; its small steps. -/
import Derived.Test.YtmfnbmbedplgcaaGreatDoorLnRd
namespace Go.Proofs.YtmfnbmbedplgcaaGreatDoor
set_option linter.unusedVariables false
set_option linter.unusedSimpArgs false
set_option maxRecDepth 100000
open Go.ChangeShapes Go.WideShapes Go.ChangeAt Go.RowKit
/-- Block q holds a reader of l at place i. -/
def Pr (w : World) (q : Nat) (l : List UInt8) (i : Nat) : Prop := Blk w q [str l, .int .i64 i] 73
theorem Pr.cells {w : World} {q : Nat} {l : List UInt8} {i : Nat} (h : Pr w q l i) : w.cell? ⟨q, 0, none⟩ = some (str l) ∧ w.cell? ⟨q, 1, none⟩ = some (.int .i64 i) ∧ w.frozen? ⟨q, 0, none⟩ = false ∧ w.frozen? ⟨q, 1, none⟩ = false :=
  ⟨Blk.cell h rfl, Blk.cell h rfl, Blk.free h 0, Blk.free h 1⟩
theorem Pr.keep {w w' : World} {q : Nat} {l : List UInt8} {i : Nat} (h : Pr w q l i) (hb : Below w.heap.size w w') : Pr w' q l i := Blk.keep h hb
theorem Pr.to {w : World} {q : Nat} {l : List UInt8} {i : Nat} (h : Pr w q l i) (j : Nat) : Pr (w.setCell ⟨q, 1, none⟩ (.int .i64 j)) q l j := Blk.set h 1 _
theorem hasp_any (s p : List UInt8) (W : World) (h1 : s.length ≤ 9223372036854775807) (h2 : p.length ≤ 9223372036854775807) : Calls Tryz.prog 80 #[str s, str p] W fun e W' => e = .returned (.bool (decide (s.take p.length = p))) ∧ W' = W := by
  have SH : Hid (∀ w, Calls Tryz.prog 94 #[str s, str p] w fun e W' => e = .returned (.bool (decide (s.take p.length = p))) ∧ W' = w) := by
    intro w
    by_cases h : p.length ≤ s.length
    · have hz : (p.length : Int) ≤ (s.length : Int) := by omega
      have ht := ba_take s p.length
      have hx : ((s.take p.length) == p) = decide (s.take p.length = p) := by
        rw [Bool.eq_iff_iff]; simp
      go_enter Tryz.func94, Tryz.ntmps94
      go_wp2
      go_ret
      exact ⟨by simp, rfl⟩
    · have hz : (s.length : Int) < (p.length : Int) := by omega
      have HN := hid (show decide (s.take p.length = p) = false by
        rw [decide_eq_false_iff_not]; intro he; have := congrArg List.length he; rw [List.length_take] at this; omega)
      go_enter Tryz.func94, Tryz.ntmps94
      go_wp2
      go_ret
      exact ⟨by rw [HN.out]; rfl, rfl⟩
  go_enter Tryz.func80, Tryz.ntmps80
  go_wp2_with (go_at_call 94; refine (SH.out _).mono ?_; rintro e w' ⟨rfl, rfl⟩)
  go_ret
  exact ⟨rfl, rfl⟩
theorem drop_get (l : List UInt8) (i : Nat) (c : UInt8) (u : List UInt8) (h : l.drop i = c :: u) : i < l.length ∧ l[i]? = some c ∧ l.drop (i + 1) = u := by
  have h1 : i < l.length := by
    rcases Nat.lt_or_ge i l.length with k | k
    · exact k
    · rw [List.drop_of_length_le k] at h; cases h
  have h2 := List.drop_eq_getElem_cons h1
  rw [h] at h2
  simp only [List.cons.injEq] at h2
  exact ⟨h1, by rw [List.getElem?_eq_getElem h1, ← h2.1], h2.2.symm⟩
theorem drop_none (l : List UInt8) (i : Nat) (h : l.drop i = []) : l.length ≤ i := by
  rcases Nat.lt_or_ge i l.length with k | k
  · rw [List.drop_eq_getElem_cons k] at h; cases h
  · exact k
theorem pblanks_any (q : Nat) (l : List UInt8) (i : Nat) (w : World) (hr : Pr w q l i) (hl : l.length ≤ 100000000) (hi : i ≤ l.length) :
    Calls Tryz.prog 43 #[rdp q] w fun x w' => x = .returned (.tuple #[]) ∧ (∃ j, j ≤ l.length ∧ l.drop j = (l.drop i).dropWhile blankC ∧ Pr w' q l j) ∧ But q w w' := by
  have HR := hid hr
  clear hr
  go_enter Tryz.func43, Tryz.ntmps43
  go_wp2
  go_loopg [] l.length (fun gk wr => ∃ j : Nat, j ≤ l.length ∧ l.length - j ≤ gk ∧ Hid (Pr wr q l j) ∧ Hid (But q w wr) ∧ Hid ((l.drop j).dropWhile blankC = (l.drop i).dropWhile blankC))
  case atStart => exact ⟨i, hi, by omega, HR, But.refl _ _, rfl⟩
  case round =>
    obtain ⟨j, hj, hg, HT, HB, HD⟩ := hrel
    obtain ⟨c0, c1, f0, f1⟩ := HT.out.cells
    match hd : l.drop j with
    | [] =>
      have hjl : j = l.length := by have := drop_none l j hd; omega
      have HDD := hid hd
      subst hjl
      have hjb : decide ((l.length : Int) < (l.length : Int)) = false := decide_eq_false (by omega)
      clear hd
      go_wp2
      go_quiet (fail)
      go_wp2
      refine bodyPost_end (v := .tuple #[]) (by kernel_rfl) rfl ?_
      refine ⟨rfl, ⟨l.length, Nat.le_refl _, ?_, HT.out⟩, HB.out.trans (But.drawn q wr _)⟩
      rw [← HD.out, HDD.out]; rfl
    | c :: u =>
      obtain ⟨hjl, hget, hdu⟩ := drop_get l j c u hd
      have hcc := fun q => ba_get l j c hget q
      have hjI : (j : Int) < (l.length : Int) := by omega
      have hjb : decide ((j : Int) < (l.length : Int)) = true := decide_eq_true hjI
      have HDD := hid hd
      have HDU := hid hdu
      clear hd hdu hget
      by_cases h : c.toNat = 32 ∨ c.toNat = 9
      · have HD2 := hid (show (l.drop (j + 1)).dropWhile blankC = (l.drop i).dropWhile blankC by rw [← HD.out, HDD.out, HDU.out, List.dropWhile_cons, blankC_true h]; rfl)
        rcases h with h | h
        · have b1 : ((c.toNat : Int) == 32) = true := beq_iff_eq.2 (by omega)
          clear h
          go_wp2
          go_quiet (fail)
          go_wp2
          go_roundg (l.length - (j + 1))
          case measure => omega
          case rel => exact ⟨j + 1, by omega, Nat.le_refl _, hid (Pr.to (w := wr.drewN nq) HT.out (j + 1)), hid ((HB.out.trans (But.drawn q wr nq)).trans (But.set q _ 1 _)), HD2⟩
        · have b1 : ((c.toNat : Int) == 32) = false := beq_eq_false_iff_ne.2 (by omega)
          have b2 : ((c.toNat : Int) == 9) = true := beq_iff_eq.2 (by omega)
          clear h
          go_wp2
          go_quiet (fail)
          go_wp2
          go_roundg (l.length - (j + 1))
          case measure => omega
          case rel => exact ⟨j + 1, by omega, Nat.le_refl _, hid (Pr.to (w := wr.drewN nq) HT.out (j + 1)), hid ((HB.out.trans (But.drawn q wr nq)).trans (But.set q _ 1 _)), HD2⟩
      · have HD2 := hid (show l.drop j = (l.drop i).dropWhile blankC by rw [← HD.out, HDD.out, List.dropWhile_cons, blankC_false (by omega)]; rfl)
        have b1 : ((c.toNat : Int) == 32) = false := beq_eq_false_iff_ne.2 (by omega)
        have b2 : ((c.toNat : Int) == 9) = false := beq_eq_false_iff_ne.2 (by omega)
        clear h
        go_wp2
        go_quiet (fail)
        go_wp2
        refine bodyPost_end (v := .tuple #[]) (by kernel_rfl) rfl ?_
        exact ⟨rfl, ⟨j, hj, HD2.out, HT.out⟩, HB.out.trans (But.drawn q wr _)⟩
theorem pskip_any (q : Nat) (l p : List UInt8) (i : Nat) (w : World) (hr : Pr w q l i) (hl : l.length ≤ 100000000) (hi : i ≤ l.length) (hp : p.length ≤ 1000) :
    Calls Tryz.prog 64 #[rdp q, str p] w fun x w' => x = .returned (.bool (decide ((l.drop i).take p.length = p))) ∧ Pr w' q l (if (l.drop i).take p.length = p then i + p.length else i) ∧ But q w w' := by
  have HR := hid hr
  obtain ⟨c0, c1, f0, f1⟩ := hr.cells
  have hbd := ba_drop l i
  have HP := hid fun w => hasp_any (l.drop i) p w (by rw [List.length_drop]; omega) (by omega)
  have hiI : (i : Int) ≤ (l.length : Int) := by omega
  clear hr
  by_cases h : (l.drop i).take p.length = p
  · rw [decide_eq_true h] at HP ⊢
    rw [if_pos h]
    have hlen : i + p.length ≤ l.length := by
      have := congrArg List.length h
      rw [List.length_take, List.length_drop] at this; omega
    clear h
    go_enter Tryz.func64, Tryz.ntmps64
    go_wp2
    go_quiet ((go_at_call 80; exact drawn_same fun W hW => HP.out W))
    go_wp2
    go_ret
    exact ⟨rfl, Pr.to (w := w.drewN nq) HR.out _, (But.drawn q w nq).trans (But.set q _ 1 _)⟩
  · rw [decide_eq_false h] at HP ⊢
    rw [if_neg h]
    clear h
    go_enter Tryz.func64, Tryz.ntmps64
    go_wp2
    go_quiet ((go_at_call 80; exact drawn_same fun W hW => HP.out W))
    go_wp2
    go_ret
    exact ⟨rfl, HR.out, But.drawn q w nq⟩
end Go.Proofs.YtmfnbmbedplgcaaGreatDoor
