/- The program's reader of a line: a literal. -/
import Derived.Test.YtmfnbmbedplgcaaGreatDoorPrUp
import Derived.Test.YtmfnbmbedplgcaaGreatDoorLnLit
namespace Go.Proofs.YtmfnbmbedplgcaaGreatDoor
set_option linter.unusedVariables false
set_option linter.unusedSimpArgs false
set_option maxRecDepth 100000
open Go.ChangeShapes Go.WideShapes Go.ChangeAt Go.RowKit
theorem struct_ret2 {fn : Func} {tmps : Array Value} {Z : World} {b : Nat} {v0 v1 v2 v3 : Value} (ht : tmps.getD 2 undef = .pointer (some ⟨b, 0, none⟩)) (h3 : tmps.getD 3 undef = v3) (hZ : Blk Z b [v0, v1, v2] 26) (hf : fn.results = #[.cell 2 26, .tmp 3]) :
    (results fn tmps).run Tryz.prog Z = .ok (.tuple #[.agg #[v0, v1, v2], v3]) Z := by
  have h0 := hZ.cell (i := 0) rfl
  have h1 := hZ.cell (i := 1) rfl
  have h2 := hZ.cell (i := 2) rfl
  have ht' : tmps[2]?.getD undef = .pointer (some ⟨b, 0, none⟩) := by simpa using ht
  have h3' : tmps[3]?.getD undef = v3 := by simpa using h3
  simp [results, hf, ht', h3', go_sem, h0, h1, h2]
theorem fin_end {w X : World} {q b j : Nat} {x y z v0 v1 v2 : Value} {l : List UInt8} {t : TypeId} (hT : Blk X b [x, y, z] t) (hq : Pr X q l j) (hne : b ≠ q) (hB : But q w X) (hb : w.heap.size ≤ b) :
    Blk (((X.setCell ⟨b, 0, none⟩ v0).setCell ⟨b, 1, none⟩ v1).setCell ⟨b, 2, none⟩ v2) b [v0, v1, v2] t ∧ Pr (((X.setCell ⟨b, 0, none⟩ v0).setCell ⟨b, 1, none⟩ v1).setCell ⟨b, 2, none⟩ v2) q l j ∧ But q w (((X.setCell ⟨b, 0, none⟩ v0).setCell ⟨b, 1, none⟩ v1).setCell ⟨b, 2, none⟩ v2) := by
  refine ⟨((hT.set 0 v0).set 1 v1).set 2 v2, Blk.other (Blk.other (Blk.other hq (Ne.symm hne) 0 v0) (Ne.symm hne) 1 v1) (Ne.symm hne) 2 v2, ?_⟩
  have st : ∀ (X : World) (i : Nat) (v : Value), But q w X → But q w (X.setCell ⟨b, i, none⟩ v) := fun X i v h =>
    ⟨h.os, h.tape, h.output, by have := h.size; simpa using this, fun k hk hn => by rw [Below.heap_setCell _ _ _ _ (by show k ≠ b; omega)]; exact h.block k hk hn⟩
  exact st _ _ _ (st _ _ _ (st _ _ _ hB))
/-- What a term's reading leaves. -/
def TermPost (q : Nat) (l : List UInt8) (w : World) (r : Option (Nat × List UInt8 × List UInt8 × List UInt8)) (e : Ending) (w' : World) : Prop :=
  But q w w' ∧ match r with
    | none => (∃ (k : Nat) (t x : List UInt8), e = .returned (.tuple #[tmV (k : Nat) t x, .bool false])) ∧ ∃ j, j ≤ l.length ∧ Pr w' q l j
    | some (k, t, x, v) => e = .returned (.tuple #[tmV (k : Nat) t x, .bool true]) ∧ ∃ j, j ≤ l.length ∧ l.drop j = v ∧ Pr w' q l j
abbrev zT : List Value := [.int .i64 0, str [], str []]
set_option maxHeartbeats 2000000 in
theorem plit_none (q : Nat) (l : List UInt8) (i : Nat) (w : World) (hE : ErrAt w) (hq : q ≠ 4) (hr : Pr w q l i) (hl : l.length ≤ 10000000) (hi : i ≤ l.length) (h : Tm.upU 34 true (l.drop i) = none) :
    Calls Tryz.prog 79 #[rdp q] w (TermPost q l w (Tm.rlit (l.drop i))) := by
  have HN := hid (show Tm.rlit (l.drop i) = none by unfold Tm.rlit; rw [h])
  rw [HN.out]
  have hlt := hr.lt
  have UP := hid (fun (W : World) (hB : But q w W) (hr : Pr W q l i) => pup_any q l i 34 true W (hE.but hB hq) hq hr hl hi (by decide) (by decide))
  rw [h] at UP
  have UP2 : Hid (∀ W, But q w W → Pr W q l i → Calls Tryz.prog 76 #[rdp q, .int .u8 34, .bool true] W fun x w' => x = .returned (.tuple #[str [], .bool false]) ∧ (∃ j, j ≤ l.length ∧ ((none : Option (List UInt8 × List UInt8)) ≠ none → l.drop j = []) ∧ Pr w' q l j) ∧ But q W w') := UP
  have HR1 := hid (hr.keep ((Below.refl _ _).alloc (Nat.le_refl _) (.cells #[.int .i64 0, .string ⟨#[]⟩, .string ⟨#[]⟩] 26)))
  clear UP h hr hE
  go_enter Tryz.func79, Tryz.ntmps79
  have HB1 := hid (show But q w (w.alloc (.cells #[.int .i64 0, .string ⟨#[]⟩, .string ⟨#[]⟩] 26)) from But.below ((Below.refl w.heap.size w).alloc (Nat.le_refl _) _))
  have HT1 := hid (Blk.new w [.int .i64 0, str [], str []] 26)
  go_wp2_with fail
  refine (UP2.out _ HB1.out HR1.out).mono ?_
  rintro x w2 ⟨rfl, ⟨j, hj, _, hr2⟩, hb2⟩
  have HT2 := hid (But.blk HT1.out hb2 (by omega))
  have HB2 := hid (HB1.out.trans hb2)
  have HR2 := hid hr2
  clear hr2 hb2
  have g0 := HT2.out.cell (i := 0) rfl
  have g1 := HT2.out.cell (i := 1) rfl
  have g2 := HT2.out.cell (i := 2) rfl
  have k0 := HT2.out.free 0
  have k1 := HT2.out.free 1
  have k2 := HT2.out.free 2
  go_wp2
  have HX := fin_end (hT := HT2.out) (v0 := .int .i64 0) (v1 := .string ⟨([] : List UInt8).toArray⟩) (v2 := .string ⟨([] : List UInt8).toArray⟩) (hq := HR2.out) (hne := by omega) (hB := HB2.out) (hb := Nat.le_refl _)
  obtain ⟨hx1, hx2, hx3⟩ := HX
  exact bodyPost_ret (v := .tuple #[tmV (0 : Nat) [] [], .bool false]) (struct_ret2 rfl rfl hx1 Tryz.results79) rfl ⟨hx3, ⟨0, [], [], rfl⟩, j, hj, hx2⟩
end Go.Proofs.YtmfnbmbedplgcaaGreatDoor
