/- query's reader of paths: its place in a text; peek, around. -/
import Derived.Test.YtagmgkplfhlifaaDoorQpMath
import Derived.Test.YtagmgkplfhlifaaDoorQPath
import Derived.Test.YtagmgkplfhlifaaDoorShelf
namespace Go.Proofs.YtagmgkplfhlifaaDoor
set_option linter.unusedVariables false
set_option linter.unusedSimpArgs false
set_option maxRecDepth 100000
open Go.ChangeShapes Go.WideShapes Go.ChangeAt Go.RowKit
open Au
/-- Block q holds a reader of l at place i. -/
def Qr (w : World) (q : Nat) (l : T) (i : Nat) : Prop := Blk w q [str l, .int .i64 i] 57
abbrev isQ (q : Nat) : Nat → Prop := fun k => k = q
theorem Qr.cells {w : World} {q : Nat} {l : T} {i : Nat} (h : Qr w q l i) : w.cell? ⟨q, 0, none⟩ = some (str l) ∧ w.cell? ⟨q, 1, none⟩ = some (.int .i64 i) ∧ w.frozen? ⟨q, 0, none⟩ = false ∧ w.frozen? ⟨q, 1, none⟩ = false :=
  ⟨Blk.cell h rfl, Blk.cell h rfl, Blk.free h 0, Blk.free h 1⟩
theorem Qr.keep {w w' : World} {q : Nat} {l : T} {i : Nat} (h : Qr w q l i) (hb : Below w.heap.size w w') : Qr w' q l i := Blk.keep h hb
theorem Qr.to {w : World} {q : Nat} {l : T} {i : Nat} (h : Qr w q l i) (j : Nat) : Qr (w.setCell ⟨q, 1, none⟩ (.int .i64 j)) q l j := Blk.set h 1 _
theorem Qr.lt {w : World} {q : Nat} {l : T} {i : Nat} (h : Qr w q l i) : q < w.heap.size := Blk.lt h
theorem qdrop_get (l : T) (i : Nat) (c : UInt8) (u : T) (h : l.drop i = c :: u) : i < l.length ∧ l[i]? = some c ∧ l.drop (i + 1) = u := by
  have h1 : i < l.length := by
    rcases Nat.lt_or_ge i l.length with k | k
    · exact k
    · rw [List.drop_of_length_le k] at h; cases h
  have h2 := List.drop_eq_getElem_cons h1
  rw [h] at h2
  simp only [List.cons.injEq] at h2
  exact ⟨h1, by rw [List.getElem?_eq_getElem h1, ← h2.1], h2.2.symm⟩
theorem qdrop_none (l : T) (i : Nat) (h : l.drop i = []) : l.length ≤ i := by
  rcases Nat.lt_or_ge i l.length with k | k
  · rw [List.drop_eq_getElem_cons k] at h; cases h
  · exact k
/-- What peek leaves. -/
def PeekPost (q : Nat) (l : T) (i : Nat) (w : World) (e : Ending) (w' : World) : Prop :=
  ∃ j, e = .returned (.int .u8 (Qp.hd (l.drop j) : Nat)) ∧ i ≤ j ∧ j ≤ l.length ∧ l.drop j = Qp.skip (l.drop i) ∧ Qr w' q l j ∧ Frm (isQ q) w w'
theorem frm_drawn {X : Nat → Prop} {w w' : World} (h : Frm X w w') (n : Nat) : Frm X w (w'.drewN n) := h.drewN n
set_option maxHeartbeats 2000000 in
theorem qpeek_any (q : Nat) (l : T) (i : Nat) (w : World) (hr : Qr w q l i) (hl : l.length ≤ 100000000) (hi : i ≤ l.length) :
    Calls Tryd.prog 46 #[.pointer (some ⟨q, 0, none⟩)] w (PeekPost q l i w) := by
  have HR := hid hr
  clear hr
  go_enter Tryd.func46, Tryd.ntmps46
  go_wp2
  go_loopg [] l.length (fun gk wr => ∃ j : Nat, i ≤ j ∧ j ≤ l.length ∧ l.length - j ≤ gk ∧ Hid (Qr wr q l j) ∧ Hid (Frm (isQ q) w wr) ∧ Hid (Qp.skip (l.drop j) = Qp.skip (l.drop i)))
  case atStart => exact ⟨i, Nat.le_refl _, hi, by omega, HR, Frm.refl _ _, rfl⟩
  case round =>
    obtain ⟨j, hij, hj, hg, HT, HB, HD⟩ := hrel
    obtain ⟨c0, c1, f0, f1⟩ := HT.out.cells
    match hd : l.drop j with
    | [] =>
      have hjl : j = l.length := by have := qdrop_none l j hd; omega
      have HDD := hid hd
      subst hjl
      have hjb : decide ((l.length : Int) < (l.length : Int)) = false := decide_eq_false (by omega)
      have HF := hid (show l.drop l.length = Qp.skip (l.drop i) by rw [← HD.out, HDD.out]; rfl)
      have HH := hid (show Qp.hd (l.drop l.length) = 0 by rw [HDD.out]; rfl)
      clear hd
      go_wp2
      go_quiet (fail)
      go_wp2
      go_quiet (fail)
      go_wp2
      go_ret
      exact ⟨l.length, by rw [HH.out]; rfl, hij, Nat.le_refl _, HF.out, HT.out, (HB.out.drewN _).drewN _⟩
    | c :: u =>
      obtain ⟨hjl, hget, hdu⟩ := qdrop_get l j c u hd
      have hcc := fun q => ba_get l j c hget q
      have hjI : (j : Int) < (l.length : Int) := by omega
      have hjb : decide ((j : Int) < (l.length : Int)) = true := decide_eq_true hjI
      have hje : ((j : Int) == (l.length : Int)) = false := beq_eq_false_iff_ne.2 (by omega)
      have HDD := hid hd
      have HDU := hid hdu
      clear hd hdu hget
      by_cases h : c = 32
      · have HD2 := hid (show Qp.skip (l.drop (j + 1)) = Qp.skip (l.drop i) by rw [← HD.out, HDD.out, HDU.out]; unfold Qp.skip; rw [List.dropWhile_cons, h]; rfl)
        have b1 : ((c.toNat : Int) == 32) = true := by rw [h]; rfl
        clear h
        go_wp2
        go_quiet (fail)
        go_wp2
        go_roundg (l.length - (j + 1))
        case measure => omega
        case rel => exact ⟨j + 1, by omega, by omega, Nat.le_refl _, hid (Qr.to (w := wr.drewN nq) HT.out (j + 1)), hid ((HB.out.drewN nq).set (Or.inl rfl) 1 _), HD2⟩
      · have hc32 : c.toNat ≠ 32 := fun e => h (UInt8.toNat_inj.1 e)
        have b1 : ((c.toNat : Int) == 32) = false := beq_eq_false_iff_ne.2 (by omega)
        have HF := hid (show l.drop j = Qp.skip (l.drop i) by
          rw [← HD.out, HDD.out]
          unfold Qp.skip
          rw [List.dropWhile_cons, if_neg (by simpa using h)])
        have HH := hid (show Qp.hd (l.drop j) = c.toNat by rw [HDD.out]; rfl)
        clear h
        go_wp2
        go_quiet (fail)
        go_wp2
        go_quiet (fail)
        go_wp2
        go_quiet (fail)
        go_wp2
        go_ret
        exact ⟨j, by rw [HH.out]; rfl, hij, hj, HF.out, HT.out, ((HB.out.drewN _).drewN _).drewN _⟩
end Go.Proofs.YtagmgkplfhlifaaDoor
