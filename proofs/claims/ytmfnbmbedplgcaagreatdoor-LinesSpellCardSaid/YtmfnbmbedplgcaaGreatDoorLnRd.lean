/- The document's reader: what it holds, what its steps leave; its small steps. -/
import Derived.Test.YtmfnbmbedplgcaaGreatDoorTmRIs
import Derived.Deep.LoopGhost
namespace Go.Proofs.YtmfnbmbedplgcaaGreatDoor
set_option linter.unusedVariables false
set_option linter.unusedSimpArgs false
set_option maxRecDepth 100000
open Go.ChangeShapes Go.WideShapes Go.ChangeAt Go.RowKit

abbrev rdp (q : Nat) : Value := .pointer (some ⟨q, 0, none⟩)
/-- All but block q is as it was. -/
def But (q : Nat) (w w' : World) : Prop := w.grownBy w' (some q)
theorem But.refl (q : Nat) (w : World) : But q w w := ⟨rfl, rfl, rfl, Nat.le_refl _, fun _ _ _ => rfl⟩
theorem But.trans {q : Nat} {a b c : World} (h : But q a b) (k : But q b c) : But q a c :=
  ⟨k.os.trans h.os, k.tape.trans h.tape, k.output.trans h.output, Nat.le_trans h.size k.size, fun i hi hn => (k.block i (Nat.lt_of_lt_of_le hi h.size) hn).trans (h.block i hi hn)⟩
theorem But.below {q : Nat} {a b : World} (h : Below a.heap.size a b) : But q a b := ⟨h.os, h.tape, h.output, h.size, fun i hi _ => h.block i hi⟩
theorem But.set (q : Nat) (w : World) (i : Nat) (v : Value) : But q w (w.setCell ⟨q, i, none⟩ v) :=
  ⟨rfl, rfl, rfl, by simp, fun k hk hn => Below.heap_setCell _ _ _ _ (by simpa using fun e => hn (by rw [e]))⟩
theorem But.drawn (q : Nat) (w : World) (n : Nat) : But q w (w.drewN n) := ⟨rfl, rfl, rfl, Nat.le_refl _, fun _ _ _ => rfl⟩
theorem But.into {q : Nat} {a b c : World} (hb : Below a.heap.size a b) (h : But q b c) (hq : a.heap.size ≤ q) : Below a.heap.size a c :=
  hb.grown h hb.size (fun k hk => by cases hk; exact hq)
theorem But.blk {q k : Nat} {w w' : World} {A : List Value} {t : TypeId} (h : Blk w k A t) (hb : But q w w') (hk : k ≠ q) : Blk w' k A t := by
  unfold Blk; rw [hb.block k h.lt (by simpa using hk)]; exact h
def blankC (c : UInt8) : Bool := c == 32 || c == 9
theorem blankC_true {c : UInt8} (h : c.toNat = 32 ∨ c.toNat = 9) : blankC c = true := by
  unfold blankC
  rcases h with h | h
  · rw [UInt8.toNat_inj.1 (show c.toNat = (32 : UInt8).toNat from h)]; rfl
  · rw [UInt8.toNat_inj.1 (show c.toNat = (9 : UInt8).toNat from h)]; rfl
theorem blankC_false {c : UInt8} (h : c.toNat ≠ 32 ∧ c.toNat ≠ 9) : blankC c = false := by
  unfold blankC
  rw [Bool.or_eq_false_iff, beq_eq_false_iff_ne, beq_eq_false_iff_ne]
  exact ⟨fun e => h.1 (by rw [e]; rfl), fun e => h.2 (by rw [e]; rfl)⟩
/-- A letter or digit, or -, where that may stand. -/
def alp (d : Bool) (c : UInt8) : Bool := Tm.alnum c || (d && c == 45)
theorem alp_false : alp false = Tm.alnum := by funext c; simp [alp]
theorem alp_true : alp true = Tm.alnumD := by funext c; simp [alp, Tm.alnumD]
theorem takeWhile_at (p : UInt8 → Bool) : ∀ (s : List UInt8) (n : Nat), n ≤ s.length → (s.take n).all p = true → (∀ c, s[n]? = some c → p c = false) → s.takeWhile p = s.take n ∧ s.dropWhile p = s.drop n
  | [], 0, _, _, _ => ⟨rfl, rfl⟩
  | [], n + 1, h, _, _ => by simp at h
  | c :: s, 0, _, _, h => by have := h c rfl; simp [this]
  | c :: s, n + 1, hn, ha, h => by
    rw [List.take_succ_cons, List.all_cons, Bool.and_eq_true] at ha
    have ih := takeWhile_at p s n (by simpa using hn) ha.2 (fun d hd => h d (by simpa using hd))
    simp [ha.1, ih.1, ih.2]
end Go.Proofs.YtmfnbmbedplgcaaGreatDoor
