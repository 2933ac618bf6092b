/- term's Show, Cmp. -/
import Derived.Test.YtmfnbmbedplgcaaGreatDoorTmQuote
import Derived.Test.YtmfnbmbedplgcaaGreatDoorShelf
import Derived.Deep.RegionWith
namespace Go.Proofs.YtmfnbmbedplgcaaGreatDoor
set_option linter.unusedVariables false
set_option linter.unusedSimpArgs false
set_option maxRecDepth 100000
open Go.ChangeShapes Go.WideShapes Go.ChangeAt Go.RowKit

/-- A term. -/
abbrev tmV (k : Int) (t x : List UInt8) : Value := .agg #[.int .i64 k, str t, str x]
/-- A term's text, at any kind. -/
def Tm.show (k : Int) (t x : List UInt8) : List UInt8 := if 1 ≤ k ∧ k ≤ 5 then Tm.showT k.toNat t x else []
theorem Tm.show_none {k : Int} (h : k < 1 ∨ 5 < k) (t x : List UInt8) : Tm.show k t x = [] := by unfold Tm.show; rw [if_neg (by omega)]
theorem Tm.show_some {k : Nat} (h : 1 ≤ k ∧ k ≤ 5) (t x : List UInt8) : Tm.show (k : Int) t x = Tm.showT k t x := by unfold Tm.show; rw [if_pos (by omega), Int.toNat_natCast]
theorem ba_append (a b : List UInt8) : (⟨a.toArray⟩ ++ ⟨b.toArray⟩ : ByteArray) = ⟨(a ++ b).toArray⟩ := by
  apply ByteArray.ext
  rw [ByteArray.data_append]
  simp
theorem tm_cells {w w' : World} {a b c : Value} {t : TypeId} (h : Below (w.alloc (.cells #[a, b, c] t)).heap.size (w.alloc (.cells #[a, b, c] t)) w') :
    w'.cell? ⟨w.heap.size, 0, none⟩ = some a ∧ w'.cell? ⟨w.heap.size, 1, none⟩ = some b ∧ w'.cell? ⟨w.heap.size, 2, none⟩ = some c ∧ Below w.heap.size w w' := by
  refine ⟨below_keep h ?_, below_keep h ?_, below_keep h ?_, below_then ((Below.refl w.heap.size w).alloc (Nat.le_refl _) (.cells #[a, b, c] t)) h⟩
  · rw [cell_new]; rfl
  · rw [cell_new]; rfl
  · rw [cell_new]; rfl
theorem tm_cells_d {w w' : World} {a b c : Value} {t : TypeId} (h : Below (w.alloc (.cells #[a, b, c] t)).drew.heap.size (w.alloc (.cells #[a, b, c] t)).drew w') :
    w'.cell? ⟨w.heap.size, 0, none⟩ = some a ∧ w'.cell? ⟨w.heap.size, 1, none⟩ = some b ∧ w'.cell? ⟨w.heap.size, 2, none⟩ = some c ∧ Below w.heap.size w w' :=
  tm_cells (t := t) (a := a) (b := b) (c := c) (⟨h.os, h.tape, h.output, h.size, h.block⟩)
/-- A struct that has just been boxed, whatever grows behind it. -/
theorem tm_box (W : World) (a b c : Value) (t : TypeId) : ∃ w2, w2 = W.alloc (.cells #[a, b, c] t) ∧ (∀ p : Later w2.heap.size w2, p.it.cell? ⟨W.heap.size, 0, none⟩ = some a) ∧ (∀ p : Later w2.heap.size w2, p.it.cell? ⟨W.heap.size, 1, none⟩ = some b) ∧ (∀ p : Later w2.heap.size w2, p.it.cell? ⟨W.heap.size, 2, none⟩ = some c) ∧ Hid (Below W.heap.size W w2) :=
  ⟨_, rfl, fun p => (tm_cells p.low).1, fun p => (tm_cells p.low).2.1, fun p => (tm_cells p.low).2.2.1, (Below.refl W.heap.size W).alloc (Nat.le_refl _) _⟩
set_option maxHeartbeats 1000000 in
theorem tshow_any (k : Int) (t x : List UInt8) (W : World) (ht : t.length ≤ 1000000000) (hx : x.length ≤ 1000000000) :
    Calls Tryz.prog 46 #[tmV k t x] W fun e W' => e = .returned (str (Tm.show k t x)) ∧ Below W.heap.size W W' := by
  have QU := hid (fun W => quote_any t W ht)
  have hle := Tm.escs_len t
  rcases (show k = 1 ∨ k = 2 ∨ k = 3 ∨ k = 4 ∨ k = 5 ∨ (k < 1 ∨ 5 < k) by omega) with h | h | h | h | h | h
  · subst h
    go_enter Tryz.func46, Tryz.ntmps46
    go_wp2
    go_ret
    exact ⟨by simp [Tm.show, Tm.showT, ba_append], (Below.refl _ _).alloc (Nat.le_refl _) _⟩
  · subst h
    go_enter Tryz.func46, Tryz.ntmps46
    go_wp2
    go_ret
    exact ⟨by simp [Tm.show, Tm.showT, ba_append], (Below.refl _ _).alloc (Nat.le_refl _) _⟩
  · subst h
    go_enter Tryz.func46, Tryz.ntmps46
    go_wp2_with (go_at_call 65; refine (QU.out _).mono ?_; rintro e w' ⟨rfl, hb⟩)
    go_ret
    exact ⟨by simp [Tm.show, Tm.showT, ba_append], ((Below.refl _ _).alloc (Nat.le_refl _) _).trans (hb.mono (by simp))⟩
  · subst h
    go_enter Tryz.func46, Tryz.ntmps46
    go_wp2
    obtain ⟨w2, hw2, k0, k1, k2, HB⟩ := tm_box W (.int .i64 4) (str t) (str x) 26
    rw [← hw2]
    clear hw2
    refine wp_region_later w2.heap.size (by kernel_rfl) (by kernel_rfl) ?_
    repeat (go_big_quiet_step ((go_at_call 65; with_reducible exact Later.call (Nat.le_refl _) (QU.out _))))
    refine wpQuiet_nil ?_
    rintro _ ⟨p, rfl⟩
    have HP := hid (below_then HB.out p.low)
    clear k0 k1 k2
    go_wp2
    go_ret
    exact ⟨by simp [Tm.show, Tm.showT, ba_append] <;> rfl, HP.out⟩
  · subst h
    go_enter Tryz.func46, Tryz.ntmps46
    go_wp2
    obtain ⟨w2, hw2, k0, k1, k2, HB⟩ := tm_box W (.int .i64 5) (str t) (str x) 26
    rw [← hw2]
    clear hw2
    refine wp_region_later w2.heap.size (by kernel_rfl) (by kernel_rfl) ?_
    repeat (go_big_quiet_step ((go_at_call 65; with_reducible exact Later.call (Nat.le_refl _) (QU.out _))))
    refine wpQuiet_nil ?_
    rintro _ ⟨p, rfl⟩
    have HP := hid (below_then HB.out p.low)
    clear k0 k1 k2
    go_wp2
    go_ret
    exact ⟨by simp [Tm.show, Tm.showT, ba_append] <;> rfl, HP.out⟩
  · have b1 : (k == 1) = false := beq_eq_false_iff_ne.2 (by omega)
    have b2 : (k == 2) = false := beq_eq_false_iff_ne.2 (by omega)
    have b3 : (k == 3) = false := beq_eq_false_iff_ne.2 (by omega)
    have b4 : (k == 4) = false := beq_eq_false_iff_ne.2 (by omega)
    have b5 : (k == 5) = false := beq_eq_false_iff_ne.2 (by omega)
    have HS := hid (Tm.show_none h t x)
    clear h
    go_enter Tryz.func46, Tryz.ntmps46
    go_wp2
    go_ret
    exact ⟨by rw [HS.out]; rfl, (Below.refl _ _).alloc (Nat.le_refl _) _⟩
end Go.Proofs.YtmfnbmbedplgcaaGreatDoor
