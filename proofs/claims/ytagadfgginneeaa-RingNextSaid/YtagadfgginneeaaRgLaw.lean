/- A ring: what the laws call, in one form. -/
import Derived.Test.YtagadfgginneeaaRgKnown
import Derived.Test.YtagadfgginneeaaRgRef4
import Derived.Test.YtagadfgginneeaaRgArg
namespace Go.Proofs.Ytagadfgginneeaa
set_option linter.unusedVariables false
set_option linter.unusedSimpArgs false
set_option maxRecDepth 100000
open Go.ChangeShapes Go.WideShapes Go.ChangeAt Go.RowKit
/-- The next number of whatever column. -/
def nxI (l : List Rg.T) (t : Rg.T) (col v : Int) : Int := if 0 ≤ col ∧ col < 3 then Rg.nxR l t col.toNat v else 0
theorem Fits.low {t : Rg.T} (h : Fits t) : ∀ c, c < 3 → -9223372036854775808 ≤ Rg.at' t c := fun c hc => (h c hc).1
theorem next_int (p : Nat) (l : List Rg.T) (t : Rg.T) (col v : Int) (w : World) (h : IsRing w p l) (ht : Fits t) :
    Calls Try.prog 19 #[.pointer (some ⟨p, 0, none⟩), tv t, .int .i64 col, .int .i64 v] w fun e w' => e = .returned (.int .i64 (nxI l t col v)) ∧ Below w.heap.size w w' := by
  unfold nxI
  by_cases hc : 0 ≤ col ∧ col < 3
  · rw [if_pos hc]
    have := rnext_any p col.toNat l t v w h ht.low (by omega)
    rwa [Int.toNat_of_nonneg hc.1] at this
  · rw [if_neg hc]
    exact rnext_out p t col v w (by omega)
theorem refnext_int (v0 : Value) (l : List Rg.T) (t : Rg.T) (col v : Int) (w : World) (h : IdsAt w v0 l) (hl : l.length ≤ 140737488351232) :
    Calls Try.prog 20 #[v0, tv t, .int .i64 col, .int .i64 v] w fun e w' => e = .returned (.int .i64 (nxI l t col v)) ∧ Below w.heap.size w w' := by
  unfold nxI
  by_cases hc : 0 ≤ col ∧ col < 3
  · rw [if_pos hc]
    have := refnext_any v0 col.toNat l t v w h hl (by omega)
    rwa [Int.toNat_of_nonneg hc.1] at this
  · rw [if_neg hc]
    exact refnext_out v0 t col v w (by omega)
theorem rgnew_ok (v0 : Value) (l : List Rg.T) (w : World) (h : IdsAt w v0 l) (hm : RMay l) :
    Calls Try.prog 11 #[v0] w fun e w' => ∃ p, e = .returned (.tuple #[.pointer (some ⟨p, 0, none⟩), .int .i64 0]) ∧ Below w.heap.size w w' ∧ Fresh w.heap.size w' (fun W => IsRing W p l) :=
  (rnew_any v0 l w h (by have := hm.2.2; omega)).mono fun e w' ⟨hb, h⟩ => by
    rcases h with ⟨_, p, he, hf⟩ | ⟨h, _⟩
    · exact ⟨p, he, hb, hf⟩
    · exact absurd hm h
theorem rgnew_no (v0 : Value) (l : List Rg.T) (w : World) (h : IdsAt w v0 l) (hl : l.length ≤ 140737488351232) (hm : ¬ RMay l) :
    Calls Try.prog 11 #[v0] w fun e w' => e = .returned (.tuple #[.pointer none, .int .i64 1]) ∧ Below w.heap.size w w' :=
  (rnew_any v0 l w h hl).mono fun e w' ⟨hb, h⟩ => by
    rcases h with ⟨h, _⟩ | ⟨_, he⟩
    · exact absurd h hm
    · exact ⟨he, hb⟩
theorem mt_len (l : List Rg.T) (t : Rg.T) : (l.filter (Rg.mt t)).length = l.countP (Rg.mt t) := List.countP_eq_length_filter.symm
theorem lit2_at (x y : Rg.T) (W : World) : IdsAt (W.alloc (.cells #[.int .i64 x.1, .int .i64 x.2.1, .int .i64 x.2.2, .int .i64 y.1, .int .i64 y.2.1, .int .i64 y.2.2] 24)) (.slice (some ⟨W.heap.size, 0, none⟩) 2 2) [x, y] :=
  lit_ids (L := [x, y]) (t := 24) (by rw [fl_two]; exact Blk.new W (tl x ++ tl y) 24) (by simp)
theorem lit1_at (x : Rg.T) (W : World) : IdsAt (W.alloc (.cells #[.int .i64 x.1, .int .i64 x.2.1, .int .i64 x.2.2] 24)) (.slice (some ⟨W.heap.size, 0, none⟩) 1 1) [x] :=
  lit_ids (L := [x]) (t := 24) (by rw [fl_one']; exact Blk.new W (tl x) 24) (by simp)
theorem lit2_no (x y : Rg.T) (W : World) (hm : mayB [x, y] = false) :
    Calls Try.prog 11 #[.slice (some ⟨W.heap.size, 0, none⟩) 2 2] (W.alloc (.cells #[.int .i64 x.1, .int .i64 x.2.1, .int .i64 x.2.2, .int .i64 y.1, .int .i64 y.2.1, .int .i64 y.2.2] 24)) fun e w' => e = .returned (.tuple #[.pointer none, .int .i64 1]) ∧ Below W.heap.size W w' :=
  (rgnew_no _ [x, y] _ (lit2_at x y W) (by simp) (fun h => by rw [(mayB_iff _).2 h] at hm; cases hm)).mono fun e w' ⟨he, hb⟩ => ⟨he, below_then ((Below.refl _ _).alloc (Nat.le_refl _) _) hb⟩
theorem lit1_no (x : Rg.T) (W : World) (hm : mayB [x] = false) :
    Calls Try.prog 11 #[.slice (some ⟨W.heap.size, 0, none⟩) 1 1] (W.alloc (.cells #[.int .i64 x.1, .int .i64 x.2.1, .int .i64 x.2.2] 24)) fun e w' => e = .returned (.tuple #[.pointer none, .int .i64 1]) ∧ Below W.heap.size W w' :=
  (rgnew_no _ [x] _ (lit1_at x W) (by simp) (fun h => by rw [(mayB_iff _).2 h] at hm; cases hm)).mono fun e w' ⟨he, hb⟩ => ⟨he, below_then ((Below.refl _ _).alloc (Nat.le_refl _) _) hb⟩
end Go.Proofs.Ytagadfgginneeaa
