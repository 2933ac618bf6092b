/- Triples in memory, sorted; the column ahead. -/
import Derived.Test.YtagadfgginneeaaRgEq
import Derived.Test.YtagadfgginneeaaLayG
import Derived.Test.YtagadfgginneeaaWvNats
import Derived.Laws.OwnMore
namespace Go.Proofs.Ytagadfgginneeaa
set_option linter.unusedVariables false
set_option linter.unusedSimpArgs false
set_option maxRecDepth 100000
open Go.ChangeShapes Go.WideShapes Go.ChangeAt Go.RowKit Go.Sort
/-- Triples lie there. -/
def IdsAt (W : World) (v : Value) (L : List Rg.T) : Prop := ∃ (a : Option Addr) (cap : Nat), v = .slice a L.length cap ∧ L.length ≤ cap ∧ cap ≤ maxLen ∧ (a = none → cap = 0) ∧
  (L.length = 0 ∨ ∃ b off, a = some ⟨b, off, none⟩ ∧ ∀ i (h : i < L.length) c, c < 3 → W.cell? ⟨b, off + i * 3 + c, none⟩ = some (.int .i64 (Rg.at' L[i] c)))
theorem IdsAt.keep {W W' : World} {v : Value} {L : List Rg.T} (h : IdsAt W v L) (hb : Below W.heap.size W W') : IdsAt W' v L := by
  obtain ⟨a, cap, h1, h2, h3, h4, h5⟩ := h
  refine ⟨a, cap, h1, h2, h3, h4, ?_⟩
  rcases h5 with h5 | ⟨b, off, e, h5⟩
  · exact Or.inl h5
  · exact Or.inr ⟨b, off, e, fun i hi c hc => below_keep hb (h5 i hi c hc)⟩
theorem IdsAt.nil (W : World) : IdsAt W (.slice none 0 0) [] := ⟨none, 0, rfl, Nat.le_refl _, by unfold maxLen; omega, fun _ => rfl, Or.inl rfl⟩
theorem IdsAt.open {W : World} {v : Value} {L : List Rg.T} (h : IdsAt W v L) : ∃ a cap, v = .slice a L.length cap ∧ L.length ≤ cap ∧ cap ≤ maxLen ∧ (a = none → cap = 0) := by
  obtain ⟨a, cap, h1, h2, h3, h4, _⟩ := h
  exact ⟨a, cap, h1, h2, h3, h4⟩
theorem IdsAt.get {W : World} {a : Option Addr} {n cap : Nat} {L : List Rg.T} (h : IdsAt W (.slice a n cap) L) {i : Nat} (hi : i < L.length) : ∃ b off, a = some ⟨b, off, none⟩ ∧ ∀ i (h : i < L.length) c, c < 3 → W.cell? ⟨b, off + i * 3 + c, none⟩ = some (.int .i64 (Rg.at' L[i] c)) := by
  obtain ⟨a', cap', e, h2, h3, h4, h5⟩ := h
  simp only [Value.slice.injEq] at e
  obtain ⟨rfl, rfl, rfl⟩ := e
  rcases h5 with h5 | h5
  · omega
  · exact h5
open Go.Sort in
theorem sortW_block {w : World} {blk off n k : Nat} {d : Array Rg.T} {os : Array Obj} (hk : k < w.heap.size) (hne : k ≠ blk) : (sortWorldK tl 3 w blk off n d os).heap[k]? = w.heap[k]? := by
  unfold sortWorldK
  rw [Go.Sort.heap_grow_old _ _ (by show k < (putRow id (Go.Sort.ahead w n) blk off _).heap.size; simp [putRow, mapBlock, Go.Sort.ahead]; exact hk)]
  show (putRow id (Go.Sort.ahead w n) blk off _).heap[k]? = _
  simp only [putRow, mapBlock, Array.getElem?_modify]
  rw [if_neg (fun e => hne e.symm)]; rfl
theorem sortW_below {B : Nat} {w0 w : World} {blk off n : Nat} {d : Array Rg.T} {os : Array Obj} (h : Below B w0 w) (hB : B ≤ blk) (hw : B ≤ w.heap.size) : Below B w0 (sortWorldK tl 3 w blk off n d os) := by
  have hz : w.heap.size ≤ (sortWorldK tl 3 w blk off n d os).heap.size := size_sortWorldK_c tl 3 w blk off n d os
  exact ⟨h.os, h.tape, h.output, Nat.le_trans h.size hz, fun k hk => by rw [sortW_block (by omega) (by omega)]; exact h.block k hk⟩
theorem tl_at (t : Rg.T) (c : Nat) (hc : c < 3) : (tl t)[c]! = .int .i64 (Rg.at' t c) := by
  rcases Rg.c3 hc with rfl | rfl | rfl <;> rfl
theorem arr_at (l : List Rg.T) (i : Nat) (h : i < l.length) : l.toArray[i]! = l[i] := by
  rw [getElem!_pos l.toArray i (by simpa using h)]; simp
/-- The row's cells, one behind the other. -/
def fl (l : List Rg.T) : List Value := (flatK tl 3 l.toArray).toList
theorem fl_length (l : List Rg.T) : (fl l).length = l.length * 3 := by unfold fl; simp
theorem fl_get {l : List Rg.T} {j : Nat} {u : Value} (h : (fl l)[j]? = some u) : ∃ (hi : j / 3 < l.length), u = .int .i64 (Rg.at' l[j / 3] (j % 3)) := by
  have hj : j < l.length * 3 := by rw [← fl_length]; exact (List.getElem?_eq_some_iff.1 h).1
  have hi : j / 3 < l.length := by omega
  refine ⟨hi, ?_⟩
  have h2 := get_flatK tl 3 l.toArray j (by simpa using hj)
  have h3 : (flatK tl 3 l.toArray)[j]! = u := by
    unfold fl at h
    rw [Array.getElem?_toList] at h
    rw [getElem!_def, h]
  rw [h3, arr_at l _ hi, tl_at _ _ (Nat.mod_lt _ (by decide))] at h2
  exact h2
theorem fl_some (l : List Rg.T) (i c : Nat) (hi : i < l.length) (hc : c < 3) : (fl l)[i * 3 + c]? = some (.int .i64 (Rg.at' l[i] c)) := by
  obtain ⟨u, hu⟩ : ∃ u, (fl l)[i * 3 + c]? = some u := ⟨_, List.getElem?_eq_getElem (by rw [fl_length]; omega)⟩
  obtain ⟨h1, h2⟩ := fl_get hu
  rw [hu, h2]
  have e1 : (i * 3 + c) / 3 = i := by omega
  have e2 : (i * 3 + c) % 3 = c := by omega
  simp only [e1, e2]
theorem fl_one (l : List Rg.T) : ∀ u ∈ fl l, u.oneCell' = true := by
  intro u hu
  obtain ⟨j, hj⟩ := List.getElem?_of_mem hu
  obtain ⟨_, e⟩ := fl_get hj
  rw [e]; rfl
theorem holds_own {W : World} {base g cap : Nat} {l : List Rg.T} (h : W.ownsRow base 24 3 (.slice (some ⟨g, 0, none⟩) l.length cap) l.length (fl l)) : HoldsK tl 3 W g 0 l.toArray := by
  intro j hj
  have hj' : j < l.length * 3 := by simpa using hj
  rw [Nat.zero_add]
  refine ⟨?_, h.frozenAt j⟩
  rw [h.cellAt j hj']
  unfold fl
  rw [Array.getElem?_toList, getElem!_pos _ j hj, Array.getElem?_eq_getElem hj]; rfl
theorem holds_ids {W : World} {g cap : Nat} {l : List Rg.T} (h : HoldsK tl 3 W g 0 l.toArray) (hc : l.length ≤ cap) (hm : cap ≤ maxLen) : IdsAt W (.slice (some ⟨g, 0, none⟩) l.length cap) l := by
  refine ⟨some ⟨g, 0, none⟩, cap, rfl, hc, hm, (fun h => by cases h), Or.inr ⟨g, 0, rfl, fun i hi c hc => ?_⟩⟩
  have := (HoldsK.cell h (i := i) (c := c) (by simpa using hi) hc).1
  rw [this, arr_at l i hi, tl_at _ _ hc]
theorem swo (c : Nat) : Go.Sort.SWO (ltOf (Rg.cf c)) where
  irrefl x := by simp only [ltOf, Rg.cf, Rg.cmp_neg, decide_eq_false_iff_not]; exact Rg.lt_irrefl _
  trans x y z h1 h2 := by simp only [ltOf, Rg.cf, Rg.cmp_neg, decide_eq_true_eq] at *; exact Rg.lt_trans h1 h2
  ntrans x y z h1 h2 := by simp only [ltOf, Rg.cf, Rg.cmp_neg, decide_eq_false_iff_not, Rg.lt] at *; omega
theorem lt_parts (c : Nat) (hc : c < 3) (x y : Rg.T) (h1 : ltOf (Rg.cf c) x y = false) (h2 : ltOf (Rg.cf c) y x = false) : x = y := by
  simp only [ltOf, Rg.cf, Rg.cmp_neg, decide_eq_false_iff_not] at *
  exact Rg.rot_inj hc (Rg.lt_total h1 h2)
/-- Sorted by what a closure says, where it says how the orders that c begins stand. -/
theorem sort_any (c g : Nat) (hc : c < 3) (cb : Array Value) (blk cap : Nat) (l : List Rg.T) (w : World) (eg : ∀ args w, (callFunc g args).run Try.prog w = .ok (.enter g args) w) (hl : l.length ≤ 100)
    (hcmp : CmpLays Try.prog g cb tl 3 (Rg.cf c) blk 0 l.toArray.size w) (hH : HoldsK tl 3 w blk 0 l.toArray) (hblk : blk < w.heap.size) (hm : l.length ≤ cap) (hm2 : cap ≤ maxLen) :
    Calls Try.prog 30 #[.slice (some ⟨blk, 0, none⟩) l.length cap, .func (.func g) #[] cb] w fun e w' => e = .returned (.tuple #[]) ∧ IdsAt w' (.slice (some ⟨blk, 0, none⟩) l.length cap) (Rg.O l c) ∧ (∀ B w0, Below B w0 w → B ≤ blk → B ≤ w.heap.size → Below B w0 w') ∧ (∀ k, k < w.heap.size → k ≠ blk → w'.heap[k]? = w.heap[k]?) ∧ HoldsK tl 3 w' blk 0 (Rg.O l c).toArray := by
  have h := AnyQ.slices_SortFunc_total Try.sortIDs 3 Try.isAgg24 Try.sizeOf24 tl (fun _ => rfl) (fun x v hv => by simp [tl] at hv; rcases hv with rfl | rfl | rfl <;> rfl) (Rg.cf c) (swo c) g cb blk 0 cap l.toArray w eg hcmp hH hblk (by simp; omega) (lt_parts c hc)
  change Calls Try.prog 30 _ _ _ at h
  have e0 : l.toArray.size = l.length := by simp
  rw [e0] at h
  refine h.mono ?_
  rintro e w' ⟨rfl, n, os, rfl⟩
  have eO : (l.toArray.toList.mergeSort fun x y => !(ltOf (Rg.cf c)) y x).toArray = (Rg.O l c).toArray := rfl
  rw [eO]
  have hO := holdsK_sortWorldK_c tl 3 w blk 0 l.toArray (Rg.O l c).toArray n os hH hblk (by simp [Rg.O_length])
  refine ⟨rfl, ?_, fun B w0 h1 h2 h3 => sortW_below h1 h2 h3, (fun k h1 h2 => sortW_block h1 h2), hO⟩
  rw [← Rg.O_length l c]
  exact holds_ids hO (by rw [Rg.O_length]; exact hm) hm2
theorem sort_none (g cap : Nat) (a : Option Addr) (cb : Array Value) (w : World) : Calls Try.prog 30 #[.slice a 0 cap, .func (.func g) #[] cb] w fun e w' => e = .returned (.tuple #[]) ∧ w' = w := by
  have h := AnyF.slices_SortFunc_none Try.sortIDs a cap (.func (.func g) #[] cb) w
  change Calls Try.prog 30 _ _ _ at h
  exact h
theorem cmpLays_col (c bc blk n : Nat) (hc : c < 3) (w : World) (hb : w.cell? ⟨bc, 0, none⟩ = some (.int .i64 c)) (hne : bc ≠ blk) : CmpLays Try.prog 42 #[.pointer (some ⟨bc, 0, none⟩)] tl 3 (Rg.cf c) blk 0 n w := by
  intro m os dk hdk x y
  have hlt := lt_of_cell hb
  have hb2 : (sortWorldK tl 3 w blk 0 m dk os).cell? ⟨bc, 0, none⟩ = some (.int .i64 c) := by
    rw [← hb]; simp only [World.cell?, sortW_block hlt hne]
  have := colF_any x y c bc hc (sortWorldK tl 3 w blk 0 m dk os) hb2
  unfold tv at this
  refine this.mono ?_
  rintro e w' ⟨rfl, h1, h2⟩
  exact ⟨rfl, grown_eq h1 h2⟩
theorem cmpLays_cmp (blk n : Nat) (w : World) : CmpLays Try.prog 23 #[] tl 3 (Rg.cf 0) blk 0 n w := by
  intro m os dk hdk x y
  have := rcmp_any x y (sortWorldK tl 3 w blk 0 m dk os)
  unfold tv at this
  refine this.mono ?_
  rintro e w' ⟨rfl, h1, h2⟩
  exact ⟨rfl, grown_eq h1 h2⟩
end Go.Proofs.Ytagadfgginneeaa
