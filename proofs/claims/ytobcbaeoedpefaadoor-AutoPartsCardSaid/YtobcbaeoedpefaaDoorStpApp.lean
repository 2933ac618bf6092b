import Derived.Test.YtobcbaeoedpefaaDoorAuLaw3
import Derived.Laws.AppendOwnNone
set_option linter.unusedVariables false
set_option linter.unusedSimpArgs false
namespace Go.Proofs.YtobcbaeoedpefaaDoor
open Go.ChangeShapes Go.WideShapes Go.ChangeAt Go.RowKit
open Au
/-! Steps are appended to a row of one's own. -/
def stpCells (f : Nat → Value) : Nat → List Stp → List Value
  | _, [] => []
  | i, s :: r => .int .i64 s.from_ :: .int .i64 s.to :: .bool s.back :: .bool s.not :: f i :: stpCells f (i + 1) r
theorem stpCells_len (f : Nat → Value) : ∀ (K : List Stp) (i : Nat), (stpCells f i K).length = K.length * 5
  | [], i => rfl
  | s :: r, i => by have := stpCells_len f r (i + 1); simp only [stpCells, List.length_cons, this]; omega
theorem stpCells_at (f : Nat → Value) : ∀ (K : List Stp) (i j : Nat) (h : j < K.length), (stpCells f i K)[j * 5]? = some (.int .i64 K[j].from_) ∧ (stpCells f i K)[j * 5 + 1]? = some (.int .i64 K[j].to) ∧ (stpCells f i K)[j * 5 + 2]? = some (.bool K[j].back) ∧ (stpCells f i K)[j * 5 + 3]? = some (.bool K[j].not) ∧ (stpCells f i K)[j * 5 + 4]? = some (f (i + j))
  | s :: r, i, 0, _ => ⟨rfl, rfl, rfl, rfl, rfl⟩
  | s :: r, i, j + 1, h => by
    have h' : j < r.length := by simpa using h
    obtain ⟨h0, h1, h2, h3, h4⟩ := stpCells_at f r (i + 1) j h'
    have e : (j + 1) * 5 = j * 5 + 1 + 1 + 1 + 1 + 1 := by omega
    have e2 : i + (j + 1) = i + 1 + j := by omega
    simp only [stpCells, e, e2, List.getElem_cons_succ]
    refine ⟨?_, ?_, ?_, ?_, ?_⟩
    · simpa [List.getElem?_cons_succ] using h0
    · rw [show j * 5 + 1 + 1 + 1 + 1 + 1 + 1 = (j * 5 + 1) + 1 + 1 + 1 + 1 + 1 by omega]; simpa [List.getElem?_cons_succ] using h1
    · rw [show j * 5 + 1 + 1 + 1 + 1 + 1 + 2 = (j * 5 + 2) + 1 + 1 + 1 + 1 + 1 by omega]; simpa [List.getElem?_cons_succ] using h2
    · rw [show j * 5 + 1 + 1 + 1 + 1 + 1 + 3 = (j * 5 + 3) + 1 + 1 + 1 + 1 + 1 by omega]; simpa [List.getElem?_cons_succ] using h3
    · rw [show j * 5 + 1 + 1 + 1 + 1 + 1 + 4 = (j * 5 + 4) + 1 + 1 + 1 + 1 + 1 by omega]; simpa [List.getElem?_cons_succ] using h4
theorem stpCells_cell {W : World} {b off : Nat} {f : Nat → Value} {K : List Stp} (hr : ∀ i (h : i < K.length), Row5 W b (off + i * 5) K[i] (f i)) (m : Nat) (u : Value) (h : (stpCells f 0 K)[m]? = some u) : W.cell? ⟨b, off + m, none⟩ = some u := by
  have hl := stpCells_len f K 0
  have hm : m < K.length * 5 := by rw [← hl]; exact (List.getElem?_eq_some_iff.1 h).1
  obtain ⟨j, hj⟩ : ∃ j, j = m / 5 := ⟨_, rfl⟩
  have hjl : j < K.length := by omega
  obtain ⟨r0, r1, r2, r3, r4⟩ := hr j hjl
  obtain ⟨h0, h1, h2, h3, h4⟩ := stpCells_at f K 0 j hjl
  have hc : m = j * 5 ∨ m = j * 5 + 1 ∨ m = j * 5 + 2 ∨ m = j * 5 + 3 ∨ m = j * 5 + 4 := by omega
  rw [Nat.zero_add] at h4
  rcases hc with rfl | rfl | rfl | rfl | rfl
  · rw [h0] at h; rw [r0, h]
  · rw [h1] at h; rw [← Nat.add_assoc, r1, h]
  · rw [h2] at h; rw [← Nat.add_assoc, r2, h]
  · rw [h3] at h; rw [← Nat.add_assoc, r3, h]
  · rw [h4] at h; rw [← Nat.add_assoc, r4, h]
theorem stpCells_one {f : Nat → Value} : ∀ (K : List Stp) (i : Nat) (hf : ∀ j, j < K.length → (f (i + j)).oneCell' = true), ∀ u ∈ stpCells f i K, u.oneCell' = true
  | [], i, hf, u, hu => by cases hu
  | s :: r, i, hf, u, hu => by
    simp only [stpCells, List.mem_cons] at hu
    rcases hu with rfl | rfl | rfl | rfl | rfl | hu
    · rfl
    · rfl
    · rfl
    · rfl
    · exact hf 0 (by simp)
    · exact stpCells_one r (i + 1) (fun j hj => by rw [show i + 1 + j = i + (j + 1) by omega]; exact hf (j + 1) (by simpa using hj)) u hu
/-- A row of its own, made empty. -/
theorem SrOld.made {W0 w : World} (h : W0.heap.size ≤ w.heap.size) : SrOld W0 (w.alloc (.cells #[] 48)) (.slice (some ⟨w.heap.size, 0, none⟩) 0 0) [] [] :=
  ⟨World.ownsRow_made w #[] 0 h (by unfold maxLen; omega) (by simp), fun j h => absurd h (by simp)⟩
/-- Old steps behind a row of one's own. -/
theorem SrOld.app {W0 w w' : World} {v v' : Value} {xs : List Value} {L K : List Stp} (h : SrOld W0 w v xs L) {f : Nat → Value}
    (hown : w'.ownsRow W0.heap.size 48 5 v' (L.length + K.length) (xs ++ stpCells f 0 K)) (hT : ∀ i (h : i < K.length), TextsAt W0 (f i) K[i].texts) : SrOld W0 w' v' (xs ++ stpCells f 0 K) (L ++ K) := by
  have hxl : xs.length = L.length * 5 := h.own.1
  refine ⟨by simpa using hown, fun j hj => ?_⟩
  by_cases hjl : j < L.length
  · obtain ⟨a', n', c', h1, h2, h3, h4, h5, h6⟩ := h.cells j hjl
    rw [List.getElem_append_left hjl]
    exact ⟨a', n', c', by rw [List.getElem?_append_left (by omega)]; exact h1, by rw [List.getElem?_append_left (by omega)]; exact h2, by rw [List.getElem?_append_left (by omega)]; exact h3, by rw [List.getElem?_append_left (by omega)]; exact h4, by rw [List.getElem?_append_left (by omega)]; exact h5, h6⟩
  · obtain ⟨q, rfl⟩ : ∃ q, j = L.length + q := ⟨j - L.length, by omega⟩
    have hq : q < K.length := by simp at hj; omega
    rw [List.getElem_append_right (by omega)]
    simp only [Nat.add_sub_cancel_left]
    obtain ⟨h0, h1, h2, h3, h4⟩ := stpCells_at f K 0 q hq
    rw [Nat.zero_add] at h4
    obtain ⟨a, c, hf, _⟩ := (hT q hq).open
    refine ⟨a, K[q].texts.length, c, ?_, ?_, ?_, ?_, ?_, by rw [← hf]; exact hT q hq⟩
    · rw [List.getElem?_append_right (by omega), hxl, show (L.length + q) * 5 - L.length * 5 = q * 5 by omega]; exact h0
    · rw [List.getElem?_append_right (by omega), hxl, show (L.length + q) * 5 + 1 - L.length * 5 = q * 5 + 1 by omega]; exact h1
    · rw [List.getElem?_append_right (by omega), hxl, show (L.length + q) * 5 + 2 - L.length * 5 = q * 5 + 2 by omega]; exact h2
    · rw [List.getElem?_append_right (by omega), hxl, show (L.length + q) * 5 + 3 - L.length * 5 = q * 5 + 3 by omega]; exact h3
    · rw [List.getElem?_append_right (by omega), hxl, show (L.length + q) * 5 + 4 - L.length * 5 = q * 5 + 4 by omega, h4, hf]
/-- append(row of one's own, steps...) at a step of a region. -/
theorem wpList_append_steps {w W0 : World} {ops : Array Oper} {rest : List Oper} {o : Oper} {a : Act} {Q : Exit → Act → World → Prop} (hgd : o.guard = none) (s x : Operand)
    (ho : o.op = .call { callee := .builtin .append, args := #[s, x], argTypes := #[36, 36] }) {v vx : Value} {xs : List Value} {L K : List Stp} (hv : SrOld W0 w v xs L) (hs : a.eval s = v) (hK : StepsAt W0 vx K) (hx : a.eval x = vx)
    (hb : Below W0.heap.size W0 w) (hn : L.length + K.length ≤ 1000)
    (h : ∀ v' w' ys, SrOld W0 w' v' ys (L ++ K) → Below W0.heap.size W0 w' → wpList Tryd.prog ops Q rest (a.put o.dst v') w') : wpList Tryd.prog ops Q (o :: rest) a w := by
  obtain ⟨iS, hiS, hzS, hsS, hbS⟩ := info_two Tryd.infoStep
  obtain ⟨ka, cap, b, off, f, rfl, h2, h3, h4, h5, h6, h7⟩ := hK
  cases ka with
  | none =>
    have hk : K = [] := by cases K with | nil => rfl | cons s r => exact absurd (h5 (by simp)) (by simp)
    subst hk
    obtain rfl := h4 rfl
    refine wpList_append_own_none hgd s x 36 ho W0.heap.size 48 iS 5 Tryd.underlying36 hiS v L.length xs hs (by exact hv.own) hx ?_
    exact h v w xs (by simpa using hv) hb
  | some ad =>
    by_cases hk : 0 < K.length
    · obtain rfl := Option.some.inj (h5 hk)
      have hf1 : ∀ i, i < K.length → (f i).oneCell' = true := fun i hi => by
        obtain ⟨a', c', hf, _⟩ := (h7 i hi).open
        rw [hf]; rfl
      refine wpList_append_own w hgd s x 36 ho W0.heap.size 48 iS _ 5 48 Tryd.underlying36 hiS hzS hsS hbS rfl (by decide) v L.length xs hs hv.own ⟨b, off, none⟩ K.length cap (stpCells f 0 K) hx (stpCells_len f K 0)
        (fun j u hj => ?_) (stpCells_one K 0 (fun j hj => by rw [Nat.zero_add]; exact hf1 j hj)) (by unfold maxLen; omega) (by omega) hb.size ?_
      · have e := below_keep hb (stpCells_cell h6 j u hj)
        by_cases hj0 : j = 0
        · subst hj0; simpa [Addr.add] using e
        · simpa [Addr.add, hj0] using e
      · intro v' w' h8 h9 _
        exact h v' w' _ (hv.app h8 h7) (hb.grown h9 hb.size (fun q hq => (hv.own.lt q hq).1))
    · have hk0 : K = [] := List.eq_nil_of_length_eq_zero (by omega)
      subst hk0
      refine wpList_append_own w hgd s x 36 ho W0.heap.size 48 iS _ 5 48 Tryd.underlying36 hiS hzS hsS hbS rfl (by decide) v L.length xs hs hv.own ad 0 cap [] hx rfl (fun j u h => by simp at h) (fun u h => by cases h) (by unfold maxLen; simp at hn; omega) (by simp at hn; omega) hb.size ?_
      intro v' w' h8 h9 _
      exact h v' w' xs ⟨by simpa using h8, by simpa using hv.cells⟩ (hb.grown h9 hb.size (fun q hq => (hv.own.lt q hq).1))
end Go.Proofs.YtobcbaeoedpefaaDoor
