/- Plain facts on triples of numbers: the least number of a column from one on. -/
import Derived.Test.YtagadfgginneeaaRgMath
namespace Go.Proofs.Ytagadfgginneeaa.Rg
set_option linter.unusedVariables false
set_option linter.unusedSimpArgs false
set_option maxRecDepth 100000
/-- What Next's own loop does with one triple. -/
def nxS (p : T) (c : Nat) (v best : Int) (t : T) : Int := if mt p t = true ∧ v ≤ at' t c ∧ (best = 0 ∨ at' t c < best) then at' t c else best
/-- The least number of column c from v on, of those that match p; nought where there is none. -/
def nxR (l : List T) (p : T) (c : Nat) (v : Int) : Int := l.foldl (nxS p c v) 0
def IsNx (l : List T) (p : T) (c : Nat) (v r : Int) : Prop := (r = 0 ∧ ∀ t ∈ l, mt p t = true → at' t c < v) ∨ ∃ t ∈ l, mt p t = true ∧ r = at' t c ∧ v ≤ r ∧ ∀ s ∈ l, mt p s = true → v ≤ at' s c → r ≤ at' s c
theorem isNx_unique {l : List T} {p : T} {c : Nat} {v r r' : Int} (h : IsNx l p c v r) (h' : IsNx l p c v r') : r = r' := by
  rcases h with ⟨h1, h2⟩ | ⟨x, hx, hm, h1, h2, h3⟩ <;> rcases h' with ⟨k1, k2⟩ | ⟨y, hy, km, k1, k2, k3⟩
  · omega
  · have := h2 y hy km; omega
  · have := k2 x hx hm; omega
  · have := h3 y hy km (by omega); have := k3 x hx hm (by omega); omega
theorem isNx_step {l : List T} {p : T} {c : Nat} {v b : Int} (hok : ∀ t ∈ l, 1 ≤ at' t c) (h : IsNx l p c v b) (x : T) : IsNx (l ++ [x]) p c v (nxS p c v b x) := by
  unfold nxS
  split
  · rename_i hc
    refine Or.inr ⟨x, by simp, hc.1, rfl, hc.2.1, fun y hy hym hv => ?_⟩
    rw [List.mem_append] at hy
    rcases hy with hy | hy
    · rcases h with ⟨h1, h2⟩ | ⟨z, hz, hm, h1, h2, h3⟩
      · have := h2 y hy hym; omega
      · have := h3 y hy hym hv
        have := hok z hz
        have := hc.2.2
        omega
    · simp at hy; subst hy; omega
  · rename_i hc
    rcases h with ⟨h1, h2⟩ | ⟨z, hz, hm, h1, h2, h3⟩
    · refine Or.inl ⟨h1, fun y hy hym => ?_⟩
      rw [List.mem_append] at hy
      rcases hy with hy | hy
      · exact h2 y hy hym
      · simp at hy; subst hy
        have : ¬ (v ≤ at' y c ∧ (b = 0 ∨ at' y c < b)) := fun k => hc ⟨hym, k⟩
        omega
    · refine Or.inr ⟨z, by simp [hz], hm, h1, h2, fun y hy hym hv => ?_⟩
      rw [List.mem_append] at hy
      rcases hy with hy | hy
      · exact h3 y hy hym hv
      · simp at hy; subst hy
        have : ¬ (v ≤ at' y c ∧ (b = 0 ∨ at' y c < b)) := fun k => hc ⟨hym, k⟩
        have := hok z hz
        omega
theorem nxR_take (l : List T) (p : T) (c : Nat) (v : Int) (i : Nat) (t : T) (h : l[i]? = some t) : nxR (l.take (i + 1)) p c v = nxS p c v (nxR (l.take i) p c v) t := by
  rw [List.take_add_one, h]; unfold nxR; rw [List.foldl_append]; rfl
theorem nxR_is {l : List T} (p : T) {c : Nat} (v : Int) (hok : ∀ t ∈ l, 1 ≤ at' t c) : IsNx l p c v (nxR l p c v) := by
  have : ∀ i, i ≤ l.length → IsNx (l.take i) p c v (nxR (l.take i) p c v) := by
    intro i
    induction i with
    | zero => intro _; exact Or.inl ⟨rfl, by simp⟩
    | succ i ih =>
      intro hi
      have e : l[i]? = some l[i] := List.getElem?_eq_getElem (by omega)
      rw [nxR_take l p c v i _ e, List.take_add_one, e]
      exact isNx_step (fun t ht => hok t (List.mem_of_mem_take ht)) (ih (by omega)) _
  have := this l.length (Nat.le_refl _)
  rwa [List.take_length] at this
/-- By a wave over the rows that match. -/
theorem nx_wave {l M : List T} {p : T} {c : Nat} (v : Int) (hc : c < 3) (hok : ∀ t ∈ l, Ok t) (hM : ∀ t, t ∈ M ↔ t ∈ l ∧ mt p t = true) :
    max 0 (Wv.nxt (M.map fun t => (at' t c).toNat) v) = nxR l p c v := by
  refine isNx_unique (l := l) (p := p) (c := c) (v := v) ?_ (nxR_is p v fun t ht => (hok t ht c hc).1)
  rcases Wv.nxt_is (M.map fun t => (at' t c).toNat) v with ⟨h1, h2⟩ | ⟨x, hx, h1, h2, h3⟩
  · refine Or.inl ⟨by omega, fun t ht hm => ?_⟩
    have := h2 _ (List.mem_map.2 ⟨t, (hM t).2 ⟨ht, hm⟩, rfl⟩)
    have := hok t ht c hc
    omega
  · obtain ⟨t, ht, rfl⟩ := List.mem_map.1 hx
    obtain ⟨ht1, ht2⟩ := (hM t).1 ht
    have k := hok t ht1 c hc
    refine Or.inr ⟨t, ht1, ht2, by omega, by omega, fun s hs hsm hv => ?_⟩
    have k2 := hok s hs c hc
    have := h3 _ (List.mem_map.2 ⟨s, (hM s).2 ⟨hs, hsm⟩, rfl⟩) (by omega)
    omega
/-- By a search over the rows that match, where the column rises. -/
theorem nx_search {l M : List T} {p : T} {c : Nat} (v : Int) (hc : c < 3) (hok : ∀ t ∈ l, Ok t) (hM : ∀ t, t ∈ M ↔ t ∈ l ∧ mt p t = true) (r : Nat) (hr : r ≤ M.length)
    (hlo : ∀ (i : Nat) (h : i < M.length), i < r → at' M[i] c < v) (hhi : ∀ (i : Nat) (h : i < M.length), r ≤ i → v ≤ at' M[i] c) (hmono : ∀ (i j : Nat) (hi : i < M.length) (hj : j < M.length), i ≤ j → at' M[i] c ≤ at' M[j] c) :
    (if h : r < M.length then at' M[r] c else 0) = nxR l p c v := by
  refine isNx_unique (l := l) (p := p) (c := c) (v := v) ?_ (nxR_is p v fun t ht => (hok t ht c hc).1)
  split
  · rename_i h
    have hmem := (hM _).1 (List.getElem_mem h)
    refine Or.inr ⟨M[r], hmem.1, hmem.2, rfl, hhi r h (Nat.le_refl _), fun s hs hsm hv => ?_⟩
    obtain ⟨j, hj, e⟩ := List.getElem_of_mem ((hM s).2 ⟨hs, hsm⟩)
    by_cases hjr : j < r
    · have := hlo j hj hjr; rw [e] at this; omega
    · rw [← e]; exact hmono r j h hj (by omega)
  · rename_i h
    refine Or.inl ⟨rfl, fun s hs hsm => ?_⟩
    obtain ⟨j, hj, e⟩ := List.getElem_of_mem ((hM s).2 ⟨hs, hsm⟩)
    have := hlo j hj (by omega)
    rwa [e] at this
theorem mem_rows {l : List T} {c : Nat} {p : T} (t : T) : t ∈ (O l c).filter (mt p) ↔ t ∈ l ∧ mt p t = true := by
  rw [List.mem_filter, (O_perm l c).mem_iff]
theorem rows_get {l : List T} (hn : l.Nodup) (p : T) (i : Nat) (h : i < l.countP (fnd p).2.2 - l.countP (fnd p).2.1) : (O l (fnd p).1)[l.countP (fnd p).2.1 + i]? = ((O l (fnd p).1).filter (mt p))[i]? := by
  rw [← rows_eq hn p, List.getElem?_drop, List.getElem?_take_of_lt (by omega)]
theorem rows_length {l : List T} (p : T) : ((O l (fnd p).1).filter (mt p)).length = l.countP (fnd p).2.2 - l.countP (fnd p).2.1 := by
  rw [← List.countP_eq_length_filter, (O_perm l _).countP_eq]
  have := count_eq l p
  omega
theorem rows_mono {l : List T} (hn : l.Nodup) {p : T} {c : Nat} (hc : c < 3) (h1 : ¬ (c = pv (fnd p).1 ∧ at' p c = 0)) (h2 : p ≠ (0, 0, 0)) (i j : Nat) (hi : i < ((O l (fnd p).1).filter (mt p)).length) (hj : j < ((O l (fnd p).1).filter (mt p)).length) (hij : i ≤ j) :
    at' ((O l (fnd p).1).filter (mt p))[i] c ≤ at' ((O l (fnd p).1).filter (mt p))[j] c := by
  rcases Nat.lt_or_eq_of_le hij with h | h
  · have hs := (O_sorted l (fnd p).1 (fnd_lower p).1 hn).filter (mt p)
    have hlt := List.pairwise_iff_getElem.1 hs i j hi hj h
    exact fnd_rises p c hc h1 h2 _ _ (List.mem_filter.1 (List.getElem_mem hi)).2 (List.mem_filter.1 (List.getElem_mem hj)).2 hlt
  · subst h; exact Int.le_refl _
theorem rng_rows {l : List T} (hn : l.Nodup) (p : T) : Wv.rng (A l (fnd p).1) (l.countP (fnd p).2.1 : Nat) (l.countP (fnd p).2.2 : Nat) = ((O l (fnd p).1).filter (mt p)).map fun t => (at' t (pv (fnd p).1)).toNat := by
  have h1 := count_eq l p
  have h2 : l.countP (fnd p).2.2 ≤ l.length := List.countP_le_length
  have h3 := A_length l (fnd p).1
  have e2 : Wv.hiEnd (A l (fnd p).1).length (l.countP (fnd p).2.2 : Nat) = l.countP (fnd p).2.2 := by unfold Wv.hiEnd; omega
  have e1 : Wv.loEnd (A l (fnd p).1).length (l.countP (fnd p).2.1 : Nat) (l.countP (fnd p).2.2 : Nat) = l.countP (fnd p).2.1 := by unfold Wv.loEnd; rw [e2]; omega
  unfold Wv.rng Wv.seg
  rw [e1, e2, ← rows_eq hn p]
  unfold A
  rw [List.map_drop, List.map_take]
theorem fnd_zero : fnd (0, 0, 0) = (0, (fun _ => false), (fun _ => true)) := rfl
theorem mt_zero (t : T) : mt (0, 0, 0) t = true := by simp [mt]
theorem mt_O (t p : T) : True := trivial
theorem rng_all {l : List T} (c : Nat) : Wv.rng (A l c) 0 (l.length : Nat) = (O l c).map fun t => (at' t (pv c)).toNat := by
  have h3 := A_length l c
  rw [Wv.rng_zero]
  have e2 : Wv.hiEnd (A l c).length (l.length : Nat) = (A l c).length := by unfold Wv.hiEnd; omega
  rw [e2, List.take_length]; rfl
theorem pv_nx {c : Nat} (h : c < 3) : pv (nx c) = c := by rcases c3 h with rfl | rfl | rfl <;> rfl
theorem nx_lt (c : Nat) : nx c < 3 := Nat.mod_lt _ (by decide)
end Go.Proofs.Ytagadfgginneeaa.Rg
