/- Plain facts on triples of numbers: what is counted number by number of a column. -/
import Derived.Test.YtagadfgginneeaaRgMath2
namespace Go.Proofs.Ytagadfgginneeaa.Rg
set_option linter.unusedVariables false
set_option linter.unusedSimpArgs false
set_option maxRecDepth 100000
/-- A triple with another number at column d. -/
def put (t : T) (d : Nat) (v : Int) : T := if d = 0 then (v, t.2.1, t.2.2) else if d = 1 then (t.1, v, t.2.2) else (t.1, t.2.1, v)
theorem mt_put {p : T} {c : Nat} {v : Int} (hc : c < 3) (hp : at' p c = 0 ∨ at' p c = v) (hv : v ≠ 0) (t : T) : mt (put p c v) t = (mt p t && decide (at' t c = v)) := by
  rw [Bool.eq_iff_iff]
  rcases c3 hc with rfl | rfl | rfl <;> simp [put, mt, at'] at hp ⊢ <;> omega
/-- How many match, with a number of column c below u. -/
def cb (l : List T) (p : T) (c : Nat) (u : Int) : Nat := l.countP fun t => mt p t && decide (at' t c < u)
theorem cb_le (l : List T) (p : T) (c : Nat) (u : Int) : cb l p c u ≤ l.countP (mt p) := List.countP_mono_left fun t _ h => by
  simp only [Bool.and_eq_true] at h; exact h.1
theorem nx_facts {l : List T} (p : T) {c : Nat} (u : Int) (hc : c < 3) (hok : ∀ t ∈ l, Ok t) : (nxR l p c u = 0 ∧ ∀ t ∈ l, mt p t = true → at' t c < u) ∨
    (1 ≤ nxR l p c u ∧ nxR l p c u ≤ 1000 ∧ u ≤ nxR l p c u ∧ (∃ t ∈ l, mt p t = true ∧ at' t c = nxR l p c u) ∧ ∀ s ∈ l, mt p s = true → u ≤ at' s c → nxR l p c u ≤ at' s c) := by
  rcases nxR_is p u (fun t ht => (hok t ht c hc).1) with ⟨h1, h2⟩ | ⟨t, ht, hm, h1, h2, h3⟩
  · exact Or.inl ⟨h1, h2⟩
  · have := hok t ht c hc
    exact Or.inr ⟨by omega, by omega, h2, ⟨t, ht, hm, h1.symm⟩, h3⟩
theorem cb_end {l : List T} {p : T} {c : Nat} {u : Int} (h : ∀ t ∈ l, mt p t = true → at' t c < u) : cb l p c u = l.countP (mt p) := by
  unfold cb
  apply List.countP_congr
  intro t ht
  simp only [Bool.and_eq_true, decide_eq_true_eq]
  exact ⟨fun h => h.1, fun k => ⟨k, h t ht k⟩⟩
theorem cb_same {l : List T} {p : T} {c : Nat} {u v : Int} (huv : u ≤ v) (h : ∀ s ∈ l, mt p s = true → u ≤ at' s c → v ≤ at' s c) : cb l p c v = cb l p c u := by
  unfold cb
  apply List.countP_congr
  intro t ht
  simp only [Bool.and_eq_true, decide_eq_true_eq]
  constructor
  · rintro ⟨k, k2⟩
    refine ⟨k, ?_⟩
    by_cases hu : u ≤ at' t c
    · have := h t ht k hu; omega
    · omega
  · rintro ⟨k, k2⟩; exact ⟨k, by omega⟩
theorem cb_succ {l : List T} {p : T} {c : Nat} {v : Int} (hc : c < 3) (hp : at' p c = 0 ∨ at' p c = v) (hv : v ≠ 0) : cb l p c (v + 1) = cb l p c v + l.countP (mt (put p c v)) := by
  have e : l.countP (mt (put p c v)) = l.countP fun t => mt p t && decide (at' t c = v) := List.countP_congr fun t _ => by rw [mt_put hc hp hv]
  rw [e]
  unfold cb
  clear e
  induction l with
  | nil => rfl
  | cons t l ih =>
    simp only [List.countP_cons]
    generalize mt p t = b
    generalize at' t c = x
    rcases Int.lt_trichotomy x v with hx | hx | hx
    · have a1 : x < v + 1 := by omega
      have a2 : ¬ x = v := by omega
      cases b <;> simp [hx, a1, a2] <;> omega
    · subst hx
      have a1 : x < x + 1 := by omega
      cases b <;> simp [a1] <;> omega
    · have a1 : ¬ x < v + 1 := by omega
      have a2 : ¬ x = v := by omega
      have a3 : ¬ x < v := by omega
      cases b <;> simp [a1, a2, a3] <;> omega
theorem put_pos {l : List T} {p : T} {c : Nat} {v : Int} (hc : c < 3) (hp : at' p c = 0 ∨ at' p c = v) (hv : v ≠ 0) (h : ∃ t ∈ l, mt p t = true ∧ at' t c = v) : 1 ≤ l.countP (mt (put p c v)) := by
  obtain ⟨t, ht, hm, e⟩ := h
  have : 0 < l.countP (mt (put p c v)) := List.countP_pos_iff.2 ⟨t, ht, by rw [mt_put hc hp hv, hm, e]; simp⟩
  omega
theorem cb_zero {l : List T} {p : T} {c : Nat} (hc : c < 3) (hok : ∀ t ∈ l, Ok t) : cb l p c 0 = 0 := by
  unfold cb
  rw [List.countP_eq_zero]
  intro t ht
  have := hok t ht c hc
  simp; intro _; omega
/-- What a triple with a number of its own at c matches, matches it. -/
theorem told_eq {p t : T} {c : Nat} (hc : c < 3) (h : mt p t = true) (h0 : at' p c ≠ 0) : at' p c = at' t c := by
  unfold mt at h
  simp only [Bool.and_eq_true, Bool.or_eq_true, decide_eq_true_eq] at h
  rcases c3 hc with rfl | rfl | rfl <;> simp [at'] at h0 ⊢ <;> omega
/-! ### by the rows that match -/
theorem nxR_filter (l : List T) (p : T) (c : Nat) (v : Int) : nxR (l.filter (mt p)) p c v = nxR l p c v := by
  unfold nxR
  rw [List.foldl_filter]
  congr 1
  funext b t
  split
  · rfl
  · rename_i h
    unfold nxS
    rw [if_neg (fun k => h k.1)]
theorem nxR_low {l : List T} (p : T) {c : Nat} (hc : c < 3) (hok : ∀ t ∈ l, Ok t) (u v : Int) (hu : u ≤ 1) (hv : v ≤ 1) : nxR l p c u = nxR l p c v := by
  refine isNx_unique (l := l) (p := p) (c := c) (v := v) ?_ (nxR_is p v fun t ht => (hok t ht c hc).1)
  rcases nx_facts p u hc hok with ⟨h1, h2⟩ | ⟨h1, h2, h3, ⟨t, ht, hm, e⟩, h5⟩
  · refine Or.inl ⟨h1, fun t ht hm => ?_⟩
    have := h2 t ht hm
    have := hok t ht c hc
    omega
  · exact Or.inr ⟨t, ht, hm, e.symm, by omega, fun s hs hsm _ => h5 s hs hsm (by have := hok s hs c hc; omega)⟩
theorem nxR_high {l : List T} (p : T) {c : Nat} (hc : c < 3) (hok : ∀ t ∈ l, Ok t) (u : Int) (hu : 1000 < u) : nxR l p c u = 0 := by
  rcases nx_facts p u hc hok with ⟨h1, h2⟩ | ⟨h1, h2, h3, _⟩
  · exact h1
  · omega
end Go.Proofs.Ytagadfgginneeaa.Rg
