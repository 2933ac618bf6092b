/- What the steps of an automaton are, in their order; which steps a map from a place to a step names: plain facts. -/
import Derived.Test.YtobcbaeoedpefaaDoorAuLaw3
import Derived.Test.YtobcbaeoedpefaaDoorAuCnt
import Derived.Maps.OwnSet
namespace Go.Proofs.YtobcbaeoedpefaaDoor
set_option linter.unusedVariables false
set_option linter.unusedSimpArgs false
set_option maxRecDepth 100000
open Go.ChangeShapes Go.WideShapes Go.ChangeAt Go.RowKit
open Au
theorem row_mem {r : Rx} {i j : Nat} {s : Stp} (h : s ∈ rowTo r i j) : ∃ k, s = stpOf r i k ∧ k < j ∧ r.nxt i k = true := by
  unfold rowTo at h
  obtain ⟨k, hk, rfl⟩ := List.mem_map.1 h
  rw [List.mem_filter, List.mem_range] at hk
  exact ⟨k, rfl, hk.1, hk.2⟩
theorem steps_mem {r : Rx} {s : Stp} (h : s ∈ stepsOf r) : ∃ i j, s = stpOf r i j ∧ i < 1 + r.n ∧ 1 ≤ j ∧ j < 1 + r.n ∧ r.nxt i j = true := by
  unfold stepsOf stepsTo at h
  rw [List.mem_flatMap] at h
  obtain ⟨a, ha, hs⟩ := h
  obtain ⟨k, e, _, hk⟩ := row_mem hs
  have := Rx.nxt_range r a k hk
  exact ⟨a, k, e, List.mem_range.1 ha, this.2.1, this.2.2, hk⟩
theorem mem_steps {r : Rx} {i j : Nat} (h : r.nxt i j = true) : stpOf r i j ∈ stepsOf r := by
  have hr := Rx.nxt_range r i j h
  unfold stepsOf stepsTo
  rw [List.mem_flatMap]
  refine ⟨i, List.mem_range.2 hr.1, ?_⟩
  unfold rowTo
  exact List.mem_map.2 ⟨j, List.mem_filter.2 ⟨List.mem_range.2 hr.2.2, h⟩, rfl⟩
def stLt (s t : Stp) : Prop := s.from_ < t.from_ ∨ (s.from_ = t.from_ ∧ s.to < t.to)
theorem steps_sorted (r : Rx) : (stepsOf r).Pairwise stLt := by
  unfold stepsOf stepsTo
  rw [List.pairwise_flatMap]
  refine ⟨fun a _ => ?_, ?_⟩
  · unfold rowTo
    rw [List.pairwise_map]
    refine List.Pairwise.filter _ ?_
    refine List.Pairwise.imp ?_ (List.pairwise_lt_range (n := 1 + r.n))
    intro x y hxy
    exact Or.inr ⟨rfl, by show (x : Int) < (y : Int); omega⟩
  · refine List.Pairwise.imp ?_ (List.pairwise_lt_range (n := 1 + r.n))
    intro a b hab x hx y hy
    obtain ⟨k, rfl, _⟩ := row_mem hx
    obtain ⟨k', rfl, _⟩ := row_mem hy
    exact Or.inl (by show (a : Int) < (b : Int); omega)
theorem labs_ok : ∀ (x : Pt) (b : Bool), (∃ d, x.wf d = true) → ∀ l ∈ (x.rx b).labs, l.texts.length ≠ 0 ∧ (l.not = false → l.texts.length = 1) := by
  intro x
  induction x using Pt.ind with
  | h k t L K ih =>
    rintro b ⟨d, hw⟩
    rw [wf_mk] at hw
    simp only [Bool.and_eq_true, decide_eq_true_eq] at hw
    obtain ⟨⟨⟨_, hkk⟩, ht⟩, hk⟩ := hw
    have hk := (Pt.wfs_all _ _).1 hk
    match K, ih, hk, hkk with
    | [], ih, hk, hkk =>
      rw [Pt.rx]
      split
      · intro l hl; simp [Rx.labs] at hl; subst hl; simp
      · rename_i hne
        intro l hl
        simp [Rx.labs] at hl
        subst hl
        simp only
        refine ⟨?_, fun h => by cases h⟩
        have h8 : k = 8 := by
          unfold Pt.kidsOf at hkk
          simp only [List.length_nil, Int.natCast_zero] at hkk
          repeat' split at hkk
          · omega
          all_goals omega
        subst h8
        unfold Pt.txt at ht
        rw [if_neg (by decide), if_pos rfl] at ht
        simp at ht
        omega
    | [x], ih, hk, _ =>
      have i1 := fun b => ih x (by simp) b ⟨_, hk x (by simp)⟩
      rw [Pt.rx]
      split
      · exact i1 _
      · split
        · exact i1 _
        · split
          · exact i1 _
          · exact i1 _
    | x :: y :: _, ih, hk, _ =>
      have i1 := fun b => ih x (by simp) b ⟨_, hk x (by simp)⟩
      have i2 := fun b => ih y (by simp) b ⟨_, hk y (by simp)⟩
      rw [Pt.rx]
      split
      · split
        · intro l hl; simp only [Rx.labs, List.mem_append] at hl; exact hl.elim (i2 _ l) (i1 _ l)
        · intro l hl; simp only [Rx.labs, List.mem_append] at hl; exact hl.elim (i1 _ l) (i2 _ l)
      · intro l hl; simp only [Rx.labs, List.mem_append] at hl; exact hl.elim (i1 _ l) (i2 _ l)
theorem lst_some : ∀ (r : Rx) (m : Nat), ∃ i, r.lst m i = true
  | .leaf _, m => ⟨m, by simp [Rx.lst]⟩
  | .seq a b, m => by obtain ⟨i, h⟩ := lst_some b (m + a.n); exact ⟨i, by simp [Rx.lst, h]⟩
  | .alt a b, m => by obtain ⟨i, h⟩ := lst_some a m; exact ⟨i, by simp [Rx.lst, h]⟩
  | .star a, m | .plus a, m | .maybe a, m => by obtain ⟨i, h⟩ := lst_some a m; exact ⟨i, by simp [Rx.lst, h]⟩
theorem fol_some : ∀ (r : Rx) (m j : Nat), m ≤ j → j < m + r.n → r.fst m j = true ∨ ∃ i, r.fol m i j = true
  | .leaf _, m, j, h1, h2 => by rw [Rx.n_leaf] at h2; exact Or.inl (by simp [Rx.fst]; omega)
  | .seq a b, m, j, h1, h2 => by
    rw [Rx.n_seq] at h2
    by_cases h : j < m + a.n
    · rcases fol_some a m j h1 h with k | ⟨i, k⟩
      · exact Or.inl (by simp [Rx.fst, k])
      · exact Or.inr ⟨i, by simp [Rx.fol, k]⟩
    · rcases fol_some b (m + a.n) j (by omega) (by omega) with k | ⟨i, k⟩
      · obtain ⟨i, hi⟩ := lst_some a m
        exact Or.inr ⟨i, by simp [Rx.fol, k, hi]⟩
      · exact Or.inr ⟨i, by simp [Rx.fol, k]⟩
  | .alt a b, m, j, h1, h2 => by
    rw [Rx.n_alt] at h2
    by_cases h : j < m + a.n
    · rcases fol_some a m j h1 h with k | ⟨i, k⟩
      · exact Or.inl (by simp [Rx.fst, k])
      · exact Or.inr ⟨i, by simp [Rx.fol, k]⟩
    · rcases fol_some b (m + a.n) j (by omega) (by omega) with k | ⟨i, k⟩
      · exact Or.inl (by simp [Rx.fst, k])
      · exact Or.inr ⟨i, by simp [Rx.fol, k]⟩
  | .star a, m, j, h1, h2 | .plus a, m, j, h1, h2 => by
    rcases fol_some a m j h1 h2 with k | ⟨i, k⟩
    · exact Or.inl (by simp [Rx.fst, k])
    · exact Or.inr ⟨i, by simp [Rx.fol, k]⟩
  | .maybe a, m, j, h1, h2 => by
    rcases fol_some a m j h1 h2 with k | ⟨i, k⟩
    · exact Or.inl (by simp [Rx.fst, k])
    · exact Or.inr ⟨i, by simp [Rx.fol, k]⟩
theorem nxt_some (r : Rx) (j : Nat) (h1 : 1 ≤ j) (h2 : j < 1 + r.n) : ∃ i, r.nxt i j = true := by
  rcases fol_some r 1 j h1 h2 with k | ⟨i, k⟩
  · exact ⟨0, by unfold Rx.nxt; rw [if_pos rfl, k]⟩
  · have := Rx.fol_range r 1 i j k
    exact ⟨i, by unfold Rx.nxt; rw [if_neg (by omega), k]⟩
theorem key_lit (t : Int) : WideAt.IsKeyLit (.int .i64 t) := trivial
/-- What the map names when i steps were looked at. -/
structure MapI (L : List Stp) (i : Nat) (D : DataW Unit) : Prop where
  tidy : Go.Maps.Tidy D
  hit : ∀ t : Int, Go.Maps.has D (.int .i64 t) = true → ∃ k, k < i ∧ (L.getD k default).to = t ∧ D.atKey (.int .i64 t) (.lit (.int .i64 0)) = .lit (.int .i64 (k : Nat))
  cnt : ∃ vs : List Int, vs.Nodup ∧ (∀ x, x ∈ vs ↔ ∃ k, k < i ∧ (L.getD k default).to = x) ∧ Go.Maps.size D = vs.length ∧ ∀ x, Go.Maps.has D (.int .i64 x) = decide (x ∈ vs)
theorem MapI.zero (L : List Stp) : MapI L 0 (.map []) where
  tidy := Go.Maps.tidy_empty
  hit := fun t h => by simp [Go.Maps.has] at h
  cnt := ⟨[], List.nodup_nil, fun x => ⟨(fun h => by cases h), fun ⟨k, h, _⟩ => absurd h (Nat.not_lt_zero k)⟩, rfl, fun x => by simp [Go.Maps.has]⟩
theorem MapI.succ {L : List Stp} {i : Nat} {D : DataW Unit} (h : MapI L i D) {t : Int} (ht : t = (L.getD i default).to) : MapI L (i + 1) (D.put (.int .i64 t) (.lit (.int .i64 (i : Nat)))) where
  tidy := h.tidy.put (key_lit t) _
  hit := fun u hu => by
    by_cases e : u = t
    · subst e
      exact ⟨i, by omega, ht.symm, Go.Maps.atKey_put_same h.tidy.isMap (key_lit _) _ _⟩
    · have hne : (Lit.int .i64 u) ≠ Lit.int .i64 t := fun k => e (by injection k)
      rw [Go.Maps.has_put_other hne] at hu
      obtain ⟨k, h1, h2, h3⟩ := h.hit u hu
      exact ⟨k, by omega, h2, by rw [Go.Maps.atKey_put_other hne]; exact h3⟩
  cnt := by
    obtain ⟨vs, h1, h2, h3, h4⟩ := h.cnt
    have hp : ∀ x, Go.Maps.has (D.put (.int .i64 t) (.lit (.int .i64 (i : Nat)))) (.int .i64 x) = (decide (x = t) || decide (x ∈ vs)) := fun x => by
      by_cases e : x = t
      · subst e
        rw [Go.Maps.has_put_same h.tidy.isMap (key_lit _), decide_eq_true rfl, Bool.true_or]
      · have hne : (Lit.int .i64 x) ≠ Lit.int .i64 t := fun k => e (by injection k)
        rw [Go.Maps.has_put_other hne, h4, decide_eq_false e, Bool.false_or]
    have hs := Go.Maps.size_put (k := .int .i64 t) h.tidy (.lit (.int .i64 (i : Nat)))
    by_cases hm : t ∈ vs
    · refine ⟨vs, h1, fun x => ?_, ?_, fun x => ?_⟩
      · rw [h2 x]
        constructor
        · rintro ⟨k, a, b⟩; exact ⟨k, by omega, b⟩
        · rintro ⟨k, a, b⟩
          by_cases hk : k < i
          · exact ⟨k, hk, b⟩
          · obtain rfl : k = i := by omega
            rw [← ht] at b
            subst b
            exact (h2 _).1 hm
      · rw [hs, h4, decide_eq_true hm, if_pos rfl, h3]
      · rw [hp x]
        by_cases e : x = t
        · subst e; simp [hm]
        · simp [e]
    · refine ⟨t :: vs, List.nodup_cons.2 ⟨hm, h1⟩, fun x => ?_, ?_, fun x => ?_⟩
      · rw [List.mem_cons, h2 x]
        constructor
        · rintro (rfl | ⟨k, a, b⟩)
          · exact ⟨i, by omega, ht.symm⟩
          · exact ⟨k, by omega, b⟩
        · rintro ⟨k, a, b⟩
          by_cases hk : k < i
          · exact Or.inr ⟨k, hk, b⟩
          · obtain rfl : k = i := by omega
            exact Or.inl (by rw [ht, b])
      · rw [hs, h4, decide_eq_false hm, if_neg (by simp), h3, List.length_cons]
      · rw [hp x]
        by_cases e : x = t
        · subst e; simp
        · simp [e]
/-- At the end each place but 0 is named. -/
theorem MapI.fin {r : Rx} {D : DataW Unit} (h : MapI (stepsOf r) (stepsOf r).length D) : Go.Maps.size D = r.n := by
  obtain ⟨vs, h1, h2, h3, _⟩ := h.cnt
  rw [h3]
  have hn : ((List.range r.n).map fun k => ((k + 1 : Nat) : Int)).Nodup := by
    unfold List.Nodup
    rw [List.pairwise_map]
    exact List.Pairwise.imp (fun {a b} hab e => by omega) (List.pairwise_lt_range (n := r.n))
  have hp : vs.Perm ((List.range r.n).map fun k => ((k + 1 : Nat) : Int)) := (List.perm_ext_iff_of_nodup h1 hn).2 fun x => by
    rw [h2 x, List.mem_map]
    constructor
    · rintro ⟨k, hk, rfl⟩
      have hmem : (stepsOf r).getD k default ∈ stepsOf r := by
        rw [show (stepsOf r).getD k default = (stepsOf r)[k] by simp [List.getD, hk]]; exact List.getElem_mem _
      obtain ⟨i, j, e, _, j1, j2, _⟩ := steps_mem hmem
      exact ⟨j - 1, List.mem_range.2 (by omega), by rw [e]; show ((j - 1 + 1 : Nat) : Int) = (j : Int); omega⟩
    · rintro ⟨k, hk, rfl⟩
      have hk := List.mem_range.1 hk
      obtain ⟨i, hi⟩ := nxt_some r (k + 1) (by omega) (by omega)
      obtain ⟨q, hq, e⟩ := List.getElem_of_mem (mem_steps hi)
      exact ⟨q, hq, by rw [show (stepsOf r).getD q default = (stepsOf r)[q] by simp [List.getD, hq], e]; rfl⟩
  rw [hp.length_eq, List.length_map, List.length_range]
theorem World.ownsMap_below {H : Type} {P : Program} {k : TypeId} {R : Value → Option (DataW H × List MemPlace)} {w w' : World} {b n : Nat} {D : DataW H} (h : w.ownsMap P k R b n D) (hb : Below w.heap.size w w') : w'.ownsMap P k R b n D := by
  have hl := h.lt
  obtain ⟨es, clock, h1, h2⟩ := h
  exact ⟨es, clock, by rw [hb.block b hl]; exact h1, h2⟩
end Go.Proofs.YtobcbaeoedpefaaDoor
