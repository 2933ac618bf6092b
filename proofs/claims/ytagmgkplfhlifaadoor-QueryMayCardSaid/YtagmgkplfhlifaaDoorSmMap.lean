/- A set of pairs of pointers, as a map that is asked. -/
import Derived.Test.YtagmgkplfhlifaaDoorPtAt
import Derived.Test.YtagmgkplfhlifaaDoorFrm
import Derived.LaidEqlPtr
import Derived.Maps.OwnSet
namespace Go.Proofs.YtagmgkplfhlifaaDoor
set_option linter.unusedVariables false
set_option linter.unusedSimpArgs false
set_option maxRecDepth 100000
open Go.ChangeShapes Go.WideShapes Go.ChangeAt Go.RowKit
/-- A block of cells none of which a string shares. -/
def Unfz (w : World) (b : Nat) : Prop := ∃ c t, w.heap[b]? = some (.cells c t (0, 0))
theorem Unfz.keep {w w' : World} {b : Nat} (h : Unfz w b) (hb : Below w.heap.size w w') : Unfz w' b := by
  obtain ⟨c, t, h⟩ := h
  exact ⟨c, t, by rw [hb.block b (lt_of_block h)]; exact h⟩
theorem Blk.unfz {w : World} {b : Nat} {A : List Value} {t : TypeId} (h : Blk w b A t) : Unfz w b := ⟨_, _, h⟩
/-- A pair of pointers. -/
abbrev ppV (p q : Addr) : Value := .agg #[.pointer (some p), .pointer (some q)]
theorem eqIn_ptr (d : Nat) (p q : Addr) (w : World) (hp : Unfz w p.block) (hq : Unfz w q.block) : (Op.equalIn (d + 1) 66 (.pointer (some p)) (.pointer (some q))).run Tryd.prog w = .ok (decide (p = q)) w := by
  have hp' : Tryd.prog.underlying 66 = some (.pointer 25) := Tryd.underlying66
  obtain ⟨j, hj, hsz⟩ : ∃ j, Tryd.prog.info? 25 = some j ∧ j.size = 4 := by
    have h : (Tryd.prog.info? 25).map (fun i => i.size) = some 4 := by kernel_rfl
    obtain ⟨i, hi, h⟩ := Option.map_eq_some_iff.1 h
    exact ⟨i, hi, h⟩
  obtain ⟨ca, ta, ha⟩ := hp
  obtain ⟨cb, tb, hb⟩ := hq
  by_cases h : p = q
  · subst h
    simp [Op.equalIn, run_underlying hp', sizeOf, typeInfo, hj, hsz, run_sameAddr_same]
  · simp [Op.equalIn, run_underlying hp', sizeOf, typeInfo, hj, hsz, run_sameAddr_other w h ha hb, h]
theorem eql_ptr (p q : Addr) (w : World) (hp : Unfz w p.block) (hq : Unfz w q.block) : (binOp .eql 66 (.pointer (some p)) (.pointer (some q))).run Tryd.prog w = .ok (.bool (decide (p = q))) w := by
  simp only [binOp]
  simp [Op.equal, Op.maxDepth, eqIn_ptr 9999 p q w hp hq]
theorem eqIn_pair (p q p' q' : Addr) (w : World) (hp : Unfz w p.block) (hq : Unfz w q.block) (hp' : Unfz w p'.block) (hq' : Unfz w q'.block) :
    (Op.equal 68 (ppV p q) (ppV p' q')).run Tryd.prog w = .ok (decide ((p, q) = (p', q'))) w := by
  have s4 : (sizeOf 66).run Tryd.prog w = .ok 1 w := by kernel_rfl
  have e1 := eqIn_ptr 9998 p p' w hp hp'
  have e2 := eqIn_ptr 9998 q q' w hq hq'
  have st : Tryd.prog.stoodInHeld 68 = false := by kernel_rfl
  unfold Op.equal Op.maxDepth
  rw [show (10000 : Nat) = 9999 + 1 from rfl, Op.equalIn]
  simp only [Sem.run_bind, run_underlying Tryd.underlying68, Result.andThen_ok]
  go_simp
  by_cases h1 : p = p' <;> by_cases h2 : q = q' <;> simp [h1, h2]
/-- Block b is a map whose keys are the pairs of S. -/
def PMap (w : World) (b : Nat) (S : List (Addr × Addr)) : Prop := ∃ es clock, w.heap[b]? = some (.map es clock) ∧ es.toList.map (fun e => (e.key, e.val)) = S.map (fun p => (ppV p.1 p.2, .agg #[]))
theorem PMap.keep {w w' : World} {b : Nat} {S : List (Addr × Addr)} (h : PMap w b S) (hb : Below w.heap.size w w') : PMap w' b S := by
  obtain ⟨es, c, h, h2⟩ := h
  exact ⟨es, c, by rw [hb.block b (lt_of_block h)]; exact h, h2⟩
theorem PMap.frm {X : Nat → Prop} {w w' : World} {b : Nat} {S : List (Addr × Addr)} (h : PMap w b S) (hf : Frm X w w') (hx : ¬ X b) : PMap w' b S := by
  obtain ⟨es, c, h, h2⟩ := h
  exact ⟨es, c, by rw [hf.block b (lt_of_block h) hx]; exact h, h2⟩
theorem PMap.lt {w : World} {b : Nat} {S : List (Addr × Addr)} (h : PMap w b S) : b < w.heap.size := by
  obtain ⟨es, c, h, h2⟩ := h
  exact lt_of_block h
theorem PMap.made (w : World) : PMap (w.alloc (.map #[] 0)) w.heap.size [] := ⟨#[], 0, (MapKept.heap_alloc w _).1, rfl⟩
theorem run_findAsking (p q : Addr) (w : World) (hp : Unfz w p.block) (hq : Unfz w q.block) : ∀ (es : List MapEntry) (S : List (Addr × Addr)) (i : Nat), es.map (fun e => (e.key, e.val)) = S.map (fun p => (ppV p.1 p.2, .agg #[])) → (∀ x ∈ S, Unfz w x.1.block ∧ Unfz w x.2.block) →
    (decide ((p, q) ∈ S) = false ∧ (Instr.findAsking 68 (ppV p q) es i).run Tryd.prog w = .ok none w) ∨ (decide ((p, q) ∈ S) = true ∧ ∃ j, (Instr.findAsking 68 (ppV p q) es i).run Tryd.prog w = .ok (some (j, .agg #[])) w)
  | [], S, i, h, _ => by
    have : S = [] := by simpa using h.symm
    subst this
    exact Or.inl ⟨by simp, by simp [Instr.findAsking]⟩
  | e :: es, [], i, h, _ => by simp at h
  | e :: es, (p', q') :: S, i, h, hU => by
    simp only [List.map_cons, List.cons.injEq, Prod.mk.injEq] at h
    obtain ⟨⟨h1, h2⟩, h3⟩ := h
    have hu := hU (p', q') (by simp)
    have he := eqIn_pair p q p' q' w hp hq hu.1 hu.2
    by_cases hpq : (p, q) = (p', q')
    · rw [decide_eq_true hpq] at he
      refine Or.inr ⟨decide_eq_true (by rw [hpq]; simp), i, ?_⟩
      unfold Instr.findAsking
      simp [h1, h2, he]
    · rw [decide_eq_false hpq] at he
      rcases run_findAsking p q w hp hq es S (i + 1) h3 (fun x hx => hU x (List.mem_cons_of_mem _ hx)) with ⟨g1, g2⟩ | ⟨g1, j, g2⟩
      · refine Or.inl ⟨decide_eq_false (fun hm => ?_), ?_⟩
        · rcases List.mem_cons.1 hm with hm | hm
          · exact hpq hm
          · exact of_decide_eq_false g1 hm
        · unfold Instr.findAsking
          simp [h1, he, g2]
      · refine Or.inr ⟨decide_eq_true (List.mem_cons_of_mem _ (of_decide_eq_true g1)), j, ?_⟩
        unfold Instr.findAsking
        simp [h1, he, g2]
theorem run_findKey (p q : Addr) (w : World) (hp : Unfz w p.block) (hq : Unfz w q.block) (es : List MapEntry) (S : List (Addr × Addr)) (h : es.map (fun e => (e.key, e.val)) = S.map (fun p => (ppV p.1 p.2, .agg #[]))) (hU : ∀ x ∈ S, Unfz w x.1.block ∧ Unfz w x.2.block) :
    (decide ((p, q) ∈ S) = false ∧ (Instr.findKey 68 (ppV p q) es).run Tryd.prog w = .ok none w) ∨ (decide ((p, q) ∈ S) = true ∧ ∃ j, (Instr.findKey 68 (ppV p q) es).run Tryd.prog w = .ok (some (j, .agg #[])) w) := by
  have hF := run_findAsking p q w hp hq es S 0 h hU
  cases es with
  | nil =>
    have : S = [] := by simpa using h.symm
    subst this
    exact Or.inl ⟨by simp, by unfold Instr.findKey; simp [run_underlying Tryd.underlying68, Instr.findNow]⟩
  | cons e es =>
    have e1 : (Instr.findKey 68 (ppV p q) (e :: es)).run Tryd.prog w = (Instr.findAsking 68 (ppV p q) (e :: es)).run Tryd.prog w := by
      unfold Instr.findKey
      simp [run_underlying Tryd.underlying68, Instr.findNow, Instr.sameNow]
    rw [e1]; exact hF
theorem run_checkKey (em : Bool) (p q : Addr) (w : World) : (Instr.checkKey em 10000 68 (ppV p q)).run Tryd.prog w = .ok () w := by
  have h : ∀ d p, (Instr.checkKey em (d + 1) 66 (.pointer (some p))).run Tryd.prog w = .ok () w := fun d p => by
    unfold Instr.checkKey
    simp [run_underlying Tryd.underlying66]
  have h1 := h 9998 p
  have h2 := h 9998 q
  have s4 : (sizeOf 66).run Tryd.prog w = .ok 1 w := by kernel_rfl
  rw [show (10000 : Nat) = 9998 + 1 + 1 from rfl, Instr.checkKey]
  simp only [Sem.run_bind, run_underlying Tryd.underlying68, Result.andThen_ok]
  go_simp
theorem look_pair {w : World} {b : Nat} {S : List (Addr × Addr)} (h : PMap w b S) (hU : ∀ x ∈ S, Unfz w x.1.block ∧ Unfz w x.2.block) (p q : Addr) (hp : Unfz w p.block) (hq : Unfz w q.block) :
    (Instr.lookup 70 (.map (some b)) (ppV p q) true).run Tryd.prog w = .ok (.tuple #[.agg #[], .bool (decide ((p, q) ∈ S))]) w := by
  obtain ⟨es, c, hb, hes⟩ := h
  have hck := run_checkKey es.isEmpty p q w
  have hz : (zeroValue 71).run Tryd.prog w = .ok (.agg #[]) w := by kernel_rfl
  rcases run_findKey p q w hp hq es.toList S hes hU with ⟨g1, g2⟩ | ⟨g1, j, g2⟩
  · rw [g1]
    simp [Instr.lookup, run_underlying Tryd.underlying70, MapKept.run_getObj_map hb, hck, g2, hz, Result.andThen]
  · rw [g1]
    simp [Instr.lookup, run_underlying Tryd.underlying70, MapKept.run_getObj_map hb, hck, g2, hz, Result.andThen]
theorem put_pair {w : World} {b : Nat} {S : List (Addr × Addr)} (h : PMap w b S) (hU : ∀ x ∈ S, Unfz w x.1.block ∧ Unfz w x.2.block) (p q : Addr) (hp : Unfz w p.block) (hq : Unfz w q.block) (hn : decide ((p, q) ∈ S) = false) :
    ∃ w', (Instr.mapUpdate 70 (.map (some b)) (ppV p q) (.agg #[])).run Tryd.prog w = .ok () w' ∧ PMap w' b (S ++ [(p, q)]) ∧ Frm (fun k => k = b) w w' ∧ w'.heap.size = w.heap.size := by
  obtain ⟨es, c, hb, hes⟩ := h
  have hck := run_checkKey false p q w
  rcases run_findKey p q w hp hq es.toList S hes hU with ⟨g1, g2⟩ | ⟨g1, j, g2⟩
  · refine ⟨_, ?_, ⟨es.push { key := ppV p q, val := .agg #[], born := c }, c + 1, ChangeMaps.heap_setBlock_same hb _, ?_⟩, ⟨rfl, rfl, rfl, ?_, ?_⟩, ?_⟩
    · simp [Instr.mapUpdate, run_underlying Tryd.underlying70, MapKept.run_getObj_map hb, hck, g2, Result.andThen, MapKept.run_setObj_map _ hb, ChangeMaps.setBlock]
    · simp [hes]
    · simp [ChangeMaps.setBlock]
    · intro k hk hne; exact ChangeMaps.heap_setBlock_other hb _ hne
    · simp [ChangeMaps.setBlock]
  · rw [hn] at g1; cases g1
end Go.Proofs.YtagmgkplfhlifaaDoor
