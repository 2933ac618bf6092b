/- append of what stands in a new block, to a slice of the call's own. -/
import Derived.Test.YtgbhnkiballeeaaRows0
namespace Go.Proofs.Ytgbhnkiballeeaa
set_option linter.unusedVariables false
set_option linter.unusedSimpArgs false
open Go.ChangeShapes Go.WideShapes Go.ChangeAt Go.RowKit
/-- append of k elements of one cell each, which stand in a new block. -/
theorem wpList_append_many {w : World} {P : Program} {ops : Array Oper} {rest : List Oper} {o : Oper} {a : Act} {Q : Exit → Act → World → Prop} (hgd : o.guard = none) (s x : Operand) (t : TypeId)
    (ho : o.op = .call { callee := .builtin .append, args := #[s, x], argTypes := #[t, t] })
    (base : Nat) (e : TypeId) (i : TypeInfo) (z : Value) (bytes : Nat) (ht : P.underlying t = some (.slice e)) (hi : P.info? e = some i) (hz : i.zero = some z)
    (hsize : i.size = 1) (hby : i.bytes = bytes) (hzs : z.cells.size = 1)
    (v : Value) (n : Nat) (xs : List Value) (us : List Value) (m : Nat) (hm : m = us.length) (W : World) (hw : w = W.alloc (.cells us.toArray e)) (hs : a.eval s = v) (hown : W.ownsRow base e 1 v n xs)
    (H : Nat) (hH : W.heap.size = H) (hx : a.eval x = .slice (some ⟨H, 0, none⟩) m m) (h1 : ∀ u ∈ us, u.oneCell' = true)
    (h63 : n + m ≤ maxLen) (hbytes : (n + m) * bytes ≤ 140737488355328) (hbase : base ≤ W.heap.size)
    (h : ∀ v' w', w'.ownsRow base e 1 v' (n + m) (xs ++ us) → W.grownBy w' v.ownBlock → Moved W v v' → wpList P ops Q rest (a.put o.dst v') w') : wpList P ops Q (o :: rest) a w := by
  subst hw
  subst hm
  subst hH
  have hs1 : (W.alloc (.cells us.toArray e)).heap.size = W.heap.size + 1 := by simp
  refine wpList_append_blk hgd s x t ho base e i z 1 bytes ht hi hz hsize hby hzs (by decide) v n xs hs (hown.alloc _) (some ⟨W.heap.size, 0, none⟩) us.length us.length us hx (fun h => by cases h) (by simp) ?_ h1 h63 hbytes (by omega) (fun v' w' a b c => h v' w' a ?_ ?_)
  · intro ad had j u' hu
    cases had
    rw [add_cell rfl]
    rw [Nat.zero_add, cell_new]
    simpa using hu
  · refine ⟨b.os, b.tape, b.output, by have := b.size; omega, fun k hk hne => ?_⟩
    rw [b.block k (by omega) hne, Below.heap_alloc _ _ _ hk]
  · rcases c with c | ⟨k, c, d⟩
    · exact Or.inl c
    · exact Or.inr ⟨k, c, by omega⟩
/-- append to a full slice, which lies wherever: the new one is the call's own. -/
theorem wpList_append_full {w : World} {P : Program} {ops : Array Oper} {rest : List Oper} {o : Oper} {a : Act} {Q : Exit → Act → World → Prop} (hgd : o.guard = none) (s x : Operand) (t : TypeId)
    (ho : o.op = .call { callee := .builtin .append, args := #[s, x], argTypes := #[t, t] })
    (e : TypeId) (i : TypeInfo) (z : Value) (bytes : Nat) (ht : P.underlying t = some (.slice e)) (hi : P.info? e = some i) (hz : i.zero = some z)
    (hsize : i.size = 1) (hby : i.bytes = bytes) (hzs : z.cells.size = 1)
    (g n : Nat) (xs : List Value) (hs : a.eval s = .slice (some ⟨g, 0, none⟩) n n) (hxl : xs.length = n) (holds : ∀ j u, xs[j]? = some u → w.cell? ⟨g, j, none⟩ = some u)
    (sg m c : Nat) (us : List Value) (hx : a.eval x = .slice (some ⟨sg, 0, none⟩) m c) (hl : us.length = m) (hnews : ∀ j u, us[j]? = some u → w.cell? ⟨sg, j, none⟩ = some u) (h1 : ∀ u ∈ us, u.oneCell' = true)
    (hm : 0 < m) (h63 : n + m ≤ maxLen) (hbytes : (n + m) * bytes ≤ 140737488355328)
    (h : ∀ v' w', w'.ownsRow w.heap.size e 1 v' (n + m) (xs ++ us) → Below w.heap.size w w' → wpList P ops Q rest (a.put o.dst v') w') : wpList P ops Q (o :: rest) a w := by
  refine wpList_plain hgd fun K hK => ?_
  have hsmall : n + m ≤ 9223372036854775807 := by simp only [maxLen] at h63; omega
  subst hby
  have hr := run_append_grow (P := P) w t o.type e i z ht hi hz ⟨g, 0, none⟩ n n xs (by rw [hsize]; omega) (fun j u hu => by rw [add_cell rfl, Nat.zero_add]; exact holds j u hu) ⟨sg, 0, none⟩ m c us (by rw [hsize]; omega) (fun j u hu => by rw [add_cell rfl, Nat.zero_add]; exact hnews j u hu) (by omega) (by omega) (growslice_fits (by omega) hbytes)
  unfold Oper.wp execOp
  simp only [ho, resolve, invoke, builtin, Sem.run_bind, Sem.run_pure, Result.andThen_ok, List.map_toArray, List.map_cons, List.map_nil, hs, hx, hr]
  refine hK _ _ (h _ _ ⟨by rw [List.length_append]; omega, .inr ⟨w.heap.size, _, _, rfl, Nat.le_refl _, heap_alloc_new w.drew _, grownCap_ge w (n + m) n e, grownCap_le_maxLen w (n + m) n e h63, ?_, ?_⟩⟩ ?_)
  · have hge := grownCap_ge w (n + m) n e
    simp only [Array.size_append, List.size_toArray, size_zeroCells, hzs, List.length_append]
    omega
  · simp only [Array.toList_append, List.append_assoc]
    rw [← List.append_assoc, show (n + m) * 1 = (xs ++ us).length by rw [List.length_append]; omega]
    exact List.take_left
  · exact (Below.refl w.heap.size w).drew.alloc (Nat.le_refl _) _
end Go.Proofs.Ytgbhnkiballeeaa
