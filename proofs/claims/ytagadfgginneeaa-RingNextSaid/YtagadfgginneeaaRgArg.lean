/- Triples of numbers, as arguments. -/
import Derived.Test.YtagadfgginneeaaRgAll
import Derived.Test.YtagadfgginneeaaRows0
import Derived.Deep.SlicePairs
namespace Go.Proofs.Ytagadfgginneeaa
set_option linter.unusedVariables false
set_option linter.unusedSimpArgs false
set_option maxRecDepth 100000
open Go.ChangeShapes Go.WideShapes Go.ChangeAt Go.RowKit
/-- Each number is one of 64 bits. -/
def Fits (t : Rg.T) : Prop := ∀ c, c < 3 → -9223372036854775808 ≤ Rg.at' t c ∧ Rg.at' t c ≤ 9223372036854775807
section
variable {H : Type} {enc : TypeId × Value → H} {W : World} {base : Nat} {v : Value} {d : DataW H} {p : List MemPlace}
theorem ids_trod {sp : Nat → Bool} {held : Bool} {n : Nat} {cs : List Value} {x : DataW H × List MemPlace} (h : DataW.trod enc Try.prog W base sp held n 24 cs = some x) : ∃ t : Rg.T, cs = tl t ∧ Fits t := by
  obtain ⟨xs, m, _, _, hcl, hxl, hf⟩ := DataW.trod_array Try.underlying24 h
  have hc3 : cs.length = 3 := by rw [hcl]; kernel_rfl
  have h1 : Try.prog.cellsOf 3 = 1 := by kernel_rfl
  match cs, hc3 with
  | [c0, c1, c2], _ =>
    have e0 := hf 0 (by omega)
    have e1 := hf 1 (by omega)
    have e2 := hf 2 (by omega)
    rw [List.getElem?_eq_getElem (by omega)] at e0 e1 e2
    simp only [h1, Nat.mul_one, List.drop_zero, List.drop_succ_cons, List.take_succ_cons, List.take_zero] at e0 e1 e2
    obtain ⟨a, q0, _, w0⟩ := DataW.trod_int Try.underlying3 e0
    obtain ⟨b, q1, _, w1⟩ := DataW.trod_int Try.underlying3 e1
    obtain ⟨c, q2, _, w2⟩ := DataW.trod_int Try.underlying3 e2
    simp only [List.cons.injEq, and_true] at q0 q1 q2
    refine ⟨(a, b, c), by rw [q0, q1, q2]; rfl, fun k hk => ?_⟩
    rcases Rg.c3 hk with rfl | rfl | rfl
    · exact bounds_i64 w0
    · exact bounds_i64 w1
    · exact bounds_i64 w2
/-- A triple, as an argument. -/
theorem arg_id (h : DataW.Trod enc Try.prog W 0 (fun _ => true) true 24 v d p) : ∃ t : Rg.T, v = tv t ∧ Fits t := by
  obtain ⟨fuel, hf⟩ := h
  obtain ⟨t, e, hb⟩ := ids_trod hf
  refine ⟨t, ?_, hb⟩
  cases v with
  | agg xs =>
    simp only [Value.cells] at e
    have : xs = (tl t).toArray := by rw [← e]
    rw [this]; rfl
  | _ => simp [Value.cells, tl] at e
/-- Triples, as an argument. -/
theorem arg_ids (hv : Value.okWide Try.prog W .any base 22 v) (h : DataW.Trod enc Try.prog W 0 (fun _ => true) true 22 v d p) (hs : Sized 22 d) :
    ∃ L : List Rg.T, IdsAt W v L ∧ (∀ t ∈ L, Fits t) ∧ L.length ≤ 140737488351232 := by
  obtain ⟨fuel, hx⟩ := trod_cells Try.underlying22 hv h
  rcases Go.Deep.open_slice Try.underlying22 hx with ⟨hcs, _⟩ | ⟨a, len, cap, m, n, D, Pl, hcs, _, hl, hm, hmm, hx0, hxe⟩
  · simp only [List.cons.injEq, and_true] at hcs
    subst hcs
    exact ⟨[], IdsAt.nil W, (fun s hs => by cases hs), by simp⟩
  · simp only [List.cons.injEq, and_true] at hcs
    subst hcs
    simp only [if_true] at hmm
    subst hmm
    obtain ⟨rfl, _⟩ := Prod.mk.inj hx0
    have hc3 : Try.prog.cellsOf 24 = 3 := by kernel_rfl
    have hbytes : Try.prog.bytesOf 24 = 24 := by kernel_rfl
    have hw : len * 24 ≤ reachBytes := by
      have h1 : (len + (m - len)) * Try.prog.bytesOf 24 ≤ reachBytes := hs _ (by
        show _ ∈ DataW.weights Try.prog 22 (DataW.slice _ _)
        simp [DataW.weights, Try.underlying22])
      rw [hbytes] at h1
      omega
    rw [hc3] at hxe
    obtain ⟨L, hL, hp⟩ := choose_list ((0, 0, 0) : Rg.T) len (fun i t => (∀ c, c < 3 → W.cell? ((a.add (i * 3)).add c) = some (.int .i64 (Rg.at' t c))) ∧ Fits t) (fun i hi => by
      obtain ⟨cs, h1, h2⟩ := hxe i (by omega)
      obtain ⟨t, rfl, hf⟩ := ids_trod h2
      obtain ⟨_, _, hc⟩ := World.cells?_some h1
      exact ⟨t, fun c hc' => by rw [hc c hc', tl_get t c hc'], hf⟩)
    have hget : ∀ i (hi : i < L.length), L.getD i ((0, 0, 0) : Rg.T) = L[i] := fun i hi => by rw [List.getD, List.getElem?_eq_getElem hi]; rfl
    refine ⟨L, ⟨some a, m, by rw [hL], by omega, hm, (fun h => by cases h), ?_⟩, fun s hs => ?_, by unfold reachBytes at hw; omega⟩
    · rcases Nat.eq_zero_or_pos len with h0 | h0
      · exact Or.inl (by omega)
      · have h00 := (hp 0 h0).1 0 (by omega)
        have hsp : a.spot = none := by
          have := spot_none h00
          simpa [Addr.add] using this
        refine Or.inr ⟨a.block, a.off, by cases a; simp at hsp; rw [hsp], fun i hi c hc => ?_⟩
        have h1 := (hp i (by omega)).1 c hc
        rw [hget i hi] at h1
        have e : a.add (i * 3) = ⟨a.block, a.off + i * 3, none⟩ := by
          cases a
          simp at hsp
          subst hsp
          simp [Addr.add]
        rw [e, add_cell rfl] at h1
        exact h1
    · obtain ⟨i, hi, rfl⟩ := List.getElem_of_mem hs
      have := (hp i (by omega)).2
      rwa [hget i hi] at this
end
end Go.Proofs.Ytagadfgginneeaa
