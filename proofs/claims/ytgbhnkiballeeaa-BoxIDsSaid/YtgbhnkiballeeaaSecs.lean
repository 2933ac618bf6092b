/- Sections in memory. -/
import Derived.Test.YtgbhnkiballeeaaRows0
import Derived.Test.YtgbhnkiballeeaaBxMath
import Derived.Deep.SlicePairs
namespace Go.Proofs.Ytgbhnkiballeeaa
set_option linter.unusedVariables false
set_option linter.unusedSimpArgs false
open Go.ChangeShapes Go.WideShapes Go.ChangeAt Go.RowKit
/-- A section's cells: its ID, and a slice of its body. -/
def SecCells (W : World) (b off : Nat) (s : Bx.Sec) : Prop := W.cell? ⟨b, off, none⟩ = some (.int .i64 s.1) ∧ ∃ v, W.cell? ⟨b, off + 1, none⟩ = some v ∧ BytesAt W v s.2
theorem SecCells.keep {W W' : World} {b off : Nat} {s : Bx.Sec} (h : SecCells W b off s) (hb : Below W.heap.size W W') : SecCells W' b off s := by
  obtain ⟨h1, v, h2, h3⟩ := h
  exact ⟨below_keep hb h1, v, below_keep hb h2, h3.keep hb⟩
/-- Sections lie there. -/
def SecsAt (W : World) (v : Value) (L : List Bx.Sec) : Prop := ∃ (a : Option Addr) (cap : Nat), v = .slice a L.length cap ∧ L.length ≤ cap ∧ cap ≤ maxLen ∧ (a = none → cap = 0) ∧
  (L.length = 0 ∨ ∃ b off, a = some ⟨b, off, none⟩ ∧ ∀ i (h : i < L.length), SecCells W b (off + i * 2) L[i])
theorem SecsAt.keep {W W' : World} {v : Value} {L : List Bx.Sec} (h : SecsAt W v L) (hb : Below W.heap.size W W') : SecsAt W' v L := by
  obtain ⟨a, cap, h1, h2, h3, h4, h5⟩ := h
  refine ⟨a, cap, h1, h2, h3, h4, ?_⟩
  rcases h5 with h5 | ⟨b, off, e, h5⟩
  · exact Or.inl h5
  · exact Or.inr ⟨b, off, e, fun i hi => (h5 i hi).keep hb⟩
theorem SecsAt.nil (W : World) : SecsAt W (.slice none 0 0) [] := ⟨none, 0, rfl, Nat.le_refl _, by unfold maxLen; omega, fun _ => rfl, Or.inl rfl⟩
theorem SecsAt.get {W : World} {a : Option Addr} {n cap : Nat} {L : List Bx.Sec} (h : SecsAt W (.slice a n cap) L) {i : Nat} (hi : i < L.length) : ∃ b off, a = some ⟨b, off, none⟩ ∧ ∀ i (h : i < L.length), SecCells W b (off + i * 2) L[i] := by
  obtain ⟨a', cap', e, h2, h3, h4, h5⟩ := h
  simp only [Value.slice.injEq] at e
  obtain ⟨rfl, rfl, rfl⟩ := e
  rcases h5 with h5 | h5
  · omega
  · exact h5
theorem SecsAt.open {W : World} {v : Value} {L : List Bx.Sec} (h : SecsAt W v L) : ∃ a cap, v = .slice a L.length cap ∧ L.length ≤ cap ∧ cap ≤ maxLen ∧ (a = none → cap = 0) := by
  obtain ⟨a, cap, h1, h2, h3, h4, _⟩ := h
  exact ⟨a, cap, h1, h2, h3, h4⟩
section
variable {H : Type} {enc : TypeId × Value → H} {W : World} {base : Nat} {v : Value} {d : DataW H} {p : List MemPlace}
theorem sec_fields : ∃ f0 f1 : Field, Try.prog.underlying 42 = some (.struct #[f0, f1]) ∧ Try.prog.cellsOf 42 = 2 ∧ f0.offset = 0 ∧ f1.offset = 1 ∧ f0.type = 3 ∧ f1.type = 24 ∧ Try.prog.bytesOf 42 = 32 :=
  ⟨_, _, Try.underlying42, by kernel_rfl, by kernel_rfl, by kernel_rfl, by kernel_rfl, by kernel_rfl, by kernel_rfl⟩
/-- Sections, as an argument. -/
theorem arg_secs (hv : Value.okWide Try.prog W .any base 22 v) (h : DataW.Trod enc Try.prog W 0 (fun _ => true) true 22 v d p) (hs : Sized 22 d) :
    ∃ L : List Bx.Sec, SecsAt W v L ∧ Bx.Bytes L ∧ (∀ s ∈ L, -9223372036854775808 ≤ s.1 ∧ s.1 ≤ 9223372036854775807 ∧ s.2.length ≤ 140737488351232) ∧ L.length ≤ 140737488351232 := by
  obtain ⟨f0, f1, hf, hc, o0, o1, t0, t1, hbytes⟩ := sec_fields
  obtain ⟨fuel, hx⟩ := trod_cells Try.underlying22 hv h
  rcases Go.Deep.open_slice_pairs Try.underlying22 hf hc o0 o1 (by rw [t0]; kernel_rfl) (by rw [t1]; kernel_rfl) hx with ⟨hcs, _⟩ | ⟨a, len, cap, m, n, V0, V1, D0, D1, P0, P1, hcs, _, hl, hm, hmm, hx0, hxe⟩
  · simp only [List.cons.injEq, and_true] at hcs
    subst hcs
    exact ⟨[], SecsAt.nil W, (fun s hs => by cases hs), (fun s hs => by cases hs), by simp⟩
  · simp only [List.cons.injEq, and_true] at hcs
    subst hcs
    simp only [if_true] at hmm
    subst hmm
    obtain ⟨rfl, _⟩ := Prod.mk.inj hx0
    have hx := hxe
    rw [t0, t1] at hx
    have hw : len * 32 ≤ reachBytes := by
      have h1 : (len + (m - len)) * Try.prog.bytesOf 42 ≤ reachBytes := hs _ (by
        show _ ∈ DataW.weights Try.prog 22 (DataW.slice _ _)
        simp [DataW.weights, Try.underlying22])
      rw [hbytes] at h1
      omega
    have hsz : ∀ i, i < len → Sized 24 (D1 i) := fun i hi k hk => hs k (by
      show _ ∈ DataW.weights Try.prog 22 (DataW.slice _ _)
      simp only [DataW.weights, Try.underlying22, List.mem_cons, List.mem_append]
      refine Or.inr (Or.inl (weightsAll_mem (d := .agg [D0 i, D1 i]) ?_ (List.mem_map.2 ⟨i, by simpa using hi, rfl⟩)))
      simp only [DataW.weights, hf, DataW.weightsEach, List.map_cons, List.map_nil, List.mem_append, t1]
      exact Or.inr (Or.inl hk))
    obtain ⟨L, hL, hp⟩ := choose_list ((0, []) : Bx.Sec) len (fun i s => V0 i = .int .i64 s.1 ∧ BytesAt W (V1 i) s.2 ∧ (∀ j, s.2.getD j 0 < 256) ∧ (-9223372036854775808 ≤ s.1 ∧ s.1 ≤ 9223372036854775807) ∧ s.2.length ≤ 140737488351232) (fun i hi => by
      obtain ⟨_, _, k0, k1⟩ := hx i (by omega)
      obtain ⟨y, hy, hz⟩ := one_i64 Try.underlying3 n (V0 i) _ k0 (fun _ h => by
        have := k0
        obtain ⟨b, _, e, _⟩ := DataW.trod_int Try.underlying3 k0
        rw [(Prod.mk.inj e).1] at h
        simp [DataW.weights] at h)
      obtain ⟨l, h1, h2, h3⟩ := read_list u8v 0 (· < 256) (by decide) Try.underlying24 (by kernel_rfl) k1 (hsz i hi) (one_u8 Try.underlying5)
      rw [show Try.prog.bytesOf 5 = 1 by kernel_rfl] at h3
      exact ⟨(y, l), hy, h1, h2, hz, by unfold reachBytes at h3; show l.length ≤ _; omega⟩)
    have hget : ∀ i (hi : i < L.length), L.getD i ((0, []) : Bx.Sec) = L[i] := fun i hi => by rw [List.getD, List.getElem?_eq_getElem hi]; rfl
    have hmem : ∀ s ∈ L, ∃ i, i < len ∧ L.getD i (0, []) = s := fun s hs => by
      obtain ⟨i, hi, rfl⟩ := List.getElem_of_mem hs
      exact ⟨i, by omega, hget i hi⟩
    refine ⟨L, ⟨some a, m, by rw [hL], by omega, hm, (fun h => by cases h), ?_⟩, fun s hs => ?_, fun s hs => ?_, by unfold reachBytes at hw; omega⟩
    · rcases Nat.eq_zero_or_pos len with h0 | h0
      · exact Or.inl (by omega)
      · have hsp : a.spot = none := spot_none (by have := (hx 0 (by omega)).1; simpa [Addr.add] using this)
        refine Or.inr ⟨a.block, a.off, by cases a; simp at hsp; rw [hsp], fun i hi => ?_⟩
        obtain ⟨k0, k1, _, _⟩ := hx i (by omega)
        obtain ⟨e0, e1, _⟩ := hp i (by omega)
        rw [hget i hi] at e0 e1
        rw [add_cell hsp] at k0 k1
        rw [e0] at k0
        exact ⟨k0, V1 i, k1, e1⟩
    · obtain ⟨i, hi, rfl⟩ := hmem s hs
      exact (hp i hi).2.2.1
    · obtain ⟨i, hi, rfl⟩ := hmem s hs
      have := (hp i hi).2.2.2
      exact ⟨this.1.1, this.1.2, this.2⟩
end
end Go.Proofs.Ytgbhnkiballeeaa
