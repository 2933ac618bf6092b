/- Queries: as plain data, and as they lie in memory. -/
import Derived.Test.YtagmgkplfhlifaaDoorPtAt
namespace Go.Proofs.YtagmgkplfhlifaaDoor.Au
set_option linter.unusedVariables false
set_option linter.unusedSimpArgs false
set_option maxRecDepth 100000
open Go Go.RowKit
/-- An end: a variable's name, or a term. -/
structure En where
  v : T
  k : Int
  t : T
  x : T
/-- A pattern. -/
structure Pa where
  s : En
  p : Pt
  o : En
instance : Inhabited En := ⟨⟨[], 0, [], []⟩⟩
instance : Inhabited Pa := ⟨⟨default, default, default⟩⟩
/-- One name more, if it is new and is one. -/
def addV (l : List T) (v : T) : List T := if v ∈ l ∨ v = [] then l else l ++ [v]
def names (ps : List Pa) : List T := ps.flatMap fun p => [p.s.v, p.o.v]
def addsV (l : List T) (ns : List T) : List T := ns.foldl addV l
/-- A query's variables. -/
def varsOf (ps : List Pa) : List T := addsV [] (names ps)
theorem addsV_append (l a b : List T) : addsV l (a ++ b) = addsV (addsV l a) b := by unfold addsV; rw [List.foldl_append]
theorem addV_old {l : List T} {v : T} (h : decide (v ∈ l) = true ∨ v = []) : addV l v = l := by
  unfold addV; rw [if_pos (h.imp of_decide_eq_true id)]
theorem addV_new {l : List T} {v : T} (h : decide (v ∈ l) = false) (h0 : v ≠ []) : addV l v = l ++ [v] := by
  unfold addV; rw [if_neg (fun h' => h'.elim (of_decide_eq_false h) h0)]
theorem addV_len (l : List T) (v : T) : (addV l v).length ≤ l.length + 1 := by unfold addV; split <;> simp
theorem addsV_len (l : List T) : ∀ ns : List T, (addsV l ns).length ≤ l.length + ns.length := by
  intro ns
  induction ns generalizing l with
  | nil => exact Nat.le_refl _
  | cons v ns ih =>
    have := ih (addV l v)
    have := addV_len l v
    show (addsV (addV l v) ns).length ≤ _
    rw [List.length_cons]; omega
theorem addV_mem {l : List T} {v x : T} (h : x ∈ addV l v) : x ∈ l ∨ x = v := by
  unfold addV at h
  split at h
  · exact .inl h
  · simpa using h
theorem addsV_mem : ∀ {ns l : List T} {x : T}, x ∈ addsV l ns → x ∈ l ∨ x ∈ ns
  | [], l, x, h => .inl h
  | v :: ns, l, x, h => by
    rcases addsV_mem (ns := ns) (l := addV l v) h with h | h
    · exact (addV_mem h).imp id (fun e => by rw [e]; exact List.mem_cons_self)
    · exact .inr (List.mem_cons_of_mem _ h)
theorem names_len (ps : List Pa) : (names ps).length = 2 * ps.length := by
  unfold names
  induction ps with
  | nil => rfl
  | cons p ps ih => rw [List.flatMap_cons, List.length_append, ih, List.length_cons]; simp; omega
theorem names_take {ps : List Pa} {i : Nat} (h : i < ps.length) : names (ps.take (i + 1)) = names (ps.take i) ++ [ps[i].s.v, ps[i].o.v] := by
  rw [List.take_add_one, List.getElem?_eq_getElem h]
  unfold names
  rw [List.flatMap_append]; simp
/-- What a query's texts and numbers fit in. -/
def okE (e : En) : Prop := (-9223372036854775808 ≤ e.k ∧ e.k ≤ 9223372036854775807) ∧ e.v.length ≤ 140737488351232 ∧ e.t.length ≤ 140737488351232 ∧ e.x.length ≤ 140737488351232
end Go.Proofs.YtagmgkplfhlifaaDoor.Au
namespace Go.Proofs.YtagmgkplfhlifaaDoor
set_option linter.unusedVariables false
set_option linter.unusedSimpArgs false
set_option maxRecDepth 100000
open Go.ChangeShapes Go.WideShapes Go.ChangeAt Go.RowKit
open Au
/-- An end's value, and a pattern's cells. -/
def enV (e : En) : Value := .agg #[str e.v, .int .i64 e.k, str e.t, str e.x]
def paC (x : Pa) (v u : Value) : List Value := [str x.s.v, .int .i64 x.s.k, str x.s.t, str x.s.x, .int .i64 x.p.kind, str x.p.text, v, u, str x.o.v, .int .i64 x.o.k, str x.o.t, str x.o.x]
/-- Twelve cells from o on hold a pattern. -/
def Row12 (W : World) (b o : Nat) (x : Pa) (v u : Value) : Prop := ∀ c, c < 12 → W.cell? ⟨b, o + c, none⟩ = (paC x v u)[c]?
theorem Row12.keep {W W' : World} {b o : Nat} {x : Pa} {v u : Value} (h : Row12 W b o x v u) (hb : Below W.heap.size W W') : Row12 W' b o x v u := fun c hc => by
  have hl : (paC x v u).length = 12 := rfl
  rw [List.getElem?_eq_getElem (by omega)]
  exact below_keep hb (by rw [h c hc, List.getElem?_eq_getElem (by omega)])
/-- A slice of patterns. -/
def PasAt (W : World) (sl : Value) (L : List Pa) : Prop := ∃ (a : Option Addr) (cap b off : Nat) (f g : Nat → Value), sl = .slice a L.length cap ∧ L.length ≤ cap ∧ cap ≤ maxLen ∧ (a = none → cap = 0) ∧ (0 < L.length → a = some ⟨b, off, none⟩) ∧
  (∀ i (h : i < L.length), Row12 W b (off + i * 12) L[i] (f i) (g i)) ∧ (∀ i (h : i < L.length), PtAt W (f i) (g i) L[i].p) ∧ (∀ i (h : i < L.length), okE L[i].s ∧ okE L[i].o)
theorem PasAt.keep {W W' : World} {sl : Value} {L : List Pa} (h : PasAt W sl L) (hb : Below W.heap.size W W') : PasAt W' sl L := by
  obtain ⟨a, cap, b, off, f, g, e, h1, h2, h3, h4, h5, h6, h7⟩ := h
  exact ⟨a, cap, b, off, f, g, e, h1, h2, h3, h4, fun i hi => (h5 i hi).keep hb, fun i hi => (h6 i hi).keep hb, h7⟩
/-- The twelve cells, one by one. -/
theorem Row12.open {W : World} {b o : Nat} {x : Pa} {v u : Value} (h : Row12 W b o x v u) : W.cell? ⟨b, o, none⟩ = some (str x.s.v) ∧ W.cell? ⟨b, o + 1, none⟩ = some (.int .i64 x.s.k) ∧ W.cell? ⟨b, o + 2, none⟩ = some (str x.s.t) ∧ W.cell? ⟨b, o + 3, none⟩ = some (str x.s.x) ∧
    W.cell? ⟨b, o + 4, none⟩ = some (.int .i64 x.p.kind) ∧ W.cell? ⟨b, o + 5, none⟩ = some (str x.p.text) ∧ W.cell? ⟨b, o + 6, none⟩ = some v ∧ W.cell? ⟨b, o + 7, none⟩ = some u ∧
    W.cell? ⟨b, o + 8, none⟩ = some (str x.o.v) ∧ W.cell? ⟨b, o + 9, none⟩ = some (.int .i64 x.o.k) ∧ W.cell? ⟨b, o + 10, none⟩ = some (str x.o.t) ∧ W.cell? ⟨b, o + 11, none⟩ = some (str x.o.x) :=
  ⟨h 0 (by omega), h 1 (by omega), h 2 (by omega), h 3 (by omega), h 4 (by omega), h 5 (by omega), h 6 (by omega), h 7 (by omega), h 8 (by omega), h 9 (by omega), h 10 (by omega), h 11 (by omega)⟩
theorem paC_one (x : Pa) (v u : Value) (hv : v.oneCell' = true) (hu : u.oneCell' = true) : ∀ z ∈ paC x v u, z.oneCell' = true := by
  intro z hz; simp [paC] at hz; rcases hz with rfl | rfl | rfl | rfl | rfl | rfl | rfl | rfl | rfl | rfl | rfl | rfl <;> first | rfl | assumption
/-- A pattern's box. -/
def new12 (W : World) (x : Pa) (v u : Value) (t : TypeId) : World := W.alloc (.cells #[str x.s.v, .int .i64 x.s.k, str x.s.t, str x.s.x, .int .i64 x.p.kind, str x.p.text, v, u, str x.o.v, .int .i64 x.o.k, str x.o.t, str x.o.x] t)
end Go.Proofs.YtagmgkplfhlifaaDoor
