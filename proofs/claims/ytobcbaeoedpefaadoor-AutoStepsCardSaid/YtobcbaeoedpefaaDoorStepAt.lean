/- Steps of a word in memory; as an argument; the laws' word. -/
import Derived.Test.YtobcbaeoedpefaaDoorFrm
import Derived.Test.YtobcbaeoedpefaaDoorPtAt
import Derived.Test.YtobcbaeoedpefaaDoorAuMath
namespace Go.Proofs.YtobcbaeoedpefaaDoor
set_option linter.unusedVariables false
set_option linter.unusedSimpArgs false
set_option maxRecDepth 100000
open Go.ChangeShapes Go.WideShapes Go.ChangeAt Go.RowKit
open Au
/-- A step. -/
structure Stp where
  from_ : Int
  to : Int
  back : Bool
  not : Bool
  texts : List T
deriving Inhabited
def Row5 (W : World) (b o : Nat) (x : Stp) (v : Value) : Prop := W.cell? ⟨b, o, none⟩ = some (.int .i64 x.from_) ∧ W.cell? ⟨b, o + 1, none⟩ = some (.int .i64 x.to) ∧ W.cell? ⟨b, o + 2, none⟩ = some (.bool x.back) ∧ W.cell? ⟨b, o + 3, none⟩ = some (.bool x.not) ∧ W.cell? ⟨b, o + 4, none⟩ = some v
theorem Row5.keep {W W' : World} {b o : Nat} {x : Stp} {v : Value} (h : Row5 W b o x v) (hb : Below W.heap.size W W') : Row5 W' b o x v :=
  ⟨below_keep hb h.1, below_keep hb h.2.1, below_keep hb h.2.2.1, below_keep hb h.2.2.2.1, below_keep hb h.2.2.2.2⟩
/-- Steps lie there. -/
def StepsAt (W : World) (v : Value) (L : List Stp) : Prop := ∃ (a : Option Addr) (cap b off : Nat) (f : Nat → Value), v = .slice a L.length cap ∧ L.length ≤ cap ∧ cap ≤ maxLen ∧ (a = none → cap = 0) ∧ (0 < L.length → a = some ⟨b, off, none⟩) ∧
  (∀ i (h : i < L.length), Row5 W b (off + i * 5) L[i] (f i)) ∧ (∀ i (h : i < L.length), TextsAt W (f i) L[i].texts)
/-- No text of it is too long. -/
def Stp.low (x : Stp) : Prop := ∀ i, (x.texts.getD i []).length ≤ 140737488351232
theorem StepsAt.keep {W W' : World} {v : Value} {L : List Stp} (h : StepsAt W v L) (hb : Below W.heap.size W W') : StepsAt W' v L := by
  obtain ⟨a, cap, b, off, f, h1, h2, h3, h4, h5, h6, h7⟩ := h
  exact ⟨a, cap, b, off, f, h1, h2, h3, h4, h5, fun i hi => (h6 i hi).keep hb, fun i hi => (h7 i hi).keep hb⟩
theorem StepsAt.nil (W : World) : StepsAt W (.slice none 0 0) [] := ⟨none, 0, 0, 0, fun _ => undef, rfl, Nat.le_refl _, by unfold maxLen; omega, fun _ => rfl, fun h => absurd h (by simp), fun i h => absurd h (by simp), fun i h => absurd h (by simp)⟩
theorem StepsAt.open {W : World} {v : Value} {L : List Stp} (h : StepsAt W v L) : ∃ (a : Option Addr) (cap : Nat), v = .slice a L.length cap ∧ L.length ≤ cap ∧ cap ≤ maxLen := by
  obtain ⟨a, cap, b, off, f, h1, h2, h3, _⟩ := h
  exact ⟨a, cap, h1, h2, h3⟩
theorem list5 {l : List Value} (h : l.length = 5) : ∃ c0 c1 c2 c3 c4, l = [c0, c1, c2, c3, c4] := by
  rcases l with _ | ⟨c0, _ | ⟨c1, _ | ⟨c2, _ | ⟨c3, _ | ⟨c4, _ | ⟨c5, l⟩⟩⟩⟩⟩⟩
  all_goals (try simp at h)
  exact ⟨c0, c1, c2, c3, c4, rfl⟩
section
variable {H : Type} {enc : TypeId × Value → H} {W : World} {base : Nat} {v : Value} {d : DataW H} {p : List MemPlace}
theorem step_trod {n : Nat} {cs : List Value} {x : DataW H × List MemPlace} (h : DataW.trod enc Tryd.prog W 0 (fun _ => true) true n 48 cs = some x) (hs : Sized 48 x.1) : ∃ (y : Stp) (v : Value), cs = [.int .i64 y.from_, .int .i64 y.to, .bool y.back, .bool y.not, v] ∧ TextsAt W v y.texts ∧ y.low := by
  obtain ⟨xs, m, rfl, rfl, hl, hlen, hf⟩ := DataW.trod_struct Tryd.underlying48 h
  have h5 : cs.length = 5 := by rw [hl]; kernel_rfl
  obtain ⟨c0, c1, c2, c3, c4, rfl⟩ := list5 h5
  have hlen5 : xs.length = 5 := hlen
  obtain ⟨y0, y1, y2, y3, y4, rfl⟩ : ∃ y0 y1 y2 y3 y4, xs = [y0, y1, y2, y3, y4] := by
    rcases xs with _ | ⟨c0, _ | ⟨c1, _ | ⟨c2, _ | ⟨c3, _ | ⟨c4, _ | ⟨c5, l⟩⟩⟩⟩⟩⟩
    all_goals (try simp at hlen5)
    exact ⟨c0, c1, c2, c3, c4, rfl⟩
  have g0 : DataW.trod enc Tryd.prog W 0 (fun _ => true) true m 3 [c0] = some y0 := hf 0 _ rfl
  have g1 : DataW.trod enc Tryd.prog W 0 (fun _ => true) true m 3 [c1] = some y1 := hf 1 _ rfl
  have g2 : DataW.trod enc Tryd.prog W 0 (fun _ => true) true m 4 [c2] = some y2 := hf 2 _ rfl
  have g3 : DataW.trod enc Tryd.prog W 0 (fun _ => true) true m 4 [c3] = some y3 := hf 3 _ rfl
  have g4 : DataW.trod enc Tryd.prog W 0 (fun _ => true) true m 22 [c4] = some y4 := hf 4 _ rfl
  have s4 : Sized 22 y4.1 := sized_field Tryd.underlying48 hs (i := 4) rfl rfl
  obtain ⟨k0, e0, f0, w0⟩ := DataW.trod_int Tryd.underlying3 g0
  obtain ⟨k1, e1, f1, w1⟩ := DataW.trod_int Tryd.underlying3 g1
  obtain ⟨b2, e2, f2⟩ := DataW.trod_bool Tryd.underlying4 g2
  obtain ⟨b3, e3, f3⟩ := DataW.trod_bool Tryd.underlying4 g3
  simp only [List.cons.injEq, and_true] at e0 e1 e2 e3
  subst e0 e1 e2 e3
  obtain ⟨L, hL, hLl, _⟩ := read_list str [] (fun a => a.length ≤ 140737488351232) (by simp) Tryd.underlying22 (by kernel_rfl) g4 s4 (one_str Tryd.underlying9)
  exact ⟨⟨k0, k1, b2, b3, L⟩, c4, rfl, hL, hLl⟩
theorem arg_steps (hv : Value.okWide Tryd.prog W .any base 36 v) (h : DataW.Trod enc Tryd.prog W 0 (fun _ => true) true 36 v d p) (hs : Sized 36 d) :
    ∃ L : List Stp, StepsAt W v L ∧ (∀ t ∈ L, t.low) := by
  obtain ⟨fuel, hx⟩ := trod_cells Tryd.underlying36 hv h
  rcases DataW.trod_slice Tryd.underlying36 hx with ⟨e3, _⟩ | ⟨a, len, cap, elems, rest, m2, _, e3, hx3, _, hlc, hcm, hel, hev, _, _⟩
  · simp only [List.cons.injEq, and_true] at e3
    subst e3
    exact ⟨[], StepsAt.nil W, fun t h => by cases h⟩
  · simp only [List.cons.injEq, and_true] at e3
    subst e3
    obtain ⟨rfl, _⟩ := Prod.mk.inj hx3
    have hc5 : Tryd.prog.cellsOf 48 = 5 := by kernel_rfl
    rw [hc5] at hev
    have hsz : ∀ i (h : i < elems.length), Sized 48 (elems[i]).1 := fun i hi k hk => hs k (by
      show _ ∈ DataW.weights Tryd.prog 36 (DataW.slice _ _)
      simp only [DataW.weights, Tryd.underlying36, List.mem_cons, List.mem_append]
      exact Or.inr (Or.inl (weightsAll_mem hk (List.mem_map.2 ⟨elems[i], List.getElem_mem hi, rfl⟩))))
    have one : ∀ i, i < len → ∃ q : Stp × Value, TextsAt W q.2 q.1.texts ∧ q.1.low ∧ ∀ c, c < 5 → W.cell? ((a.add (i * 5)).add c) = [.int .i64 q.1.from_, .int .i64 q.1.to, .bool q.1.back, .bool q.1.not, q.2][c]? := fun i hi => by
      have h1 := hev i hi
      have hie : i < elems.length := by omega
      rw [List.getElem?_eq_getElem hie] at h1
      obtain ⟨cs', h2, h3⟩ := Option.bind_eq_some_iff.1 h1
      obtain ⟨y, v, rfl, hy, hlw⟩ := step_trod h3 (hsz i hie)
      obtain ⟨_, _, hc⟩ := World.cells?_some h2
      exact ⟨(y, v), hy, hlw, fun c hc' => by rw [hc c hc']⟩
    obtain ⟨K, hKl, hKp⟩ := choose_list (⟨default, undef⟩ : Stp × Value) len _ one
    have hsp : 0 < len → a.spot = none := fun h0 => by
      have h1 := (hKp 0 h0).2.2 0 (by omega)
      have h1' : W.cell? ((a.add (0 * 5)).add 0) = some (.int .i64 (K.getD 0 (⟨default, undef⟩ : Stp × Value)).1.from_) := h1
      have := spot_none h1'
      simpa [Addr.add] using this
    have hg : ∀ i, i < len → K.getD i (default, undef) = K.getD i (default, undef) := fun _ _ => rfl
    refine ⟨K.map (·.1), ⟨some a, cap, a.block, a.off, fun i => (K.getD i (default, undef)).2, by rw [List.length_map, hKl], by rw [List.length_map, hKl]; exact hlc, hcm, (fun h => by cases h), (fun h => ?_), (fun i hi => ?_), (fun i hi => ?_)⟩, fun t ht => ?_⟩
    · have := hsp (by simpa [hKl] using h)
      cases a; simp at this; rw [this]
    · have hi' : i < len := by simpa [hKl] using hi
      have hik : i < K.length := by omega
      have hs := hsp (by omega)
      have h2 := (hKp i hi').2.2
      have e : a.add (i * 5) = ⟨a.block, a.off + i * 5, none⟩ := by cases a; simp at hs; subst hs; simp [Addr.add]
      rw [e] at h2
      have hg : K.getD i (default, undef) = K[i] := by simp [List.getD, hik]
      rw [hg] at h2
      rw [List.getElem_map]
      simp only [hg]
      refine ⟨?_, ?_, ?_, ?_, ?_⟩
      · have := h2 0 (by omega); rwa [add_cell rfl] at this
      · have := h2 1 (by omega); rwa [add_cell rfl] at this
      · have := h2 2 (by omega); rwa [add_cell rfl] at this
      · have := h2 3 (by omega); rwa [add_cell rfl] at this
      · have := h2 4 (by omega); rwa [add_cell rfl] at this
    · have hi' : i < len := by simpa [hKl] using hi
      have := (hKp i hi').1
      have hg : (K.getD i (default, undef)).1 = (K.map (·.1))[i] := by simp [List.getD, show i < K.length by omega]
      rwa [hg] at this
    · obtain ⟨q, hq, rfl⟩ := List.mem_map.1 ht
      obtain ⟨i, hi, rfl⟩ := List.getElem_of_mem hq
      have := (hKp i (by omega)).2.1
      have hg : K.getD i (default, undef) = K[i] := by simp [List.getD, hi]
      rwa [hg] at this
end
end Go.Proofs.YtobcbaeoedpefaaDoor
