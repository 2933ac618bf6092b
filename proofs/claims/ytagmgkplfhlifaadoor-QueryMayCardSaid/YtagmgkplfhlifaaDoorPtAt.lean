/- Paths in memory; a path as an argument. -/
import Derived.Test.YtagmgkplfhlifaaDoorTexts
import Derived.Test.YtagmgkplfhlifaaDoorPtMath
namespace Go.Proofs.YtagmgkplfhlifaaDoor
set_option linter.unusedVariables false
set_option linter.unusedSimpArgs false
set_option maxRecDepth 100000
open Go.ChangeShapes Go.WideShapes Go.ChangeAt Go.RowKit
open Au
/-- A path as a value: v, u: its Texts and its Kids. -/
def pv (x : Pt) (v u : Value) : Value := .agg #[.int .i64 x.kind, str x.text, v, u]
/-- Four cells from o on hold a path. -/
def Row4 (W : World) (b o : Nat) (x : Pt) (v u : Value) : Prop := W.cell? ⟨b, o, none⟩ = some (.int .i64 x.kind) ∧ W.cell? ⟨b, o + 1, none⟩ = some (str x.text) ∧ W.cell? ⟨b, o + 2, none⟩ = some v ∧ W.cell? ⟨b, o + 3, none⟩ = some u
theorem Row4.keep {W W' : World} {b o : Nat} {x : Pt} {v u : Value} (h : Row4 W b o x v u) (hb : Below W.heap.size W W') : Row4 W' b o x v u :=
  ⟨below_keep hb h.1, below_keep hb h.2.1, below_keep hb h.2.2.1, below_keep hb h.2.2.2⟩
/-- A path's Texts and Kids lie there; v, u: the two slices. -/
inductive PtAt (W : World) : Value → Value → Pt → Prop
  | mk (k : Int) (t : T) (L : List T) (K : List Pt) (v : Value) (a : Option Addr) (cap b off : Nat) (f g : Nat → Value)
      (hk : -9223372036854775808 ≤ k ∧ k ≤ 9223372036854775807) (ht : t.length ≤ 140737488351232) (hL : TextsAt W v L) (hl : ∀ i, (L.getD i []).length ≤ 140737488351232) (h1 : K.length ≤ cap) (h2 : cap ≤ maxLen) (h3 : a = none → cap = 0) (h4 : 0 < K.length → a = some ⟨b, off, none⟩)
      (hc : ∀ i (h : i < K.length), Row4 W b (off + i * 4) K[i] (f i) (g i)) (hK : ∀ i (h : i < K.length), PtAt W (f i) (g i) K[i]) : PtAt W v (.slice a K.length cap) (.mk k t L K)
theorem PtAt.keep {W W' : World} (hb : Below W.heap.size W W') {v u : Value} {x : Pt} (h : PtAt W v u x) : PtAt W' v u x := by
  induction h with
  | mk k t L K v a cap b off f g hk ht hL hl h1 h2 h3 h4 hc hK ih => exact .mk k t L K v a cap b off f g hk ht (hL.keep hb) hl h1 h2 h3 h4 (fun i h => (hc i h).keep hb) ih
/-- What lies there, part by part. -/
theorem PtAt.open {W : World} {v u : Value} {x : Pt} (h : PtAt W v u x) : (-9223372036854775808 ≤ x.kind ∧ x.kind ≤ 9223372036854775807) ∧ x.text.length ≤ 140737488351232 ∧ TextsAt W v x.texts ∧ (∀ i, (x.texts.getD i []).length ≤ 140737488351232) ∧
    ∃ (a : Option Addr) (cap b off : Nat) (f g : Nat → Value), u = .slice a x.kids.length cap ∧ x.kids.length ≤ cap ∧ cap ≤ maxLen ∧ (a = none → cap = 0) ∧ (0 < x.kids.length → a = some ⟨b, off, none⟩) ∧
      (∀ i (h : i < x.kids.length), Row4 W b (off + i * 4) x.kids[i] (f i) (g i)) ∧ (∀ i (h : i < x.kids.length), PtAt W (f i) (g i) x.kids[i]) := by
  cases h with
  | mk k t L K v a cap b off f g hk ht hL hl h1 h2 h3 h4 hc hK => exact ⟨hk, ht, hL, hl, a, cap, b, off, f, g, rfl, h1, h2, h3, h4, hc, hK⟩
theorem Pt.eta (x : Pt) : x = .mk x.kind x.text x.texts x.kids := by cases x; rfl
theorem list4 {l : List Value} (h : l.length = 4) : ∃ c0 c1 c2 c3, l = [c0, c1, c2, c3] := by
  rcases l with _ | ⟨c0, _ | ⟨c1, _ | ⟨c2, _ | ⟨c3, _ | ⟨c4, l⟩⟩⟩⟩⟩
  all_goals (try simp at h)
  exact ⟨c0, c1, c2, c3, rfl⟩
section
variable {H : Type} {enc : TypeId × Value → H} {W : World} {base : Nat} {v : Value} {d : DataW H} {p : List MemPlace}
theorem sized_field {t : TypeId} {fs : Array Field} {i : Nat} {f : Field} {ds : List (DataW H)} {d : DataW H} (ht : Tryd.prog.underlying t = some (.struct fs)) (hs : Sized t (.agg ds)) (hf : fs[i]? = some f) (hd : ds[i]? = some d) : Sized f.type d := fun n hn => hs n (by
  show _ ∈ DataW.weights Tryd.prog t (DataW.agg ds)
  simp only [DataW.weights, ht]
  exact DataW.weights_mem_each (ts := fs.toList.map (·.type)) (j := i) (by simp [hf]) hd n hn)
theorem pt_trod : ∀ (n : Nat) (cs : List Value) (x : DataW H × List MemPlace), DataW.trod enc Tryd.prog W 0 (fun _ => true) true n 25 cs = some x → Sized 25 x.1 → ∃ (y : Pt) (v u : Value), cs = [.int .i64 y.kind, str y.text, v, u] ∧ PtAt W v u y := by
  intro n
  induction n using Nat.strongRecOn with
  | _ n ih =>
    intro cs x h hs
    obtain ⟨xs, m, rfl, rfl, hl, hlen, hf⟩ := DataW.trod_struct Tryd.underlying25 h
    have h4 : cs.length = 4 := by rw [hl]; kernel_rfl
    obtain ⟨c0, c1, c2, c3, rfl⟩ := list4 h4
    have hlen4 : xs.length = 4 := hlen
    obtain ⟨y0, y1, y2, y3, rfl⟩ : ∃ y0 y1 y2 y3, xs = [y0, y1, y2, y3] := by
      rcases xs with _ | ⟨c0, _ | ⟨c1, _ | ⟨c2, _ | ⟨c3, _ | ⟨c4, l⟩⟩⟩⟩⟩
      all_goals (try simp at hlen4)
      exact ⟨c0, c1, c2, c3, rfl⟩
    have g0 : DataW.trod enc Tryd.prog W 0 (fun _ => true) true m 3 [c0] = some y0 := hf 0 _ rfl
    have g1 : DataW.trod enc Tryd.prog W 0 (fun _ => true) true m 9 [c1] = some y1 := hf 1 _ rfl
    have g2 : DataW.trod enc Tryd.prog W 0 (fun _ => true) true m 22 [c2] = some y2 := hf 2 _ rfl
    have g3 : DataW.trod enc Tryd.prog W 0 (fun _ => true) true m 23 [c3] = some y3 := hf 3 _ rfl
    have s1 : Sized 9 y1.1 := sized_field Tryd.underlying25 hs (i := 1) rfl rfl
    have s2 : Sized 22 y2.1 := sized_field Tryd.underlying25 hs (i := 2) rfl rfl
    have s3 : Sized 23 y3.1 := sized_field Tryd.underlying25 hs (i := 3) rfl rfl
    obtain ⟨k, e0, f0, w0⟩ := DataW.trod_int Tryd.underlying3 g0
    simp only [List.cons.injEq, and_true] at e0
    subst e0
    have hk := bounds_i64 w0
    obtain ⟨t, rfl, ht⟩ := one_str Tryd.underlying9 m c1 y1 g1 s1
    obtain ⟨L, hL, hLl, _⟩ := read_list str [] (fun a => a.length ≤ 140737488351232) (by simp) Tryd.underlying22 (by kernel_rfl) g2 s2 (one_str Tryd.underlying9)
    rcases DataW.trod_slice Tryd.underlying23 g3 with ⟨e3, _⟩ | ⟨a, len, cap, elems, rest, m2, rfl, e3, hx3, _, hlc, hcm, hel, hev, _, _⟩
    · simp only [List.cons.injEq, and_true] at e3
      subst e3
      exact ⟨.mk k t L [], c2, .slice none 0 0, rfl, .mk k t L [] c2 none 0 0 0 (fun _ => undef) (fun _ => undef) hk ht hL hLl (Nat.le_refl _) (by unfold maxLen; omega) (fun _ => rfl) (fun h => absurd h (by simp)) (fun i h => absurd h (by simp)) (fun i h => absurd h (by simp))⟩
    · simp only [List.cons.injEq, and_true] at e3
      subst e3
      have hc4 : Tryd.prog.cellsOf 25 = 4 := by kernel_rfl
      rw [hc4] at hev
      have hsz : ∀ i (h : i < elems.length), Sized 25 (elems[i]).1 := fun i hi k hk => s3 k (by
        rw [hx3]
        show _ ∈ DataW.weights Tryd.prog 23 (DataW.slice _ _)
        simp only [DataW.weights, Tryd.underlying23, List.mem_cons, List.mem_append]
        exact Or.inr (Or.inl (weightsAll_mem hk (List.mem_map.2 ⟨elems[i], List.getElem_mem hi, rfl⟩))))
      have one : ∀ i, i < len → ∃ (y : Pt) (v u : Value), PtAt W v u y ∧ ∀ c, c < 4 → W.cell? ((a.add (i * 4)).add c) = [.int .i64 y.kind, str y.text, v, u][c]? := fun i hi => by
        have h1 := hev i hi
        have hie : i < elems.length := by omega
        rw [List.getElem?_eq_getElem hie] at h1
        obtain ⟨cs', h2, h3⟩ := Option.bind_eq_some_iff.1 h1
        obtain ⟨y, v, u, rfl, hy⟩ := ih m2 (by omega) cs' _ h3 (hsz i hie)
        obtain ⟨_, _, hc⟩ := World.cells?_some h2
        exact ⟨y, v, u, hy, fun c hc' => by rw [hc c hc']⟩
      obtain ⟨K, hKl, hKp⟩ := choose_list (⟨default, undef, undef⟩ : Pt × Value × Value) len (fun i q => PtAt W q.2.1 q.2.2 q.1 ∧ ∀ c, c < 4 → W.cell? ((a.add (i * 4)).add c) = [.int .i64 q.1.kind, str q.1.text, q.2.1, q.2.2][c]?) (fun i hi => by
        obtain ⟨y, v, u, h1, h2⟩ := one i hi
        exact ⟨⟨y, v, u⟩, h1, h2⟩)
      have hsp : 0 < len → a.spot = none := fun h0 => by
        have h1 := (hKp 0 h0).2 0 (by omega)
        have h1' : W.cell? ((a.add (0 * 4)).add 0) = some (.int .i64 (K.getD 0 (⟨default, undef, undef⟩ : Pt × Value × Value)).1.kind) := h1
        have := spot_none h1'
        simpa [Addr.add] using this
      have key : ∀ i, i < len → PtAt W (K.getD i (default, undef, undef)).2.1 (K.getD i (default, undef, undef)).2.2 (K.getD i (default, undef, undef)).1 := fun i hi => (hKp i hi).1
      refine ⟨.mk k t L (K.map (·.1)), c2, .slice (some a) (K.map (·.1)).length cap, ?_, ?_⟩
      · simp [Pt.kind, Pt.text, hKl]
      refine .mk k t L (K.map (·.1)) c2 (some a) cap a.block a.off (fun i => (K.getD i (default, undef, undef)).2.1) (fun i => (K.getD i (default, undef, undef)).2.2) hk ht hL hLl (by simp; omega) hcm (fun h => by cases h) (fun h => ?_) (fun i hi => ?_) (fun i hi => ?_)
      · have := hsp (by simpa [hKl] using h)
        cases a; simp at this; rw [this]
      · have hi' : i < len := by simpa [hKl] using hi
        have hik : i < K.length := by omega
        have hs := hsp (by omega)
        have h2 := (hKp i hi').2
        have e : a.add (i * 4) = ⟨a.block, a.off + i * 4, none⟩ := by cases a; simp at hs; subst hs; simp [Addr.add]
        rw [e] at h2
        have hg : K.getD i (default, undef, undef) = K[i] := by simp [List.getD, hik]
        rw [hg] at h2
        rw [List.getElem_map]
        simp only [hg]
        refine ⟨?_, ?_, ?_, ?_⟩
        · have := h2 0 (by omega); rwa [add_cell rfl] at this
        · have := h2 1 (by omega); rwa [add_cell rfl] at this
        · have := h2 2 (by omega); rwa [add_cell rfl] at this
        · have := h2 3 (by omega); rwa [add_cell rfl] at this
      · have hi' : i < len := by simpa [hKl] using hi
        have := key i hi'
        have hg : (K.getD i (default, undef, undef)).1 = (K.map (·.1))[i] := by simp [List.getD, show i < K.length by omega]
        rwa [hg] at this
/-- A path, as an argument. -/
theorem arg_pt (hv : Value.okWide Tryd.prog W .any base 25 v) (h : DataW.Trod enc Tryd.prog W 0 (fun _ => true) true 25 v d p) (hs : Sized 25 d) :
    ∃ (x : Pt) (a b : Value), v = pv x a b ∧ PtAt W a b x := by
  obtain ⟨cs, rfl, hsz⟩ := okWide_struct Tryd.underlying25 hv
  obtain ⟨fuel, hf⟩ := h
  obtain ⟨y, a, b, h1, h2⟩ := pt_trod fuel cs.toList (d, p) hf hs
  obtain rfl : cs = #[.int .i64 y.kind, str y.text, a, b] := by cases cs; simp_all
  exact ⟨y, a, b, rfl, h2⟩
end
end Go.Proofs.YtagmgkplfhlifaaDoor
