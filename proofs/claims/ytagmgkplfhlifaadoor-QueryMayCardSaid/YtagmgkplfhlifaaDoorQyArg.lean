/- A query as an argument. -/
import Derived.Test.YtagmgkplfhlifaaDoorQyIs2
import Derived.Deep.Strs
namespace Go.Proofs.YtagmgkplfhlifaaDoor
set_option linter.unusedVariables false
set_option linter.unusedSimpArgs false
set_option maxRecDepth 100000
open Go.ChangeShapes Go.WideShapes Go.ChangeAt Go.RowKit
open Au
section
variable {H : Type} {enc : TypeId × Value → H} {W : World} {base : Nat} {v : Value} {d : DataW H} {p : List MemPlace}
theorem slice_read {α : Type} [Inhabited α] {t e : TypeId} {k : Nat} (ht : Tryd.prog.underlying t = some (.slice e)) (hk : Tryd.prog.cellsOf e = k) (hk0 : 0 < k) (G : α → List Value → Prop) (hG : ∀ a cs, G a cs → cs.length = k)
    {n : Nat} {c : Value} {y : DataW H × List MemPlace} (g : DataW.trod enc Tryd.prog W 0 (fun _ => true) true n t [c] = some y) (hs : Sized t y.1)
    (one : ∀ m cs x, DataW.trod enc Tryd.prog W 0 (fun _ => true) true m e cs = some x → Sized e x.1 → ∃ a, G a cs) :
    ∃ (L : List α) (a : Option Addr) (cap b off : Nat), c = .slice a L.length cap ∧ L.length ≤ cap ∧ cap ≤ maxLen ∧ (a = none → cap = 0) ∧ (0 < L.length → a = some ⟨b, off, none⟩) ∧ ∀ i (h : i < L.length), ∃ cs, G L[i] cs ∧ ∀ q, q < k → W.cell? ⟨b, off + i * k + q, none⟩ = cs[q]? := by
  rcases DataW.trod_slice ht g with ⟨e3, _⟩ | ⟨a, len, cap, elems, rest, m2, rfl, e3, hx3, _, hlc, hcm, hel, hev, _, _⟩
  · simp only [List.cons.injEq, and_true] at e3
    subst e3
    exact ⟨[], none, 0, 0, 0, rfl, Nat.le_refl _, by unfold maxLen; omega, fun _ => rfl, fun h => absurd h (by simp), fun i h => absurd h (by simp)⟩
  · simp only [List.cons.injEq, and_true] at e3
    subst e3
    rw [hk] at hev
    have hsz : ∀ i (h : i < elems.length), Sized e (elems[i]).1 := fun i hi q hq => hs q (by
      rw [hx3]
      show _ ∈ DataW.weights Tryd.prog t (DataW.slice _ _)
      simp only [DataW.weights, ht, List.mem_cons, List.mem_append]
      exact Or.inr (Or.inl (weightsAll_mem hq (List.mem_map.2 ⟨elems[i], List.getElem_mem hi, rfl⟩))))
    have oneA : ∀ i, i < len → ∃ z : α × List Value, G z.1 z.2 ∧ ∀ c, c < k → W.cell? ((a.add (i * k)).add c) = z.2[c]? := fun i hi => by
      have h1 := hev i hi
      have hie : i < elems.length := by omega
      rw [List.getElem?_eq_getElem hie] at h1
      obtain ⟨cs', h2, h3⟩ := Option.bind_eq_some_iff.1 h1
      obtain ⟨z, hz⟩ := one m2 cs' _ h3 (hsz i hie)
      obtain ⟨_, _, hc⟩ := World.cells?_some h2
      exact ⟨⟨z, cs'⟩, hz, fun c hc' => by rw [hc c hc']⟩
    obtain ⟨K, hKl, hKp⟩ := choose_list (⟨default, []⟩ : α × List Value) len (fun i z => G z.1 z.2 ∧ ∀ c, c < k → W.cell? ((a.add (i * k)).add c) = z.2[c]?) oneA
    have hsp : 0 < len → a.spot = none := fun h0 => by
      have h1 := (hKp 0 h0).2 0 hk0
      have hl := hG _ _ (hKp 0 h0).1
      rw [List.getElem?_eq_getElem (by omega)] at h1
      have := spot_none h1
      simpa [Addr.add] using this
    refine ⟨K.map (·.1), some a, cap, a.block, a.off, by simp [hKl], by simp; omega, hcm, (fun h => by cases h), fun h => ?_, fun i hi => ?_⟩
    · have := hsp (by simpa [hKl] using h)
      cases a; simp at this; rw [this]
    · have hi' : i < len := by simpa [hKl] using hi
      have hik : i < K.length := by omega
      have hs := hsp (by omega)
      have h2 := hKp i hi'
      have e : a.add (i * k) = ⟨a.block, a.off + i * k, none⟩ := by cases a; simp at hs; subst hs; simp [Addr.add]
      rw [e] at h2
      have hg : K.getD i (default, []) = K[i] := by simp [List.getD, hik]
      rw [hg] at h2
      refine ⟨K[i].2, by rw [List.getElem_map]; exact h2.1, fun q hq => ?_⟩
      have := h2.2 q hq
      rwa [add_cell rfl] at this
theorem term_trod {n : Nat} {cs : List Value} {x : DataW H × List MemPlace} (h : DataW.trod enc Tryd.prog W 0 (fun _ => true) true n 49 cs = some x) (hs : Sized 49 x.1) :
    ∃ (k : Int) (t u : T), cs = [.int .i64 k, str t, str u] ∧ (-9223372036854775808 ≤ k ∧ k ≤ 9223372036854775807) ∧ t.length ≤ 140737488351232 ∧ u.length ≤ 140737488351232 := by
  obtain ⟨xs, m, rfl, rfl, hl, hlen, hf⟩ := DataW.trod_struct Tryd.underlying49 h
  have h3 : cs.length = 3 := by rw [hl]; kernel_rfl
  obtain ⟨c0, c1, c2, rfl⟩ : ∃ c0 c1 c2, cs = [c0, c1, c2] := by
    rcases cs with _ | ⟨c0, _ | ⟨c1, _ | ⟨c2, _ | ⟨c3, l⟩⟩⟩⟩
    all_goals (try simp at h3)
    exact ⟨c0, c1, c2, rfl⟩
  have hlen3 : xs.length = 3 := hlen
  obtain ⟨y0, y1, y2, rfl⟩ : ∃ y0 y1 y2, xs = [y0, y1, y2] := by
    rcases xs with _ | ⟨c0, _ | ⟨c1, _ | ⟨c2, _ | ⟨c3, l⟩⟩⟩⟩
    all_goals (try simp at hlen3)
    exact ⟨c0, c1, c2, rfl⟩
  have g0 : DataW.trod enc Tryd.prog W 0 (fun _ => true) true m 3 [c0] = some y0 := hf 0 _ rfl
  have g1 : DataW.trod enc Tryd.prog W 0 (fun _ => true) true m 9 [c1] = some y1 := hf 1 _ rfl
  have g2 : DataW.trod enc Tryd.prog W 0 (fun _ => true) true m 9 [c2] = some y2 := hf 2 _ rfl
  have s1 : Sized 9 y1.1 := sized_field Tryd.underlying49 hs (i := 1) rfl rfl
  have s2 : Sized 9 y2.1 := sized_field Tryd.underlying49 hs (i := 2) rfl rfl
  obtain ⟨k, e0, f0, w0⟩ := DataW.trod_int Tryd.underlying3 g0
  simp only [List.cons.injEq, and_true] at e0
  subst e0
  obtain ⟨t, rfl, ht⟩ := one_str Tryd.underlying9 m c1 y1 g1 s1
  obtain ⟨u, rfl, hu⟩ := one_str Tryd.underlying9 m c2 y2 g2 s2
  exact ⟨k, t, u, rfl, bounds_i64 w0, ht, hu⟩
theorem end_trod {n : Nat} {cs : List Value} {x : DataW H × List MemPlace} (h : DataW.trod enc Tryd.prog W 0 (fun _ => true) true n 51 cs = some x) (hs : Sized 51 x.1) :
    ∃ e : En, cs = [str e.v, .int .i64 e.k, str e.t, str e.x] ∧ okE e := by
  obtain ⟨xs, m, rfl, rfl, hl, hlen, hf⟩ := DataW.trod_struct Tryd.underlying51 h
  have h4 : cs.length = 4 := by rw [hl]; kernel_rfl
  obtain ⟨c0, c1, c2, c3, rfl⟩ := list4 h4
  have hlen2 : xs.length = 2 := hlen
  obtain ⟨y0, y1, rfl⟩ : ∃ y0 y1, xs = [y0, y1] := by
    rcases xs with _ | ⟨c0, _ | ⟨c1, _ | ⟨c2, l⟩⟩⟩
    all_goals (try simp at hlen2)
    exact ⟨c0, c1, rfl⟩
  have g0 : DataW.trod enc Tryd.prog W 0 (fun _ => true) true m 9 [c0] = some y0 := hf 0 _ rfl
  have g1 : DataW.trod enc Tryd.prog W 0 (fun _ => true) true m 49 [c1, c2, c3] = some y1 := hf 1 _ rfl
  have s0 : Sized 9 y0.1 := sized_field Tryd.underlying51 hs (i := 0) rfl rfl
  have s1 : Sized 49 y1.1 := sized_field Tryd.underlying51 hs (i := 1) rfl rfl
  obtain ⟨t, rfl, ht⟩ := one_str Tryd.underlying9 m c0 y0 g0 s0
  obtain ⟨k, a, b, e, hk, ha, hb⟩ := term_trod g1 s1
  simp only [List.cons.injEq, and_true] at e
  obtain ⟨rfl, rfl, rfl⟩ := e
  exact ⟨⟨t, k, a, b⟩, rfl, hk, ht, ha, hb⟩
theorem pat_trod {n : Nat} {cs : List Value} {x : DataW H × List MemPlace} (h : DataW.trod enc Tryd.prog W 0 (fun _ => true) true n 53 cs = some x) (hs : Sized 53 x.1) :
    ∃ (z : Pa × Value × Value), cs = paC z.1 z.2.1 z.2.2 ∧ PtAt W z.2.1 z.2.2 z.1.p ∧ okE z.1.s ∧ okE z.1.o := by
  obtain ⟨xs, m, rfl, rfl, hl, hlen, hf⟩ := DataW.trod_struct Tryd.underlying53 h
  have h12 : cs.length = 12 := by rw [hl]; kernel_rfl
  obtain ⟨c0, c1, c2, c3, c4, c5, c6, c7, c8, c9, c10, c11, rfl⟩ : ∃ c0 c1 c2 c3 c4 c5 c6 c7 c8 c9 c10 c11, cs = [c0, c1, c2, c3, c4, c5, c6, c7, c8, c9, c10, c11] := by
    rcases cs with _ | ⟨c0, _ | ⟨c1, _ | ⟨c2, _ | ⟨c3, _ | ⟨c4, _ | ⟨c5, _ | ⟨c6, _ | ⟨c7, _ | ⟨c8, _ | ⟨c9, _ | ⟨c10, _ | ⟨c11, _ | ⟨c12, l⟩⟩⟩⟩⟩⟩⟩⟩⟩⟩⟩⟩⟩
    all_goals (try simp at h12)
    exact ⟨c0, c1, c2, c3, c4, c5, c6, c7, c8, c9, c10, c11, rfl⟩
  have hlen3 : xs.length = 3 := hlen
  obtain ⟨y0, y1, y2, rfl⟩ : ∃ y0 y1 y2, xs = [y0, y1, y2] := by
    rcases xs with _ | ⟨c0, _ | ⟨c1, _ | ⟨c2, _ | ⟨c3, l⟩⟩⟩⟩
    all_goals (try simp at hlen3)
    exact ⟨c0, c1, c2, rfl⟩
  have g0 : DataW.trod enc Tryd.prog W 0 (fun _ => true) true m 51 [c0, c1, c2, c3] = some y0 := hf 0 _ rfl
  have g1 : DataW.trod enc Tryd.prog W 0 (fun _ => true) true m 25 [c4, c5, c6, c7] = some y1 := hf 1 _ rfl
  have g2 : DataW.trod enc Tryd.prog W 0 (fun _ => true) true m 51 [c8, c9, c10, c11] = some y2 := hf 2 _ rfl
  have s0 : Sized 51 y0.1 := sized_field Tryd.underlying53 hs (i := 0) rfl rfl
  have s1 : Sized 25 y1.1 := sized_field Tryd.underlying53 hs (i := 1) rfl rfl
  have s2 : Sized 51 y2.1 := sized_field Tryd.underlying53 hs (i := 2) rfl rfl
  obtain ⟨e0, q0, k0⟩ := end_trod g0 s0
  obtain ⟨y, a, b, q1, k1⟩ := pt_trod m _ y1 g1 s1
  obtain ⟨e2, q2, k2⟩ := end_trod g2 s2
  simp only [List.cons.injEq, and_true] at q0 q1 q2
  obtain ⟨rfl, rfl, rfl, rfl⟩ := q0
  obtain ⟨rfl, rfl, rfl, rfl⟩ := q1
  obtain ⟨rfl, rfl, rfl, rfl⟩ := q2
  exact ⟨⟨⟨e0, y, e2⟩, _, _⟩, rfl, k1, k0, k2⟩
theorem float_trod {n : Nat} {c : Value} {x : DataW H × List MemPlace} (h : DataW.trod enc Tryd.prog W 0 (fun _ => true) true n 78 [c] = some x) : ∃ q : Nat, c = .float .f64 q := by
  cases n with
  | zero => simp [DataW.trod] at h
  | succ n =>
    unfold DataW.trod at h
    rw [Tryd.underlying78] at h
    cases c <;> simp at h
    rename_i k b
    obtain ⟨⟨rfl, _⟩, _⟩ := h
    exact ⟨b, rfl⟩
theorem fi_trod {n : Nat} {cs : List Value} {x : DataW H × List MemPlace} (h : DataW.trod enc Tryd.prog W 0 (fun _ => true) true n 80 cs = some x) (hs : Sized 80 x.1) :
    ∃ z : Fi, cs = [str z.v, str z.op, .float .f64 z.n] ∧ z.v.length ≤ 140737488351232 ∧ z.op.length ≤ 140737488351232 := by
  obtain ⟨xs, m, rfl, rfl, hl, hlen, hf⟩ := DataW.trod_struct Tryd.underlying80 h
  have h3 : cs.length = 3 := by rw [hl]; kernel_rfl
  obtain ⟨c0, c1, c2, rfl⟩ : ∃ c0 c1 c2, cs = [c0, c1, c2] := by
    rcases cs with _ | ⟨c0, _ | ⟨c1, _ | ⟨c2, _ | ⟨c3, l⟩⟩⟩⟩
    all_goals (try simp at h3)
    exact ⟨c0, c1, c2, rfl⟩
  have hlen3 : xs.length = 3 := hlen
  obtain ⟨y0, y1, y2, rfl⟩ : ∃ y0 y1 y2, xs = [y0, y1, y2] := by
    rcases xs with _ | ⟨c0, _ | ⟨c1, _ | ⟨c2, _ | ⟨c3, l⟩⟩⟩⟩
    all_goals (try simp at hlen3)
    exact ⟨c0, c1, c2, rfl⟩
  have g0 : DataW.trod enc Tryd.prog W 0 (fun _ => true) true m 9 [c0] = some y0 := hf 0 _ rfl
  have g1 : DataW.trod enc Tryd.prog W 0 (fun _ => true) true m 9 [c1] = some y1 := hf 1 _ rfl
  have g2 : DataW.trod enc Tryd.prog W 0 (fun _ => true) true m 78 [c2] = some y2 := hf 2 _ rfl
  have s0 : Sized 9 y0.1 := sized_field Tryd.underlying80 hs (i := 0) rfl rfl
  have s1 : Sized 9 y1.1 := sized_field Tryd.underlying80 hs (i := 1) rfl rfl
  obtain ⟨t, rfl, ht⟩ := one_str Tryd.underlying9 m c0 y0 g0 s0
  obtain ⟨u, rfl, hu⟩ := one_str Tryd.underlying9 m c1 y1 g1 s1
  obtain ⟨q, rfl⟩ := float_trod g2
  exact ⟨⟨t, u, q⟩, rfl, ht, hu⟩
theorem qy_trod {n : Nat} {cs : List Value} {x : DataW H × List MemPlace} (h : DataW.trod enc Tryd.prog W 0 (fun _ => true) true n 40 cs = some x) (hs : Sized 40 x.1) :
    ∃ (q : Qy) (vs sl fs : Value), cs = [.bool q.ask, vs, sl, fs, .int .i64 q.lim, .int .i64 q.off] ∧ QyAt W vs sl fs q := by
  obtain ⟨xs, m, rfl, rfl, hl, hlen, hf⟩ := DataW.trod_struct Tryd.underlying40 h
  have h6 : cs.length = 6 := by rw [hl]; kernel_rfl
  obtain ⟨c0, c1, c2, c3, c4, c5, rfl⟩ : ∃ c0 c1 c2 c3 c4 c5, cs = [c0, c1, c2, c3, c4, c5] := by
    rcases cs with _ | ⟨c0, _ | ⟨c1, _ | ⟨c2, _ | ⟨c3, _ | ⟨c4, _ | ⟨c5, _ | ⟨c6, l⟩⟩⟩⟩⟩⟩⟩
    all_goals (try simp at h6)
    exact ⟨c0, c1, c2, c3, c4, c5, rfl⟩
  have hlen6 : xs.length = 6 := hlen
  obtain ⟨y0, y1, y2, y3, y4, y5, rfl⟩ : ∃ y0 y1 y2 y3 y4 y5, xs = [y0, y1, y2, y3, y4, y5] := by
    rcases xs with _ | ⟨c0, _ | ⟨c1, _ | ⟨c2, _ | ⟨c3, _ | ⟨c4, _ | ⟨c5, _ | ⟨c6, l⟩⟩⟩⟩⟩⟩⟩
    all_goals (try simp at hlen6)
    exact ⟨c0, c1, c2, c3, c4, c5, rfl⟩
  have g0 : DataW.trod enc Tryd.prog W 0 (fun _ => true) true m 4 [c0] = some y0 := hf 0 _ rfl
  have g1 : DataW.trod enc Tryd.prog W 0 (fun _ => true) true m 22 [c1] = some y1 := hf 1 _ rfl
  have g2 : DataW.trod enc Tryd.prog W 0 (fun _ => true) true m 37 [c2] = some y2 := hf 2 _ rfl
  have g3 : DataW.trod enc Tryd.prog W 0 (fun _ => true) true m 38 [c3] = some y3 := hf 3 _ rfl
  have g4 : DataW.trod enc Tryd.prog W 0 (fun _ => true) true m 3 [c4] = some y4 := hf 4 _ rfl
  have g5 : DataW.trod enc Tryd.prog W 0 (fun _ => true) true m 3 [c5] = some y5 := hf 5 _ rfl
  have s1 : Sized 22 y1.1 := sized_field Tryd.underlying40 hs (i := 1) rfl rfl
  have s2 : Sized 37 y2.1 := sized_field Tryd.underlying40 hs (i := 2) rfl rfl
  have s3 : Sized 38 y3.1 := sized_field Tryd.underlying40 hs (i := 3) rfl rfl
  obtain ⟨ask, e0, _⟩ := DataW.trod_bool Tryd.underlying4 g0
  obtain ⟨lim, e4, f4, w4⟩ := DataW.trod_int Tryd.underlying3 g4
  obtain ⟨off, e5, f5, w5⟩ := DataW.trod_int Tryd.underlying3 g5
  simp only [List.cons.injEq, and_true] at e0 e4 e5
  subst e0 e4 e5
  obtain ⟨V, hV, hVl, _⟩ := read_list str [] (fun a => a.length ≤ 140737488351232) (by simp) Tryd.underlying22 (by kernel_rfl) g1 s1 (one_str Tryd.underlying9)
  obtain ⟨LP, pa, pc, pb, po, rfl, p1, p2, p3, p4, p5⟩ := slice_read (k := 12) Tryd.underlying37 (by kernel_rfl) (by decide) (fun (z : Pa × Value × Value) cs => cs = paC z.1 z.2.1 z.2.2 ∧ PtAt W z.2.1 z.2.2 z.1.p ∧ okE z.1.s ∧ okE z.1.o) (fun a cs h => by rw [h.1]; rfl) g2 s2 (fun m cs x h1 h2 => pat_trod h1 h2)
  obtain ⟨LF, fa, fc, fb, fo, rfl, q1, q2, q3, q4, q5⟩ := slice_read (k := 3) Tryd.underlying38 (by kernel_rfl) (by decide) (fun (z : Fi) cs => cs = [str z.v, str z.op, .float .f64 z.n] ∧ z.v.length ≤ 140737488351232 ∧ z.op.length ≤ 140737488351232) (fun a cs h => by rw [h.1]; rfl) g3 s3 (fun m cs x h1 h2 => fi_trod h1 h2)
  refine ⟨⟨ask, V, LP.map (·.1), LF, lim, off⟩, c1, .slice pa LP.length pc, .slice fa LF.length fc, rfl, hV, ?_, ?_, bounds_i64 w4, bounds_i64 w5⟩
  · refine ⟨pa, pc, pb, po, fun i => (LP.getD i default).2.1, fun i => (LP.getD i default).2.2, by simp, by simpa using p1, p2, p3, by simpa using p4, fun i hi q hq => ?_, fun i hi => ?_, fun i hi => ?_⟩
    all_goals
      have hi' : i < LP.length := by simpa using hi
      obtain ⟨cs, ⟨h1, h2, h3, h4⟩, h5⟩ := p5 i hi'
      have hg : LP.getD i default = LP[i] := by simp [List.getD, hi']
    · simp only [List.getElem_map, hg]
      rw [h5 q hq, h1]
    · simp only [List.getElem_map, hg]
      exact h2
    · simp only [List.getElem_map]
      exact ⟨h3, h4⟩
  · refine ⟨fa, fc, fb, fo, rfl, q1, q2, q3, q4, fun i hi => ?_, fun i hi => ?_⟩
    all_goals obtain ⟨cs, ⟨h1, h2, h3⟩, h5⟩ := q5 i hi
    · subst h1
      exact ⟨h5 0 (by omega), h5 1 (by omega), h5 2 (by omega)⟩
    · exact ⟨h2, h3⟩
/-- A query, as an argument. -/
theorem arg_qy (hv : Value.okWide Tryd.prog W .any base 40 v) (h : DataW.Trod enc Tryd.prog W 0 (fun _ => true) true 40 v d p) (hs : Sized 40 d) :
    ∃ (q : Qy) (vs sl fs : Value), v = qyV q vs sl fs ∧ QyAt W vs sl fs q := by
  obtain ⟨cs, rfl, hsz⟩ := okWide_struct Tryd.underlying40 hv
  obtain ⟨fuel, hF⟩ := h
  obtain ⟨q, vs, sl, fs, h1, h2⟩ := qy_trod (cs := cs.toList) (x := (d, p)) hF hs
  obtain rfl : cs = #[.bool q.ask, vs, sl, fs, .int .i64 q.lim, .int .i64 q.off] := by cases cs; simp_all
  exact ⟨q, vs, sl, fs, rfl, h2⟩
end
end Go.Proofs.YtagmgkplfhlifaaDoor
