/- Paths at addresses, in blocks of cells that no string shares; what SamePath's loop keeps. -/
import Derived.Test.YtagmgkplfhlifaaDoorSmTop
namespace Go.Proofs.YtagmgkplfhlifaaDoor
set_option linter.unusedVariables false
set_option linter.unusedSimpArgs false
set_option maxRecDepth 100000
open Go.ChangeShapes Go.WideShapes Go.ChangeAt Go.RowKit
open Au
/-- The Kids of a path, and theirs, lie in blocks that no string shares. -/
inductive PtO (W : World) : Value → Pt → Prop
  | mk (k : Int) (t : T) (L : List T) (K : List Pt) (a : Option Addr) (cap b off : Nat) (g : Nat → Value) (h4 : 0 < K.length → a = some ⟨b, off, none⟩ ∧ Unfz W b)
      (hc : ∀ i, i < K.length → W.cell? ⟨b, off + i * 4 + 3, none⟩ = some (g i)) (hK : ∀ i (h : i < K.length), PtO W (g i) K[i]) : PtO W (.slice a K.length cap) (.mk k t L K)
theorem PtO.keep {W W' : World} (hb : Below W.heap.size W W') {u : Value} {x : Pt} (h : PtO W u x) : PtO W' u x := by
  induction h with
  | mk k t L K a cap b off g h4 hc hK ih => exact .mk k t L K a cap b off g (fun h => ⟨(h4 h).1, (h4 h).2.keep hb⟩) (fun i h => below_keep hb (hc i h)) ih
theorem PtO.open {W : World} {u : Value} {x : Pt} (h : PtO W u x) : ∃ (a : Option Addr) (cap b off : Nat) (g : Nat → Value), u = .slice a x.kids.length cap ∧ (0 < x.kids.length → a = some ⟨b, off, none⟩ ∧ Unfz W b) ∧
    (∀ i, i < x.kids.length → W.cell? ⟨b, off + i * 4 + 3, none⟩ = some (g i)) ∧ (∀ i (h : i < x.kids.length), PtO W (g i) x.kids[i]) := by
  cases h with
  | mk k t L K a cap b off g h4 hc hK => exact ⟨a, cap, b, off, g, rfl, h4, hc, hK⟩
/-- A path at an address. -/
def PAt (W : World) (b o : Nat) (x : Pt) : Prop := ∃ v u, Unfz W b ∧ Row4 W b o x v u ∧ PtAt W v u x ∧ PtO W u x
theorem PAt.keep {W W' : World} {b o : Nat} {x : Pt} (h : PAt W b o x) (hb : Below W.heap.size W W') : PAt W' b o x := by
  obtain ⟨v, u, h1, h2, h3, h4⟩ := h
  exact ⟨v, u, h1.keep hb, h2.keep hb, h3.keep hb, h4.keep hb⟩
theorem PAt.kids {W : World} {b o : Nat} {x : Pt} (h : PAt W b o x) : ∃ (a : Option Addr) (cap b' o' : Nat), W.cell? ⟨b, o + 3, none⟩ = some (.slice a x.kids.length cap) ∧ x.kids.length ≤ cap ∧ cap ≤ maxLen ∧ (0 < x.kids.length → a = some ⟨b', o', none⟩) ∧
    ∀ i (h : i < x.kids.length), PAt W b' (o' + i * 4) x.kids[i] := by
  obtain ⟨v, u, h1, h2, h3, h4⟩ := h
  obtain ⟨_, _, _, _, a, cap, b', o', f, g, rfl, q1, q2, q3, q4, hc, hK⟩ := h3.open
  obtain ⟨a2, cap2, b2, o2, g2, e, p4, pc, pK⟩ := h4.open
  cases e
  refine ⟨a, cap, b', o', h2.2.2.2, q1, q2, q4, fun i hi => ?_⟩
  have h0 : 0 < x.kids.length := by omega
  have e1 := q4 h0
  obtain ⟨e2, hu⟩ := p4 h0
  rw [e1] at e2
  cases e2
  have e3 := pc i hi
  have e4 := (hc i hi).2.2.2
  rw [e3] at e4
  have e5 : g2 i = g i := Option.some.inj e4
  exact ⟨f i, g i, hu, hc i hi, hK i hi, e5 ▸ pK i hi⟩
theorem texts_fun {W : World} {v : Value} {L L' : List T} (h : TextsAt W v L) (h' : TextsAt W v L') : L = L' := by
  obtain ⟨a, c, rfl, q1, q2, q3, hr⟩ := h.open
  obtain ⟨a', c', e, q1', q2', q3', hr'⟩ := h'.open
  simp only [Value.slice.injEq] at e
  obtain ⟨rfl, el, rfl⟩ := e
  refine List.ext_getElem el fun i h1 h2 => ?_
  obtain ⟨b, off, hab, hc⟩ := hr.get h1
  obtain ⟨b', off', hab', hc'⟩ := hr'.get h2
  rw [hab] at hab'
  cases hab'
  have e1 := hc i h1
  have e2 := hc' i h2
  rw [e1] at e2
  have e3 := str_inj (Option.some.inj e2)
  simpa [List.getD, h1, h2] using e3
theorem pt_fun : ∀ (x : Pt) {W : World} {v u : Value} {y : Pt}, PtAt W v u x → PtAt W v u y → x.kind = y.kind → x.text = y.text → x = y := by
  intro x
  induction x using Pt.ind with
  | h k t L K ih =>
    intro W v u y hx hy ek et
    obtain ⟨_, _, hL, _, a, cap, b, o, f, g, e1, q1, q2, q3, q4, hc, hK⟩ := hx.open
    obtain ⟨_, _, hL', _, a', cap', b', o', f', g', e2, q1', q2', q3', q4', hc', hK'⟩ := hy.open
    rw [e1] at e2
    simp only [Value.slice.injEq] at e2
    obtain ⟨rfl, el, rfl⟩ := e2
    rw [Pt.eta y]
    have eL := texts_fun hL hL'
    obtain ⟨k', t', L', K'⟩ := y
    simp only [Pt.kind, Pt.text, Pt.texts, Pt.kids] at ek et eL el q4 hc hK q4' hc' hK' ⊢
    subst ek et eL
    congr 1
    refine List.ext_getElem el fun i h1 h2 => ?_
    have e3 := q4 (by omega)
    have e4 := q4' (by omega)
    rw [e3] at e4
    cases e4
    obtain ⟨r0, r1, r2, r3⟩ := hc i h1
    obtain ⟨s0, s1, s2, s3⟩ := hc' i h2
    rw [r0] at s0
    rw [r1] at s1
    rw [r2] at s2
    rw [r3] at s3
    have g0 : f i = f' i := Option.some.inj s2
    have g1 : g i = g' i := Option.some.inj s3
    have g2 : K[i].kind = K'[i].kind := by have := Option.some.inj s0; simpa using this
    have g3 : K[i].text = K'[i].text := str_inj (Option.some.inj s1)
    exact ih _ (List.getElem_mem h1) (hK i h1) (by rw [g0, g1]; exact hK' i h2) g2 g3
theorem PAt.fun_ {W : World} {b o : Nat} {x y : Pt} (h : PAt W b o x) (h' : PAt W b o y) : x = y := by
  obtain ⟨v, u, _, r, hx, _⟩ := h
  obtain ⟨v', u', _, r', hy, _⟩ := h'
  obtain ⟨r0, r1, r2, r3⟩ := r
  obtain ⟨s0, s1, s2, s3⟩ := r'
  rw [r0] at s0
  rw [r1] at s1
  rw [r2] at s2
  rw [r3] at s3
  have g0 : v = v' := Option.some.inj s2
  have g1 : u = u' := Option.some.inj s3
  exact pt_fun x hx (by rw [g0, g1]; exact hy) (by have := Option.some.inj s0; simpa using this) (str_inj (Option.some.inj s1))
/-- Two paths that are to be held against each other, and where they lie. -/
structure Pq where
  b : Nat
  o : Nat
  b' : Nat
  o' : Nat
  x : Pt
  y : Pt
def Pq.ok (W : World) (q : Pq) : Prop := PAt W q.b q.o q.x ∧ PAt W q.b' q.o' q.y
def Pq.key (q : Pq) : Addr × Addr := (⟨q.b, q.o, none⟩, ⟨q.b', q.o', none⟩)
def pqCells : List Pq → List Value
  | [] => []
  | q :: r => .pointer (some ⟨q.b, q.o, none⟩) :: .pointer (some ⟨q.b', q.o', none⟩) :: pqCells r
theorem pqCells_len : ∀ R : List Pq, (pqCells R).length = R.length * 2
  | [] => rfl
  | q :: r => by simp only [pqCells, List.length_cons, pqCells_len r]; omega
theorem pqCells_append : ∀ R S : List Pq, pqCells (R ++ S) = pqCells R ++ pqCells S
  | [], S => rfl
  | q :: r, S => by simp only [List.cons_append, pqCells, pqCells_append r S]
/-- How much is left to be looked at. -/
def pqSum : List Pq → Nat
  | [] => 0
  | q :: r => q.x.size + pqSum r
theorem pqSum_append : ∀ R S : List Pq, pqSum (R ++ S) = pqSum R + pqSum S
  | [], S => by simp [pqSum]
  | q :: r, S => by simp only [List.cons_append, pqSum, pqSum_append r S]; omega
theorem pqSum_len : ∀ R : List Pq, R.length ≤ pqSum R
  | [] => Nat.le_refl _
  | q :: r => by have := pqSum_len r; have := Pt.size_pos q.x; simp only [pqSum, List.length_cons]; omega
/-- The first n pairs of Kids. -/
def kidPq (b o b' o' : Nat) (X Y : List Pt) (n : Nat) : List Pq := (List.range n).map fun i => ⟨b, o + i * 4, b', o' + i * 4, X.getD i default, Y.getD i default⟩
theorem kidPq_zero (b o b' o' : Nat) (X Y : List Pt) : kidPq b o b' o' X Y 0 = [] := rfl
theorem kidPq_succ (b o b' o' : Nat) (X Y : List Pt) (n : Nat) : kidPq b o b' o' X Y (n + 1) = kidPq b o b' o' X Y n ++ [⟨b, o + n * 4, b', o' + n * 4, X.getD n default, Y.getD n default⟩] := by
  unfold kidPq; rw [List.range_succ, List.map_append]; rfl
theorem kidPq_len (b o b' o' : Nat) (X Y : List Pt) (n : Nat) : (kidPq b o b' o' X Y n).length = n := by simp [kidPq]
theorem kidPq_sum (b o b' o' : Nat) (X Y : List Pt) : ∀ n, n ≤ X.length → pqSum (kidPq b o b' o' X Y n) = Pt.sizes (X.take n)
  | 0, _ => by simp [kidPq_zero, pqSum, Pt.sizes]
  | n + 1, h => by
    rw [kidPq_succ, pqSum_append, kidPq_sum b o b' o' X Y n (by omega), sizes_getD X n (by omega)]
    simp [pqSum]
theorem kidPq_mem {b o b' o' : Nat} {X Y : List Pt} {n : Nat} {p : Pq} (h : p ∈ kidPq b o b' o' X Y n) : ∃ i, i < n ∧ p = ⟨b, o + i * 4, b', o' + i * 4, X.getD i default, Y.getD i default⟩ := by
  unfold kidPq at h
  obtain ⟨i, hi, rfl⟩ := List.mem_map.1 h
  exact ⟨i, List.mem_range.1 hi, rfl⟩
/-- What the loop keeps: R: pairs that are to be looked at, S: that have been. -/
structure SmInv (W : World) (r : Pq) (R S : List Pq) : Prop where
  ok : ∀ q, q ∈ R ∨ q ∈ S → q.ok W
  imp : ∀ q ∈ R, r.x = r.y → q.x = q.y
  root : r ∈ R ∨ r ∈ S ∨ r.x = r.y
  clo : ∀ q ∈ S, topEq q.x q.y = true ∧ ∀ i, i < q.x.kids.length → q.x.kids.getD i default = q.y.kids.getD i default ∨ ∃ p, (p ∈ R ∨ p ∈ S) ∧ p.x = q.x.kids.getD i default ∧ p.y = q.y.kids.getD i default
theorem SmInv.init {W : World} {r : Pq} (h : r.ok W) : SmInv W r [r] [] :=
  ⟨fun q hq => hq.elim (fun hq => by rw [List.mem_singleton.1 hq]; exact h) (fun hq => by cases hq), fun q hq e => by rw [List.mem_singleton.1 hq]; exact e, Or.inl (by simp), fun q hq => by cases hq⟩
theorem Pq.key_eq {W : World} {p q : Pq} (hp : p.ok W) (hq : q.ok W) (h : p.key = q.key) : p = q := by
  obtain ⟨b, o, b', o', x, y⟩ := p
  obtain ⟨c, d, c', d', z, u⟩ := q
  simp only [Pq.key, Prod.mk.injEq, Addr.mk.injEq, and_true] at h
  obtain ⟨⟨rfl, rfl⟩, rfl, rfl⟩ := h
  have e1 : x = z := hp.1.fun_ hq.1
  have e2 : y = u := hp.2.fun_ hq.2
  rw [e1, e2]
/-- A pair that has been looked at is passed over. -/
theorem SmInv.skip {W : World} {r q : Pq} {R S : List Pq} (h : SmInv W r (R ++ [q]) S) (hm : q.key ∈ S.map Pq.key) : SmInv W r R S := by
  obtain ⟨p, hp, hk⟩ := List.mem_map.1 hm
  have e : p = q := Pq.key_eq (h.ok p (Or.inr hp)) (h.ok q (Or.inl (by simp))) hk
  subst e
  have mv : ∀ z, (z ∈ R ++ [p] ∨ z ∈ S) → z ∈ R ∨ z ∈ S := fun z hz => by
    rcases hz with hz | hz
    · rcases List.mem_append.1 hz with hz | hz
      · exact Or.inl hz
      · rw [List.mem_singleton.1 hz]; exact Or.inr hp
    · exact Or.inr hz
  refine ⟨fun q hq => h.ok q (hq.elim (fun hq => Or.inl (List.mem_append.2 (Or.inl hq))) Or.inr), fun q hq => h.imp q (List.mem_append.2 (Or.inl hq)), ?_, fun q hq => ⟨(h.clo q hq).1, fun i hi => ?_⟩⟩
  · rcases h.root with g | g | g
    · exact (mv r (Or.inl g)).elim Or.inl (fun g => Or.inr (Or.inl g))
    · exact Or.inr (Or.inl g)
    · exact Or.inr (Or.inr g)
  · rcases (h.clo q hq).2 i hi with g | ⟨z, hz, g1, g2⟩
    · exact Or.inl g
    · exact Or.inr ⟨z, mv z hz, g1, g2⟩
/-- A pair of one and the same path is passed over. -/
theorem SmInv.same {W : World} {r q : Pq} {R S : List Pq} (h : SmInv W r (R ++ [q]) S) (he : (⟨q.b, q.o, none⟩ : Addr) = ⟨q.b', q.o', none⟩) : SmInv W r R S := by
  have hxy : q.x = q.y := by
    have h1 := h.ok q (Or.inl (by simp))
    simp only [Addr.mk.injEq, and_true] at he
    have h2 := h1.2
    rw [← he.1, ← he.2] at h2
    exact h1.1.fun_ h2
  have mv : ∀ z, (z ∈ R ++ [q] ∨ z ∈ S) → (z ∈ R ∨ z ∈ S) ∨ z.x = z.y := fun z hz => by
    rcases hz with hz | hz
    · rcases List.mem_append.1 hz with hz | hz
      · exact Or.inl (Or.inl hz)
      · rw [List.mem_singleton.1 hz]; exact Or.inr hxy
    · exact Or.inl (Or.inr hz)
  refine ⟨fun q hq => h.ok q (hq.elim (fun hq => Or.inl (List.mem_append.2 (Or.inl hq))) Or.inr), fun q hq => h.imp q (List.mem_append.2 (Or.inl hq)), ?_, fun q hq => ⟨(h.clo q hq).1, fun i hi => ?_⟩⟩
  · rcases h.root with g | g | g
    · rcases mv r (Or.inl g) with (g | g) | g
      · exact Or.inl g
      · exact Or.inr (Or.inl g)
      · exact Or.inr (Or.inr g)
    · exact Or.inr (Or.inl g)
    · exact Or.inr (Or.inr g)
  · rcases (h.clo q hq).2 i hi with g | ⟨z, hz, g1, g2⟩
    · exact Or.inl g
    · rcases mv z hz with g | g
      · exact Or.inr ⟨z, g, g1, g2⟩
      · exact Or.inl (by rw [← g1, ← g2]; exact g)
/-- A pair is looked at: its Kids' pairs are to be. -/
theorem SmInv.step {W : World} {r q : Pq} {R S : List Pq} (h : SmInv W r (R ++ [q]) S) (ht : topEq q.x q.y = true) {b o b' o' : Nat} (hx : ∀ i (h : i < q.x.kids.length), PAt W b (o + i * 4) q.x.kids[i]) (hy : ∀ i (h : i < q.y.kids.length), PAt W b' (o' + i * 4) q.y.kids[i]) :
    SmInv W r (R ++ kidPq b o b' o' q.x.kids q.y.kids q.x.kids.length) (S ++ [q]) := by
  have hl : q.x.kids.length = q.y.kids.length := by
    unfold topEq at ht
    simp only [Bool.and_eq_true, decide_eq_true_eq] at ht
    exact ht.2
  have mv : ∀ z, (z ∈ R ++ [q] ∨ z ∈ S) → z ∈ R ++ kidPq b o b' o' q.x.kids q.y.kids q.x.kids.length ∨ z ∈ S ++ [q] := fun z hz => by
    rcases hz with hz | hz
    · rcases List.mem_append.1 hz with hz | hz
      · exact Or.inl (List.mem_append.2 (Or.inl hz))
      · exact Or.inr (List.mem_append.2 (Or.inr hz))
    · exact Or.inr (List.mem_append.2 (Or.inl hz))
  refine ⟨fun z hz => ?_, fun z hz e => ?_, ?_, fun z hz => ?_⟩
  · rcases hz with hz | hz
    · rcases List.mem_append.1 hz with hz | hz
      · exact h.ok z (Or.inl (List.mem_append.2 (Or.inl hz)))
      · obtain ⟨i, hi, rfl⟩ := kidPq_mem hz
        have hi' : i < q.y.kids.length := by omega
        refine ⟨?_, ?_⟩
        · simpa [List.getD, hi] using hx i hi
        · simpa [List.getD, hi'] using hy i hi'
    · rcases List.mem_append.1 hz with hz | hz
      · exact h.ok z (Or.inr hz)
      · rw [List.mem_singleton.1 hz]; exact h.ok q (Or.inl (by simp))
  · rcases List.mem_append.1 hz with hz | hz
    · exact h.imp z (List.mem_append.2 (Or.inl hz)) e
    · obtain ⟨i, hi, rfl⟩ := kidPq_mem hz
      have := h.imp q (by simp) e
      simp only
      rw [this]
  · rcases h.root with g | g | g
    · exact (mv r (Or.inl g)).elim Or.inl (fun g => Or.inr (Or.inl g))
    · exact (mv r (Or.inr g)).elim Or.inl (fun g => Or.inr (Or.inl g))
    · exact Or.inr (Or.inr g)
  · rcases List.mem_append.1 hz with hz | hz
    · refine ⟨(h.clo z hz).1, fun i hi => ?_⟩
      rcases (h.clo z hz).2 i hi with g | ⟨p, hp, g1, g2⟩
      · exact Or.inl g
      · exact Or.inr ⟨p, mv p hp, g1, g2⟩
    · rw [List.mem_singleton.1 hz]
      refine ⟨ht, fun i hi => Or.inr ⟨⟨b, o + i * 4, b', o' + i * 4, q.x.kids.getD i default, q.y.kids.getD i default⟩, Or.inl (List.mem_append.2 (Or.inr ?_)), rfl, rfl⟩⟩
      unfold kidPq
      exact List.mem_map.2 ⟨i, List.mem_range.2 hi, rfl⟩
theorem SmInv.all {W : World} {r : Pq} {S : List Pq} (h : SmInv W r [] S) : ∀ (x : Pt) (q : Pq), q ∈ S → q.x = x → q.x = q.y := by
  intro x
  induction x using Pt.ind with
  | h k t L K ih =>
    intro q hq hx
    obtain ⟨ht, hk⟩ := h.clo q hq
    unfold topEq at ht
    simp only [Bool.and_eq_true, decide_eq_true_eq] at ht
    obtain ⟨⟨⟨e1, e2⟩, e3⟩, e4⟩ := ht
    rw [Pt.eta q.x, Pt.eta q.y, e1, e2, e3]
    congr 1
    refine List.ext_getElem e4 fun i h1 h2 => ?_
    have e5 : q.x.kids.getD i default = q.y.kids.getD i default := by
      rcases hk i h1 with g | ⟨p, hp, g1, g2⟩
      · exact g
      · have hp : p ∈ S := hp.elim (fun h => by cases h) id
        rw [← g1, ← g2]
        refine ih (q.x.kids.getD i default) ?_ p hp g1
        have e6 : q.x.kids = K := by rw [hx]; rfl
        rw [← e6]
        simp [List.getD, h1]
    simpa [List.getD, h1, h2] using e5
theorem SmInv.done {W : World} {r : Pq} {S : List Pq} (h : SmInv W r [] S) : r.x = r.y := by
  rcases h.root with g | g | g
  · cases g
  · exact h.all r.x r g rfl
  · exact g
theorem SmInv.fails {W : World} {r q : Pq} {R S : List Pq} (h : SmInv W r (R ++ [q]) S) (ht : topEq q.x q.y = false) : ¬ r.x = r.y := fun e => by
  have := h.imp q (by simp) e
  unfold topEq at ht
  rw [this] at ht
  simp at ht
end Go.Proofs.YtagmgkplfhlifaaDoor
