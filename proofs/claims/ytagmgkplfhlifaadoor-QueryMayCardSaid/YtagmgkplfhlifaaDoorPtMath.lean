/- Paths: which may be, how many are in one, its words; a path's Back: plain facts. -/
import Derived.Test.YtagmgkplfhlifaaDoorAuMath
import Derived.Test.YtagmgkplfhlifaaDoorTmRune
namespace Go.Proofs.YtagmgkplfhlifaaDoor.Au
set_option linter.unusedVariables false
set_option maxRecDepth 100000
set_option linter.unusedSimpArgs false
open Go Go.RowKit

/-- A path. -/
inductive Pt where
  | mk (k : Int) (t : T) (L : List T) (K : List Pt)
namespace Pt
instance : Inhabited Pt := ⟨.mk 0 [] [] []⟩
def kind : Pt → Int | .mk k _ _ _ => k
def text : Pt → T | .mk _ t _ _ => t
def texts : Pt → List T | .mk _ _ L _ => L
def kids : Pt → List Pt | .mk _ _ _ K => K
theorem ind {P : Pt → Prop} (h : ∀ k t L K, (∀ x ∈ K, P x) → P (.mk k t L K)) (x : Pt) : P x :=
  Pt.rec (motive_1 := P) (motive_2 := fun K => ∀ x ∈ K, P x) (fun k t L K ih => h k t L K ih) (fun x hx => by cases hx)
    (fun a K ha hK x hx => (List.mem_cons.1 hx).elim (fun e => e ▸ ha) (hK x)) x
mutual
/-- How many paths are in it. -/
def size : Pt → Nat | .mk _ _ _ K => 1 + sizes K
def sizes : List Pt → Nat | [] => 0 | x :: r => x.size + sizes r
end
/-- How many Kids a Kind has. -/
def kidsOf (k : Int) : Int := if k = 1 ∨ k = 8 then 0 else if k = 2 ∨ k = 5 ∨ k = 6 ∨ k = 7 then 1 else if k = 3 ∨ k = 4 then 2 else -1
/-- May the texts be? -/
def txt (k : Int) (t : T) (L : List T) : Bool :=
  if k = 1 then L.isEmpty && Tm.isIRI t else if k = 8 then t.isEmpty && decide (1 ≤ L.length) && decide (L.length ≤ 4) && L.all Tm.isIRI else t.isEmpty && L.isEmpty
mutual
/-- May it be, so deep, but for how many there are? -/
def wf : Nat → Pt → Bool | d, .mk k t L K => decide (d ≤ 5) && decide ((K.length : Int) = kidsOf k) && txt k t L && wfs (d + 1) K
def wfs : Nat → List Pt → Bool | _, [] => true | d, x :: r => x.wf d && wfs d r
end
/-- May it be? -/
def may (x : Pt) : Bool := x.wf 0 && decide (x.size ≤ 30)
theorem wfs_all (d : Nat) : ∀ K : List Pt, wfs d K = true ↔ ∀ x ∈ K, x.wf d = true
  | [] => by simp [wfs]
  | x :: r => by simp [wfs, wfs_all d r]
theorem size_pos (x : Pt) : 1 ≤ x.size := by cases x; simp only [size]; omega
theorem sizes_mem : ∀ {K : List Pt} {x : Pt}, x ∈ K → x.size ≤ sizes K
  | a :: K, x, h => by
    rcases List.mem_cons.1 h with rfl | h
    · simp only [sizes]; omega
    · have := sizes_mem h; simp only [sizes]; omega
theorem sizes_take (K : List Pt) (i : Nat) (h : i < K.length) : sizes (K.take (i + 1)) = sizes (K.take i) + K[i].size := by
  induction K generalizing i with
  | nil => simp at h
  | cons a K ih =>
    cases i with
    | zero => simp [sizes]
    | succ i => simp only [List.take_succ_cons, sizes, List.getElem_cons_succ]; rw [ih i (by simpa using h)]; omega
/-- The path without its Backs. -/
def rx : Pt → Bool → Rx
  | .mk k t L [], b => if k = 1 then .leaf ⟨b, false, [t]⟩ else .leaf ⟨b, true, L⟩
  | .mk k t L [x], b => if k = 2 then x.rx (!b) else if k = 5 then .star (x.rx b) else if k = 6 then .plus (x.rx b) else .maybe (x.rx b)
  | .mk k t L (x :: y :: _), b => if k = 3 then (if b then .seq (y.rx b) (x.rx b) else .seq (x.rx b) (y.rx b)) else .alt (x.rx b) (y.rx b)
theorem rx_n : ∀ (x : Pt) (b : Bool), 1 ≤ (x.rx b).n ∧ (x.rx b).n ≤ x.size := by
  intro x
  induction x using ind with
  | h k t L K ih =>
    intro b
    match K, ih with
    | [], ih => rw [rx]; simp only [size, sizes]; split <;> simp [Rx.n_leaf]
    | [x], ih =>
      have i1 := ih x (by simp) b
      have i2 := ih x (by simp) (!b)
      rw [rx]; simp only [size, sizes]
      split
      · omega
      · split
        · rw [Rx.n_star]; omega
        · split
          · rw [Rx.n_plus]; omega
          · rw [Rx.n_maybe]; omega
    | x :: y :: r, ih =>
      have i1 := ih x (by simp) b
      have i2 := ih y (by simp) b
      rw [rx]; simp only [size, sizes]
      split
      · split <;> rw [Rx.n_seq] <;> omega
      · rw [Rx.n_alt]; omega
end Pt

/-! ### the other way round -/
namespace Rx
def turn : Rx → Rx
  | leaf l => leaf ⟨!l.back, l.not, l.texts⟩
  | seq a b => seq b.turn a.turn
  | alt a b => alt a.turn b.turn
  | star a => star a.turn
  | plus a => plus a.turn
  | maybe a => maybe a.turn
def turnS (s : S) : S := (!s.1, s.2)
def turnW (w : List S) : List S := (w.map turnS).reverse
theorem turnW_append (u v : List S) : turnW (u ++ v) = turnW v ++ turnW u := by simp [turnW]
theorem turnW_turn (w : List S) : turnW (turnW w) = w := by
  unfold turnW
  rw [List.map_reverse, List.reverse_reverse, List.map_map]
  have : turnS ∘ turnS = id := by funext s; simp [turnS]
  rw [this]; simp
theorem takes_turn (l : Lb) (s : S) : Lb.takes ⟨!l.back, l.not, l.texts⟩ (turnS s) = l.takes s := by
  simp only [Lb.takes, turnS]
  cases s.1 <;> cases l.back <;> rfl
theorem many_snoc {A : Lg} {u v : List S} (hu : Many A u) (hv : A v) : Many A (u ++ v) := many_cat hu (by have := Many.step hv Many.nil; simpa using this)
theorem many_plus {A : Lg} {w : List S} : cat A (Many A) w ↔ cat (Many A) A w := by
  constructor
  · rintro ⟨u, v, rfl, hu, hv⟩
    suffices H : ∀ v, Many A v → ∀ u, A u → cat (Many A) A (u ++ v) from H v hv u hu
    intro v hv
    induction hv with
    | nil => intro u hu; exact ⟨[], u, by simp, Many.nil, hu⟩
    | @step a b ha hb ih =>
      intro u hu
      obtain ⟨x, y, h, hx, hy⟩ := ih a ha
      exact ⟨u ++ x, y, by rw [h]; simp, Many.step hu hx, hy⟩
  · rintro ⟨u, v, rfl, hu, hv⟩
    induction hu with
    | nil => exact ⟨v, [], by simp, hv, Many.nil⟩
    | @step a b ha hb ih =>
      obtain ⟨x, y, h, hx, hy⟩ := ih
      exact ⟨a, b ++ v, by simp, ha, by rw [h]; exact Many.step hx hy⟩
theorem many_turn {A B : Lg} (h : ∀ w, A w → B (turnW w)) {w : List S} (hw : Many A w) : Many B (turnW w) := by
  induction hw with
  | nil => exact Many.nil
  | step ha _ ih => rw [turnW_append]; exact many_snoc ih (h _ ha)
theorem lang_turn' : ∀ (r : Rx) (w : List S), r.lang w → r.turn.lang (turnW w)
  | leaf l, w, h => by
    obtain ⟨s, rfl, hs⟩ := h
    exact ⟨turnS s, rfl, by rw [takes_turn]; exact hs⟩
  | seq a b, w, h => by
    obtain ⟨u, v, rfl, hu, hv⟩ := h
    exact ⟨turnW v, turnW u, turnW_append u v, lang_turn' b v hv, lang_turn' a u hu⟩
  | alt a b, w, h => by
    rcases h with h | h
    · exact Or.inl (lang_turn' a w h)
    · exact Or.inr (lang_turn' b w h)
  | star a, w, h => many_turn (lang_turn' a) h
  | plus a, w, h => by
    obtain ⟨u, v, rfl, hu, hv⟩ := h
    exact many_plus.2 ⟨turnW v, turnW u, turnW_append u v, many_turn (lang_turn' a) hv, lang_turn' a u hu⟩
  | maybe a, w, h => by
    rcases h with rfl | h
    · exact Or.inl rfl
    · exact Or.inr (lang_turn' a w h)
theorem turn_turn : ∀ r : Rx, r.turn.turn = r
  | leaf l => by simp [turn]
  | seq a b => by simp [turn, turn_turn a, turn_turn b]
  | alt a b => by simp [turn, turn_turn a, turn_turn b]
  | star a => by simp [turn, turn_turn a]
  | plus a => by simp [turn, turn_turn a]
  | maybe a => by simp [turn, turn_turn a]
theorem lang_turn (r : Rx) (w : List S) : r.turn.lang (turnW w) ↔ r.lang w :=
  ⟨fun h => by have := lang_turn' _ _ h; rwa [turn_turn, turnW_turn] at this, lang_turn' r w⟩
theorem has_turn (r : Rx) (w : List S) : r.turn.has (turnW w) = r.has w := by
  rw [Bool.eq_iff_iff, has_lang, has_lang, lang_turn]
end Rx
theorem Pt.rx_turn : ∀ (x : Pt) (b : Bool), x.rx (!b) = (x.rx b).turn := by
  intro x
  induction x using Pt.ind with
  | h k t L K ih =>
    intro b
    match K, ih with
    | [], ih => rw [Pt.rx, Pt.rx]; split <;> rfl
    | [x], ih =>
      have i1 := ih x (by simp) b
      have i2 := ih x (by simp) (!b)
      rw [Pt.rx, Pt.rx]
      split
      · exact i2
      · split
        · rw [i1]; rfl
        · split
          · rw [i1]; rfl
          · rw [i1]; rfl
    | x :: y :: r, ih =>
      have i1 := ih x (by simp) b
      have i2 := ih y (by simp) b
      rw [Pt.rx, Pt.rx]
      split
      · cases b <;> simp only [Bool.not_false, Bool.not_true, if_true, if_false, Bool.false_eq_true] at i1 i2 ⊢ <;> rw [i1, i2] <;> rfl
      · rw [i1, i2]; rfl
end Go.Proofs.YtagmgkplfhlifaaDoor.Au
