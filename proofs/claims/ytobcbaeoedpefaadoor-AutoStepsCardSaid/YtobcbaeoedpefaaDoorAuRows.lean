/- Rows of steps as an automaton lays them out: plain facts; what a call leaves of an automaton. -/
import Derived.Test.YtobcbaeoedpefaaDoorAuFollow
import Derived.Test.YtobcbaeoedpefaaDoorPtMath
namespace Go.Proofs.YtobcbaeoedpefaaDoor
set_option linter.unusedVariables false
set_option linter.unusedSimpArgs false
set_option maxRecDepth 100000
open Go.ChangeShapes Go.WideShapes Go.ChangeAt Go.RowKit
open Au
/-- The rows of steps behind the laying out of r. -/
structure Rows (r : Rx) (m : Nat) (nx nx' : List Nat) : Prop where
  len : nx'.length = m + r.n
  old : ∀ i, i < m → nx'.getD i 0 = nx.getD i 0
  new : ∀ i j, m ≤ i → i < m + r.n → (nx'.getD i 0).testBit j = r.fol m i j
  lt : ∀ i, nx'.getD i 0 < 2 ^ 32
/-- A set of places. -/
def Set (F : Nat) (f : Nat → Bool) : Prop := F < 2 ^ 32 ∧ ∀ j, F.testBit j = f j
theorem Set.or {F G : Nat} {f g : Nat → Bool} (h : Set F f) (k : Set G g) : Set (F ||| G) (fun j => f j || g j) := ⟨or_lt32 h.1 k.1, fun j => by rw [Nat.testBit_or, h.2, k.2]⟩
theorem Set.congr {F : Nat} {f g : Nat → Bool} (h : Set F f) (e : ∀ j, f j = g j) : Set F g := ⟨h.1, fun j => by rw [h.2, e]⟩
theorem Set.one {m : Nat} (h : m < 32) : Set (2 ^ m) (fun j => decide (j = m)) := ⟨Nat.pow_lt_pow_right (by omega) h, fun j => by
  rw [Nat.testBit_two_pow, Bool.eq_iff_iff, decide_eq_true_iff, decide_eq_true_iff]; exact eq_comm⟩
theorem fst_no {r : Rx} {m j : Nat} (h : j < m ∨ m + r.n ≤ j) : r.fst m j = false := by
  cases hc : r.fst m j
  · rfl
  · have := Rx.fst_range r m j hc; omega
theorem lst_no {r : Rx} {m j : Nat} (h : j < m ∨ m + r.n ≤ j) : r.lst m j = false := by
  cases hc : r.lst m j
  · rfl
  · have := Rx.lst_range r m j hc; omega
theorem fol_no {r : Rx} {m i j : Nat} (h : i < m ∨ m + r.n ≤ i) : r.fol m i j = false := by
  cases hc : r.fol m i j
  · rfl
  · have := Rx.fol_range r m i j hc; omega
theorem rows_leaf (l : Lb) {m : Nat} {nx : List Nat} (hm : nx.length = m) (hl : ∀ i, nx.getD i 0 < 2 ^ 32) : Rows (.leaf l) m nx (nx ++ [0]) where
  len := by simp [hm, Rx.n_leaf]
  old := fun i hi => getD_left (by omega)
  new := fun i j h1 h2 => by
    rw [Rx.n_leaf] at h2
    rw [getD_right (by omega), show i - nx.length = 0 by omega]
    simp [Rx.fol]
  lt := fun i => by
    by_cases hi : i < nx.length
    · rw [getD_left hi]; exact hl i
    · rw [getD_right (by omega)]
      have : ∀ j, ([0] : List Nat).getD j 0 = 0 := fun j => by cases j <;> simp [List.getD]
      rw [this]; decide
theorem ufol_lt {nx : List Nat} {f t n : Nat} (hl : ∀ i, nx.getD i 0 < 2 ^ 32) (ht : t < 2 ^ 32) (i : Nat) : (ufol nx f t n).getD i 0 < 2 ^ 32 := by
  by_cases hi : i < nx.length
  · rw [ufol_get _ _ _ _ _ hi]
    split
    · exact or_lt32 (hl i) ht
    · exact hl i
  · have : (ufol nx f t n)[i]? = none := by rw [List.getElem?_eq_none]; rw [ufol_len]; omega
    simp only [List.getD, this]
    decide
theorem rows_many (c : Rx) {a : Rx} {m : Nat} {nx nx1 : List Nat} {F L : Nat} (h : Rows a m nx nx1) (hF : Set F (a.fst m)) (hL : Set L (a.lst m)) (hc : c.n = a.n) (hf : ∀ i j, c.fol m i j = (a.fol m i j || (a.lst m i && a.fst m j))) : Rows c m nx (ufol nx1 L F nx1.length) where
  len := by rw [ufol_len, h.len, hc]
  old := fun i hi => by
    rw [ufol_get _ _ _ _ _ (by rw [h.len]; omega), hL.2, lst_no (Or.inl hi), if_neg (by simp), h.old i hi]
  new := fun i j h1 h2 => by
    rw [hc] at h2
    have hi : i < nx1.length := by rw [h.len]; omega
    rw [ufol_get _ _ _ _ _ hi, hL.2, hf]
    have := h.new i j h1 h2
    cases hl : a.lst m i
    · rw [if_neg (by simp), this]; simp
    · rw [if_pos ⟨hi, rfl⟩, Nat.testBit_or, this, hF.2]; simp
  lt := fun i => ufol_lt h.lt hF.1 i
theorem rows_alt {a b : Rx} {m : Nat} {nx nx1 nx2 : List Nat} (h : Rows a m nx nx1) (k : Rows b (m + a.n) nx1 nx2) : Rows (.alt a b) m nx nx2 where
  len := by rw [k.len, Rx.n_alt]; omega
  old := fun i hi => by rw [k.old i (by omega), h.old i hi]
  new := fun i j h1 h2 => by
    rw [Rx.n_alt] at h2
    by_cases hi : i < m + a.n
    · rw [k.old i hi, h.new i j h1 hi]; simp only [Rx.fol]; rw [fol_no (r := b) (Or.inl hi), Bool.or_false]
    · rw [k.new i j (by omega) (by omega)]; simp only [Rx.fol]; rw [fol_no (r := a) (Or.inr (by omega)), Bool.false_or]
  lt := k.lt
theorem rows_seq {a b : Rx} {m : Nat} {nx nx1 nx2 : List Nat} {F L : Nat} (h : Rows a m nx nx1) (k : Rows b (m + a.n) nx1 nx2) (hF : Set F (b.fst (m + a.n))) (hL : Set L (a.lst m)) : Rows (.seq a b) m nx (ufol nx2 L F nx2.length) where
  len := by rw [ufol_len, k.len, Rx.n_seq]; omega
  old := fun i hi => by
    rw [ufol_get _ _ _ _ _ (by rw [k.len]; omega), hL.2, lst_no (Or.inl hi), if_neg (by simp), k.old i (by omega), h.old i hi]
  new := fun i j h1 h2 => by
    rw [Rx.n_seq] at h2
    have hi : i < nx2.length := by rw [k.len]; omega
    rw [ufol_get _ _ _ _ _ hi, hL.2]
    simp only [Rx.fol]
    by_cases hia : i < m + a.n
    · have := h.new i j h1 hia
      rw [fol_no (r := b) (Or.inl hia), k.old i hia]
      cases hl : a.lst m i
      · rw [if_neg (by simp), this]; simp
      · rw [if_pos ⟨hi, rfl⟩, Nat.testBit_or, this, hF.2]; simp
    · have := k.new i j (by omega) (by omega)
      rw [fol_no (r := a) (Or.inr (by omega)), lst_no (r := a) (Or.inr (by omega)), if_neg (by simp), this]
      simp
  lt := fun i => ufol_lt k.lt hF.1 i
/-! ### what a call leaves -/
theorem AuPost.from {B : Nat} {Y Z : Nat → Prop} {w w1 w2 : World} {p lb nb : Nat} {ls : List Lb} {nx : List Nat} {last : Nat} (hb : Below w.heap.size w w1) (h : AuPost B Z w1 p lb nb ls nx last w2) (hY : ∀ k, Y k → Z k) : AuPost B Y w p lb nb ls nx last w2 := by
  obtain ⟨lb', cl', nb', cn', lxs', h1, h2, h3, h4⟩ := h
  have := hb.size
  exact ⟨lb', cl', nb', cn', lxs', h1.more (fun k e => Or.inl (hY k e)), (Frm.of_below (X := AuB p lb nb fun _ => False) hb).trans h2 (fun _ _ e => e), h3.elim Or.inl (fun e => Or.inr (by omega)), h4.elim Or.inl (fun e => Or.inr (by omega))⟩
theorem AuPost.set {B : Nat} {Y : Nat → Prop} {w w2 : World} {p lb nb : Nat} {ls : List Lb} {nx : List Nat} {last : Nat} (h : AuPost B Y w p lb nb ls nx last w2) {b : Nat} (hb : Y b) (hl : w.heap.size ≤ b) (i : Nat) (v : Value) : AuPost B Y w p lb nb ls nx last (w2.setCell ⟨b, i, none⟩ v) := by
  obtain ⟨lb', cl', nb', cn', lxs', h1, h2, h3, h4⟩ := h
  exact ⟨lb', cl', nb', cn', lxs', h1.frm (Z := fun k => k = b) (Frm.set (X := fun k => k = b) (Frm.refl _ _) (Or.inl rfl) _ _) (fun k _ e => by cases e; exact hb), Frm.set h2 (Or.inr hl) _ _, h3, h4⟩
theorem AuPost.alloc {B : Nat} {Y : Nat → Prop} {w w2 : World} {p lb nb : Nat} {ls : List Lb} {nx : List Nat} {last : Nat} (h : AuPost B Y w p lb nb ls nx last w2) (o : Obj) : AuPost B (fun k => Y k ∨ k = w2.heap.size) w p lb nb ls nx last (w2.alloc o) := by
  obtain ⟨lb', cl', nb', cn', lxs', h1, h2, h3, h4⟩ := h
  refine ⟨lb', cl', nb', cn', lxs', (h1.more (fun k e => e.elim Or.inl (fun e => Or.inr (by omega)))).keep ((Below.refl _ _).alloc (Nat.le_refl _) o), h2.alloc o, h3, h4⟩
theorem AuPost.then {B : Nat} {Y : Nat → Prop} {w w1 w2 : World} {p lb nb lb1 nb1 : Nat} {ls : List Lb} {nx : List Nat} {last : Nat} (hf : Frm (AuB p lb nb fun _ => False) w w1) (h3 : lb1 = lb ∨ w.heap.size ≤ lb1) (h4 : nb1 = nb ∨ w.heap.size ≤ nb1) (k : AuPost B Y w1 p lb1 nb1 ls nx last w2) : AuPost B Y w p lb nb ls nx last w2 := by
  obtain ⟨lb', cl', nb', cn', lxs', k1, k2, k3, k4⟩ := k
  have hs := hf.size
  refine ⟨lb', cl', nb', cn', lxs', k1, hf.trans k2 (fun i hi e => ?_), ?_, ?_⟩
  · rcases e with e | e | e | e
    · exact Or.inl e
    · rcases h3 with h3 | h3
      · exact Or.inr (Or.inl (by omega))
      · omega
    · rcases h4 with h4 | h4
      · exact Or.inr (Or.inr (Or.inl (by omega)))
      · omega
    · exact e.elim
  · rcases k3 with k3 | k3
    · rw [k3]; exact h3
    · exact Or.inr (by omega)
  · rcases k4 with k4 | k4
    · rw [k4]; exact h4
    · exact Or.inr (by omega)
/-- A block that is kept apart from it stays. -/
theorem AuPost.blk {B : Nat} {Y : Nat → Prop} {w w2 : World} {p lb cl nb cn : Nat} {lxs : List Value} {ls ls' : List Lb} {nx nx' : List Nat} {last last' : Nat} (h : AuAt B Y w p lb cl nb cn lxs ls nx last) (k : AuPost B Y w p lb nb ls' nx' last' w2) {b : Nat} {A : List Value} {t : TypeId} (hb : Y b) (hA : Blk w b A t) : Blk w2 b A t := by
  obtain ⟨_, _, _, _, _, _, k2, _, _⟩ := k
  exact hA.frm k2 fun e => by
    rcases e with e | e | e | e
    · exact h.yp (e ▸ hb)
    · exact h.yl (e ▸ hb)
    · exact h.yn (e ▸ hb)
    · exact e
theorem AuPost.size {B : Nat} {Y : Nat → Prop} {w w2 : World} {p lb nb : Nat} {ls : List Lb} {nx : List Nat} {last : Nat} (k : AuPost B Y w p lb nb ls nx last w2) : w.heap.size ≤ w2.heap.size := by
  obtain ⟨_, _, _, _, _, _, k2, _, _⟩ := k; exact k2.size
theorem AuPost.below {B : Nat} {Y : Nat → Prop} {w w2 : World} {p lb cl nb cn : Nat} {lxs : List Value} {ls ls' : List Lb} {nx nx' : List Nat} {last last' : Nat} (h : AuAt B Y w p lb cl nb cn lxs ls nx last) (k : AuPost B Y w p lb nb ls' nx' last' w2) : Below B w w2 := by
  obtain ⟨_, _, _, _, _, _, k2, _, _⟩ := k
  have h1 := h.pB
  have h2 := (own_blk h.lown).1
  have h3 := (own_blk h.nown).1
  have h4 := h.blk.lt
  exact k2.below (by omega) fun i hi e => by
    rcases e with e | e | e | e
    · omega
    · omega
    · omega
    · exact e
/-- What add leaves. -/
def AddPost (B : Nat) (Y : Nat → Prop) (w : World) (p lb nb : Nat) (ls : List Lb) (nx : List Nat) (last : Nat) (r : Rx) (e : Ending) (w' : World) : Prop :=
  ∃ F L nx', e = .returned (.agg #[u32v F, u32v L, .bool r.emp]) ∧ Set F (r.fst ls.length) ∧ Set L (r.lst ls.length) ∧ Rows r ls.length nx nx' ∧ AuPost B Y w p lb nb (ls ++ r.labs) nx' last w'
end Go.Proofs.YtobcbaeoedpefaaDoor
