/- The document's automaton: which may be first, last, which pairs follow, as rows; a path whose Backs are laid on its steps: plain facts. -/
import Derived.Test.YtobcbaeoedpefaaDoorPtMath
namespace Go.Proofs.YtobcbaeoedpefaaDoor.Au
set_option linter.unusedVariables false
set_option maxRecDepth 100000
set_option linter.unusedSimpArgs false
open Go Go.RowKit
namespace Rx
def prod (l k : List Nat) : List (Nat × Nat) := l.flatMap fun i => k.map fun j => (i, j)
theorem mem_prod {l k : List Nat} {i j : Nat} : (i, j) ∈ prod l k ↔ i ∈ l ∧ j ∈ k := by
  unfold prod
  simp only [List.mem_flatMap, List.mem_map, Prod.mk.injEq]
  constructor
  · rintro ⟨a, ha, b, hb, rfl, rfl⟩; exact ⟨ha, hb⟩
  · rintro ⟨ha, hb⟩; exact ⟨i, ha, j, hb, rfl, rfl⟩
theorem prod_len (l k : List Nat) : (prod l k).length = l.length * k.length := by
  unfold prod
  induction l with
  | nil => simp
  | cons a l ih => simp only [List.flatMap_cons, List.length_append, List.length_map, ih, List.length_cons, Nat.add_mul, Nat.one_mul]; omega
theorem prod_snoc (l k : List Nat) (i : Nat) : prod (l ++ [i]) k = prod l k ++ k.map fun j => (i, j) := by simp [prod]
def firstL : Rx → Nat → List Nat
  | leaf _, m => [m]
  | seq a b, m => if a.emp then a.firstL m ++ b.firstL (m + a.n) else a.firstL m
  | alt a b, m => a.firstL m ++ b.firstL (m + a.n)
  | star a, m | plus a, m | maybe a, m => a.firstL m
def lastL : Rx → Nat → List Nat
  | leaf _, m => [m]
  | seq a b, m => if b.emp then a.lastL m ++ b.lastL (m + a.n) else b.lastL (m + a.n)
  | alt a b, m => a.lastL m ++ b.lastL (m + a.n)
  | star a, m | plus a, m | maybe a, m => a.lastL m
def pairsL : Rx → Nat → List (Nat × Nat)
  | leaf _, _ => []
  | seq a b, m => a.pairsL m ++ b.pairsL (m + a.n) ++ prod (a.lastL m) (b.firstL (m + a.n))
  | alt a b, m => a.pairsL m ++ b.pairsL (m + a.n)
  | star a, m | plus a, m => a.pairsL m ++ prod (a.lastL m) (a.firstL m)
  | maybe a, m => a.pairsL m
/-- How many of its parts add pairs. -/
def sz : Rx → Nat
  | leaf _ => 0
  | seq a b | alt a b => a.sz + b.sz + 1
  | star a | plus a | maybe a => a.sz + 1
theorem mem_firstL : ∀ (r : Rx) (m j : Nat), j ∈ r.firstL m ↔ r.fst m j = true
  | leaf l, m, j => by simp [firstL, fst]
  | seq a b, m, j => by
    simp only [firstL, fst, Bool.or_eq_true, Bool.and_eq_true]
    cases h : a.emp
    · simp [mem_firstL a]
    · simp [mem_firstL a, mem_firstL b]
  | alt a b, m, j => by simp [firstL, fst, mem_firstL a, mem_firstL b]
  | star a, m, j | plus a, m, j | maybe a, m, j => mem_firstL a m j
theorem mem_lastL : ∀ (r : Rx) (m j : Nat), j ∈ r.lastL m ↔ r.lst m j = true
  | leaf l, m, j => by simp [lastL, lst]
  | seq a b, m, j => by
    simp only [lastL, lst, Bool.or_eq_true, Bool.and_eq_true]
    cases h : b.emp
    · simp [mem_lastL b]
    · simp [mem_lastL a, mem_lastL b, or_comm]
  | alt a b, m, j => by simp [lastL, lst, mem_lastL a, mem_lastL b]
  | star a, m, j | plus a, m, j | maybe a, m, j => mem_lastL a m j
theorem mem_pairsL : ∀ (r : Rx) (m i j : Nat), (i, j) ∈ r.pairsL m ↔ r.fol m i j = true
  | leaf l, m, i, j => by simp [pairsL, fol]
  | seq a b, m, i, j => by
    simp only [pairsL, fol, List.mem_append, Bool.or_eq_true, Bool.and_eq_true, mem_pairsL a, mem_pairsL b, mem_prod, mem_lastL, mem_firstL]
  | alt a b, m, i, j => by simp only [pairsL, fol, List.mem_append, Bool.or_eq_true, mem_pairsL a, mem_pairsL b]
  | star a, m, i, j | plus a, m, i, j => by simp only [pairsL, fol, List.mem_append, Bool.or_eq_true, Bool.and_eq_true, mem_pairsL a, mem_prod, mem_lastL, mem_firstL]
  | maybe a, m, i, j => mem_pairsL a m i j
theorem firstL_len : ∀ (r : Rx) (m : Nat), (r.firstL m).length ≤ r.n
  | leaf l, m => by simp [firstL, n_leaf]
  | seq a b, m => by
    have := firstL_len a m; have := firstL_len b (m + a.n)
    rw [n_seq]; simp only [firstL]; split
    · rw [List.length_append]; omega
    · omega
  | alt a b, m => by
    have := firstL_len a m; have := firstL_len b (m + a.n)
    rw [n_alt]; simp only [firstL, List.length_append]; omega
  | star a, m | plus a, m | maybe a, m => firstL_len a m
theorem lastL_len : ∀ (r : Rx) (m : Nat), (r.lastL m).length ≤ r.n
  | leaf l, m => by simp [lastL, n_leaf]
  | seq a b, m => by
    have := lastL_len a m; have := lastL_len b (m + a.n)
    rw [n_seq]; simp only [lastL]; split
    · rw [List.length_append]; omega
    · omega
  | alt a b, m => by
    have := lastL_len a m; have := lastL_len b (m + a.n)
    rw [n_alt]; simp only [lastL, List.length_append]; omega
  | star a, m | plus a, m | maybe a, m => lastL_len a m
theorem pairsL_len {N : Nat} : ∀ (r : Rx) (m : Nat), r.n ≤ N → (r.pairsL m).length ≤ r.sz * (N * N)
  | leaf l, m, _ => by simp [pairsL, sz]
  | seq a b, m, h => by
    rw [n_seq] at h
    have h1 := pairsL_len (N := N) a m (by omega); have h2 := pairsL_len (N := N) b (m + a.n) (by omega)
    have h3 := lastL_len a m; have h4 := firstL_len b (m + a.n)
    have h5 : (a.lastL m).length * (b.firstL (m + a.n)).length ≤ N * N := Nat.mul_le_mul (by omega) (by omega)
    simp only [pairsL, sz, List.length_append, prod_len, Nat.add_mul, Nat.one_mul]
    omega
  | alt a b, m, h => by
    rw [n_alt] at h
    have h1 := pairsL_len (N := N) a m (by omega); have h2 := pairsL_len (N := N) b (m + a.n) (by omega)
    simp only [pairsL, sz, List.length_append, Nat.add_mul, Nat.one_mul]
    omega
  | star a, m, h | plus a, m, h => by
    have hn : a.n ≤ N := h
    have h1 := pairsL_len (N := N) a m hn
    have h3 := lastL_len a m; have h4 := firstL_len a m
    have h5 : (a.lastL m).length * (a.firstL m).length ≤ N * N := Nat.mul_le_mul (by omega) (by omega)
    simp only [pairsL, sz, List.length_append, prod_len, Nat.add_mul, Nat.one_mul]
    omega
  | maybe a, m, h => by
    have h1 := pairsL_len (N := N) a m h
    simp only [pairsL, sz, Nat.add_mul, Nat.one_mul]
    omega
/-- The path as the document lays it. -/
def baseP (l : Lb) : Pt := if l.not then .mk 8 [] l.texts [] else .mk 1 (l.texts.getD 0 []) [] []
def toPt : Rx → Pt
  | leaf l => if l.back then .mk 2 [] [] [baseP l] else baseP l
  | seq a b => .mk 3 [] [] [a.toPt, b.toPt]
  | alt a b => .mk 4 [] [] [a.toPt, b.toPt]
  | star a => .mk 5 [] [] [a.toPt]
  | plus a => .mk 6 [] [] [a.toPt]
  | maybe a => .mk 7 [] [] [a.toPt]
/-- A step along one predicate has just that one. -/
def fine : Rx → Prop
  | leaf l => l.not = false → l.texts.length = 1
  | seq a b | alt a b => a.fine ∧ b.fine
  | star a | plus a | maybe a => a.fine
end Rx
open Rx
theorem Pt.rx_fine : ∀ (x : Pt) (b : Bool), (x.rx b).fine := by
  intro x
  induction x using Pt.ind with
  | h k t L K ih =>
    intro b
    match K, ih with
    | [], ih => rw [Pt.rx]; split <;> simp [Rx.fine]
    | [x], ih =>
      have i1 := ih x (by simp) b
      have i2 := ih x (by simp) (!b)
      rw [Pt.rx]; split
      · exact i2
      · split
        · exact i1
        · split <;> exact i1
    | x :: y :: r, ih =>
      have i1 := ih x (by simp) b
      have i2 := ih y (by simp) b
      rw [Pt.rx]; split
      · split
        · exact ⟨i2, i1⟩
        · exact ⟨i1, i2⟩
      · exact ⟨i1, i2⟩
theorem Pt.rx_sz : ∀ (x : Pt) (b : Bool), (x.rx b).sz ≤ x.size := by
  intro x
  induction x using Pt.ind with
  | h k t L K ih =>
    intro b
    match K, ih with
    | [], ih => rw [Pt.rx]; split <;> simp [Rx.sz]
    | [x], ih =>
      have i1 := ih x (by simp) b
      have i2 := ih x (by simp) (!b)
      rw [Pt.rx]; simp only [Pt.size, Pt.sizes]; split
      · omega
      · split
        · simp only [Rx.sz]; omega
        · split <;> (simp only [Rx.sz]; omega)
    | x :: y :: r, ih =>
      have i1 := ih x (by simp) b
      have i2 := ih y (by simp) b
      rw [Pt.rx]; simp only [Pt.size, Pt.sizes]; split
      · split <;> (simp only [Rx.sz]; omega)
      · simp only [Rx.sz]; omega
end Go.Proofs.YtobcbaeoedpefaaDoor.Au
