/- query.Is. -/
import Derived.Test.YtagmgkplfhlifaaDoorQyFns
import Derived.Test.YtagmgkplfhlifaaDoorQyVars
namespace Go.Proofs.YtagmgkplfhlifaaDoor.Au
set_option linter.unusedVariables false
set_option linter.unusedSimpArgs false
set_option maxRecDepth 100000
open Go Go.RowKit
/-- A filter. -/
structure Fi where
  v : T
  op : T
  n : Nat
instance : Inhabited Fi := ⟨⟨[], [], 0⟩⟩
/-- May an end be (I: may a term)? -/
def En.is (I : Int → T → T → Bool) (e : En) : Bool := if e.v = [] then I e.k e.t e.x else isVar e.v && decide (e.k = 0 ∧ e.t = [] ∧ e.x = [])
def Pa.is (I : Int → T → T → Bool) (p : Pa) : Bool := p.s.is I && p.o.is I && p.p.may
def fisOk (L : List T) (fs : List Fi) : Bool := fs.all fun f => decide (f.v ∈ L) && isOp f.op
/-- Are the first so many of the asked variables variables, each once? -/
def askd (L vs : List T) : Nat → Bool
  | 0 => true
  | n + 1 => askd L vs n && (decide (vs.getD n [] ∈ L) && !decide (vs.getD n [] ∈ vs.take n))
theorem askd_stop {L vs : List T} {i n : Nat} (h : askd L vs i = false) (hi : i ≤ n) : askd L vs n = false := by
  induction n with
  | zero => obtain rfl : i = 0 := by omega
            exact h
  | succ n ih =>
    rcases Nat.lt_or_ge n i with h1 | h1
    · obtain rfl : i = n + 1 := by omega
      exact h
    · unfold askd; rw [ih h1]; rfl
def limOk (lim off : Int) : Bool := decide (-1 ≤ lim) && decide (lim ≤ 1000) && decide (0 ≤ off) && decide (off ≤ 1000)
/-- A query. -/
structure Qy where
  ask : Bool
  vars : List T
  ps : List Pa
  fs : List Fi
  lim : Int
  off : Int
/-- May a query be? -/
def Qy.is (I : Int → T → T → Bool) (q : Qy) : Bool :=
  (decide (1 ≤ q.ps.length) && decide (q.ps.length ≤ 4) && decide (q.fs.length ≤ 3)) && q.ps.all (Pa.is I) && (decide ((varsOf q.ps).length ≤ 6) && fisOk (varsOf q.ps) q.fs && (!(q.ask && decide (0 < q.vars.length)) && askd (varsOf q.ps) q.vars q.vars.length) && limOk q.lim q.off)
theorem gall_step {α : Type} {p : List α} {f : α → Bool} {n : Nat} {c : α} (h : (p.take n).all f = true) (hc : p[n]? = some c) (hf : f c = true) : (p.take (n + 1)).all f = true := by
  rw [List.take_add_one, hc, List.all_append, h]
  simp [hf]
theorem gall_stop {α : Type} {p : List α} {f : α → Bool} {n : Nat} {c : α} (hc : p[n]? = some c) (hf : f c = false) : p.all f = false := by
  rw [List.all_eq_false]
  exact ⟨c, List.mem_of_getElem? hc, by simp [hf]⟩
end Go.Proofs.YtagmgkplfhlifaaDoor.Au
namespace Go.Proofs.YtagmgkplfhlifaaDoor
set_option linter.unusedVariables false
set_option linter.unusedSimpArgs false
set_option maxRecDepth 100000
open Go.ChangeShapes Go.WideShapes Go.ChangeAt Go.RowKit
open Au
/-- Of an end's term, where it is one, term.Is tells I. -/
def IOk (I : Int → T → T → Bool) (w : World) (e : En) : Prop := e.v = [] → ∀ W, Below w.heap.size w W → Calls Tryd.prog 56 #[.agg #[.int .i64 e.k, str e.t, str e.x]] W fun o W' => o = .returned (.bool (I e.k e.t e.x)) ∧ Below W.heap.size W W'
theorem IOk.keep {I : Int → T → T → Bool} {w w' : World} {e : En} (h : IOk I w e) (hb : Below w.heap.size w w') : IOk I w' e := fun h0 W hW => h h0 W (below_then hb hW)
theorem eq_term0 (k : Int) (t x : T) (w : World) : (binOp .eql 49 (.agg #[.int .i64 k, str t, str x]) (.agg #[.int .i64 0, .string { data := #[] }, .string { data := #[] }])).run Tryd.prog w = .ok (.bool (decide (k = 0 ∧ t = [] ∧ x = []))) w := by
  by_cases h1 : k = 0 <;> by_cases h2 : t = [] <;> by_cases h3 : x = []
  all_goals
    simp [go_sem, h1, h2, h3]
    done
theorem qisend_any (I : Int → T → T → Bool) (e : En) (w : World) (hok : okE e) (hI : IOk I w e) :
    Calls Tryd.prog 39 #[enV e] w fun o w' => o = .returned (.bool (e.is I)) ∧ Below w.heap.size w w' := by
  obtain ⟨v, k, t, x⟩ := e
  have HB := hid (show Below w.heap.size w (w.alloc (.cells #[str v, .int .i64 k, str t, str x] 51)) from (Below.refl _ _).alloc (Nat.le_refl _) _)
  have E := hid (eq_term0 k t x)
  have hvl : v.length ≤ 9223372036854775807 := by have := hok.2.1; simp only at this; omega
  have V := hid (fun W => qisvar_any v W hvl)
  unfold En.is enV
  simp only
  by_cases h0 : v = []
  · subst h0
    rw [if_pos rfl]
    have C := hid (hI rfl _ HB.out)
    clear hI hok hvl
    go_enter Tryd.func39, Tryd.ntmps39
    go_wp2_with (go_at_call 56; refine C.out.mono ?_; rintro e w' ⟨rfl, hb⟩; have HC := hid hb; clear hb)
    go_ret
    exact ⟨rfl, below_then HB.out HC.out⟩
  · rw [if_neg h0]
    have hie : v.isEmpty = false := by cases v with | nil => exact absurd rfl h0 | cons c l => rfl
    generalize isVar v = b at V ⊢
    generalize decide (k = 0 ∧ t = [] ∧ x = []) = d at E ⊢
    have E1 := fun w => E.out w
    clear hI hok hvl
    cases b
    · go_enter Tryd.func39, Tryd.ntmps39
      go_wp2_with (go_at_call 57; refine (V.out _).mono ?_; rintro e w' ⟨rfl, hw⟩; subst hw)
      go_ret
      exact ⟨rfl, HB.out⟩
    · go_enter Tryd.func39, Tryd.ntmps39
      go_wp2_with (go_at_call 57; refine (V.out _).mono ?_; rintro e w' ⟨rfl, hw⟩; subst hw)
      go_ret
      exact ⟨by simp, HB.out⟩
end Go.Proofs.YtagmgkplfhlifaaDoor
