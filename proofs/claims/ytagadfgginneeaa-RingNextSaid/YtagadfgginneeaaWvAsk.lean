/- A wave: what its parts answer. -/
import Derived.Test.YtagadfgginneeaaBitsAsk
import Derived.Test.YtagadfgginneeaaWvMath
import Derived.Test.YtagadfgginneeaaBin
namespace Go.Proofs.Ytagadfgginneeaa
set_option linter.unusedVariables false
set_option maxRecDepth 100000
set_option linter.unusedSimpArgs false
open Go.ChangeShapes Go.WideShapes Go.ChangeAt Go.RowKit

/-- One level lies in block b. -/
def LevAt (w : World) (b : Nat) (l : List Nat) (wd k : Nat) : Prop := ∃ pv, w.cell? ⟨b, k * 2, none⟩ = some (.pointer (some ⟨pv, 0, none⟩)) ∧
  w.cell? ⟨b, k * 2 + 1, none⟩ = some (.int .i64 (Wv.zeros (Wv.rows l wd k) (wd - 1 - k) : Nat)) ∧ IsVec w pv (Wv.digs (Wv.rows l wd k) (wd - 1 - k))
theorem LevAt.keep {w w' : World} {b : Nat} {l : List Nat} {wd k : Nat} (h : LevAt w b l wd k) (hb : Below w.heap.size w w') : LevAt w' b l wd k := by
  obtain ⟨pv, h1, h2, h3⟩ := h
  exact ⟨pv, below_keep hb h1, below_keep hb h2, h3.keep hb⟩
/-- The first n levels. -/
def Levs (w : World) (a : Option Addr) (l : List Nat) (wd n : Nat) : Prop := n = 0 ∨ ∃ b, a = some ⟨b, 0, none⟩ ∧ ∀ k, k < n → LevAt w b l wd k
theorem Levs.keep {w w' : World} {a : Option Addr} {l : List Nat} {wd n : Nat} (h : Levs w a l wd n) (hb : Below w.heap.size w w') : Levs w' a l wd n := by
  rcases h with h | ⟨b, h1, h2⟩
  · exact Or.inl h
  · exact Or.inr ⟨b, h1, fun k hk => (h2 k hk).keep hb⟩
/-- Block p holds a wave of the numbers l, of wd digits each. -/
def IsWave (w : World) (p : Nat) (l : List Nat) (wd : Nat) : Prop := wd ≤ 20 ∧ l.length ≤ 1000 ∧ (∀ x ∈ l, x < 2 ^ wd) ∧
  ∃ a cap, w.cell? ⟨p, 0, none⟩ = some (.int .i64 l.length) ∧ w.cell? ⟨p, 1, none⟩ = some (.slice a wd cap) ∧ Levs w a l wd wd
theorem IsWave.keep {w w' : World} {p : Nat} {l : List Nat} {wd : Nat} (h : IsWave w p l wd) (hb : Below w.heap.size w w') : IsWave w' p l wd := by
  obtain ⟨h1, h2, h3, a, cap, h4, h5, h6⟩ := h
  exact ⟨h1, h2, h3, a, cap, below_keep hb h4, below_keep hb h5, h6.keep hb⟩

theorem wdig_any (b : Bool) (w : World) : Calls Try.prog 61 #[.bool b] w fun e w' => e = .returned (.int .i64 (Bn.dig b : Nat)) ∧ w' = w := by
  cases b
  all_goals
    go_enter Try.func61, Try.ntmps61
    go_wp2
    go_ret
    exact ⟨rfl, rfl⟩
theorem wlen_nil (w : World) : Calls Try.prog 27 #[.pointer none] w fun e w' => e = .returned (.int .i64 0) ∧ w' = w := by
  go_enter Try.func27, Try.ntmps27
  go_wp2
  go_ret
  exact ⟨rfl, rfl⟩
theorem wlen_cell (p : Nat) (n : Int) (w : World) (h : w.cell? ⟨p, 0, none⟩ = some (.int .i64 n)) :
    Calls Try.prog 27 #[.pointer (some ⟨p, 0, none⟩)] w fun e w' => e = .returned (.int .i64 n) ∧ w' = w := by
  go_enter Try.func27, Try.ntmps27
  go_wp2
  go_ret
  exact ⟨rfl, rfl⟩
theorem wtop_any (p wd : Nat) (a : Option Addr) (cap : Nat) (w : World) (h : w.cell? ⟨p, 1, none⟩ = some (.slice a wd cap)) (hw : wd ≤ 20) :
    Calls Try.prog 73 #[.pointer (some ⟨p, 0, none⟩)] w fun e w' => e = .returned (.int .i64 ((2 ^ wd : Nat) - 1 : Int)) ∧ w' = w := by
  have h2 : (2 : Nat) ^ wd ≤ 1048576 := Nat.pow_le_pow_right (by omega) hw
  have h3 : ((2 : Int) ^ wd) = ((2 ^ wd : Nat) : Int) := (Int.natCast_pow 2 wd).symm
  have h4 := Nat.two_pow_pos wd
  generalize 2 ^ wd = P at h2 h3 h4 ⊢
  go_enter Try.func73, Try.ntmps73
  go_wp2
  go_ret
  exact ⟨rfl, rfl⟩
theorem whold_core (v : Value) (n : Nat) (a b : Int) (w : World) (hn : n ≤ 1000) (hL : ∀ W, W = w → Calls Try.prog 27 #[v] W fun e w' => e = .returned (.int .i64 n) ∧ w' = W) :
    Calls Try.prog 49 #[v, .int .i64 a, .int .i64 b] w fun e w' => e = .returned (.tuple #[.int .i64 (Wv.loEnd n a b : Nat), .int .i64 (Wv.hiEnd n b : Nat)]) ∧ w' = w := by
  go_enter Try.func49, Try.ntmps49
  go_wp2_with (go_at_call 27; refine (hL _ rfl).mono ?_; rintro e w' ⟨rfl, rfl⟩)
  all_goals
    go_ret2
    refine ⟨?_, rfl⟩
    have e1 : ∀ x y x' y' : Int, x = x' → y = y' → Ending.returned (.tuple #[.int .i64 x, .int .i64 y]) = Ending.returned (.tuple #[.int .i64 x', .int .i64 y']) := by rintro x y _ _ rfl rfl; rfl
    refine e1 _ _ _ _ ?_ ?_ <;> simp only [Wv.hiEnd, Wv.loEnd] <;> omega
theorem wdown_any (pv : Nat) (R : List Nat) (d i : Nat) (one : Bool) (w : World) (h : IsVec w pv (Wv.digs R d)) (hl : R.length ≤ 1000) (hi : i ≤ R.length) :
    Calls Try.prog 62 #[.agg #[.pointer (some ⟨pv, 0, none⟩), .int .i64 (Wv.zeros R d : Nat)], .int .i64 i, .bool one] w fun e w' => e = .returned (.int .i64 (Wv.down R d i one : Nat)) ∧ Below w.heap.size w w' := by
  have hdl : (Wv.digs R d).length = R.length := by simp [Wv.digs]
  have hc := Bm.cnt_le (Wv.digs R d) i
  have hz : Wv.zeros R d ≤ 1000 := by unfold Wv.zeros; omega
  obtain ⟨c, hc0⟩ : ∃ c, c = Bm.cnt (Wv.digs R d) i := ⟨_, rfl⟩
  have hdn : Wv.down R d i one = if one then Wv.zeros R d + c else i - c := by rw [hc0]; rfl
  rw [← hc0] at hc
  have RK := hid (fun W (hW : Below w.heap.size w W) => by
    have := rank_any pv (Wv.digs R d) i W (h.keep hW) (by omega)
    rw [show Bm.rank (Wv.digs R d) (i : Int) = c by rw [hc0]; rfl] at this
    exact this)
  generalize Wv.zeros R d = z at *
  have HD := hid hdn
  clear hdn hc0 h
  cases one
  all_goals
    go_enter Try.func62, Try.ntmps62
    go_wp2_with (go_at_call 39; refine (RK.out _ ((Below.refl _ _).alloc (Nat.le_refl _) _)).mono ?_; rintro e w' ⟨rfl, q, rfl⟩)
    go_ret
    exact ⟨ret_int (by rw [HD.out]; simp; try omega), below_drawn ((Below.refl _ _).alloc (Nat.le_refl _) _) q⟩
end Go.Proofs.Ytagadfgginneeaa
