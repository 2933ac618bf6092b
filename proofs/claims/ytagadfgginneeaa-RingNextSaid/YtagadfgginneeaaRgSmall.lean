/- Triples in memory; the small functions on them: the columns behind and ahead, how two compare. -/
import Derived.Test.YtagadfgginneeaaRgMath
import Derived.Test.YtagadfgginneeaaOwn
import Derived.Deep.DeepCutAuto
namespace Go.Proofs.Ytagadfgginneeaa
set_option linter.unusedVariables false
set_option linter.unusedSimpArgs false
set_option maxRecDepth 100000
open Go.ChangeShapes Go.WideShapes Go.ChangeAt Go.RowKit
/-- A triple's cells; a triple as a value. -/
def tl (t : Rg.T) : List Value := [.int .i64 t.1, .int .i64 t.2.1, .int .i64 t.2.2]
def tv (t : Rg.T) : Value := .agg #[.int .i64 t.1, .int .i64 t.2.1, .int .i64 t.2.2]
theorem tl_get (t : Rg.T) (i : Nat) (h : i < 3) : (tl t)[i]? = some (.int .i64 (Rg.at' t i)) := by
  match i, h with
  | 0, _ => rfl
  | 1, _ => rfl
  | 2, _ => rfl
theorem behind_any (c : Nat) (hc : c < 3) (w : World) : Calls Try.prog 33 #[.int .i64 c] w fun e w' => e = .returned (.int .i64 (Rg.nx c : Nat)) ∧ w' = w := by
  go_enter Try.func33, Try.ntmps33
  go_wp2
  go_ret
  rcases Rg.c3 hc with rfl | rfl | rfl <;> exact ⟨rfl, rfl⟩
theorem ahead_any (c : Nat) (hc : c < 3) (w : World) : Calls Try.prog 31 #[.int .i64 c] w fun e w' => e = .returned (.int .i64 (Rg.pv c : Nat)) ∧ w' = w := by
  go_enter Try.func31, Try.ntmps31
  go_wp2
  go_ret
  rcases Rg.c3 hc with rfl | rfl | rfl <;> exact ⟨rfl, rfl⟩
theorem inan_any (x : Int) (w : World) : Calls Try.prog 74 #[.int .i64 x] w fun e w' => e = .returned (.bool false) ∧ w' = w := by
  go_enter Try.func74, Try.ntmps74
  go_wp2
  go_ret
  exact ⟨by simp, rfl⟩
def ci (x y : Int) : Int := if x < y then -1 else if y < x then 1 else 0
theorem icmp_any (x y : Int) (w : World) : Calls Try.prog 52 #[.int .i64 x, .int .i64 y] w fun e w' => e = .returned (.int .i64 (ci x y)) ∧ w' = w := by
  go_enter Try.func52, Try.ntmps52
  go_wp2_with (go_at_call 74; refine (inan_any _ _).mono ?_; rintro e w' ⟨rfl, rfl⟩)
  all_goals (go_ret; refine ⟨?_, rfl⟩; unfold ci; (repeat' split) <;> first | rfl | (exfalso; omega))
/-- Two rows of three numbers compare by the first two that differ. -/
theorem scmp_any (x y : Rg.T) (b1 b2 : Nat) (t1 t2 : TypeId) (w : World) (h1 : Blk w b1 (tl x) t1) (h2 : Blk w b2 (tl y) t2) :
    Calls Try.prog 36 #[.slice (some ⟨b1, 0, none⟩) 3 3, .slice (some ⟨b2, 0, none⟩) 3 3] w fun e w' => e = .returned (.int .i64 (Rg.cmp x y)) ∧ w' = w := by
  have H1 := hid fun i (h : i < 3) => h1.cell (tl_get x i h)
  have H2 := hid fun i (h : i < 3) => h2.cell (tl_get y i h)
  clear h1 h2
  go_enter Try.func36, Try.ntmps36
  go_wp2
  go_loopw [11] (fun s11 wr => ∃ i : Nat, i ≤ 3 ∧ s11 = .int .i64 i ∧ wr = w ∧ Hid (∀ j, j < i → Rg.at' x j = Rg.at' y j)) (fun s11 _ => 3 - (intOf s11).toNat)
  case atStart => exact ⟨0, by omega, rfl, rfl, fun j hj => absurd hj (Nat.not_lt_zero _)⟩
  case round =>
    obtain ⟨i, hi, rfl, hww, HE⟩ := hrel
    subst hww
    by_cases hlt : i < 3
    · have c1 := H1.out i hlt
      have c2 := H2.out i hlt
      have IC := icmp_any (Rg.at' x i) (Rg.at' y i) wr
      by_cases hc : ci (Rg.at' x i) (Rg.at' y i) = 0
      · rw [hc] at IC
        have HC := hid hc
        clear hc
        go_wp2_with (go_at_call 52; refine IC.mono ?_; rintro e w' ⟨rfl, rfl⟩)
        go_roundw
        case rel =>
          refine ⟨i + 1, by omega, by go_num, trivial, fun j hj => ?_⟩
          by_cases hji : j < i
          · exact HE.out j hji
          · obtain rfl : j = i := by omega
            have := HC.out
            unfold ci at this
            split at this
            · omega
            · split at this <;> omega
        case measure => simp [intOf]; omega
      · have hr : ci (Rg.at' x i) (Rg.at' y i) = Rg.cmp x y := by
          have he := HE.out
          unfold ci at hc ⊢
          unfold Rg.cmp
          have e0 := he 0
          have e1 := he 1
          obtain ⟨x0, x1, x2⟩ := x
          obtain ⟨y0, y1, y2⟩ := y
          rcases Rg.c3 hlt with rfl | rfl | rfl <;> simp [Rg.at'] at * <;> (repeat' split) <;> first | rfl | omega | (exfalso; omega)
        have HR := hid hr
        clear hr
        generalize ci (Rg.at' x i) (Rg.at' y i) = r at *
        go_wp2_with (go_at_call 52; refine IC.mono ?_; rintro e w' ⟨rfl, rfl⟩)
        go_ret
        exact ⟨by rw [HR.out]; rfl, rfl⟩
    · obtain rfl : i = 3 := by omega
      have hr : Rg.cmp x y = 0 := by
        have he := HE.out
        have e0 := he 0 (by omega)
        have e1 := he 1 (by omega)
        have e2 := he 2 (by omega)
        simp only [Rg.at'] at e0 e1 e2
        unfold Rg.cmp
        simp at e0 e1 e2
        simp [e0, e1, e2]
      have HR := hid hr
      clear hr
      go_wp2
      go_ret
      exact ⟨by rw [HR.out]; rfl, rfl⟩
end Go.Proofs.Ytagadfgginneeaa
