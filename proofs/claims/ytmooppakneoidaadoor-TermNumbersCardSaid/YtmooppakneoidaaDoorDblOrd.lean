/- How two numbers stand, in the document's words; a number is the same as itself. -/
import Derived.Test.YtmooppakneoidaaDoorFlOrd
import Derived.Test.YtmooppakneoidaaDoorDbl3
namespace Go.Proofs.YtmooppakneoidaaDoor
set_option linter.unusedVariables false
set_option linter.unusedSimpArgs false
set_option maxRecDepth 100000
open Go.ChangeShapes Go.WideShapes Go.ChangeAt Go.RowKit
theorem cmp_lt (a b : Int) : (some (compare a b) == some Ordering.lt) = decide (a < b) := by
  rcases Int.lt_trichotomy a b with h | h | h
  · rw [Int.compare_eq_lt.2 h, decide_eq_true h]; rfl
  · rw [Int.compare_eq_eq.2 h, decide_eq_false (by omega)]; rfl
  · rw [Int.compare_eq_gt.2 h, decide_eq_false (by omega)]; rfl
theorem cmp_gt (a b : Int) : (some (compare a b) == some Ordering.gt) = decide (b < a) := by
  rcases Int.lt_trichotomy a b with h | h | h
  · rw [Int.compare_eq_lt.2 h, decide_eq_false (by omega)]; rfl
  · rw [Int.compare_eq_eq.2 h, decide_eq_false (by omega)]; rfl
  · rw [Int.compare_eq_gt.2 h, decide_eq_true h]; rfl
abbrev od (x y : Nat) : Option Ordering := FloatKind.f64.format.order x y
theorem od_self (x : Nat) : (od x x != some Ordering.eq) = (Fl.key x).isNone := by
  show (Fl.F.order x x != some Ordering.eq) = _
  rw [Fl.order_key]
  cases Fl.key x with
  | none => rfl
  | some a => simp only [Option.isNone_some]; rw [Int.compare_eq_eq.2 rfl]; rfl
def rk (x : Nat) : Int := if (Fl.key x).isNone then 0 else if Fl.neg x then 1 else 2
theorem rrank_any (x : Nat) (w : World) (hx : x < 18446744073709551616) : Calls Tryd.prog 57 #[.float .f64 x] w fun e w' => e = .returned (.int .i64 (rk x)) ∧ w = w' := by
  have q := od_self x
  have SB := hid (fun w => signbit_any x w hx)
  rw [show Db.neg x = Fl.neg x from rfl] at SB
  unfold rk
  cases h : Fl.key x with
  | none =>
    rw [h] at q
    simp only [Option.isNone_none] at q
    clear h
    go_enter Tryd.func57, Tryd.ntmps57
    go_wp2
    go_ret
    exact ⟨rfl, rfl⟩
  | some a =>
    rw [h] at q
    simp only [Option.isNone_some] at q
    clear h
    cases hn : Fl.neg x
    all_goals
      rw [hn] at SB
      clear hn
      go_enter Tryd.func57, Tryd.ntmps57
      go_wp2_with (go_at_call 72; refine (SB.out _).mono ?_; rintro e w' ⟨rfl, rfl⟩)
      go_ret
      exact ⟨rfl, rfl⟩
theorem rorder_any (x y : Nat) (w : World) (hx : x < 18446744073709551616) (hy : y < 18446744073709551616) : Calls Tryd.prog 35 #[.float .f64 x, .float .f64 y] w fun e w' => e = .returned (.int .i64 (Fl.ordr x y)) ∧ w = w' := by
  have R1 := hid (fun w => rrank_any x w hx)
  have R2 := hid (fun w => rrank_any y w hy)
  cases h1 : Fl.key x with
  | none =>
    have k1 : rk x = 0 := by unfold rk; rw [h1]; rfl
    rw [k1] at R1
    cases h2 : Fl.key y with
    | none =>
      have k2 : rk y = 0 := by unfold rk; rw [h2]; rfl
      rw [k2] at R2
      have e : Fl.ordr x y = 0 := by unfold Fl.ordr; rw [h1, h2]
      have ho : od x y = none := (Fl.order_none x y).2 (Or.inl h1)
      have o1 : (od x y == some Ordering.lt) = false := by rw [ho]; rfl
      have o2 : (od x y == some Ordering.gt) = false := by rw [ho]; rfl
      rw [e]
      clear h1 h2 k1 k2 e ho
      go_enter Tryd.func35, Tryd.ntmps35
      go_wp2_with fail
      refine (R1.out _).mono ?_
      rintro e w' ⟨rfl, rfl⟩
      go_wp2_with fail
      refine (R2.out _).mono ?_
      rintro e w' ⟨rfl, rfl⟩
      go_wp2_with fail
      go_ret
      exact ⟨rfl, rfl⟩
    | some b =>
      have k2 : rk y = 1 ∨ rk y = 2 := by unfold rk; rw [h2]; simp
      have e : Fl.ordr x y = -1 := by unfold Fl.ordr; rw [h1, h2]
      rw [e]
      clear h1 h2 k1 e
      rcases k2 with k2 | k2
      all_goals
        rw [k2] at R2
        clear k2
        go_enter Tryd.func35, Tryd.ntmps35
        go_wp2_with fail
        refine (R1.out _).mono ?_
        rintro e w' ⟨rfl, rfl⟩
        go_wp2_with fail
        refine (R2.out _).mono ?_
        rintro e w' ⟨rfl, rfl⟩
        go_wp2_with fail
        go_ret
        exact ⟨rfl, rfl⟩
  | some a =>
    cases h2 : Fl.key y with
    | none =>
      have k1 : rk x = 1 ∨ rk x = 2 := by unfold rk; rw [h1]; simp
      have k2 : rk y = 0 := by unfold rk; rw [h2]; rfl
      rw [k2] at R2
      have e : Fl.ordr x y = 1 := by unfold Fl.ordr; rw [h1, h2]
      rw [e]
      clear h1 h2 k2 e
      rcases k1 with k1 | k1
      all_goals
        rw [k1] at R1
        clear k1
        go_enter Tryd.func35, Tryd.ntmps35
        go_wp2_with fail
        refine (R1.out _).mono ?_
        rintro e w' ⟨rfl, rfl⟩
        go_wp2_with fail
        refine (R2.out _).mono ?_
        rintro e w' ⟨rfl, rfl⟩
        go_wp2_with fail
        go_ret
        exact ⟨rfl, rfl⟩
    | some b =>
      have ho : od x y = some (compare a b) := Fl.order_some h1 h2
      have o1 : (od x y == some Ordering.lt) = decide (a < b) := by rw [ho]; exact cmp_lt a b
      have o2 : (od x y == some Ordering.gt) = decide (b < a) := by rw [ho]; exact cmp_gt a b
      have e0 : Fl.ordr x y = if a < b then -1 else if b < a then 1 else Fl.cmpb (!Fl.neg x) (!Fl.neg y) := by unfold Fl.ordr; rw [h1, h2]
      have n1 := Fl.key_neg hx h1
      have n2 := Fl.key_neg hy h2
      have k1 : rk x = if Fl.neg x then 1 else 2 := by unfold rk; rw [h1]; rfl
      have k2 : rk y = if Fl.neg y then 1 else 2 := by unfold rk; rw [h2]; rfl
      clear h1 h2 ho
      cases m1 : Fl.neg x <;> cases m2 : Fl.neg y <;> rw [m1] at n1 e0 k1 <;> rw [m2] at n2 e0 k2
      · rcases Int.lt_trichotomy a b with h | h | h
        · rw [decide_eq_true h] at o1
          rw [if_pos h] at e0
          rw [e0]
          rw [show rk x = 2 from k1] at R1
          rw [show rk y = 2 from k2] at R2
          clear o2 e0 n1 n2 k1 k2 h m1 m2
          go_enter Tryd.func35, Tryd.ntmps35
          go_wp2_with fail
          refine (R1.out _).mono ?_
          rintro e w' ⟨rfl, rfl⟩
          go_wp2_with fail
          refine (R2.out _).mono ?_
          rintro e w' ⟨rfl, rfl⟩
          go_wp2_with fail
          go_ret
          exact ⟨rfl, rfl⟩
        · rw [decide_eq_false (by omega)] at o1 o2
          rw [if_neg (by omega), if_neg (by omega)] at e0
          rw [e0]
          rw [show rk x = 2 from k1] at R1
          rw [show rk y = 2 from k2] at R2
          clear e0 n1 n2 k1 k2 h m1 m2
          go_enter Tryd.func35, Tryd.ntmps35
          go_wp2_with fail
          refine (R1.out _).mono ?_
          rintro e w' ⟨rfl, rfl⟩
          go_wp2_with fail
          refine (R2.out _).mono ?_
          rintro e w' ⟨rfl, rfl⟩
          go_wp2_with fail
          go_ret
          exact ⟨rfl, rfl⟩
        · rw [decide_eq_false (by omega)] at o1
          rw [decide_eq_true h] at o2
          rw [if_neg (by omega), if_pos h] at e0
          rw [e0]
          rw [show rk x = 2 from k1] at R1
          rw [show rk y = 2 from k2] at R2
          clear e0 n1 n2 k1 k2 h m1 m2
          go_enter Tryd.func35, Tryd.ntmps35
          go_wp2_with fail
          refine (R1.out _).mono ?_
          rintro e w' ⟨rfl, rfl⟩
          go_wp2_with fail
          refine (R2.out _).mono ?_
          rintro e w' ⟨rfl, rfl⟩
          go_wp2_with fail
          go_ret
          exact ⟨rfl, rfl⟩
      · have e : Fl.ordr x y = 1 := by
          rw [e0]
          have ha : ¬ a < 0 := fun h => by have := n1.1 h; cases this
          have hb : ¬ 0 < b := fun h => by have := n2.2 h; cases this
          rw [if_neg (by omega)]
          split
          · rfl
          · rfl
        rw [e]
        rw [show rk x = 2 from k1] at R1
        rw [show rk y = 1 from k2] at R2
        clear o1 o2 e e0 n1 n2 k1 k2 m1 m2
        go_enter Tryd.func35, Tryd.ntmps35
        go_wp2_with fail
        refine (R1.out _).mono ?_
        rintro e w' ⟨rfl, rfl⟩
        go_wp2_with fail
        refine (R2.out _).mono ?_
        rintro e w' ⟨rfl, rfl⟩
        go_wp2_with fail
        go_ret
        exact ⟨rfl, rfl⟩
      · have e : Fl.ordr x y = -1 := by
          rw [e0]
          have ha : ¬ 0 < a := fun h => by have := n1.2 h; cases this
          have hb : ¬ b < 0 := fun h => by have := n2.1 h; cases this
          split
          · rfl
          · rw [if_neg (by omega)]; rfl
        rw [e]
        rw [show rk x = 1 from k1] at R1
        rw [show rk y = 2 from k2] at R2
        clear o1 o2 e e0 n1 n2 k1 k2 m1 m2
        go_enter Tryd.func35, Tryd.ntmps35
        go_wp2_with fail
        refine (R1.out _).mono ?_
        rintro e w' ⟨rfl, rfl⟩
        go_wp2_with fail
        refine (R2.out _).mono ?_
        rintro e w' ⟨rfl, rfl⟩
        go_wp2_with fail
        go_ret
        exact ⟨rfl, rfl⟩
      · rcases Int.lt_trichotomy a b with h | h | h
        · rw [decide_eq_true h] at o1
          rw [if_pos h] at e0
          rw [e0]
          rw [show rk x = 1 from k1] at R1
          rw [show rk y = 1 from k2] at R2
          clear o2 e0 n1 n2 k1 k2 h m1 m2
          go_enter Tryd.func35, Tryd.ntmps35
          go_wp2_with fail
          refine (R1.out _).mono ?_
          rintro e w' ⟨rfl, rfl⟩
          go_wp2_with fail
          refine (R2.out _).mono ?_
          rintro e w' ⟨rfl, rfl⟩
          go_wp2_with fail
          go_ret
          exact ⟨rfl, rfl⟩
        · rw [decide_eq_false (by omega)] at o1 o2
          rw [if_neg (by omega), if_neg (by omega)] at e0
          rw [e0]
          rw [show rk x = 1 from k1] at R1
          rw [show rk y = 1 from k2] at R2
          clear e0 n1 n2 k1 k2 h m1 m2
          go_enter Tryd.func35, Tryd.ntmps35
          go_wp2_with fail
          refine (R1.out _).mono ?_
          rintro e w' ⟨rfl, rfl⟩
          go_wp2_with fail
          refine (R2.out _).mono ?_
          rintro e w' ⟨rfl, rfl⟩
          go_wp2_with fail
          go_ret
          exact ⟨rfl, rfl⟩
        · rw [decide_eq_false (by omega)] at o1
          rw [decide_eq_true h] at o2
          rw [if_neg (by omega), if_pos h] at e0
          rw [e0]
          rw [show rk x = 1 from k1] at R1
          rw [show rk y = 1 from k2] at R2
          clear e0 n1 n2 k1 k2 h m1 m2
          go_enter Tryd.func35, Tryd.ntmps35
          go_wp2_with fail
          refine (R1.out _).mono ?_
          rintro e w' ⟨rfl, rfl⟩
          go_wp2_with fail
          refine (R2.out _).mono ?_
          rintro e w' ⟨rfl, rfl⟩
          go_wp2_with fail
          go_ret
          exact ⟨rfl, rfl⟩
theorem Db.parse_lt (l : List UInt8) : (Db.parse l).getD 0 < 18446744073709551616 := by
  unfold Db.parse
  by_cases h1 : l = [78, 97, 78]
  · rw [if_pos h1]; decide
  · rw [if_neg h1]
    by_cases h2 : (Db.sign l).2 = [73, 78, 70]
    · rw [if_pos h2]
      cases (Db.sign l).1 <;> decide
    · rw [if_neg h2]
      cases h3 : Db.nm (Db.sign l).2 with
      | none => exact (by decide : (0 : Nat) < 18446744073709551616)
      | some q =>
        obtain ⟨d, e⟩ := q
        show Db.csign (Db.sign l).1 (Db.mag d e) < _
        unfold Db.csign
        split <;> omega
theorem rsame_self (x : Nat) (w : World) (hx : x < 18446744073709551616) : Calls Tryd.prog 18 #[.float .f64 x, .float .f64 x] w fun e w' => e = .returned (.bool true) ∧ w = w' := by
  have RO := hid (fun w => rorder_any x x w hx hx)
  rw [Fl.ordr_self] at RO
  go_enter Tryd.func18, Tryd.ntmps18
  go_wp2_with (go_at_call 35; refine (RO.out _).mono ?_; rintro e w' ⟨rfl, rfl⟩)
  go_ret
  exact ⟨rfl, rfl⟩
end Go.Proofs.YtmooppakneoidaaDoor
