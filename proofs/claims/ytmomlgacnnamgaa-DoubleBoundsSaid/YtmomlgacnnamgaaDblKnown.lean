/- How floats stand: Holds, Order; the laws' known. -/
import Derived.Test.YtmomlgacnnamgaaDbl3
import Derived.Test.YtmomlgacnnamgaaFlOrd
namespace Go.Proofs.Ytmomlgacnnamgaa
set_option linter.unusedVariables false
set_option linter.unusedSimpArgs false
set_option maxRecDepth 100000
open Go.ChangeShapes Go.WideShapes Go.ChangeAt Go.RowKit
abbrev od (x y : Nat) : Option Ordering := FloatKind.f64.format.order x y
theorem od_self (x : Nat) : (od x x != some Ordering.eq) = (Fl.key x).isNone := by
  show (Fl.F.order x x != some Ordering.eq) = _
  rw [Fl.order_key]
  cases Fl.key x with
  | none => rfl
  | some a => simp only [Option.isNone_some]; rw [Int.compare_eq_eq.2 rfl]; rfl
theorem isnan_any (x : Nat) (w : World) : Calls Try.prog 31 #[.float .f64 x] w fun e w' => e = .returned (.bool (Fl.key x).isNone) ∧ w = w' := by
  have h := hid (od_self x)
  go_enter Try.func31, Try.ntmps31
  go_wp2
  go_ret
  exact ⟨ret_bool h.out, rfl⟩
theorem compare_any (a b : Bool) (w : World) : Calls Try.prog 32 #[.bool a, .bool b] w fun e w' => e = .returned (.int .i64 (Fl.cmpb a b)) ∧ w = w' := by
  cases a <;> cases b
  all_goals
    go_enter Try.func32, Try.ntmps32
    go_wp2
    go_ret
    exact ⟨rfl, rfl⟩
/-- What an op says of two that stand so. -/
def opo (s : List UInt8) (o : Option Ordering) : Bool :=
  if s = [60] then o == some .lt else if s = [60, 61] then o == some .lt || o == some .eq else if s = [62] then o == some .gt else if s = [62, 61] then o == some .gt || o == some .eq
  else if s = [61] then o == some .eq else if s = [33, 61] then o != some .eq else false
theorem holds_any (x y : Nat) (s : List UInt8) (w : World) (hs : s.length ≤ 9223372036854775807) : Calls Try.prog 17 #[.float .f64 x, str s, .float .f64 y] w fun e w' => e = .returned (.bool (opo s (od x y))) ∧ w = w' := by
  obtain ⟨o, ho⟩ : ∃ o, o = od x y := ⟨_, rfl⟩
  have HO := hid ho
  by_cases h1 : s = [60]
  · subst h1
    go_enter Try.func17, Try.ntmps17
    go_wp2
    go_ret
    exact ⟨rfl, rfl⟩
  · by_cases h2 : s = [60, 61]
    · subst h2
      go_enter Try.func17, Try.ntmps17
      go_wp2
      go_ret
      exact ⟨rfl, rfl⟩
    · by_cases h3 : s = [62]
      · subst h3
        go_enter Try.func17, Try.ntmps17
        go_wp2
        go_ret
        exact ⟨rfl, rfl⟩
      · by_cases h4 : s = [62, 61]
        · subst h4
          go_enter Try.func17, Try.ntmps17
          go_wp2
          go_ret
          exact ⟨rfl, rfl⟩
        · by_cases h5 : s = [61]
          · subst h5
            go_enter Try.func17, Try.ntmps17
            go_wp2
            go_ret
            exact ⟨rfl, rfl⟩
          · by_cases h6 : s = [33, 61]
            · subst h6
              go_enter Try.func17, Try.ntmps17
              go_wp2
              go_ret
              exact ⟨rfl, rfl⟩
            · have e : opo s (od x y) = false := by unfold opo; rw [if_neg h1, if_neg h2, if_neg h3, if_neg h4, if_neg h5, if_neg h6]
              rw [e]
              have b1 : (s == [60]) = false := beq_eq_false_iff_ne.2 h1
              have b2 : (s == [60, 61]) = false := beq_eq_false_iff_ne.2 h2
              have b3 : (s == [62]) = false := beq_eq_false_iff_ne.2 h3
              have b4 : (s == [62, 61]) = false := beq_eq_false_iff_ne.2 h4
              have b5 : (s == [61]) = false := beq_eq_false_iff_ne.2 h5
              have b6 : (s == [33, 61]) = false := beq_eq_false_iff_ne.2 h6
              clear h1 h2 h3 h4 h5 h6 e ho
              go_enter Try.func17, Try.ntmps17
              go_wp2
              go_ret
              exact ⟨rfl, rfl⟩
theorem cmp_lt (a b : Int) : (some (compare a b) == some Ordering.lt) = decide (a < b) := by
  rcases Int.lt_trichotomy a b with h | h | h
  · rw [Int.compare_eq_lt.2 h, decide_eq_true h]; rfl
  · rw [Int.compare_eq_eq.2 h, decide_eq_false (by omega)]; rfl
  · rw [Int.compare_eq_gt.2 h, decide_eq_false (by omega)]; rfl
theorem cmp_gt (a b : Int) : (some (compare a b) == some Ordering.gt) = decide (b < a) := by
  rcases Int.lt_trichotomy a b with h | h | h
  · rw [Int.compare_eq_lt.2 h, decide_eq_false (by omega)]; rfl
  · rw [Int.compare_eq_eq.2 h, decide_eq_false (by omega)]; rfl
  · rw [Int.compare_eq_gt.2 h, decide_eq_true h]; rfl
theorem order_any (x y : Nat) (w : World) (hx : x < 18446744073709551616) (hy : y < 18446744073709551616) : Calls Try.prog 19 #[.float .f64 x, .float .f64 y] w fun e w' => e = .returned (.int .i64 (Fl.ordr x y)) ∧ w = w' := by
  have NN := hid (fun x w => isnan_any x w)
  have SS := hid (fun x w (hx : x < 18446744073709551616) => signbit_any x w hx)
  have CC := hid (fun a b w => compare_any a b w)
  cases h1 : Fl.key x with
  | none =>
    have k1 : (Fl.key x).isNone = true := by rw [h1]; rfl
    cases h2 : Fl.key y with
    | none =>
      have k2 : (Fl.key y).isNone = true := by rw [h2]; rfl
      have e : Fl.ordr x y = Fl.cmpb false false := by unfold Fl.ordr; rw [h1, h2]; rfl
      rw [e]
      clear h1 h2 e
      go_enter Try.func19, Try.ntmps19
      go_wp2_with (first
        | (go_at_call 31; refine (NN.out _ _).mono ?_; rintro e w' ⟨rfl, rfl⟩)
        | (go_at_call 22; refine (SS.out _ _ (by assumption)).mono ?_; rintro e w' ⟨rfl, rfl⟩)
        | (go_at_call 32; refine (CC.out _ _ _).mono ?_; rintro e w' ⟨rfl, rfl⟩))
      go_ret
      exact ⟨rfl, rfl⟩
    | some b =>
      have k2 : (Fl.key y).isNone = false := by rw [h2]; rfl
      have e : Fl.ordr x y = Fl.cmpb false true := by unfold Fl.ordr; rw [h1, h2]; rfl
      rw [e]
      clear h1 h2 e
      go_enter Try.func19, Try.ntmps19
      go_wp2_with (first
        | (go_at_call 31; refine (NN.out _ _).mono ?_; rintro e w' ⟨rfl, rfl⟩)
        | (go_at_call 22; refine (SS.out _ _ (by assumption)).mono ?_; rintro e w' ⟨rfl, rfl⟩)
        | (go_at_call 32; refine (CC.out _ _ _).mono ?_; rintro e w' ⟨rfl, rfl⟩))
      go_ret
      exact ⟨rfl, rfl⟩
  | some a =>
    have k1 : (Fl.key x).isNone = false := by rw [h1]; rfl
    cases h2 : Fl.key y with
    | none =>
      have k2 : (Fl.key y).isNone = true := by rw [h2]; rfl
      have e : Fl.ordr x y = Fl.cmpb true false := by unfold Fl.ordr; rw [h1, h2]; rfl
      rw [e]
      clear h1 h2 e
      go_enter Try.func19, Try.ntmps19
      go_wp2_with (first
        | (go_at_call 31; refine (NN.out _ _).mono ?_; rintro e w' ⟨rfl, rfl⟩)
        | (go_at_call 22; refine (SS.out _ _ (by assumption)).mono ?_; rintro e w' ⟨rfl, rfl⟩)
        | (go_at_call 32; refine (CC.out _ _ _).mono ?_; rintro e w' ⟨rfl, rfl⟩))
      go_ret
      exact ⟨rfl, rfl⟩
    | some b =>
      have k2 : (Fl.key y).isNone = false := by rw [h2]; rfl
      have ho : od x y = some (compare a b) := Fl.order_some h1 h2
      have o1 : (od x y == some Ordering.lt) = decide (a < b) := by rw [ho]; exact cmp_lt a b
      have o2 : (od x y == some Ordering.gt) = decide (b < a) := by rw [ho]; exact cmp_gt a b
      have e0 : Fl.ordr x y = if a < b then -1 else if b < a then 1 else Fl.cmpb (!Fl.neg x) (!Fl.neg y) := by unfold Fl.ordr; rw [h1, h2]
      rcases Int.lt_trichotomy a b with h | h | h
      · rw [decide_eq_true h] at o1
        rw [decide_eq_false (by omega)] at o2
        rw [e0, if_pos h]
        clear h1 h2 e0 ho h
        go_enter Try.func19, Try.ntmps19
        go_wp2_with (first
          | (go_at_call 31; refine (NN.out _ _).mono ?_; rintro e w' ⟨rfl, rfl⟩)
          | (go_at_call 22; refine (SS.out _ _ (by assumption)).mono ?_; rintro e w' ⟨rfl, rfl⟩)
          | (go_at_call 32; refine (CC.out _ _ _).mono ?_; rintro e w' ⟨rfl, rfl⟩))
        go_ret
        exact ⟨rfl, rfl⟩
      · rw [decide_eq_false (by omega)] at o1 o2
        rw [e0, if_neg (by omega), if_neg (by omega)]
        clear h1 h2 e0 ho h
        go_enter Try.func19, Try.ntmps19
        go_wp2_with (first
          | (go_at_call 31; refine (NN.out _ _).mono ?_; rintro e w' ⟨rfl, rfl⟩)
          | (go_at_call 22; refine (SS.out _ _ (by assumption)).mono ?_; rintro e w' ⟨rfl, rfl⟩)
          | (go_at_call 32; refine (CC.out _ _ _).mono ?_; rintro e w' ⟨rfl, rfl⟩))
        go_ret
        exact ⟨rfl, rfl⟩
      · rw [decide_eq_false (by omega)] at o1
        rw [decide_eq_true h] at o2
        rw [e0, if_neg (by omega), if_pos h]
        clear h1 h2 e0 ho h
        go_enter Try.func19, Try.ntmps19
        go_wp2_with (first
          | (go_at_call 31; refine (NN.out _ _).mono ?_; rintro e w' ⟨rfl, rfl⟩)
          | (go_at_call 22; refine (SS.out _ _ (by assumption)).mono ?_; rintro e w' ⟨rfl, rfl⟩)
          | (go_at_call 32; refine (CC.out _ _ _).mono ?_; rintro e w' ⟨rfl, rfl⟩))
        go_ret
        exact ⟨rfl, rfl⟩
theorem known_any (w : World) : Calls Try.prog 15 #[] w fun e w' => e = .returned (.bool true) ∧ Below w.heap.size w w' := by
  have P1 := hid (fun w => parse_any [45, 48, 101, 48] w (by decide))
  have P2 := hid (fun w => parse_any [49, 46] w (by decide))
  have P3 := hid (fun w => parse_any [49, 101, 50, 51] w (by decide))
  rw [show Db.parse [45, 48, 101, 48] = some 9223372036854775808 by decide +kernel] at P1
  rw [show Db.parse [49, 46] = some 4607182418800017408 by decide +kernel] at P2
  rw [show Db.parse [49, 101, 50, 51] = none by decide +kernel] at P3
  have SB := hid (fun w => signbit_any 9223372036854775808 w (by decide))
  rw [show Db.neg 9223372036854775808 = true by decide] at SB
  have HO := hid (fun w => holds_any 9223372036854775808 0 [61] w (by decide))
  rw [show opo [61] (od 9223372036854775808 0) = true by decide +kernel] at HO
  have o1 : (FloatKind.f64.format.order 9223372036854775808 0 == some Ordering.eq) = true := by decide +kernel
  have o2 : (FloatKind.f64.format.order 4607182418800017408 4607182418800017408 == some Ordering.eq) = true := by decide +kernel
  simp only [Option.getD_some, Option.getD_none, Option.isSome_some, Option.isSome_none] at P1 P2 P3
  go_enter Try.func15, Try.ntmps15
  go_wp2_with fail
  refine (P1.out _).mono ?_
  rintro e w' ⟨rfl, q1, rfl⟩
  go_wp2_with fail
  refine (P2.out _).mono ?_
  rintro e w' ⟨rfl, q2, rfl⟩
  go_wp2_with fail
  refine (P3.out _).mono ?_
  rintro e w' ⟨rfl, q3, rfl⟩
  go_wp2_with (first
    | (go_at_call 22; refine (SB.out _).mono ?_; rintro e w' ⟨rfl, rfl⟩)
    | (go_at_call 17; refine (HO.out _).mono ?_; rintro e w' ⟨rfl, rfl⟩))
  go_ret
  exact ⟨rfl, below_drawn (Below.refl _ _) _⟩
end Go.Proofs.Ytmomlgacnnamgaa
