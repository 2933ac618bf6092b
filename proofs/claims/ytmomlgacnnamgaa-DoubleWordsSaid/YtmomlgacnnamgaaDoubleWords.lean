/- DoubleWords: the words, and no others; texts with anything beside are none, for every input. -/
import Derived.Test.YtmomlgacnnamgaaDblKnown
namespace Go.Proofs.Ytmomlgacnnamgaa
set_option linter.unusedVariables false
set_option linter.unusedSimpArgs false
set_option maxRecDepth 100000
open Go.ChangeShapes Go.WideShapes Go.ChangeAt Go.RowKit

theorem run_flneg {P : Program} {x y : Nat} (h : Op.negFloat .f64 x = y) (W : World) : (Op.unary .neg (.float .f64 x)).run P W = .ok (.float .f64 y) W := by subst h; rfl
theorem isinf_up (w : World) : Calls Try.prog 23 #[.float .f64 9218868437227405312, .int .i64 1] w fun e w' => e = .returned (.bool true) ∧ w = w' := by
  have o1 : (FloatKind.f64.format.order 9218868437227405312 9218868437227405311 == some Ordering.gt) = true := by decide +kernel
  go_enter Try.func23, Try.ntmps23
  go_wp2
  go_ret
  exact ⟨rfl, rfl⟩
theorem isinf_down (w : World) : Calls Try.prog 23 #[.float .f64 18442240474082181120, .int .i64 (-1)] w fun e w' => e = .returned (.bool true) ∧ w = w' := by
  have o2 := fun W => run_flneg (P := Try.prog) (x := 18442240474082181120) (y := 9218868437227405312) (by decide +kernel) W
  have o1 : (FloatKind.f64.format.order 9218868437227405312 9218868437227405311 == some Ordering.gt) = true := by decide +kernel
  go_enter Try.func23, Try.ntmps23
  go_wp2
  go_ret
  exact ⟨rfl, rfl⟩
theorem words_0 (w : World) : Calls Try.prog 11 #[.int .i64 0] w fun e w' => e = .returned (.bool true) ∧ Below w.heap.size w w' := by
  have PX := hid (fun w => parse_any [73, 78, 70] w (by decide))
  rw [show Db.parse [73, 78, 70] = some 9218868437227405312 by decide +kernel] at PX
  simp only [Option.getD_some, Option.getD_none, Option.isSome_some, Option.isSome_none] at PX
  have KN := hid (fun w => known_any w)
  have IS := hid (fun w => isinf_up w)
  go_enter Try.func11, Try.ntmps11
  go_wp2_with fail
  refine (PX.out _).mono ?_
  rintro e w' ⟨rfl, q, rfl⟩
  go_wp2_with (first
    | (go_at_call 15; refine (KN.out _).mono ?_; rintro e w' ⟨rfl, hb⟩)
    | (go_at_call 23; refine (IS.out _).mono ?_; rintro e w' ⟨rfl, rfl⟩))
  have HB := hid (below_then (below_drawn ((Below.refl w.heap.size w).alloc (Nat.le_refl _) _) q) hb)
  go_ret
  exact ⟨rfl, HB.out⟩
theorem words_1 (w : World) : Calls Try.prog 11 #[.int .i64 1] w fun e w' => e = .returned (.bool true) ∧ Below w.heap.size w w' := by
  have PX := hid (fun w => parse_any [43, 73, 78, 70] w (by decide))
  rw [show Db.parse [43, 73, 78, 70] = some 9218868437227405312 by decide +kernel] at PX
  simp only [Option.getD_some, Option.getD_none, Option.isSome_some, Option.isSome_none] at PX
  have KN := hid (fun w => known_any w)
  have IS := hid (fun w => isinf_up w)
  go_enter Try.func11, Try.ntmps11
  go_wp2_with fail
  refine (PX.out _).mono ?_
  rintro e w' ⟨rfl, q, rfl⟩
  go_wp2_with (first
    | (go_at_call 15; refine (KN.out _).mono ?_; rintro e w' ⟨rfl, hb⟩)
    | (go_at_call 23; refine (IS.out _).mono ?_; rintro e w' ⟨rfl, rfl⟩))
  have HB := hid (below_then (below_drawn ((Below.refl w.heap.size w).alloc (Nat.le_refl _) _) q) hb)
  go_ret
  exact ⟨rfl, HB.out⟩
theorem words_2 (w : World) : Calls Try.prog 11 #[.int .i64 2] w fun e w' => e = .returned (.bool true) ∧ Below w.heap.size w w' := by
  have PX := hid (fun w => parse_any [45, 73, 78, 70] w (by decide))
  rw [show Db.parse [45, 73, 78, 70] = some 18442240474082181120 by decide +kernel] at PX
  simp only [Option.getD_some, Option.getD_none, Option.isSome_some, Option.isSome_none] at PX
  have KN := hid (fun w => known_any w)
  have IS := hid (fun w => isinf_down w)
  go_enter Try.func11, Try.ntmps11
  go_wp2_with fail
  refine (PX.out _).mono ?_
  rintro e w' ⟨rfl, q, rfl⟩
  go_wp2_with (first
    | (go_at_call 15; refine (KN.out _).mono ?_; rintro e w' ⟨rfl, hb⟩)
    | (go_at_call 23; refine (IS.out _).mono ?_; rintro e w' ⟨rfl, rfl⟩))
  have HB := hid (below_then (below_drawn ((Below.refl w.heap.size w).alloc (Nat.le_refl _) _) q) hb)
  go_ret
  exact ⟨rfl, HB.out⟩
theorem words_3 (w : World) : Calls Try.prog 11 #[.int .i64 3] w fun e w' => e = .returned (.bool true) ∧ Below w.heap.size w w' := by
  have PX := hid (fun w => parse_any [78, 97, 78] w (by decide))
  rw [show Db.parse [78, 97, 78] = some 9221120237041090561 by decide +kernel] at PX
  simp only [Option.getD_some, Option.getD_none, Option.isSome_some, Option.isSome_none] at PX
  have KN := hid (fun w => known_any w)
  have o1 : (FloatKind.f64.format.order 9221120237041090561 9221120237041090561 != some Ordering.eq) = true := by decide +kernel
  go_enter Try.func11, Try.ntmps11
  go_wp2_with fail
  refine (PX.out _).mono ?_
  rintro e w' ⟨rfl, q, rfl⟩
  go_wp2_with (first
    | (go_at_call 15; refine (KN.out _).mono ?_; rintro e w' ⟨rfl, hb⟩)
    | fail)
  have HB := hid (below_then (below_drawn ((Below.refl w.heap.size w).alloc (Nat.le_refl _) _) q) hb)
  go_ret
  exact ⟨rfl, HB.out⟩
theorem words_4 (w : World) : Calls Try.prog 11 #[.int .i64 4] w fun e w' => e = .returned (.bool true) ∧ Below w.heap.size w w' := by
  have PX := hid (fun w => parse_any [105, 110, 102] w (by decide))
  rw [show Db.parse [105, 110, 102] = none by decide +kernel] at PX
  simp only [Option.getD_some, Option.getD_none, Option.isSome_some, Option.isSome_none] at PX
  have KN := hid (fun w => known_any w)
  have o1 : (FloatKind.f64.format.order 0 0 == some Ordering.eq) = true := by decide +kernel
  go_enter Try.func11, Try.ntmps11
  go_wp2_with fail
  refine (PX.out _).mono ?_
  rintro e w' ⟨rfl, q, rfl⟩
  go_wp2_with (first
    | (go_at_call 15; refine (KN.out _).mono ?_; rintro e w' ⟨rfl, hb⟩)
    | fail)
  have HB := hid (below_then (below_drawn ((Below.refl w.heap.size w).alloc (Nat.le_refl _) _) q) hb)
  go_ret
  exact ⟨rfl, HB.out⟩
theorem words_5 (w : World) : Calls Try.prog 11 #[.int .i64 5] w fun e w' => e = .returned (.bool true) ∧ Below w.heap.size w w' := by
  have PX := hid (fun w => parse_any [45, 78, 97, 78] w (by decide))
  rw [show Db.parse [45, 78, 97, 78] = none by decide +kernel] at PX
  simp only [Option.getD_some, Option.getD_none, Option.isSome_some, Option.isSome_none] at PX
  have KN := hid (fun w => known_any w)
  have o1 : (FloatKind.f64.format.order 0 0 == some Ordering.eq) = true := by decide +kernel
  go_enter Try.func11, Try.ntmps11
  go_wp2_with fail
  refine (PX.out _).mono ?_
  rintro e w' ⟨rfl, q, rfl⟩
  go_wp2_with (first
    | (go_at_call 15; refine (KN.out _).mono ?_; rintro e w' ⟨rfl, hb⟩)
    | fail)
  have HB := hid (below_then (below_drawn ((Below.refl w.heap.size w).alloc (Nat.le_refl _) _) q) hb)
  go_ret
  exact ⟨rfl, HB.out⟩
theorem words_6 (w : World) : Calls Try.prog 11 #[.int .i64 6] w fun e w' => e = .returned (.bool true) ∧ Below w.heap.size w w' := by
  have PX := hid (fun w => parse_any [43, 78, 97, 78] w (by decide))
  rw [show Db.parse [43, 78, 97, 78] = none by decide +kernel] at PX
  simp only [Option.getD_some, Option.getD_none, Option.isSome_some, Option.isSome_none] at PX
  have KN := hid (fun w => known_any w)
  have o1 : (FloatKind.f64.format.order 0 0 == some Ordering.eq) = true := by decide +kernel
  go_enter Try.func11, Try.ntmps11
  go_wp2_with fail
  refine (PX.out _).mono ?_
  rintro e w' ⟨rfl, q, rfl⟩
  go_wp2_with (first
    | (go_at_call 15; refine (KN.out _).mono ?_; rintro e w' ⟨rfl, hb⟩)
    | fail)
  have HB := hid (below_then (below_drawn ((Below.refl w.heap.size w).alloc (Nat.le_refl _) _) q) hb)
  go_ret
  exact ⟨rfl, HB.out⟩
theorem words_7 (w : World) : Calls Try.prog 11 #[.int .i64 7] w fun e w' => e = .returned (.bool true) ∧ Below w.heap.size w w' := by
  have PX := hid (fun w => parse_any [] w (by decide))
  rw [show Db.parse [] = none by decide +kernel] at PX
  simp only [Option.getD_some, Option.getD_none, Option.isSome_some, Option.isSome_none] at PX
  have KN := hid (fun w => known_any w)
  have o1 : (FloatKind.f64.format.order 0 0 == some Ordering.eq) = true := by decide +kernel
  go_enter Try.func11, Try.ntmps11
  go_wp2_with fail
  refine (PX.out _).mono ?_
  rintro e w' ⟨rfl, q, rfl⟩
  go_wp2_with (first
    | (go_at_call 15; refine (KN.out _).mono ?_; rintro e w' ⟨rfl, hb⟩)
    | fail)
  have HB := hid (below_then (below_drawn ((Below.refl w.heap.size w).alloc (Nat.le_refl _) _) q) hb)
  go_ret
  exact ⟨rfl, HB.out⟩
theorem words_8 (w : World) : Calls Try.prog 11 #[.int .i64 8] w fun e w' => e = .returned (.bool true) ∧ Below w.heap.size w w' := by
  have PX := hid (fun w => parse_any [43] w (by decide))
  rw [show Db.parse [43] = none by decide +kernel] at PX
  simp only [Option.getD_some, Option.getD_none, Option.isSome_some, Option.isSome_none] at PX
  have KN := hid (fun w => known_any w)
  have o1 : (FloatKind.f64.format.order 0 0 == some Ordering.eq) = true := by decide +kernel
  go_enter Try.func11, Try.ntmps11
  go_wp2_with fail
  refine (PX.out _).mono ?_
  rintro e w' ⟨rfl, q, rfl⟩
  go_wp2_with (first
    | (go_at_call 15; refine (KN.out _).mono ?_; rintro e w' ⟨rfl, hb⟩)
    | fail)
  have HB := hid (below_then (below_drawn ((Below.refl w.heap.size w).alloc (Nat.le_refl _) _) q) hb)
  go_ret
  exact ⟨rfl, HB.out⟩
theorem words_9 (w : World) : Calls Try.prog 11 #[.int .i64 9] w fun e w' => e = .returned (.bool true) ∧ Below w.heap.size w w' := by
  have PX := hid (fun w => parse_any [46] w (by decide))
  rw [show Db.parse [46] = none by decide +kernel] at PX
  simp only [Option.getD_some, Option.getD_none, Option.isSome_some, Option.isSome_none] at PX
  have KN := hid (fun w => known_any w)
  have o1 : (FloatKind.f64.format.order 0 0 == some Ordering.eq) = true := by decide +kernel
  go_enter Try.func11, Try.ntmps11
  go_wp2_with fail
  refine (PX.out _).mono ?_
  rintro e w' ⟨rfl, q, rfl⟩
  go_wp2_with (first
    | (go_at_call 15; refine (KN.out _).mono ?_; rintro e w' ⟨rfl, hb⟩)
    | fail)
  have HB := hid (below_then (below_drawn ((Below.refl w.heap.size w).alloc (Nat.le_refl _) _) q) hb)
  go_ret
  exact ⟨rfl, HB.out⟩
theorem words_10 (w : World) : Calls Try.prog 11 #[.int .i64 10] w fun e w' => e = .returned (.bool true) ∧ Below w.heap.size w w' := by
  have PX := hid (fun w => parse_any [101, 49] w (by decide))
  rw [show Db.parse [101, 49] = none by decide +kernel] at PX
  simp only [Option.getD_some, Option.getD_none, Option.isSome_some, Option.isSome_none] at PX
  have KN := hid (fun w => known_any w)
  have o1 : (FloatKind.f64.format.order 0 0 == some Ordering.eq) = true := by decide +kernel
  go_enter Try.func11, Try.ntmps11
  go_wp2_with fail
  refine (PX.out _).mono ?_
  rintro e w' ⟨rfl, q, rfl⟩
  go_wp2_with (first
    | (go_at_call 15; refine (KN.out _).mono ?_; rintro e w' ⟨rfl, hb⟩)
    | fail)
  have HB := hid (below_then (below_drawn ((Below.refl w.heap.size w).alloc (Nat.le_refl _) _) q) hb)
  go_ret
  exact ⟨rfl, HB.out⟩
theorem words_11 (w : World) : Calls Try.prog 11 #[.int .i64 11] w fun e w' => e = .returned (.bool true) ∧ Below w.heap.size w w' := by
  have PX := hid (fun w => parse_any [49, 101] w (by decide))
  rw [show Db.parse [49, 101] = none by decide +kernel] at PX
  simp only [Option.getD_some, Option.getD_none, Option.isSome_some, Option.isSome_none] at PX
  have KN := hid (fun w => known_any w)
  have o1 : (FloatKind.f64.format.order 0 0 == some Ordering.eq) = true := by decide +kernel
  go_enter Try.func11, Try.ntmps11
  go_wp2_with fail
  refine (PX.out _).mono ?_
  rintro e w' ⟨rfl, q, rfl⟩
  go_wp2_with (first
    | (go_at_call 15; refine (KN.out _).mono ?_; rintro e w' ⟨rfl, hb⟩)
    | fail)
  have HB := hid (below_then (below_drawn ((Below.refl w.heap.size w).alloc (Nat.le_refl _) _) q) hb)
  go_ret
  exact ⟨rfl, HB.out⟩
theorem words_12 (w : World) : Calls Try.prog 11 #[.int .i64 12] w fun e w' => e = .returned (.bool true) ∧ Below w.heap.size w w' := by
  have PX := hid (fun w => parse_any [49, 101, 43] w (by decide))
  rw [show Db.parse [49, 101, 43] = none by decide +kernel] at PX
  simp only [Option.getD_some, Option.getD_none, Option.isSome_some, Option.isSome_none] at PX
  have KN := hid (fun w => known_any w)
  have o1 : (FloatKind.f64.format.order 0 0 == some Ordering.eq) = true := by decide +kernel
  go_enter Try.func11, Try.ntmps11
  go_wp2_with fail
  refine (PX.out _).mono ?_
  rintro e w' ⟨rfl, q, rfl⟩
  go_wp2_with (first
    | (go_at_call 15; refine (KN.out _).mono ?_; rintro e w' ⟨rfl, hb⟩)
    | fail)
  have HB := hid (below_then (below_drawn ((Below.refl w.heap.size w).alloc (Nat.le_refl _) _) q) hb)
  go_ret
  exact ⟨rfl, HB.out⟩
theorem words_13 (w : World) : Calls Try.prog 11 #[.int .i64 13] w fun e w' => e = .returned (.bool true) ∧ Below w.heap.size w w' := by
  have PX := hid (fun w => parse_any [49, 32] w (by decide))
  rw [show Db.parse [49, 32] = none by decide +kernel] at PX
  simp only [Option.getD_some, Option.getD_none, Option.isSome_some, Option.isSome_none] at PX
  have KN := hid (fun w => known_any w)
  have o1 : (FloatKind.f64.format.order 0 0 == some Ordering.eq) = true := by decide +kernel
  go_enter Try.func11, Try.ntmps11
  go_wp2_with fail
  refine (PX.out _).mono ?_
  rintro e w' ⟨rfl, q, rfl⟩
  go_wp2_with (first
    | (go_at_call 15; refine (KN.out _).mono ?_; rintro e w' ⟨rfl, hb⟩)
    | fail)
  have HB := hid (below_then (below_drawn ((Below.refl w.heap.size w).alloc (Nat.le_refl _) _) q) hb)
  go_ret
  exact ⟨rfl, HB.out⟩
theorem words_14 (w : World) : Calls Try.prog 11 #[.int .i64 14] w fun e w' => e = .returned (.bool true) ∧ Below w.heap.size w w' := by
  have PX := hid (fun w => parse_any [32, 49] w (by decide))
  rw [show Db.parse [32, 49] = none by decide +kernel] at PX
  simp only [Option.getD_some, Option.getD_none, Option.isSome_some, Option.isSome_none] at PX
  have KN := hid (fun w => known_any w)
  have o1 : (FloatKind.f64.format.order 0 0 == some Ordering.eq) = true := by decide +kernel
  go_enter Try.func11, Try.ntmps11
  go_wp2_with fail
  refine (PX.out _).mono ?_
  rintro e w' ⟨rfl, q, rfl⟩
  go_wp2_with (first
    | (go_at_call 15; refine (KN.out _).mono ?_; rintro e w' ⟨rfl, hb⟩)
    | fail)
  have HB := hid (below_then (below_drawn ((Below.refl w.heap.size w).alloc (Nat.le_refl _) _) q) hb)
  go_ret
  exact ⟨rfl, HB.out⟩
theorem words_15 (w : World) : Calls Try.prog 11 #[.int .i64 15] w fun e w' => e = .returned (.bool true) ∧ Below w.heap.size w w' := by
  have PX := hid (fun w => parse_any [48, 120, 49] w (by decide))
  rw [show Db.parse [48, 120, 49] = none by decide +kernel] at PX
  simp only [Option.getD_some, Option.getD_none, Option.isSome_some, Option.isSome_none] at PX
  have KN := hid (fun w => known_any w)
  have o1 : (FloatKind.f64.format.order 0 0 == some Ordering.eq) = true := by decide +kernel
  go_enter Try.func11, Try.ntmps11
  go_wp2_with fail
  refine (PX.out _).mono ?_
  rintro e w' ⟨rfl, q, rfl⟩
  go_wp2_with (first
    | (go_at_call 15; refine (KN.out _).mono ?_; rintro e w' ⟨rfl, hb⟩)
    | fail)
  have HB := hid (below_then (below_drawn ((Below.refl w.heap.size w).alloc (Nat.le_refl _) _) q) hb)
  go_ret
  exact ⟨rfl, HB.out⟩
theorem words_16 (w : World) : Calls Try.prog 11 #[.int .i64 16] w fun e w' => e = .returned (.bool true) ∧ Below w.heap.size w w' := by
  have PX := hid (fun w => parse_any [49, 95, 48] w (by decide))
  rw [show Db.parse [49, 95, 48] = none by decide +kernel] at PX
  simp only [Option.getD_some, Option.getD_none, Option.isSome_some, Option.isSome_none] at PX
  have KN := hid (fun w => known_any w)
  have o1 : (FloatKind.f64.format.order 0 0 == some Ordering.eq) = true := by decide +kernel
  go_enter Try.func11, Try.ntmps11
  go_wp2_with fail
  refine (PX.out _).mono ?_
  rintro e w' ⟨rfl, q, rfl⟩
  go_wp2_with (first
    | (go_at_call 15; refine (KN.out _).mono ?_; rintro e w' ⟨rfl, hb⟩)
    | fail)
  have HB := hid (below_then (below_drawn ((Below.refl w.heap.size w).alloc (Nat.le_refl _) _) q) hb)
  go_ret
  exact ⟨rfl, HB.out⟩
theorem words_17 (w : World) : Calls Try.prog 11 #[.int .i64 17] w fun e w' => e = .returned (.bool true) ∧ Below w.heap.size w w' := by
  have PX := hid (fun w => parse_any [45, 45, 49] w (by decide))
  rw [show Db.parse [45, 45, 49] = none by decide +kernel] at PX
  simp only [Option.getD_some, Option.getD_none, Option.isSome_some, Option.isSome_none] at PX
  have KN := hid (fun w => known_any w)
  have o1 : (FloatKind.f64.format.order 0 0 == some Ordering.eq) = true := by decide +kernel
  go_enter Try.func11, Try.ntmps11
  go_wp2_with fail
  refine (PX.out _).mono ?_
  rintro e w' ⟨rfl, q, rfl⟩
  go_wp2_with (first
    | (go_at_call 15; refine (KN.out _).mono ?_; rintro e w' ⟨rfl, hb⟩)
    | fail)
  have HB := hid (below_then (below_drawn ((Below.refl w.heap.size w).alloc (Nat.le_refl _) _) q) hb)
  go_ret
  exact ⟨rfl, HB.out⟩
theorem words_18 (w : World) : Calls Try.prog 11 #[.int .i64 18] w fun e w' => e = .returned (.bool true) ∧ Below w.heap.size w w' := by
  have PX := hid (fun w => parse_any [49, 46, 101, 49] w (by decide))
  rw [show Db.parse [49, 46, 101, 49] = some 4621819117588971520 by decide +kernel] at PX
  simp only [Option.getD_some, Option.getD_none, Option.isSome_some, Option.isSome_none] at PX
  have KN := hid (fun w => known_any w)
  go_enter Try.func11, Try.ntmps11
  go_wp2_with fail
  refine (PX.out _).mono ?_
  rintro e w' ⟨rfl, q, rfl⟩
  go_wp2_with (first
    | (go_at_call 15; refine (KN.out _).mono ?_; rintro e w' ⟨rfl, hb⟩)
    | fail)
  have HB := hid (below_then (below_drawn ((Below.refl w.heap.size w).alloc (Nat.le_refl _) _) q) hb)
  go_ret
  exact ⟨rfl, HB.out⟩
theorem words_19 (w : World) : Calls Try.prog 11 #[.int .i64 19] w fun e w' => e = .returned (.bool true) ∧ Below w.heap.size w w' := by
  have PX := hid (fun w => parse_any [46, 53] w (by decide))
  rw [show Db.parse [46, 53] = some 4602678819172646912 by decide +kernel] at PX
  simp only [Option.getD_some, Option.getD_none, Option.isSome_some, Option.isSome_none] at PX
  have KN := hid (fun w => known_any w)
  go_enter Try.func11, Try.ntmps11
  go_wp2_with fail
  refine (PX.out _).mono ?_
  rintro e w' ⟨rfl, q, rfl⟩
  go_wp2_with (first
    | (go_at_call 15; refine (KN.out _).mono ?_; rintro e w' ⟨rfl, hb⟩)
    | fail)
  have HB := hid (below_then (below_drawn ((Below.refl w.heap.size w).alloc (Nat.le_refl _) _) q) hb)
  go_ret
  exact ⟨rfl, HB.out⟩
theorem words_20 (w : World) : Calls Try.prog 11 #[.int .i64 20] w fun e w' => e = .returned (.bool true) ∧ Below w.heap.size w w' := by
  have PX := hid (fun w => parse_any [53, 46] w (by decide))
  rw [show Db.parse [53, 46] = some 4617315517961601024 by decide +kernel] at PX
  simp only [Option.getD_some, Option.getD_none, Option.isSome_some, Option.isSome_none] at PX
  have KN := hid (fun w => known_any w)
  go_enter Try.func11, Try.ntmps11
  go_wp2_with fail
  refine (PX.out _).mono ?_
  rintro e w' ⟨rfl, q, rfl⟩
  go_wp2_with (first
    | (go_at_call 15; refine (KN.out _).mono ?_; rintro e w' ⟨rfl, hb⟩)
    | fail)
  have HB := hid (below_then (below_drawn ((Below.refl w.heap.size w).alloc (Nat.le_refl _) _) q) hb)
  go_ret
  exact ⟨rfl, HB.out⟩
theorem words_21 (w : World) : Calls Try.prog 11 #[.int .i64 21] w fun e w' => e = .returned (.bool true) ∧ Below w.heap.size w w' := by
  have PX := hid (fun w => parse_any [49, 101, 48, 48, 48, 49] w (by decide))
  rw [show Db.parse [49, 101, 48, 48, 48, 49] = none by decide +kernel] at PX
  simp only [Option.getD_some, Option.getD_none, Option.isSome_some, Option.isSome_none] at PX
  have KN := hid (fun w => known_any w)
  have o1 : (FloatKind.f64.format.order 0 0 == some Ordering.eq) = true := by decide +kernel
  go_enter Try.func11, Try.ntmps11
  go_wp2_with fail
  refine (PX.out _).mono ?_
  rintro e w' ⟨rfl, q, rfl⟩
  go_wp2_with (first
    | (go_at_call 15; refine (KN.out _).mono ?_; rintro e w' ⟨rfl, hb⟩)
    | fail)
  have HB := hid (below_then (below_drawn ((Below.refl w.heap.size w).alloc (Nat.le_refl _) _) q) hb)
  go_ret
  exact ⟨rfl, HB.out⟩
theorem words_22 (w : World) : Calls Try.prog 11 #[.int .i64 22] w fun e w' => e = .returned (.bool true) ∧ Below w.heap.size w w' := by
  have PX := hid (fun w => parse_any [49, 101, 48, 48, 48] w (by decide))
  rw [show Db.parse [49, 101, 48, 48, 48] = some 4607182418800017408 by decide +kernel] at PX
  simp only [Option.getD_some, Option.getD_none, Option.isSome_some, Option.isSome_none] at PX
  have KN := hid (fun w => known_any w)
  go_enter Try.func11, Try.ntmps11
  go_wp2_with fail
  refine (PX.out _).mono ?_
  rintro e w' ⟨rfl, q, rfl⟩
  go_wp2_with (first
    | (go_at_call 15; refine (KN.out _).mono ?_; rintro e w' ⟨rfl, hb⟩)
    | fail)
  have HB := hid (below_then (below_drawn ((Below.refl w.heap.size w).alloc (Nat.le_refl _) _) q) hb)
  go_ret
  exact ⟨rfl, HB.out⟩
theorem words_out (n : Int) (W : World) (h : n < 0 ∨ (0 ≤ n ∧ 23 ≤ n)) : Calls Try.prog 11 #[.int .i64 n] W fun e W' => e = .returned (.bool true) ∧ Below W.heap.size W W' := by
  rcases h with h | ⟨h0, h⟩
  all_goals
    go_enter Try.func11, Try.ntmps11
    go_wp2
    go_ret
    exact ⟨rfl, (Below.refl _ _).alloc (Nat.le_refl _) _⟩
theorem doubleWords_any (n : Int) (W : World) : Calls Try.prog 11 #[.int .i64 n] W fun e W' => e = .returned (.bool true) ∧ Below W.heap.size W W' := by
  by_cases h : n < 0 ∨ (0 ≤ n ∧ 23 ≤ n)
  · exact words_out n W h
  · obtain ⟨k, rfl⟩ : ∃ k : Nat, n = k := ⟨n.toNat, by omega⟩
    have hk : k < 23 := by omega
    match k, hk with
    | 0, _ => exact words_0 W
    | 1, _ => exact words_1 W
    | 2, _ => exact words_2 W
    | 3, _ => exact words_3 W
    | 4, _ => exact words_4 W
    | 5, _ => exact words_5 W
    | 6, _ => exact words_6 W
    | 7, _ => exact words_7 W
    | 8, _ => exact words_8 W
    | 9, _ => exact words_9 W
    | 10, _ => exact words_10 W
    | 11, _ => exact words_11 W
    | 12, _ => exact words_12 W
    | 13, _ => exact words_13 W
    | 14, _ => exact words_14 W
    | 15, _ => exact words_15 W
    | 16, _ => exact words_16 W
    | 17, _ => exact words_17 W
    | 18, _ => exact words_18 W
    | 19, _ => exact words_19 W
    | 20, _ => exact words_20 W
    | 21, _ => exact words_21 W
    | 22, _ => exact words_22 W
    | k + 23, hk => exact absurd hk (by omega)

theorem doubleWords_walk (H : Type) (enc : TypeId × Value → H) (W : World) (base : Nat) (args : Array Value) (ds gs : List (DataW H)) (before : List MemPlace)
    (hval : ∀ (j : Nat) t v, Try.f11.params[j]? = some t → args[j]? = some v → Value.okWide Try.prog W .any base t v)
    (hW : DataW.Whole enc Try.prog Try.f11.params.toList Rows.doubleWordsSpec.vars false W args.toList ds gs before)
    (hz : (DataW.weightsEach Try.prog (Try.f11.params.toList ++ Rows.doubleWordsSpec.plain.varTypes Try.prog) (ds ++ gs)).all (· ≤ reachBytes) = true)
    (hL : laidMetH Try.prog Rows.doubleWordsRow.laid W) (hsh : W.ShapedOpen Try.prog) :
    Calls Try.prog 11 args W fun e W' => e = .returned (.bool true) ∧ Below W.heap.size W W' := by
  obtain ⟨p, q, hA, _, _, _, _⟩ := hW
  rw [Try.params11] at hA hval
  rw [Try.params11] at hz
  obtain ⟨v0, vs0, d0, ds0, p0, q0, hargs, rfl, rfl, h0, r0⟩ := trodAll_cons hA
  obtain ⟨rfl, rfl, rfl⟩ := trodAll_nil r0
  obtain rfl : args = #[v0] := by cases args; simp_all
  obtain ⟨x0, rfl, rfl, rfl, w0⟩ := open_int Try.underlying3 (hval 0 3 v0 rfl rfl) h0
  have b0 := bounds_i64 w0
  exact doubleWords_any x0 W

theorem doubleWords_lifted (os : Os) (started : os.Started) (H : Type) (enc : TypeId × Value → H) (F : Stop.Interp) :
    ReturnsInHanded {} Try.checked os 11 .any ((OpenSpec.ofChange Rows.doubleWordsSpec).preRow enc Try.prog Try.f11 Rows.doubleWordsRow.domain false Rows.doubleWordsRow.laid) (((OpenSpec.ofChange Rows.doubleWordsSpec).at F).post enc Try.prog Try.f11 false true false false) := by
  obtain ⟨places, hx⟩ : ∃ places, DataW.whole enc Try.prog ((World.holding Try.prog os ⟨#[], #[], []⟩).forCall (fun _ _ => 0) ⟨#[], #[.int .i64 0], []⟩).memory Try.f11.params.toList Rows.doubleWordsSpec.vars false (#[.int .i64 0] : Array Value).toList 8 = some ([.lit (.int .i64 0)], [], places) := ⟨[], by kernel_rfl⟩
  refine returnsInHanded_of_row (C := Try.checked) (s := OpenSpec.ofChange Rows.doubleWordsSpec) own started (by kernel_rfl) Try.func11
    (witness_row_at (enc := enc) (C := Try.checked) false (World.holding Try.prog os ⟨#[], #[], []⟩) #[.int .i64 0] rfl (by kernel_rfl) (by kernel_rfl) (by kernel_rfl)
      (OpenSpec.preRow_of_cond 8 hx (by kernel_rfl) (fun k hk => by cases hk) (by kernel_rfl) (laidMet_nil _ _))) ?_
  intro W base args ds gs before hval hW _ _ hz hL hsh _
  refine (doubleWords_walk H enc W base args ds gs before hval hW hz hL hsh).mono fun e W' ⟨he, hb⟩ => ⟨_, he, ?_⟩
  exact law_post (fn := Try.f11) (s := Rows.doubleWordsSpec) (tb := 4) rfl (fun ds hd => by match ds, hd with | [d0], _ => rfl) rfl Try.underlying4 (by kernel_rfl) hW hb

theorem doubleWords_said : Rows.DoubleWordsSaid :=
  OpenClaim.holds_of_cond 11 Try.f11 rfl rfl rfl rfl rfl rfl rfl ⟨rfl, rfl, rfl, rfl, rfl⟩ rfl rfl rfl rfl rfl (by kernel_rfl) Try.func11 (by kernel_rfl)
    (of_decide_eq_true (by kernel_rfl)) (by unfold Func.isWrapper; first | (rw [if_pos (by decide +kernel)]; kernel_rfl) | (rw [if_neg (by decide +kernel)]; exact ⟨rfl, rfl⟩))
    (fun os started H enc _ F => by rw [OpenClaim.pre_eq_preRow]; exact doubleWords_lifted os started H enc F)
end Go.Proofs.Ytmomlgacnnamgaa
