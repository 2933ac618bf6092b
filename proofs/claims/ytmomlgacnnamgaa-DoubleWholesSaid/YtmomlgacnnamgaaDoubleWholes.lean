/- DoubleWholes: whole numbers are themselves, with whatever noughts ahead, points, exponents of nought, for every input. -/
import Derived.Test.YtmomlgacnnamgaaDblKnown
import Derived.Test.YtmomlgacnnamgaaDigFl
import Derived.Test.YtmomlgacnnamgaaDblSign
namespace Go.Proofs.Ytmomlgacnnamgaa
set_option linter.unusedVariables false
set_option linter.unusedSimpArgs false
set_option maxRecDepth 100000
open Go.ChangeShapes Go.WideShapes Go.ChangeAt Go.RowKit

theorem run_flneg3 {P : Program} {x : Nat} (h : x < 9223372036854775808) (W : World) : (Op.unary .neg (.float .f64 x)).run P W = .ok (.float .f64 (x + 9223372036854775808)) W := by
  rw [← Fl.negFloat_low h]; rfl
theorem wholes_out (n way : Int) (W : World) (h : n < 0 ∨ (0 ≤ n ∧ 99999999 < n) ∨ (0 ≤ n ∧ n ≤ 99999999 ∧ way < 0) ∨ (0 ≤ n ∧ n ≤ 99999999 ∧ 0 ≤ way ∧ 5 < way)) :
    Calls Try.prog 7 #[.int .i64 n, .int .i64 way] W fun e W' => e = .returned (.bool true) ∧ Below W.heap.size W W' := by
  rcases h with h | ⟨h1, h⟩ | ⟨h1, h2, h⟩ | ⟨h1, h2, h3, h⟩
  all_goals
    go_enter Try.func7, Try.ntmps7
    go_wp2
    go_ret
    exact ⟨rfl, Below.refl _ _⟩
theorem wholes_0z (n : Nat) (hn : n ≤ 99999999) (hz : n = 0) (W : World) : Calls Try.prog 7 #[.int .i64 n, .int .i64 0] W fun e W' => e = .returned (.bool true) ∧ Below W.heap.size W W' := by
  have DG := hid (digits_any n hn)
  obtain ⟨h0, h1, h2, h3, h4, h5, h6⟩ := Db.whole_ways n hn
  have hl := Db.dgs_len_le 7 n (by omega)
  have PX := hid (fun w => parse_any (Db.dgs n) w (by omega))
  have PN := hid (fun w => parse_any (45 :: Db.dgs n) w (by rw [List.length_cons]; omega))
  rw [h0] at PX
  rw [h6] at PN
  simp only [Option.getD_some, Option.isSome_some] at PX PN
  have hx1 : Db.fl n < 9223372036854775808 := Db.fl_lt n (by omega)
  obtain ⟨a, ka⟩ := Fl.key_low (Fl.nearest_le n 0)
  have hfl := Db.fl_eq n
  have ka : Fl.key (Db.fl n) = some a := ka
  have kA := Fl.key_turn hx1
  rw [ka] at kA
  have o1 : (FloatKind.f64.format.order (Db.fl n) (Db.fl n) == some Ordering.eq) = true := Fl.order_refl ka
  have N1 := fun W => run_flneg3 (P := Try.prog) hx1 W
  have s1 : Db.neg (Db.fl n + 9223372036854775808) = true := by unfold Db.neg; exact decide_eq_true (by omega)
  have s2 : Db.neg (Db.fl n) = false := by unfold Db.neg; exact decide_eq_false (by omega)
  have o2 : (FloatKind.f64.format.order (Db.fl n + 9223372036854775808) (Db.fl n + 9223372036854775808) == some Ordering.eq) = true := Fl.order_refl kA
  have SX := hid (fun w => signbit_any (Db.fl n) w (by omega))
  have SN := hid (fun w => signbit_any (Db.fl n + 9223372036854775808) w (by omega))
  rw [s1] at SN
  rw [s2] at SX
  obtain ⟨x, ex⟩ : ∃ x, x = Db.fl n := ⟨_, rfl⟩
  rw [← ex] at PX PN hfl N1 o1 o2 SX SN
  obtain ⟨X, eX⟩ : ∃ X, X = x + 9223372036854775808 := ⟨_, rfl⟩
  rw [← eX] at PN N1 o2 SN
  have KN := hid (fun w => known_any w)
  have AN : (⟨#[45]⟩ : ByteArray) ++ ⟨(Db.dgs n).toArray⟩ = ⟨(45 :: Db.dgs n).toArray⟩ := ba_append [45] (Db.dgs n)
  obtain ⟨TN, hTN⟩ : ∃ T, T = 45 :: Db.dgs n := ⟨_, rfl⟩
  rw [← hTN] at PN AN
  obtain ⟨D, hD⟩ : ∃ D, D = Db.dgs n := ⟨_, rfl⟩
  rw [← hD] at DG AN hl PX
  clear hD hTN eX ex ka kA h0 h1 h2 h3 h4 h5 h6 s1 s2 hx1
  subst hz
  have hfl0 : floatOfInt FloatKind.f64 0 = x := hfl
  go_enter Try.func7, Try.ntmps7
  go_wp2_with fail
  refine (DG.out _).mono ?_
  rintro e w1 ⟨rfl, hb1⟩
  go_wp2_with fail
  refine (PX.out _).mono ?_
  rintro e w' ⟨rfl, q1, rfl⟩
  go_wp2_with fail
  refine (DG.out _).mono ?_
  rintro e w2 ⟨rfl, hb2⟩
  go_wp2_with fail
  refine (PN.out _).mono ?_
  rintro e w' ⟨rfl, q2, rfl⟩
  go_wp2_with fail
  refine (SN.out _).mono ?_
  rintro e w' ⟨rfl, rfl⟩
  go_wp2_with fail
  refine (SX.out _).mono ?_
  rintro e w' ⟨rfl, rfl⟩
  go_wp2_with fail
  refine (KN.out _).mono ?_
  rintro e w' ⟨rfl, hk⟩
  go_wp2
  have HB := hid (below_then (below_drawn (below_then (below_drawn (hb1.alloc hb1.size _) q1) hb2) q2) hk)
  go_ret
  exact ⟨rfl, HB.out⟩
theorem wholes_0n (n : Nat) (hn : n ≤ 99999999) (hz : 0 < n) (W : World) : Calls Try.prog 7 #[.int .i64 n, .int .i64 0] W fun e W' => e = .returned (.bool true) ∧ Below W.heap.size W W' := by
  have DG := hid (digits_any n hn)
  obtain ⟨h0, h1, h2, h3, h4, h5, h6⟩ := Db.whole_ways n hn
  have hl := Db.dgs_len_le 7 n (by omega)
  have PX := hid (fun w => parse_any (Db.dgs n) w (by omega))
  have PN := hid (fun w => parse_any (45 :: Db.dgs n) w (by rw [List.length_cons]; omega))
  rw [h0] at PX
  rw [h6] at PN
  simp only [Option.getD_some, Option.isSome_some] at PX PN
  have hx1 : Db.fl n < 9223372036854775808 := Db.fl_lt n (by omega)
  obtain ⟨a, ka⟩ := Fl.key_low (Fl.nearest_le n 0)
  have hfl := Db.fl_eq n
  have ka : Fl.key (Db.fl n) = some a := ka
  have kA := Fl.key_turn hx1
  rw [ka] at kA
  have o1 : (FloatKind.f64.format.order (Db.fl n) (Db.fl n) == some Ordering.eq) = true := Fl.order_refl ka
  have N1 := fun W => run_flneg3 (P := Try.prog) hx1 W
  have s1 : Db.neg (Db.fl n + 9223372036854775808) = true := by unfold Db.neg; exact decide_eq_true (by omega)
  have s2 : Db.neg (Db.fl n) = false := by unfold Db.neg; exact decide_eq_false (by omega)
  have o2 : (FloatKind.f64.format.order (Db.fl n + 9223372036854775808) (Db.fl n + 9223372036854775808) == some Ordering.eq) = true := Fl.order_refl kA
  have SX := hid (fun w => signbit_any (Db.fl n) w (by omega))
  have SN := hid (fun w => signbit_any (Db.fl n + 9223372036854775808) w (by omega))
  rw [s1] at SN
  rw [s2] at SX
  obtain ⟨x, ex⟩ : ∃ x, x = Db.fl n := ⟨_, rfl⟩
  rw [← ex] at PX PN hfl N1 o1 o2 SX SN
  obtain ⟨X, eX⟩ : ∃ X, X = x + 9223372036854775808 := ⟨_, rfl⟩
  rw [← eX] at PN N1 o2 SN
  have KN := hid (fun w => known_any w)
  have AN : (⟨#[45]⟩ : ByteArray) ++ ⟨(Db.dgs n).toArray⟩ = ⟨(45 :: Db.dgs n).toArray⟩ := ba_append [45] (Db.dgs n)
  obtain ⟨TN, hTN⟩ : ∃ T, T = 45 :: Db.dgs n := ⟨_, rfl⟩
  rw [← hTN] at PN AN
  obtain ⟨D, hD⟩ : ∃ D, D = Db.dgs n := ⟨_, rfl⟩
  rw [← hD] at DG AN hl PX
  clear hD hTN eX ex ka kA h0 h1 h2 h3 h4 h5 h6 s1 s2 hx1
  go_enter Try.func7, Try.ntmps7
  go_wp2_with fail
  refine (DG.out _).mono ?_
  rintro e w1 ⟨rfl, hb1⟩
  go_wp2_with fail
  refine (PX.out _).mono ?_
  rintro e w' ⟨rfl, q1, rfl⟩
  go_wp2_with fail
  refine (DG.out _).mono ?_
  rintro e w2 ⟨rfl, hb2⟩
  go_wp2_with fail
  refine (PN.out _).mono ?_
  rintro e w' ⟨rfl, q2, rfl⟩
  go_wp2_with fail
  refine (SX.out _).mono ?_
  rintro e w' ⟨rfl, rfl⟩
  go_wp2_with fail
  refine (KN.out _).mono ?_
  rintro e w' ⟨rfl, hk⟩
  go_wp2
  have HB := hid (below_then (below_drawn (below_then (below_drawn (hb1.alloc hb1.size _) q1) hb2) q2) hk)
  go_ret
  exact ⟨rfl, HB.out⟩
theorem wholes_1z (n : Nat) (hn : n ≤ 99999999) (hz : n = 0) (W : World) : Calls Try.prog 7 #[.int .i64 n, .int .i64 1] W fun e W' => e = .returned (.bool true) ∧ Below W.heap.size W W' := by
  have DG := hid (digits_any n hn)
  obtain ⟨h0, h1, h2, h3, h4, h5, h6⟩ := Db.whole_ways n hn
  have hl := Db.dgs_len_le 7 n (by omega)
  have PX := hid (fun w => parse_any (43 :: Db.dgs n) w (by simp only [List.length_append, List.length_cons, List.length_nil]; omega))
  have PN := hid (fun w => parse_any (45 :: Db.dgs n) w (by rw [List.length_cons]; omega))
  rw [h1] at PX
  rw [h6] at PN
  simp only [Option.getD_some, Option.isSome_some] at PX PN
  have hx1 : Db.fl n < 9223372036854775808 := Db.fl_lt n (by omega)
  obtain ⟨a, ka⟩ := Fl.key_low (Fl.nearest_le n 0)
  have hfl := Db.fl_eq n
  have ka : Fl.key (Db.fl n) = some a := ka
  have kA := Fl.key_turn hx1
  rw [ka] at kA
  have o1 : (FloatKind.f64.format.order (Db.fl n) (Db.fl n) == some Ordering.eq) = true := Fl.order_refl ka
  have N1 := fun W => run_flneg3 (P := Try.prog) hx1 W
  have s1 : Db.neg (Db.fl n + 9223372036854775808) = true := by unfold Db.neg; exact decide_eq_true (by omega)
  have s2 : Db.neg (Db.fl n) = false := by unfold Db.neg; exact decide_eq_false (by omega)
  have o2 : (FloatKind.f64.format.order (Db.fl n + 9223372036854775808) (Db.fl n + 9223372036854775808) == some Ordering.eq) = true := Fl.order_refl kA
  have SX := hid (fun w => signbit_any (Db.fl n) w (by omega))
  have SN := hid (fun w => signbit_any (Db.fl n + 9223372036854775808) w (by omega))
  rw [s1] at SN
  rw [s2] at SX
  obtain ⟨x, ex⟩ : ∃ x, x = Db.fl n := ⟨_, rfl⟩
  rw [← ex] at PX PN hfl N1 o1 o2 SX SN
  obtain ⟨X, eX⟩ : ∃ X, X = x + 9223372036854775808 := ⟨_, rfl⟩
  rw [← eX] at PN N1 o2 SN
  have KN := hid (fun w => known_any w)
  have AN : (⟨#[45]⟩ : ByteArray) ++ ⟨(Db.dgs n).toArray⟩ = ⟨(45 :: Db.dgs n).toArray⟩ := ba_append [45] (Db.dgs n)
  have AX : (⟨#[43]⟩ : ByteArray) ++ ⟨(Db.dgs n).toArray⟩ = ⟨(43 :: Db.dgs n).toArray⟩ := ba_append [43] (Db.dgs n)
  obtain ⟨T, hT⟩ : ∃ T, T = 43 :: Db.dgs n := ⟨_, rfl⟩
  rw [← hT] at PX AX
  clear hT
  obtain ⟨TN, hTN⟩ : ∃ T, T = 45 :: Db.dgs n := ⟨_, rfl⟩
  rw [← hTN] at PN AN
  obtain ⟨D, hD⟩ : ∃ D, D = Db.dgs n := ⟨_, rfl⟩
  rw [← hD] at DG AN hl AX
  clear hD hTN eX ex ka kA h0 h1 h2 h3 h4 h5 h6 s1 s2 hx1
  subst hz
  have hfl0 : floatOfInt FloatKind.f64 0 = x := hfl
  go_enter Try.func7, Try.ntmps7
  go_wp2_with fail
  refine (DG.out _).mono ?_
  rintro e w1 ⟨rfl, hb1⟩
  go_wp2_with fail
  refine (PX.out _).mono ?_
  rintro e w' ⟨rfl, q1, rfl⟩
  go_wp2_with fail
  refine (DG.out _).mono ?_
  rintro e w2 ⟨rfl, hb2⟩
  go_wp2_with fail
  refine (PN.out _).mono ?_
  rintro e w' ⟨rfl, q2, rfl⟩
  go_wp2_with fail
  refine (SN.out _).mono ?_
  rintro e w' ⟨rfl, rfl⟩
  go_wp2_with fail
  refine (SX.out _).mono ?_
  rintro e w' ⟨rfl, rfl⟩
  go_wp2_with fail
  refine (KN.out _).mono ?_
  rintro e w' ⟨rfl, hk⟩
  go_wp2
  have HB := hid (below_then (below_drawn (below_then (below_drawn (hb1.alloc hb1.size _) q1) hb2) q2) hk)
  go_ret
  exact ⟨rfl, HB.out⟩
theorem wholes_1n (n : Nat) (hn : n ≤ 99999999) (hz : 0 < n) (W : World) : Calls Try.prog 7 #[.int .i64 n, .int .i64 1] W fun e W' => e = .returned (.bool true) ∧ Below W.heap.size W W' := by
  have DG := hid (digits_any n hn)
  obtain ⟨h0, h1, h2, h3, h4, h5, h6⟩ := Db.whole_ways n hn
  have hl := Db.dgs_len_le 7 n (by omega)
  have PX := hid (fun w => parse_any (43 :: Db.dgs n) w (by simp only [List.length_append, List.length_cons, List.length_nil]; omega))
  have PN := hid (fun w => parse_any (45 :: Db.dgs n) w (by rw [List.length_cons]; omega))
  rw [h1] at PX
  rw [h6] at PN
  simp only [Option.getD_some, Option.isSome_some] at PX PN
  have hx1 : Db.fl n < 9223372036854775808 := Db.fl_lt n (by omega)
  obtain ⟨a, ka⟩ := Fl.key_low (Fl.nearest_le n 0)
  have hfl := Db.fl_eq n
  have ka : Fl.key (Db.fl n) = some a := ka
  have kA := Fl.key_turn hx1
  rw [ka] at kA
  have o1 : (FloatKind.f64.format.order (Db.fl n) (Db.fl n) == some Ordering.eq) = true := Fl.order_refl ka
  have N1 := fun W => run_flneg3 (P := Try.prog) hx1 W
  have s1 : Db.neg (Db.fl n + 9223372036854775808) = true := by unfold Db.neg; exact decide_eq_true (by omega)
  have s2 : Db.neg (Db.fl n) = false := by unfold Db.neg; exact decide_eq_false (by omega)
  have o2 : (FloatKind.f64.format.order (Db.fl n + 9223372036854775808) (Db.fl n + 9223372036854775808) == some Ordering.eq) = true := Fl.order_refl kA
  have SX := hid (fun w => signbit_any (Db.fl n) w (by omega))
  have SN := hid (fun w => signbit_any (Db.fl n + 9223372036854775808) w (by omega))
  rw [s1] at SN
  rw [s2] at SX
  obtain ⟨x, ex⟩ : ∃ x, x = Db.fl n := ⟨_, rfl⟩
  rw [← ex] at PX PN hfl N1 o1 o2 SX SN
  obtain ⟨X, eX⟩ : ∃ X, X = x + 9223372036854775808 := ⟨_, rfl⟩
  rw [← eX] at PN N1 o2 SN
  have KN := hid (fun w => known_any w)
  have AN : (⟨#[45]⟩ : ByteArray) ++ ⟨(Db.dgs n).toArray⟩ = ⟨(45 :: Db.dgs n).toArray⟩ := ba_append [45] (Db.dgs n)
  have AX : (⟨#[43]⟩ : ByteArray) ++ ⟨(Db.dgs n).toArray⟩ = ⟨(43 :: Db.dgs n).toArray⟩ := ba_append [43] (Db.dgs n)
  obtain ⟨T, hT⟩ : ∃ T, T = 43 :: Db.dgs n := ⟨_, rfl⟩
  rw [← hT] at PX AX
  clear hT
  obtain ⟨TN, hTN⟩ : ∃ T, T = 45 :: Db.dgs n := ⟨_, rfl⟩
  rw [← hTN] at PN AN
  obtain ⟨D, hD⟩ : ∃ D, D = Db.dgs n := ⟨_, rfl⟩
  rw [← hD] at DG AN hl AX
  clear hD hTN eX ex ka kA h0 h1 h2 h3 h4 h5 h6 s1 s2 hx1
  go_enter Try.func7, Try.ntmps7
  go_wp2_with fail
  refine (DG.out _).mono ?_
  rintro e w1 ⟨rfl, hb1⟩
  go_wp2_with fail
  refine (PX.out _).mono ?_
  rintro e w' ⟨rfl, q1, rfl⟩
  go_wp2_with fail
  refine (DG.out _).mono ?_
  rintro e w2 ⟨rfl, hb2⟩
  go_wp2_with fail
  refine (PN.out _).mono ?_
  rintro e w' ⟨rfl, q2, rfl⟩
  go_wp2_with fail
  refine (SX.out _).mono ?_
  rintro e w' ⟨rfl, rfl⟩
  go_wp2_with fail
  refine (KN.out _).mono ?_
  rintro e w' ⟨rfl, hk⟩
  go_wp2
  have HB := hid (below_then (below_drawn (below_then (below_drawn (hb1.alloc hb1.size _) q1) hb2) q2) hk)
  go_ret
  exact ⟨rfl, HB.out⟩
theorem wholes_2z (n : Nat) (hn : n ≤ 99999999) (hz : n = 0) (W : World) : Calls Try.prog 7 #[.int .i64 n, .int .i64 2] W fun e W' => e = .returned (.bool true) ∧ Below W.heap.size W W' := by
  have DG := hid (digits_any n hn)
  obtain ⟨h0, h1, h2, h3, h4, h5, h6⟩ := Db.whole_ways n hn
  have hl := Db.dgs_len_le 7 n (by omega)
  have PX := hid (fun w => parse_any (48 :: 48 :: Db.dgs n) w (by simp only [List.length_append, List.length_cons, List.length_nil]; omega))
  have PN := hid (fun w => parse_any (45 :: Db.dgs n) w (by rw [List.length_cons]; omega))
  rw [h2] at PX
  rw [h6] at PN
  simp only [Option.getD_some, Option.isSome_some] at PX PN
  have hx1 : Db.fl n < 9223372036854775808 := Db.fl_lt n (by omega)
  obtain ⟨a, ka⟩ := Fl.key_low (Fl.nearest_le n 0)
  have hfl := Db.fl_eq n
  have ka : Fl.key (Db.fl n) = some a := ka
  have kA := Fl.key_turn hx1
  rw [ka] at kA
  have o1 : (FloatKind.f64.format.order (Db.fl n) (Db.fl n) == some Ordering.eq) = true := Fl.order_refl ka
  have N1 := fun W => run_flneg3 (P := Try.prog) hx1 W
  have s1 : Db.neg (Db.fl n + 9223372036854775808) = true := by unfold Db.neg; exact decide_eq_true (by omega)
  have s2 : Db.neg (Db.fl n) = false := by unfold Db.neg; exact decide_eq_false (by omega)
  have o2 : (FloatKind.f64.format.order (Db.fl n + 9223372036854775808) (Db.fl n + 9223372036854775808) == some Ordering.eq) = true := Fl.order_refl kA
  have SX := hid (fun w => signbit_any (Db.fl n) w (by omega))
  have SN := hid (fun w => signbit_any (Db.fl n + 9223372036854775808) w (by omega))
  rw [s1] at SN
  rw [s2] at SX
  obtain ⟨x, ex⟩ : ∃ x, x = Db.fl n := ⟨_, rfl⟩
  rw [← ex] at PX PN hfl N1 o1 o2 SX SN
  obtain ⟨X, eX⟩ : ∃ X, X = x + 9223372036854775808 := ⟨_, rfl⟩
  rw [← eX] at PN N1 o2 SN
  have KN := hid (fun w => known_any w)
  have AN : (⟨#[45]⟩ : ByteArray) ++ ⟨(Db.dgs n).toArray⟩ = ⟨(45 :: Db.dgs n).toArray⟩ := ba_append [45] (Db.dgs n)
  have AX : (⟨#[48, 48]⟩ : ByteArray) ++ ⟨(Db.dgs n).toArray⟩ = ⟨(48 :: 48 :: Db.dgs n).toArray⟩ := ba_append [48, 48] (Db.dgs n)
  obtain ⟨T, hT⟩ : ∃ T, T = 48 :: 48 :: Db.dgs n := ⟨_, rfl⟩
  rw [← hT] at PX AX
  clear hT
  obtain ⟨TN, hTN⟩ : ∃ T, T = 45 :: Db.dgs n := ⟨_, rfl⟩
  rw [← hTN] at PN AN
  obtain ⟨D, hD⟩ : ∃ D, D = Db.dgs n := ⟨_, rfl⟩
  rw [← hD] at DG AN hl AX
  clear hD hTN eX ex ka kA h0 h1 h2 h3 h4 h5 h6 s1 s2 hx1
  subst hz
  have hfl0 : floatOfInt FloatKind.f64 0 = x := hfl
  go_enter Try.func7, Try.ntmps7
  go_wp2_with fail
  refine (DG.out _).mono ?_
  rintro e w1 ⟨rfl, hb1⟩
  go_wp2_with fail
  refine (PX.out _).mono ?_
  rintro e w' ⟨rfl, q1, rfl⟩
  go_wp2_with fail
  refine (DG.out _).mono ?_
  rintro e w2 ⟨rfl, hb2⟩
  go_wp2_with fail
  refine (PN.out _).mono ?_
  rintro e w' ⟨rfl, q2, rfl⟩
  go_wp2_with fail
  refine (SN.out _).mono ?_
  rintro e w' ⟨rfl, rfl⟩
  go_wp2_with fail
  refine (SX.out _).mono ?_
  rintro e w' ⟨rfl, rfl⟩
  go_wp2_with fail
  refine (KN.out _).mono ?_
  rintro e w' ⟨rfl, hk⟩
  go_wp2
  have HB := hid (below_then (below_drawn (below_then (below_drawn (hb1.alloc hb1.size _) q1) hb2) q2) hk)
  go_ret
  exact ⟨rfl, HB.out⟩
theorem wholes_2n (n : Nat) (hn : n ≤ 99999999) (hz : 0 < n) (W : World) : Calls Try.prog 7 #[.int .i64 n, .int .i64 2] W fun e W' => e = .returned (.bool true) ∧ Below W.heap.size W W' := by
  have DG := hid (digits_any n hn)
  obtain ⟨h0, h1, h2, h3, h4, h5, h6⟩ := Db.whole_ways n hn
  have hl := Db.dgs_len_le 7 n (by omega)
  have PX := hid (fun w => parse_any (48 :: 48 :: Db.dgs n) w (by simp only [List.length_append, List.length_cons, List.length_nil]; omega))
  have PN := hid (fun w => parse_any (45 :: Db.dgs n) w (by rw [List.length_cons]; omega))
  rw [h2] at PX
  rw [h6] at PN
  simp only [Option.getD_some, Option.isSome_some] at PX PN
  have hx1 : Db.fl n < 9223372036854775808 := Db.fl_lt n (by omega)
  obtain ⟨a, ka⟩ := Fl.key_low (Fl.nearest_le n 0)
  have hfl := Db.fl_eq n
  have ka : Fl.key (Db.fl n) = some a := ka
  have kA := Fl.key_turn hx1
  rw [ka] at kA
  have o1 : (FloatKind.f64.format.order (Db.fl n) (Db.fl n) == some Ordering.eq) = true := Fl.order_refl ka
  have N1 := fun W => run_flneg3 (P := Try.prog) hx1 W
  have s1 : Db.neg (Db.fl n + 9223372036854775808) = true := by unfold Db.neg; exact decide_eq_true (by omega)
  have s2 : Db.neg (Db.fl n) = false := by unfold Db.neg; exact decide_eq_false (by omega)
  have o2 : (FloatKind.f64.format.order (Db.fl n + 9223372036854775808) (Db.fl n + 9223372036854775808) == some Ordering.eq) = true := Fl.order_refl kA
  have SX := hid (fun w => signbit_any (Db.fl n) w (by omega))
  have SN := hid (fun w => signbit_any (Db.fl n + 9223372036854775808) w (by omega))
  rw [s1] at SN
  rw [s2] at SX
  obtain ⟨x, ex⟩ : ∃ x, x = Db.fl n := ⟨_, rfl⟩
  rw [← ex] at PX PN hfl N1 o1 o2 SX SN
  obtain ⟨X, eX⟩ : ∃ X, X = x + 9223372036854775808 := ⟨_, rfl⟩
  rw [← eX] at PN N1 o2 SN
  have KN := hid (fun w => known_any w)
  have AN : (⟨#[45]⟩ : ByteArray) ++ ⟨(Db.dgs n).toArray⟩ = ⟨(45 :: Db.dgs n).toArray⟩ := ba_append [45] (Db.dgs n)
  have AX : (⟨#[48, 48]⟩ : ByteArray) ++ ⟨(Db.dgs n).toArray⟩ = ⟨(48 :: 48 :: Db.dgs n).toArray⟩ := ba_append [48, 48] (Db.dgs n)
  obtain ⟨T, hT⟩ : ∃ T, T = 48 :: 48 :: Db.dgs n := ⟨_, rfl⟩
  rw [← hT] at PX AX
  clear hT
  obtain ⟨TN, hTN⟩ : ∃ T, T = 45 :: Db.dgs n := ⟨_, rfl⟩
  rw [← hTN] at PN AN
  obtain ⟨D, hD⟩ : ∃ D, D = Db.dgs n := ⟨_, rfl⟩
  rw [← hD] at DG AN hl AX
  clear hD hTN eX ex ka kA h0 h1 h2 h3 h4 h5 h6 s1 s2 hx1
  go_enter Try.func7, Try.ntmps7
  go_wp2_with fail
  refine (DG.out _).mono ?_
  rintro e w1 ⟨rfl, hb1⟩
  go_wp2_with fail
  refine (PX.out _).mono ?_
  rintro e w' ⟨rfl, q1, rfl⟩
  go_wp2_with fail
  refine (DG.out _).mono ?_
  rintro e w2 ⟨rfl, hb2⟩
  go_wp2_with fail
  refine (PN.out _).mono ?_
  rintro e w' ⟨rfl, q2, rfl⟩
  go_wp2_with fail
  refine (SX.out _).mono ?_
  rintro e w' ⟨rfl, rfl⟩
  go_wp2_with fail
  refine (KN.out _).mono ?_
  rintro e w' ⟨rfl, hk⟩
  go_wp2
  have HB := hid (below_then (below_drawn (below_then (below_drawn (hb1.alloc hb1.size _) q1) hb2) q2) hk)
  go_ret
  exact ⟨rfl, HB.out⟩
theorem wholes_3z (n : Nat) (hn : n ≤ 99999999) (hz : n = 0) (W : World) : Calls Try.prog 7 #[.int .i64 n, .int .i64 3] W fun e W' => e = .returned (.bool true) ∧ Below W.heap.size W W' := by
  have DG := hid (digits_any n hn)
  obtain ⟨h0, h1, h2, h3, h4, h5, h6⟩ := Db.whole_ways n hn
  have hl := Db.dgs_len_le 7 n (by omega)
  have PX := hid (fun w => parse_any (Db.dgs n ++ [46, 48]) w (by simp only [List.length_append, List.length_cons, List.length_nil]; omega))
  have PN := hid (fun w => parse_any (45 :: Db.dgs n) w (by rw [List.length_cons]; omega))
  rw [h3] at PX
  rw [h6] at PN
  simp only [Option.getD_some, Option.isSome_some] at PX PN
  have hx1 : Db.fl n < 9223372036854775808 := Db.fl_lt n (by omega)
  obtain ⟨a, ka⟩ := Fl.key_low (Fl.nearest_le n 0)
  have hfl := Db.fl_eq n
  have ka : Fl.key (Db.fl n) = some a := ka
  have kA := Fl.key_turn hx1
  rw [ka] at kA
  have o1 : (FloatKind.f64.format.order (Db.fl n) (Db.fl n) == some Ordering.eq) = true := Fl.order_refl ka
  have N1 := fun W => run_flneg3 (P := Try.prog) hx1 W
  have s1 : Db.neg (Db.fl n + 9223372036854775808) = true := by unfold Db.neg; exact decide_eq_true (by omega)
  have s2 : Db.neg (Db.fl n) = false := by unfold Db.neg; exact decide_eq_false (by omega)
  have o2 : (FloatKind.f64.format.order (Db.fl n + 9223372036854775808) (Db.fl n + 9223372036854775808) == some Ordering.eq) = true := Fl.order_refl kA
  have SX := hid (fun w => signbit_any (Db.fl n) w (by omega))
  have SN := hid (fun w => signbit_any (Db.fl n + 9223372036854775808) w (by omega))
  rw [s1] at SN
  rw [s2] at SX
  obtain ⟨x, ex⟩ : ∃ x, x = Db.fl n := ⟨_, rfl⟩
  rw [← ex] at PX PN hfl N1 o1 o2 SX SN
  obtain ⟨X, eX⟩ : ∃ X, X = x + 9223372036854775808 := ⟨_, rfl⟩
  rw [← eX] at PN N1 o2 SN
  have KN := hid (fun w => known_any w)
  have AN : (⟨#[45]⟩ : ByteArray) ++ ⟨(Db.dgs n).toArray⟩ = ⟨(45 :: Db.dgs n).toArray⟩ := ba_append [45] (Db.dgs n)
  have AX : (⟨(Db.dgs n).toArray⟩ : ByteArray) ++ ⟨#[46, 48]⟩ = ⟨(Db.dgs n ++ [46, 48]).toArray⟩ := ba_append (Db.dgs n) [46, 48]
  obtain ⟨T, hT⟩ : ∃ T, T = Db.dgs n ++ [46, 48] := ⟨_, rfl⟩
  rw [← hT] at PX AX
  clear hT
  obtain ⟨TN, hTN⟩ : ∃ T, T = 45 :: Db.dgs n := ⟨_, rfl⟩
  rw [← hTN] at PN AN
  obtain ⟨D, hD⟩ : ∃ D, D = Db.dgs n := ⟨_, rfl⟩
  rw [← hD] at DG AN hl AX
  clear hD hTN eX ex ka kA h0 h1 h2 h3 h4 h5 h6 s1 s2 hx1
  subst hz
  have hfl0 : floatOfInt FloatKind.f64 0 = x := hfl
  go_enter Try.func7, Try.ntmps7
  go_wp2_with fail
  refine (DG.out _).mono ?_
  rintro e w1 ⟨rfl, hb1⟩
  go_wp2_with fail
  refine (PX.out _).mono ?_
  rintro e w' ⟨rfl, q1, rfl⟩
  go_wp2_with fail
  refine (DG.out _).mono ?_
  rintro e w2 ⟨rfl, hb2⟩
  go_wp2_with fail
  refine (PN.out _).mono ?_
  rintro e w' ⟨rfl, q2, rfl⟩
  go_wp2_with fail
  refine (SN.out _).mono ?_
  rintro e w' ⟨rfl, rfl⟩
  go_wp2_with fail
  refine (SX.out _).mono ?_
  rintro e w' ⟨rfl, rfl⟩
  go_wp2_with fail
  refine (KN.out _).mono ?_
  rintro e w' ⟨rfl, hk⟩
  go_wp2
  have HB := hid (below_then (below_drawn (below_then (below_drawn (hb1.alloc hb1.size _) q1) hb2) q2) hk)
  go_ret
  exact ⟨rfl, HB.out⟩
theorem wholes_3n (n : Nat) (hn : n ≤ 99999999) (hz : 0 < n) (W : World) : Calls Try.prog 7 #[.int .i64 n, .int .i64 3] W fun e W' => e = .returned (.bool true) ∧ Below W.heap.size W W' := by
  have DG := hid (digits_any n hn)
  obtain ⟨h0, h1, h2, h3, h4, h5, h6⟩ := Db.whole_ways n hn
  have hl := Db.dgs_len_le 7 n (by omega)
  have PX := hid (fun w => parse_any (Db.dgs n ++ [46, 48]) w (by simp only [List.length_append, List.length_cons, List.length_nil]; omega))
  have PN := hid (fun w => parse_any (45 :: Db.dgs n) w (by rw [List.length_cons]; omega))
  rw [h3] at PX
  rw [h6] at PN
  simp only [Option.getD_some, Option.isSome_some] at PX PN
  have hx1 : Db.fl n < 9223372036854775808 := Db.fl_lt n (by omega)
  obtain ⟨a, ka⟩ := Fl.key_low (Fl.nearest_le n 0)
  have hfl := Db.fl_eq n
  have ka : Fl.key (Db.fl n) = some a := ka
  have kA := Fl.key_turn hx1
  rw [ka] at kA
  have o1 : (FloatKind.f64.format.order (Db.fl n) (Db.fl n) == some Ordering.eq) = true := Fl.order_refl ka
  have N1 := fun W => run_flneg3 (P := Try.prog) hx1 W
  have s1 : Db.neg (Db.fl n + 9223372036854775808) = true := by unfold Db.neg; exact decide_eq_true (by omega)
  have s2 : Db.neg (Db.fl n) = false := by unfold Db.neg; exact decide_eq_false (by omega)
  have o2 : (FloatKind.f64.format.order (Db.fl n + 9223372036854775808) (Db.fl n + 9223372036854775808) == some Ordering.eq) = true := Fl.order_refl kA
  have SX := hid (fun w => signbit_any (Db.fl n) w (by omega))
  have SN := hid (fun w => signbit_any (Db.fl n + 9223372036854775808) w (by omega))
  rw [s1] at SN
  rw [s2] at SX
  obtain ⟨x, ex⟩ : ∃ x, x = Db.fl n := ⟨_, rfl⟩
  rw [← ex] at PX PN hfl N1 o1 o2 SX SN
  obtain ⟨X, eX⟩ : ∃ X, X = x + 9223372036854775808 := ⟨_, rfl⟩
  rw [← eX] at PN N1 o2 SN
  have KN := hid (fun w => known_any w)
  have AN : (⟨#[45]⟩ : ByteArray) ++ ⟨(Db.dgs n).toArray⟩ = ⟨(45 :: Db.dgs n).toArray⟩ := ba_append [45] (Db.dgs n)
  have AX : (⟨(Db.dgs n).toArray⟩ : ByteArray) ++ ⟨#[46, 48]⟩ = ⟨(Db.dgs n ++ [46, 48]).toArray⟩ := ba_append (Db.dgs n) [46, 48]
  obtain ⟨T, hT⟩ : ∃ T, T = Db.dgs n ++ [46, 48] := ⟨_, rfl⟩
  rw [← hT] at PX AX
  clear hT
  obtain ⟨TN, hTN⟩ : ∃ T, T = 45 :: Db.dgs n := ⟨_, rfl⟩
  rw [← hTN] at PN AN
  obtain ⟨D, hD⟩ : ∃ D, D = Db.dgs n := ⟨_, rfl⟩
  rw [← hD] at DG AN hl AX
  clear hD hTN eX ex ka kA h0 h1 h2 h3 h4 h5 h6 s1 s2 hx1
  go_enter Try.func7, Try.ntmps7
  go_wp2_with fail
  refine (DG.out _).mono ?_
  rintro e w1 ⟨rfl, hb1⟩
  go_wp2_with fail
  refine (PX.out _).mono ?_
  rintro e w' ⟨rfl, q1, rfl⟩
  go_wp2_with fail
  refine (DG.out _).mono ?_
  rintro e w2 ⟨rfl, hb2⟩
  go_wp2_with fail
  refine (PN.out _).mono ?_
  rintro e w' ⟨rfl, q2, rfl⟩
  go_wp2_with fail
  refine (SX.out _).mono ?_
  rintro e w' ⟨rfl, rfl⟩
  go_wp2_with fail
  refine (KN.out _).mono ?_
  rintro e w' ⟨rfl, hk⟩
  go_wp2
  have HB := hid (below_then (below_drawn (below_then (below_drawn (hb1.alloc hb1.size _) q1) hb2) q2) hk)
  go_ret
  exact ⟨rfl, HB.out⟩
theorem wholes_4z (n : Nat) (hn : n ≤ 99999999) (hz : n = 0) (W : World) : Calls Try.prog 7 #[.int .i64 n, .int .i64 4] W fun e W' => e = .returned (.bool true) ∧ Below W.heap.size W W' := by
  have DG := hid (digits_any n hn)
  obtain ⟨h0, h1, h2, h3, h4, h5, h6⟩ := Db.whole_ways n hn
  have hl := Db.dgs_len_le 7 n (by omega)
  have PX := hid (fun w => parse_any (Db.dgs n ++ [101, 48]) w (by simp only [List.length_append, List.length_cons, List.length_nil]; omega))
  have PN := hid (fun w => parse_any (45 :: Db.dgs n) w (by rw [List.length_cons]; omega))
  rw [h4] at PX
  rw [h6] at PN
  simp only [Option.getD_some, Option.isSome_some] at PX PN
  have hx1 : Db.fl n < 9223372036854775808 := Db.fl_lt n (by omega)
  obtain ⟨a, ka⟩ := Fl.key_low (Fl.nearest_le n 0)
  have hfl := Db.fl_eq n
  have ka : Fl.key (Db.fl n) = some a := ka
  have kA := Fl.key_turn hx1
  rw [ka] at kA
  have o1 : (FloatKind.f64.format.order (Db.fl n) (Db.fl n) == some Ordering.eq) = true := Fl.order_refl ka
  have N1 := fun W => run_flneg3 (P := Try.prog) hx1 W
  have s1 : Db.neg (Db.fl n + 9223372036854775808) = true := by unfold Db.neg; exact decide_eq_true (by omega)
  have s2 : Db.neg (Db.fl n) = false := by unfold Db.neg; exact decide_eq_false (by omega)
  have o2 : (FloatKind.f64.format.order (Db.fl n + 9223372036854775808) (Db.fl n + 9223372036854775808) == some Ordering.eq) = true := Fl.order_refl kA
  have SX := hid (fun w => signbit_any (Db.fl n) w (by omega))
  have SN := hid (fun w => signbit_any (Db.fl n + 9223372036854775808) w (by omega))
  rw [s1] at SN
  rw [s2] at SX
  obtain ⟨x, ex⟩ : ∃ x, x = Db.fl n := ⟨_, rfl⟩
  rw [← ex] at PX PN hfl N1 o1 o2 SX SN
  obtain ⟨X, eX⟩ : ∃ X, X = x + 9223372036854775808 := ⟨_, rfl⟩
  rw [← eX] at PN N1 o2 SN
  have KN := hid (fun w => known_any w)
  have AN : (⟨#[45]⟩ : ByteArray) ++ ⟨(Db.dgs n).toArray⟩ = ⟨(45 :: Db.dgs n).toArray⟩ := ba_append [45] (Db.dgs n)
  have AX : (⟨(Db.dgs n).toArray⟩ : ByteArray) ++ ⟨#[101, 48]⟩ = ⟨(Db.dgs n ++ [101, 48]).toArray⟩ := ba_append (Db.dgs n) [101, 48]
  obtain ⟨T, hT⟩ : ∃ T, T = Db.dgs n ++ [101, 48] := ⟨_, rfl⟩
  rw [← hT] at PX AX
  clear hT
  obtain ⟨TN, hTN⟩ : ∃ T, T = 45 :: Db.dgs n := ⟨_, rfl⟩
  rw [← hTN] at PN AN
  obtain ⟨D, hD⟩ : ∃ D, D = Db.dgs n := ⟨_, rfl⟩
  rw [← hD] at DG AN hl AX
  clear hD hTN eX ex ka kA h0 h1 h2 h3 h4 h5 h6 s1 s2 hx1
  subst hz
  have hfl0 : floatOfInt FloatKind.f64 0 = x := hfl
  go_enter Try.func7, Try.ntmps7
  go_wp2_with fail
  refine (DG.out _).mono ?_
  rintro e w1 ⟨rfl, hb1⟩
  go_wp2_with fail
  refine (PX.out _).mono ?_
  rintro e w' ⟨rfl, q1, rfl⟩
  go_wp2_with fail
  refine (DG.out _).mono ?_
  rintro e w2 ⟨rfl, hb2⟩
  go_wp2_with fail
  refine (PN.out _).mono ?_
  rintro e w' ⟨rfl, q2, rfl⟩
  go_wp2_with fail
  refine (SN.out _).mono ?_
  rintro e w' ⟨rfl, rfl⟩
  go_wp2_with fail
  refine (SX.out _).mono ?_
  rintro e w' ⟨rfl, rfl⟩
  go_wp2_with fail
  refine (KN.out _).mono ?_
  rintro e w' ⟨rfl, hk⟩
  go_wp2
  have HB := hid (below_then (below_drawn (below_then (below_drawn (hb1.alloc hb1.size _) q1) hb2) q2) hk)
  go_ret
  exact ⟨rfl, HB.out⟩
theorem wholes_4n (n : Nat) (hn : n ≤ 99999999) (hz : 0 < n) (W : World) : Calls Try.prog 7 #[.int .i64 n, .int .i64 4] W fun e W' => e = .returned (.bool true) ∧ Below W.heap.size W W' := by
  have DG := hid (digits_any n hn)
  obtain ⟨h0, h1, h2, h3, h4, h5, h6⟩ := Db.whole_ways n hn
  have hl := Db.dgs_len_le 7 n (by omega)
  have PX := hid (fun w => parse_any (Db.dgs n ++ [101, 48]) w (by simp only [List.length_append, List.length_cons, List.length_nil]; omega))
  have PN := hid (fun w => parse_any (45 :: Db.dgs n) w (by rw [List.length_cons]; omega))
  rw [h4] at PX
  rw [h6] at PN
  simp only [Option.getD_some, Option.isSome_some] at PX PN
  have hx1 : Db.fl n < 9223372036854775808 := Db.fl_lt n (by omega)
  obtain ⟨a, ka⟩ := Fl.key_low (Fl.nearest_le n 0)
  have hfl := Db.fl_eq n
  have ka : Fl.key (Db.fl n) = some a := ka
  have kA := Fl.key_turn hx1
  rw [ka] at kA
  have o1 : (FloatKind.f64.format.order (Db.fl n) (Db.fl n) == some Ordering.eq) = true := Fl.order_refl ka
  have N1 := fun W => run_flneg3 (P := Try.prog) hx1 W
  have s1 : Db.neg (Db.fl n + 9223372036854775808) = true := by unfold Db.neg; exact decide_eq_true (by omega)
  have s2 : Db.neg (Db.fl n) = false := by unfold Db.neg; exact decide_eq_false (by omega)
  have o2 : (FloatKind.f64.format.order (Db.fl n + 9223372036854775808) (Db.fl n + 9223372036854775808) == some Ordering.eq) = true := Fl.order_refl kA
  have SX := hid (fun w => signbit_any (Db.fl n) w (by omega))
  have SN := hid (fun w => signbit_any (Db.fl n + 9223372036854775808) w (by omega))
  rw [s1] at SN
  rw [s2] at SX
  obtain ⟨x, ex⟩ : ∃ x, x = Db.fl n := ⟨_, rfl⟩
  rw [← ex] at PX PN hfl N1 o1 o2 SX SN
  obtain ⟨X, eX⟩ : ∃ X, X = x + 9223372036854775808 := ⟨_, rfl⟩
  rw [← eX] at PN N1 o2 SN
  have KN := hid (fun w => known_any w)
  have AN : (⟨#[45]⟩ : ByteArray) ++ ⟨(Db.dgs n).toArray⟩ = ⟨(45 :: Db.dgs n).toArray⟩ := ba_append [45] (Db.dgs n)
  have AX : (⟨(Db.dgs n).toArray⟩ : ByteArray) ++ ⟨#[101, 48]⟩ = ⟨(Db.dgs n ++ [101, 48]).toArray⟩ := ba_append (Db.dgs n) [101, 48]
  obtain ⟨T, hT⟩ : ∃ T, T = Db.dgs n ++ [101, 48] := ⟨_, rfl⟩
  rw [← hT] at PX AX
  clear hT
  obtain ⟨TN, hTN⟩ : ∃ T, T = 45 :: Db.dgs n := ⟨_, rfl⟩
  rw [← hTN] at PN AN
  obtain ⟨D, hD⟩ : ∃ D, D = Db.dgs n := ⟨_, rfl⟩
  rw [← hD] at DG AN hl AX
  clear hD hTN eX ex ka kA h0 h1 h2 h3 h4 h5 h6 s1 s2 hx1
  go_enter Try.func7, Try.ntmps7
  go_wp2_with fail
  refine (DG.out _).mono ?_
  rintro e w1 ⟨rfl, hb1⟩
  go_wp2_with fail
  refine (PX.out _).mono ?_
  rintro e w' ⟨rfl, q1, rfl⟩
  go_wp2_with fail
  refine (DG.out _).mono ?_
  rintro e w2 ⟨rfl, hb2⟩
  go_wp2_with fail
  refine (PN.out _).mono ?_
  rintro e w' ⟨rfl, q2, rfl⟩
  go_wp2_with fail
  refine (SX.out _).mono ?_
  rintro e w' ⟨rfl, rfl⟩
  go_wp2_with fail
  refine (KN.out _).mono ?_
  rintro e w' ⟨rfl, hk⟩
  go_wp2
  have HB := hid (below_then (below_drawn (below_then (below_drawn (hb1.alloc hb1.size _) q1) hb2) q2) hk)
  go_ret
  exact ⟨rfl, HB.out⟩
theorem wholes_5z (n : Nat) (hn : n ≤ 99999999) (hz : n = 0) (W : World) : Calls Try.prog 7 #[.int .i64 n, .int .i64 5] W fun e W' => e = .returned (.bool true) ∧ Below W.heap.size W W' := by
  have DG := hid (digits_any n hn)
  obtain ⟨h0, h1, h2, h3, h4, h5, h6⟩ := Db.whole_ways n hn
  have hl := Db.dgs_len_le 7 n (by omega)
  have PX := hid (fun w => parse_any (Db.dgs n ++ [48, 101, 45, 49]) w (by simp only [List.length_append, List.length_cons, List.length_nil]; omega))
  have PN := hid (fun w => parse_any (45 :: Db.dgs n) w (by rw [List.length_cons]; omega))
  rw [h5] at PX
  rw [h6] at PN
  simp only [Option.getD_some, Option.isSome_some] at PX PN
  have hx1 : Db.fl n < 9223372036854775808 := Db.fl_lt n (by omega)
  obtain ⟨a, ka⟩ := Fl.key_low (Fl.nearest_le n 0)
  have hfl := Db.fl_eq n
  have ka : Fl.key (Db.fl n) = some a := ka
  have kA := Fl.key_turn hx1
  rw [ka] at kA
  have o1 : (FloatKind.f64.format.order (Db.fl n) (Db.fl n) == some Ordering.eq) = true := Fl.order_refl ka
  have N1 := fun W => run_flneg3 (P := Try.prog) hx1 W
  have s1 : Db.neg (Db.fl n + 9223372036854775808) = true := by unfold Db.neg; exact decide_eq_true (by omega)
  have s2 : Db.neg (Db.fl n) = false := by unfold Db.neg; exact decide_eq_false (by omega)
  have o2 : (FloatKind.f64.format.order (Db.fl n + 9223372036854775808) (Db.fl n + 9223372036854775808) == some Ordering.eq) = true := Fl.order_refl kA
  have SX := hid (fun w => signbit_any (Db.fl n) w (by omega))
  have SN := hid (fun w => signbit_any (Db.fl n + 9223372036854775808) w (by omega))
  rw [s1] at SN
  rw [s2] at SX
  obtain ⟨x, ex⟩ : ∃ x, x = Db.fl n := ⟨_, rfl⟩
  rw [← ex] at PX PN hfl N1 o1 o2 SX SN
  obtain ⟨X, eX⟩ : ∃ X, X = x + 9223372036854775808 := ⟨_, rfl⟩
  rw [← eX] at PN N1 o2 SN
  have KN := hid (fun w => known_any w)
  have AN : (⟨#[45]⟩ : ByteArray) ++ ⟨(Db.dgs n).toArray⟩ = ⟨(45 :: Db.dgs n).toArray⟩ := ba_append [45] (Db.dgs n)
  have AX : (⟨(Db.dgs n).toArray⟩ : ByteArray) ++ ⟨#[48, 101, 45, 49]⟩ = ⟨(Db.dgs n ++ [48, 101, 45, 49]).toArray⟩ := ba_append (Db.dgs n) [48, 101, 45, 49]
  obtain ⟨T, hT⟩ : ∃ T, T = Db.dgs n ++ [48, 101, 45, 49] := ⟨_, rfl⟩
  rw [← hT] at PX AX
  clear hT
  obtain ⟨TN, hTN⟩ : ∃ T, T = 45 :: Db.dgs n := ⟨_, rfl⟩
  rw [← hTN] at PN AN
  obtain ⟨D, hD⟩ : ∃ D, D = Db.dgs n := ⟨_, rfl⟩
  rw [← hD] at DG AN hl AX
  clear hD hTN eX ex ka kA h0 h1 h2 h3 h4 h5 h6 s1 s2 hx1
  subst hz
  have hfl0 : floatOfInt FloatKind.f64 0 = x := hfl
  go_enter Try.func7, Try.ntmps7
  go_wp2_with fail
  refine (DG.out _).mono ?_
  rintro e w1 ⟨rfl, hb1⟩
  go_wp2_with fail
  refine (PX.out _).mono ?_
  rintro e w' ⟨rfl, q1, rfl⟩
  go_wp2_with fail
  refine (DG.out _).mono ?_
  rintro e w2 ⟨rfl, hb2⟩
  go_wp2_with fail
  refine (PN.out _).mono ?_
  rintro e w' ⟨rfl, q2, rfl⟩
  go_wp2_with fail
  refine (SN.out _).mono ?_
  rintro e w' ⟨rfl, rfl⟩
  go_wp2_with fail
  refine (SX.out _).mono ?_
  rintro e w' ⟨rfl, rfl⟩
  go_wp2_with fail
  refine (KN.out _).mono ?_
  rintro e w' ⟨rfl, hk⟩
  go_wp2
  have HB := hid (below_then (below_drawn (below_then (below_drawn (hb1.alloc hb1.size _) q1) hb2) q2) hk)
  go_ret
  exact ⟨rfl, HB.out⟩
theorem wholes_5n (n : Nat) (hn : n ≤ 99999999) (hz : 0 < n) (W : World) : Calls Try.prog 7 #[.int .i64 n, .int .i64 5] W fun e W' => e = .returned (.bool true) ∧ Below W.heap.size W W' := by
  have DG := hid (digits_any n hn)
  obtain ⟨h0, h1, h2, h3, h4, h5, h6⟩ := Db.whole_ways n hn
  have hl := Db.dgs_len_le 7 n (by omega)
  have PX := hid (fun w => parse_any (Db.dgs n ++ [48, 101, 45, 49]) w (by simp only [List.length_append, List.length_cons, List.length_nil]; omega))
  have PN := hid (fun w => parse_any (45 :: Db.dgs n) w (by rw [List.length_cons]; omega))
  rw [h5] at PX
  rw [h6] at PN
  simp only [Option.getD_some, Option.isSome_some] at PX PN
  have hx1 : Db.fl n < 9223372036854775808 := Db.fl_lt n (by omega)
  obtain ⟨a, ka⟩ := Fl.key_low (Fl.nearest_le n 0)
  have hfl := Db.fl_eq n
  have ka : Fl.key (Db.fl n) = some a := ka
  have kA := Fl.key_turn hx1
  rw [ka] at kA
  have o1 : (FloatKind.f64.format.order (Db.fl n) (Db.fl n) == some Ordering.eq) = true := Fl.order_refl ka
  have N1 := fun W => run_flneg3 (P := Try.prog) hx1 W
  have s1 : Db.neg (Db.fl n + 9223372036854775808) = true := by unfold Db.neg; exact decide_eq_true (by omega)
  have s2 : Db.neg (Db.fl n) = false := by unfold Db.neg; exact decide_eq_false (by omega)
  have o2 : (FloatKind.f64.format.order (Db.fl n + 9223372036854775808) (Db.fl n + 9223372036854775808) == some Ordering.eq) = true := Fl.order_refl kA
  have SX := hid (fun w => signbit_any (Db.fl n) w (by omega))
  have SN := hid (fun w => signbit_any (Db.fl n + 9223372036854775808) w (by omega))
  rw [s1] at SN
  rw [s2] at SX
  obtain ⟨x, ex⟩ : ∃ x, x = Db.fl n := ⟨_, rfl⟩
  rw [← ex] at PX PN hfl N1 o1 o2 SX SN
  obtain ⟨X, eX⟩ : ∃ X, X = x + 9223372036854775808 := ⟨_, rfl⟩
  rw [← eX] at PN N1 o2 SN
  have KN := hid (fun w => known_any w)
  have AN : (⟨#[45]⟩ : ByteArray) ++ ⟨(Db.dgs n).toArray⟩ = ⟨(45 :: Db.dgs n).toArray⟩ := ba_append [45] (Db.dgs n)
  have AX : (⟨(Db.dgs n).toArray⟩ : ByteArray) ++ ⟨#[48, 101, 45, 49]⟩ = ⟨(Db.dgs n ++ [48, 101, 45, 49]).toArray⟩ := ba_append (Db.dgs n) [48, 101, 45, 49]
  obtain ⟨T, hT⟩ : ∃ T, T = Db.dgs n ++ [48, 101, 45, 49] := ⟨_, rfl⟩
  rw [← hT] at PX AX
  clear hT
  obtain ⟨TN, hTN⟩ : ∃ T, T = 45 :: Db.dgs n := ⟨_, rfl⟩
  rw [← hTN] at PN AN
  obtain ⟨D, hD⟩ : ∃ D, D = Db.dgs n := ⟨_, rfl⟩
  rw [← hD] at DG AN hl AX
  clear hD hTN eX ex ka kA h0 h1 h2 h3 h4 h5 h6 s1 s2 hx1
  go_enter Try.func7, Try.ntmps7
  go_wp2_with fail
  refine (DG.out _).mono ?_
  rintro e w1 ⟨rfl, hb1⟩
  go_wp2_with fail
  refine (PX.out _).mono ?_
  rintro e w' ⟨rfl, q1, rfl⟩
  go_wp2_with fail
  refine (DG.out _).mono ?_
  rintro e w2 ⟨rfl, hb2⟩
  go_wp2_with fail
  refine (PN.out _).mono ?_
  rintro e w' ⟨rfl, q2, rfl⟩
  go_wp2_with fail
  refine (SX.out _).mono ?_
  rintro e w' ⟨rfl, rfl⟩
  go_wp2_with fail
  refine (KN.out _).mono ?_
  rintro e w' ⟨rfl, hk⟩
  go_wp2
  have HB := hid (below_then (below_drawn (below_then (below_drawn (hb1.alloc hb1.size _) q1) hb2) q2) hk)
  go_ret
  exact ⟨rfl, HB.out⟩
theorem doubleWholes_any (n way : Int) (W : World) : Calls Try.prog 7 #[.int .i64 n, .int .i64 way] W fun e W' => e = .returned (.bool true) ∧ Below W.heap.size W W' := by
  by_cases h : n < 0 ∨ (0 ≤ n ∧ 99999999 < n) ∨ (0 ≤ n ∧ n ≤ 99999999 ∧ way < 0) ∨ (0 ≤ n ∧ n ≤ 99999999 ∧ 0 ≤ way ∧ 5 < way)
  · exact wholes_out n way W h
  · obtain ⟨n, rfl⟩ : ∃ k : Nat, n = k := ⟨n.toNat, by omega⟩
    obtain ⟨way, rfl⟩ : ∃ k : Nat, way = k := ⟨way.toNat, by omega⟩
    have hn : n ≤ 99999999 := by omega
    have hk : way < 6 := by omega
    rcases Nat.eq_zero_or_pos n with hz | hz
    · match way, hk with
      | 0, _ => exact wholes_0z n hn hz W
      | 1, _ => exact wholes_1z n hn hz W
      | 2, _ => exact wholes_2z n hn hz W
      | 3, _ => exact wholes_3z n hn hz W
      | 4, _ => exact wholes_4z n hn hz W
      | 5, _ => exact wholes_5z n hn hz W
      | k + 6, hk => exact absurd hk (by omega)
    · match way, hk with
      | 0, _ => exact wholes_0n n hn hz W
      | 1, _ => exact wholes_1n n hn hz W
      | 2, _ => exact wholes_2n n hn hz W
      | 3, _ => exact wholes_3n n hn hz W
      | 4, _ => exact wholes_4n n hn hz W
      | 5, _ => exact wholes_5n n hn hz W
      | k + 6, hk => exact absurd hk (by omega)

theorem doubleWholes_walk (H : Type) (enc : TypeId × Value → H) (W : World) (base : Nat) (args : Array Value) (ds gs : List (DataW H)) (before : List MemPlace)
    (hval : ∀ (j : Nat) t v, Try.f7.params[j]? = some t → args[j]? = some v → Value.okWide Try.prog W .any base t v)
    (hW : DataW.Whole enc Try.prog Try.f7.params.toList Rows.doubleWholesSpec.vars false W args.toList ds gs before)
    (hz : (DataW.weightsEach Try.prog (Try.f7.params.toList ++ Rows.doubleWholesSpec.plain.varTypes Try.prog) (ds ++ gs)).all (· ≤ reachBytes) = true)
    (hL : laidMetH Try.prog Rows.doubleWholesRow.laid W) (hsh : W.ShapedOpen Try.prog) :
    Calls Try.prog 7 args W fun e W' => e = .returned (.bool true) ∧ Below W.heap.size W W' := by
  obtain ⟨p, q, hA, _, _, _, _⟩ := hW
  rw [Try.params7] at hA hval
  rw [Try.params7] at hz
  obtain ⟨v0, vs0, d0, ds0, p0, q0, hargs, rfl, rfl, h0, r0⟩ := trodAll_cons hA
  obtain ⟨v1, vs1, d1, ds1, p1, q1, rfl, rfl, rfl, h1, r1⟩ := trodAll_cons r0
  obtain ⟨rfl, rfl, rfl⟩ := trodAll_nil r1
  obtain rfl : args = #[v0, v1] := by cases args; simp_all
  obtain ⟨x0, rfl, rfl, rfl, w0⟩ := open_int Try.underlying3 (hval 0 3 v0 rfl rfl) h0
  have b0 := bounds_i64 w0
  obtain ⟨x1, rfl, rfl, rfl, w1⟩ := open_int Try.underlying3 (hval 1 3 v1 rfl rfl) h1
  have b1 := bounds_i64 w1
  exact doubleWholes_any x0 x1 W

theorem doubleWholes_lifted (os : Os) (started : os.Started) (H : Type) (enc : TypeId × Value → H) (F : Stop.Interp) :
    ReturnsInHanded {} Try.checked os 7 .any ((OpenSpec.ofChange Rows.doubleWholesSpec).preRow enc Try.prog Try.f7 Rows.doubleWholesRow.domain false Rows.doubleWholesRow.laid) (((OpenSpec.ofChange Rows.doubleWholesSpec).at F).post enc Try.prog Try.f7 false true false false) := by
  obtain ⟨places, hx⟩ : ∃ places, DataW.whole enc Try.prog ((World.holding Try.prog os ⟨#[], #[], []⟩).forCall (fun _ _ => 0) ⟨#[], #[.int .i64 0, .int .i64 0], []⟩).memory Try.f7.params.toList Rows.doubleWholesSpec.vars false (#[.int .i64 0, .int .i64 0] : Array Value).toList 8 = some ([.lit (.int .i64 0), .lit (.int .i64 0)], [], places) := ⟨[], by kernel_rfl⟩
  refine returnsInHanded_of_row (C := Try.checked) (s := OpenSpec.ofChange Rows.doubleWholesSpec) own started (by kernel_rfl) Try.func7
    (witness_row_at (enc := enc) (C := Try.checked) false (World.holding Try.prog os ⟨#[], #[], []⟩) #[.int .i64 0, .int .i64 0] rfl (by kernel_rfl) (by kernel_rfl) (by kernel_rfl)
      (OpenSpec.preRow_of_cond 8 hx (by kernel_rfl) (fun k hk => by cases hk) (by kernel_rfl) (laidMet_nil _ _))) ?_
  intro W base args ds gs before hval hW _ _ hz hL hsh _
  refine (doubleWholes_walk H enc W base args ds gs before hval hW hz hL hsh).mono fun e W' ⟨he, hb⟩ => ⟨_, he, ?_⟩
  exact law_post (fn := Try.f7) (s := Rows.doubleWholesSpec) (tb := 4) rfl (fun ds hd => by match ds, hd with | [d0, d1], _ => rfl) rfl Try.underlying4 (by kernel_rfl) hW hb

theorem doubleWholes_said : Rows.DoubleWholesSaid :=
  OpenClaim.holds_of_cond 7 Try.f7 rfl rfl rfl rfl rfl rfl rfl ⟨rfl, rfl, rfl, rfl, rfl⟩ rfl rfl rfl rfl rfl (by kernel_rfl) Try.func7 (by kernel_rfl)
    (of_decide_eq_true (by kernel_rfl)) (by unfold Func.isWrapper; first | (rw [if_pos (by decide +kernel)]; kernel_rfl) | (rw [if_neg (by decide +kernel)]; exact ⟨rfl, rfl⟩))
    (fun os started H enc _ F => by rw [OpenClaim.pre_eq_preRow]; exact doubleWholes_lifted os started H enc F)
end Go.Proofs.Ytmomlgacnnamgaa
