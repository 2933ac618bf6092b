/- The document's Parse, whole. -/
import Derived.Test.YtmooppakneoidaaDoorDblRef
import Derived.Laws.FloatArith
namespace Go.Proofs.YtmooppakneoidaaDoor
set_option linter.unusedVariables false
set_option linter.unusedSimpArgs false
set_option maxRecDepth 100000
set_option maxHeartbeats 1000000
open Go.ChangeShapes Go.WideShapes Go.ChangeAt Go.RowKit

theorem rparse_nan (w : World) : Calls Tryd.prog 17 #[str [78, 97, 78]] w fun e w' => e = .returned (.tuple #[.float .f64 9221120237041090561, .bool true]) ∧ w = w' := by
  have NA := hid (fun w => nan_any w)
  go_enter Tryd.func17, Tryd.ntmps17
  go_wp2_with (go_at_call 30; refine (NA.out _).mono ?_; rintro e w' ⟨rfl, rfl⟩)
  go_ret2
  exact ⟨rfl, rfl⟩
theorem rparse_inf_p (t : List UInt8) (w : World) (hl : ((45 :: t) : List UInt8).length ≤ 9223372036854775806) (h2 : t = [73, 78, 70]) :
    Calls Tryd.prog 17 #[str (45 :: t)] w fun e w' => e = .returned (.tuple #[.float .f64 18442240474082181120, .bool true]) ∧ w = w' := by
  subst h2
  have T0 : (⟨#[45, 73, 78, 70]⟩ : ByteArray).extract 1 4 = ⟨#[73, 78, 70]⟩ := by decide +kernel
  have IN := hid (fun w => inf_any true w)
  have sgv : Db.sg true = -1 := rfl
  rw [sgv] at IN
  simp only [Bool.false_eq_true, if_false, if_true] at IN
  have hcv : ∀ w, (convert 33 3 (.float .f64 13830554455654793216)).run Tryd.prog w = .ok (.int .i64 (-1)) w := fun w => run_convert_float_int w 33 3 .f64 .i64 13830554455654793216 (-1) (by rw [Tryd.underlying33]; rfl) Tryd.underlying3 (by decide +kernel)
  go_enter Tryd.func17, Tryd.ntmps17
  go_wp2_with (go_at_call 31; refine (IN.out _).mono ?_; rintro e w' ⟨rfl, rfl⟩)
  go_ret2
  exact ⟨rfl, rfl⟩
theorem rparse_inf_q (t : List UInt8) (w : World) (hl : ((43 :: t) : List UInt8).length ≤ 9223372036854775806) (h2 : t = [73, 78, 70]) :
    Calls Tryd.prog 17 #[str (43 :: t)] w fun e w' => e = .returned (.tuple #[.float .f64 9218868437227405312, .bool true]) ∧ w = w' := by
  subst h2
  have T0 : (⟨#[43, 73, 78, 70]⟩ : ByteArray).extract 1 4 = ⟨#[73, 78, 70]⟩ := by decide +kernel
  have IN := hid (fun w => inf_any false w)
  have sgv : Db.sg false = 1 := rfl
  rw [sgv] at IN
  simp only [Bool.false_eq_true, if_false, if_true] at IN
  have hcv : ∀ w, (convert 33 3 (.float .f64 4607182418800017408)).run Tryd.prog w = .ok (.int .i64 (1)) w := fun w => run_convert_float_int w 33 3 .f64 .i64 4607182418800017408 (1) (by rw [Tryd.underlying33]; rfl) Tryd.underlying3 (by decide +kernel)
  go_enter Tryd.func17, Tryd.ntmps17
  go_wp2_with (go_at_call 31; refine (IN.out _).mono ?_; rintro e w' ⟨rfl, rfl⟩)
  go_ret2
  exact ⟨rfl, rfl⟩
theorem rparse_inf_o (c : UInt8) (x : List UInt8) (c1 : c ≠ 43) (c2 : c ≠ 45) (w : World) (hl : ((c :: x) : List UInt8).length ≤ 9223372036854775806) (h2 : (c :: x) = [73, 78, 70]) :
    Calls Tryd.prog 17 #[str (c :: x)] w fun e w' => e = .returned (.tuple #[.float .f64 9218868437227405312, .bool true]) ∧ w = w' := by
  obtain ⟨rfl, rfl⟩ := List.cons.inj h2
  have IN := hid (fun w => inf_any false w)
  have sgv : Db.sg false = 1 := rfl
  rw [sgv] at IN
  simp only [Bool.false_eq_true, if_false, if_true] at IN
  have hcv : ∀ w, (convert 33 3 (.float .f64 4607182418800017408)).run Tryd.prog w = .ok (.int .i64 (1)) w := fun w => run_convert_float_int w 33 3 .f64 .i64 4607182418800017408 (1) (by rw [Tryd.underlying33]; rfl) Tryd.underlying3 (by decide +kernel)
  go_enter Tryd.func17, Tryd.ntmps17
  go_wp2_with (go_at_call 31; refine (IN.out _).mono ?_; rintro e w' ⟨rfl, rfl⟩)
  go_ret2
  exact ⟨rfl, rfl⟩
theorem rparse_none_p (t : List UInt8) (w : World) (hl : ((45 :: t) : List UInt8).length ≤ 9223372036854775806) (h1 : ((45 :: t) : List UInt8) ≠ [78, 97, 78]) (h2 : (t : List UInt8) ≠ [73, 78, 70])
    (PA : Hid (∀ w, Calls Tryd.prog 32 #[str t] w fun e w' => e = .returned (five [] 0 [] false false) ∧ w = w')) :
    Calls Tryd.prog 17 #[str (45 :: t)] w fun e w' => e = .returned (.tuple #[.float .f64 0, .bool false]) ∧ w = w' := by
  have hc0 := fun p => ba_get (45 :: t) 0 45 rfl p
  have T0 := ba_tail 45 t
  simp only [List.length_cons] at hl
  have b1 : (((45 :: t) : List UInt8) == [78, 97, 78]) = false := beq_eq_false_iff_ne.2 h1
  have b2 : ((t : List UInt8) == [73, 78, 70]) = false := beq_eq_false_iff_ne.2 h2
  clear h1 h2
  unfold five at PA
  go_enter Tryd.func17, Tryd.ntmps17
  go_wp2_with (first | (go_at_call 32; refine (PA.out _).mono ?_; rintro e w' ⟨rfl, rfl⟩))
  go_ret2
  exact ⟨rfl, rfl⟩
theorem rparse_none_q (t : List UInt8) (w : World) (hl : ((43 :: t) : List UInt8).length ≤ 9223372036854775806) (h1 : ((43 :: t) : List UInt8) ≠ [78, 97, 78]) (h2 : (t : List UInt8) ≠ [73, 78, 70])
    (PA : Hid (∀ w, Calls Tryd.prog 32 #[str t] w fun e w' => e = .returned (five [] 0 [] false false) ∧ w = w')) :
    Calls Tryd.prog 17 #[str (43 :: t)] w fun e w' => e = .returned (.tuple #[.float .f64 0, .bool false]) ∧ w = w' := by
  have hc0 := fun p => ba_get (43 :: t) 0 43 rfl p
  have T0 := ba_tail 43 t
  simp only [List.length_cons] at hl
  have b1 : (((43 :: t) : List UInt8) == [78, 97, 78]) = false := beq_eq_false_iff_ne.2 h1
  have b2 : ((t : List UInt8) == [73, 78, 70]) = false := beq_eq_false_iff_ne.2 h2
  clear h1 h2
  unfold five at PA
  go_enter Tryd.func17, Tryd.ntmps17
  go_wp2_with (first | (go_at_call 32; refine (PA.out _).mono ?_; rintro e w' ⟨rfl, rfl⟩))
  go_ret2
  exact ⟨rfl, rfl⟩
theorem rparse_none_n  (w : World) (hl : ([] : List UInt8).length ≤ 9223372036854775806) (h1 : ([] : List UInt8) ≠ [78, 97, 78]) (h2 : ([] : List UInt8) ≠ [73, 78, 70])
    (PA : Hid (∀ w, Calls Tryd.prog 32 #[str []] w fun e w' => e = .returned (five [] 0 [] false false) ∧ w = w')) :
    Calls Tryd.prog 17 #[str []] w fun e w' => e = .returned (.tuple #[.float .f64 0, .bool false]) ∧ w = w' := by
  have b1 : (([] : List UInt8) == [78, 97, 78]) = false := beq_eq_false_iff_ne.2 h1
  have b2 : (([] : List UInt8) == [73, 78, 70]) = false := beq_eq_false_iff_ne.2 h2
  clear h1 h2
  unfold five at PA
  go_enter Tryd.func17, Tryd.ntmps17
  go_wp2_with (first | (go_at_call 32; refine (PA.out _).mono ?_; rintro e w' ⟨rfl, rfl⟩))
  go_ret2
  exact ⟨rfl, rfl⟩
theorem rparse_none_o (c : UInt8) (x : List UInt8) (c1 : c ≠ 43) (c2 : c ≠ 45) (w : World) (hl : ((c :: x) : List UInt8).length ≤ 9223372036854775806) (h1 : ((c :: x) : List UInt8) ≠ [78, 97, 78]) (h2 : ((c :: x) : List UInt8) ≠ [73, 78, 70])
    (PA : Hid (∀ w, Calls Tryd.prog 32 #[str (c :: x)] w fun e w' => e = .returned (five [] 0 [] false false) ∧ w = w')) :
    Calls Tryd.prog 17 #[str (c :: x)] w fun e w' => e = .returned (.tuple #[.float .f64 0, .bool false]) ∧ w = w' := by
  have hc0 := fun p => ba_get (c :: x) 0 c rfl p
  simp only [List.length_cons] at hl
  have g1 : ((c.toNat : Int) == 43) = false := by rw [beq_eq_false_iff_ne]; intro e; exact c1 (UInt8.toNat_inj.1 (by show c.toNat = 43; omega))
  have g2 : ((c.toNat : Int) == 45) = false := by rw [beq_eq_false_iff_ne]; intro e; exact c2 (UInt8.toNat_inj.1 (by show c.toNat = 45; omega))
  clear c1 c2
  have b1 : (((c :: x) : List UInt8) == [78, 97, 78]) = false := beq_eq_false_iff_ne.2 h1
  have b2 : (((c :: x) : List UInt8) == [73, 78, 70]) = false := beq_eq_false_iff_ne.2 h2
  clear h1 h2
  unfold five at PA
  go_enter Tryd.func17, Tryd.ntmps17
  go_wp2_with (first | (go_at_call 32; refine (PA.out _).mono ?_; rintro e w' ⟨rfl, rfl⟩))
  go_ret2
  exact ⟨rfl, rfl⟩
theorem rparse_long_p (t : List UInt8) (w : World) (hl : ((45 :: t) : List UInt8).length ≤ 9223372036854775806) (h1 : ((45 :: t) : List UInt8) ≠ [78, 97, 78]) (h2 : (t : List UInt8) ≠ [73, 78, 70]) (m e : List UInt8) (bl : Nat) (be : Bool)
    (PA : Hid (∀ w, Calls Tryd.prog 32 #[str t] w fun e' w' => e' = .returned (five m bl e be true) ∧ w = w')) (hml : m.length ≤ 9223372036854775806) (hel : e.length ≤ 9223372036854775806) (hb : 15 < m.length ∨ 3 < e.length) :
    Calls Tryd.prog 17 #[str (45 :: t)] w fun e w' => e = .returned (.tuple #[.float .f64 0, .bool false]) ∧ w = w' := by
  have hc0 := fun p => ba_get (45 :: t) 0 45 rfl p
  have T0 := ba_tail 45 t
  simp only [List.length_cons] at hl
  have b1 : (((45 :: t) : List UInt8) == [78, 97, 78]) = false := beq_eq_false_iff_ne.2 h1
  have b2 : ((t : List UInt8) == [73, 78, 70]) = false := beq_eq_false_iff_ne.2 h2
  clear h1 h2
  unfold five at PA
  rcases Nat.lt_or_ge 15 m.length with hb1 | hb1
  · clear hb
    go_enter Tryd.func17, Tryd.ntmps17
    go_wp2_with (first | (go_at_call 32; refine (PA.out _).mono ?_; rintro e w' ⟨rfl, rfl⟩))
    go_ret2
    exact ⟨rfl, rfl⟩
  · have hb2 : 3 < e.length := by omega
    clear hb
    go_enter Tryd.func17, Tryd.ntmps17
    go_wp2_with (first | (go_at_call 32; refine (PA.out _).mono ?_; rintro e w' ⟨rfl, rfl⟩))
    go_ret2
    exact ⟨rfl, rfl⟩
theorem rparse_long_q (t : List UInt8) (w : World) (hl : ((43 :: t) : List UInt8).length ≤ 9223372036854775806) (h1 : ((43 :: t) : List UInt8) ≠ [78, 97, 78]) (h2 : (t : List UInt8) ≠ [73, 78, 70]) (m e : List UInt8) (bl : Nat) (be : Bool)
    (PA : Hid (∀ w, Calls Tryd.prog 32 #[str t] w fun e' w' => e' = .returned (five m bl e be true) ∧ w = w')) (hml : m.length ≤ 9223372036854775806) (hel : e.length ≤ 9223372036854775806) (hb : 15 < m.length ∨ 3 < e.length) :
    Calls Tryd.prog 17 #[str (43 :: t)] w fun e w' => e = .returned (.tuple #[.float .f64 0, .bool false]) ∧ w = w' := by
  have hc0 := fun p => ba_get (43 :: t) 0 43 rfl p
  have T0 := ba_tail 43 t
  simp only [List.length_cons] at hl
  have b1 : (((43 :: t) : List UInt8) == [78, 97, 78]) = false := beq_eq_false_iff_ne.2 h1
  have b2 : ((t : List UInt8) == [73, 78, 70]) = false := beq_eq_false_iff_ne.2 h2
  clear h1 h2
  unfold five at PA
  rcases Nat.lt_or_ge 15 m.length with hb1 | hb1
  · clear hb
    go_enter Tryd.func17, Tryd.ntmps17
    go_wp2_with (first | (go_at_call 32; refine (PA.out _).mono ?_; rintro e w' ⟨rfl, rfl⟩))
    go_ret2
    exact ⟨rfl, rfl⟩
  · have hb2 : 3 < e.length := by omega
    clear hb
    go_enter Tryd.func17, Tryd.ntmps17
    go_wp2_with (first | (go_at_call 32; refine (PA.out _).mono ?_; rintro e w' ⟨rfl, rfl⟩))
    go_ret2
    exact ⟨rfl, rfl⟩
theorem rparse_long_n  (w : World) (hl : ([] : List UInt8).length ≤ 9223372036854775806) (h1 : ([] : List UInt8) ≠ [78, 97, 78]) (h2 : ([] : List UInt8) ≠ [73, 78, 70]) (m e : List UInt8) (bl : Nat) (be : Bool)
    (PA : Hid (∀ w, Calls Tryd.prog 32 #[str []] w fun e' w' => e' = .returned (five m bl e be true) ∧ w = w')) (hml : m.length ≤ 9223372036854775806) (hel : e.length ≤ 9223372036854775806) (hb : 15 < m.length ∨ 3 < e.length) :
    Calls Tryd.prog 17 #[str []] w fun e w' => e = .returned (.tuple #[.float .f64 0, .bool false]) ∧ w = w' := by
  have b1 : (([] : List UInt8) == [78, 97, 78]) = false := beq_eq_false_iff_ne.2 h1
  have b2 : (([] : List UInt8) == [73, 78, 70]) = false := beq_eq_false_iff_ne.2 h2
  clear h1 h2
  unfold five at PA
  rcases Nat.lt_or_ge 15 m.length with hb1 | hb1
  · clear hb
    go_enter Tryd.func17, Tryd.ntmps17
    go_wp2_with (first | (go_at_call 32; refine (PA.out _).mono ?_; rintro e w' ⟨rfl, rfl⟩))
    go_ret2
    exact ⟨rfl, rfl⟩
  · have hb2 : 3 < e.length := by omega
    clear hb
    go_enter Tryd.func17, Tryd.ntmps17
    go_wp2_with (first | (go_at_call 32; refine (PA.out _).mono ?_; rintro e w' ⟨rfl, rfl⟩))
    go_ret2
    exact ⟨rfl, rfl⟩
theorem rparse_long_o (c : UInt8) (x : List UInt8) (c1 : c ≠ 43) (c2 : c ≠ 45) (w : World) (hl : ((c :: x) : List UInt8).length ≤ 9223372036854775806) (h1 : ((c :: x) : List UInt8) ≠ [78, 97, 78]) (h2 : ((c :: x) : List UInt8) ≠ [73, 78, 70]) (m e : List UInt8) (bl : Nat) (be : Bool)
    (PA : Hid (∀ w, Calls Tryd.prog 32 #[str (c :: x)] w fun e' w' => e' = .returned (five m bl e be true) ∧ w = w')) (hml : m.length ≤ 9223372036854775806) (hel : e.length ≤ 9223372036854775806) (hb : 15 < m.length ∨ 3 < e.length) :
    Calls Tryd.prog 17 #[str (c :: x)] w fun e w' => e = .returned (.tuple #[.float .f64 0, .bool false]) ∧ w = w' := by
  have hc0 := fun p => ba_get (c :: x) 0 c rfl p
  simp only [List.length_cons] at hl
  have g1 : ((c.toNat : Int) == 43) = false := by rw [beq_eq_false_iff_ne]; intro e; exact c1 (UInt8.toNat_inj.1 (by show c.toNat = 43; omega))
  have g2 : ((c.toNat : Int) == 45) = false := by rw [beq_eq_false_iff_ne]; intro e; exact c2 (UInt8.toNat_inj.1 (by show c.toNat = 45; omega))
  clear c1 c2
  have b1 : (((c :: x) : List UInt8) == [78, 97, 78]) = false := beq_eq_false_iff_ne.2 h1
  have b2 : (((c :: x) : List UInt8) == [73, 78, 70]) = false := beq_eq_false_iff_ne.2 h2
  clear h1 h2
  unfold five at PA
  rcases Nat.lt_or_ge 15 m.length with hb1 | hb1
  · clear hb
    go_enter Tryd.func17, Tryd.ntmps17
    go_wp2_with (first | (go_at_call 32; refine (PA.out _).mono ?_; rintro e w' ⟨rfl, rfl⟩))
    go_ret2
    exact ⟨rfl, rfl⟩
  · have hb2 : 3 < e.length := by omega
    clear hb
    go_enter Tryd.func17, Tryd.ntmps17
    go_wp2_with (first | (go_at_call 32; refine (PA.out _).mono ?_; rintro e w' ⟨rfl, rfl⟩))
    go_ret2
    exact ⟨rfl, rfl⟩
theorem rparse_far_p (t : List UInt8) (w : World) (hl : ((45 :: t) : List UInt8).length ≤ 9223372036854775806) (h1 : ((45 :: t) : List UInt8) ≠ [78, 97, 78]) (h2 : (t : List UInt8) ≠ [73, 78, 70]) (m e : List UInt8) (bl : Nat) (be : Bool)
    (PA : Hid (∀ w, Calls Tryd.prog 32 #[str t] w fun e' w' => e' = .returned (five m bl e be true) ∧ w = w')) (hml : m.length ≤ 15) (hel : e.length ≤ 3) (hmd : Db.AllDig m) (hed : Db.AllDig e) (hbl : bl ≤ 15) (hf : Db.sg be * (Db.val e : Int) - bl < -22 ∨ 22 < Db.sg be * (Db.val e : Int) - bl) :
    Calls Tryd.prog 17 #[str (45 :: t)] w fun e w' => e = .returned (.tuple #[.float .f64 0, .bool false]) ∧ w = w' := by
  have hc0 := fun p => ba_get (45 :: t) 0 45 rfl p
  have T0 := ba_tail 45 t
  simp only [List.length_cons] at hl
  have b1 : (((45 :: t) : List UInt8) == [78, 97, 78]) = false := beq_eq_false_iff_ne.2 h1
  have b2 : ((t : List UInt8) == [73, 78, 70]) = false := beq_eq_false_iff_ne.2 h2
  clear h1 h2
  unfold five at PA
  have hel0 : e.length ≤ 15 := by omega
  have WE := hid (fun w => rwhole_any e w hel0 hed)
  have hve : Db.val e < 1000 := Nat.lt_of_lt_of_le (Db.val_lt' e hed) (by have := Nat.pow_le_pow_right (n := 10) (by omega) hel; simpa using this)
  obtain ⟨v, hv⟩ : ∃ v, v = Db.val e := ⟨_, rfl⟩
  rw [← hv] at WE hve hf
  clear hv hmd hed
  cases be
  · have hs : Db.sg false = 1 := rfl
    rw [hs] at hf
    have hf1 : 22 < (v : Int) - (bl : Int) := by omega
    clear hf hs
    go_enter Tryd.func17, Tryd.ntmps17
    go_wp2_with (first | (go_at_call 32; refine (PA.out _).mono ?_; rintro e w' ⟨rfl, rfl⟩) | (go_at_call 33; refine (WE.out _).mono ?_; rintro e w' ⟨rfl, rfl⟩))
    go_ret2
    exact ⟨rfl, rfl⟩
  · have hs : Db.sg true = -1 := rfl
    rw [hs] at hf
    have hf1 : -(v : Int) - (bl : Int) < -22 := by omega
    clear hf hs
    go_enter Tryd.func17, Tryd.ntmps17
    go_wp2_with (first | (go_at_call 32; refine (PA.out _).mono ?_; rintro e w' ⟨rfl, rfl⟩) | (go_at_call 33; refine (WE.out _).mono ?_; rintro e w' ⟨rfl, rfl⟩))
    go_ret2
    exact ⟨rfl, rfl⟩
theorem rparse_far_q (t : List UInt8) (w : World) (hl : ((43 :: t) : List UInt8).length ≤ 9223372036854775806) (h1 : ((43 :: t) : List UInt8) ≠ [78, 97, 78]) (h2 : (t : List UInt8) ≠ [73, 78, 70]) (m e : List UInt8) (bl : Nat) (be : Bool)
    (PA : Hid (∀ w, Calls Tryd.prog 32 #[str t] w fun e' w' => e' = .returned (five m bl e be true) ∧ w = w')) (hml : m.length ≤ 15) (hel : e.length ≤ 3) (hmd : Db.AllDig m) (hed : Db.AllDig e) (hbl : bl ≤ 15) (hf : Db.sg be * (Db.val e : Int) - bl < -22 ∨ 22 < Db.sg be * (Db.val e : Int) - bl) :
    Calls Tryd.prog 17 #[str (43 :: t)] w fun e w' => e = .returned (.tuple #[.float .f64 0, .bool false]) ∧ w = w' := by
  have hc0 := fun p => ba_get (43 :: t) 0 43 rfl p
  have T0 := ba_tail 43 t
  simp only [List.length_cons] at hl
  have b1 : (((43 :: t) : List UInt8) == [78, 97, 78]) = false := beq_eq_false_iff_ne.2 h1
  have b2 : ((t : List UInt8) == [73, 78, 70]) = false := beq_eq_false_iff_ne.2 h2
  clear h1 h2
  unfold five at PA
  have hel0 : e.length ≤ 15 := by omega
  have WE := hid (fun w => rwhole_any e w hel0 hed)
  have hve : Db.val e < 1000 := Nat.lt_of_lt_of_le (Db.val_lt' e hed) (by have := Nat.pow_le_pow_right (n := 10) (by omega) hel; simpa using this)
  obtain ⟨v, hv⟩ : ∃ v, v = Db.val e := ⟨_, rfl⟩
  rw [← hv] at WE hve hf
  clear hv hmd hed
  cases be
  · have hs : Db.sg false = 1 := rfl
    rw [hs] at hf
    have hf1 : 22 < (v : Int) - (bl : Int) := by omega
    clear hf hs
    go_enter Tryd.func17, Tryd.ntmps17
    go_wp2_with (first | (go_at_call 32; refine (PA.out _).mono ?_; rintro e w' ⟨rfl, rfl⟩) | (go_at_call 33; refine (WE.out _).mono ?_; rintro e w' ⟨rfl, rfl⟩))
    go_ret2
    exact ⟨rfl, rfl⟩
  · have hs : Db.sg true = -1 := rfl
    rw [hs] at hf
    have hf1 : -(v : Int) - (bl : Int) < -22 := by omega
    clear hf hs
    go_enter Tryd.func17, Tryd.ntmps17
    go_wp2_with (first | (go_at_call 32; refine (PA.out _).mono ?_; rintro e w' ⟨rfl, rfl⟩) | (go_at_call 33; refine (WE.out _).mono ?_; rintro e w' ⟨rfl, rfl⟩))
    go_ret2
    exact ⟨rfl, rfl⟩
theorem rparse_far_n  (w : World) (hl : ([] : List UInt8).length ≤ 9223372036854775806) (h1 : ([] : List UInt8) ≠ [78, 97, 78]) (h2 : ([] : List UInt8) ≠ [73, 78, 70]) (m e : List UInt8) (bl : Nat) (be : Bool)
    (PA : Hid (∀ w, Calls Tryd.prog 32 #[str []] w fun e' w' => e' = .returned (five m bl e be true) ∧ w = w')) (hml : m.length ≤ 15) (hel : e.length ≤ 3) (hmd : Db.AllDig m) (hed : Db.AllDig e) (hbl : bl ≤ 15) (hf : Db.sg be * (Db.val e : Int) - bl < -22 ∨ 22 < Db.sg be * (Db.val e : Int) - bl) :
    Calls Tryd.prog 17 #[str []] w fun e w' => e = .returned (.tuple #[.float .f64 0, .bool false]) ∧ w = w' := by
  have b1 : (([] : List UInt8) == [78, 97, 78]) = false := beq_eq_false_iff_ne.2 h1
  have b2 : (([] : List UInt8) == [73, 78, 70]) = false := beq_eq_false_iff_ne.2 h2
  clear h1 h2
  unfold five at PA
  have hel0 : e.length ≤ 15 := by omega
  have WE := hid (fun w => rwhole_any e w hel0 hed)
  have hve : Db.val e < 1000 := Nat.lt_of_lt_of_le (Db.val_lt' e hed) (by have := Nat.pow_le_pow_right (n := 10) (by omega) hel; simpa using this)
  obtain ⟨v, hv⟩ : ∃ v, v = Db.val e := ⟨_, rfl⟩
  rw [← hv] at WE hve hf
  clear hv hmd hed
  cases be
  · have hs : Db.sg false = 1 := rfl
    rw [hs] at hf
    have hf1 : 22 < (v : Int) - (bl : Int) := by omega
    clear hf hs
    go_enter Tryd.func17, Tryd.ntmps17
    go_wp2_with (first | (go_at_call 32; refine (PA.out _).mono ?_; rintro e w' ⟨rfl, rfl⟩) | (go_at_call 33; refine (WE.out _).mono ?_; rintro e w' ⟨rfl, rfl⟩))
    go_ret2
    exact ⟨rfl, rfl⟩
  · have hs : Db.sg true = -1 := rfl
    rw [hs] at hf
    have hf1 : -(v : Int) - (bl : Int) < -22 := by omega
    clear hf hs
    go_enter Tryd.func17, Tryd.ntmps17
    go_wp2_with (first | (go_at_call 32; refine (PA.out _).mono ?_; rintro e w' ⟨rfl, rfl⟩) | (go_at_call 33; refine (WE.out _).mono ?_; rintro e w' ⟨rfl, rfl⟩))
    go_ret2
    exact ⟨rfl, rfl⟩
theorem rparse_far_o (c : UInt8) (x : List UInt8) (c1 : c ≠ 43) (c2 : c ≠ 45) (w : World) (hl : ((c :: x) : List UInt8).length ≤ 9223372036854775806) (h1 : ((c :: x) : List UInt8) ≠ [78, 97, 78]) (h2 : ((c :: x) : List UInt8) ≠ [73, 78, 70]) (m e : List UInt8) (bl : Nat) (be : Bool)
    (PA : Hid (∀ w, Calls Tryd.prog 32 #[str (c :: x)] w fun e' w' => e' = .returned (five m bl e be true) ∧ w = w')) (hml : m.length ≤ 15) (hel : e.length ≤ 3) (hmd : Db.AllDig m) (hed : Db.AllDig e) (hbl : bl ≤ 15) (hf : Db.sg be * (Db.val e : Int) - bl < -22 ∨ 22 < Db.sg be * (Db.val e : Int) - bl) :
    Calls Tryd.prog 17 #[str (c :: x)] w fun e w' => e = .returned (.tuple #[.float .f64 0, .bool false]) ∧ w = w' := by
  have hc0 := fun p => ba_get (c :: x) 0 c rfl p
  simp only [List.length_cons] at hl
  have g1 : ((c.toNat : Int) == 43) = false := by rw [beq_eq_false_iff_ne]; intro e; exact c1 (UInt8.toNat_inj.1 (by show c.toNat = 43; omega))
  have g2 : ((c.toNat : Int) == 45) = false := by rw [beq_eq_false_iff_ne]; intro e; exact c2 (UInt8.toNat_inj.1 (by show c.toNat = 45; omega))
  clear c1 c2
  have b1 : (((c :: x) : List UInt8) == [78, 97, 78]) = false := beq_eq_false_iff_ne.2 h1
  have b2 : (((c :: x) : List UInt8) == [73, 78, 70]) = false := beq_eq_false_iff_ne.2 h2
  clear h1 h2
  unfold five at PA
  have hel0 : e.length ≤ 15 := by omega
  have WE := hid (fun w => rwhole_any e w hel0 hed)
  have hve : Db.val e < 1000 := Nat.lt_of_lt_of_le (Db.val_lt' e hed) (by have := Nat.pow_le_pow_right (n := 10) (by omega) hel; simpa using this)
  obtain ⟨v, hv⟩ : ∃ v, v = Db.val e := ⟨_, rfl⟩
  rw [← hv] at WE hve hf
  clear hv hmd hed
  cases be
  · have hs : Db.sg false = 1 := rfl
    rw [hs] at hf
    have hf1 : 22 < (v : Int) - (bl : Int) := by omega
    clear hf hs
    go_enter Tryd.func17, Tryd.ntmps17
    go_wp2_with (first | (go_at_call 32; refine (PA.out _).mono ?_; rintro e w' ⟨rfl, rfl⟩) | (go_at_call 33; refine (WE.out _).mono ?_; rintro e w' ⟨rfl, rfl⟩))
    go_ret2
    exact ⟨rfl, rfl⟩
  · have hs : Db.sg true = -1 := rfl
    rw [hs] at hf
    have hf1 : -(v : Int) - (bl : Int) < -22 := by omega
    clear hf hs
    go_enter Tryd.func17, Tryd.ntmps17
    go_wp2_with (first | (go_at_call 32; refine (PA.out _).mono ?_; rintro e w' ⟨rfl, rfl⟩) | (go_at_call 33; refine (WE.out _).mono ?_; rintro e w' ⟨rfl, rfl⟩))
    go_ret2
    exact ⟨rfl, rfl⟩
theorem rparse_neg_p (t : List UInt8) (w : World) (hl : ((45 :: t) : List UInt8).length ≤ 9223372036854775806) (h1 : ((45 :: t) : List UInt8) ≠ [78, 97, 78]) (h2 : (t : List UInt8) ≠ [73, 78, 70]) (m e : List UInt8) (bl : Nat) (be : Bool)
    (PA : Hid (∀ w, Calls Tryd.prog 32 #[str t] w fun e' w' => e' = .returned (five m bl e be true) ∧ w = w')) (hml : m.length ≤ 15) (hel : e.length ≤ 3) (hmd : Db.AllDig m) (hed : Db.AllDig e) (hbl : bl ≤ 15) (X : Int) (hX : Db.sg be * (Db.val e : Int) - bl = X) (hf1 : -22 ≤ X) (hf2 : X < 0) :
    Calls Tryd.prog 17 #[str (45 :: t)] w fun e w' => e = .returned (.tuple #[.float .f64 (Db.csign true (Db.mag m X)), .bool true]) ∧ w = w' := by
  have hc0 := fun p => ba_get (45 :: t) 0 45 rfl p
  have T0 := ba_tail 45 t
  simp only [List.length_cons] at hl
  have b1 : (((45 :: t) : List UInt8) == [78, 97, 78]) = false := beq_eq_false_iff_ne.2 h1
  have b2 : ((t : List UInt8) == [73, 78, 70]) = false := beq_eq_false_iff_ne.2 h2
  clear h1 h2
  unfold five at PA
  have hel0 : e.length ≤ 15 := by omega
  have WE := hid (fun w => rwhole_any e w hel0 hed)
  have hve : Db.val e < 1000 := Nat.lt_of_lt_of_le (Db.val_lt' e hed) (by have := Nat.pow_le_pow_right (n := 10) (by omega) hel; simpa using this)
  have WM := hid (fun w => rwhole_any m w hml hmd)
  have hval : Db.val m < 1000000000000000 := Nat.lt_of_lt_of_le (Db.val_lt' m hmd) (Db.ten_le hml)
  have C2 := hid (fun w => copysign_any (Db.mag m X) true w (Db.mag_lt m X))
  have sfv : Db.sgf true = 13830554455654793216 := rfl
  rw [sfv] at C2
  have hq := Db.mag_neg m X (by omega) (by omega) (by omega)
  obtain ⟨V, hV⟩ : ∃ V, V = Db.val m := ⟨_, rfl⟩
  obtain ⟨M, hM⟩ : ∃ M, M = Db.mag m X := ⟨_, rfl⟩
  rw [← hV] at WM hval hq
  rw [← hM] at hq C2 ⊢
  clear hV hM
  have hr := fun W => run_div (P := Tryd.prog) (t := 33) hq W
  have hfl := Db.fl_eq V
  have h0 : Db.pw 0 = 4607182418800017408 := rfl
  have HS := hid Db.pw_step
  obtain ⟨K, hK⟩ : ∃ K : Nat, K = (-X).toNat := ⟨_, rfl⟩
  have HK := hid hK
  rw [← hK] at hr
  have hKX : (K : Int) = -X := by omega
  have hK22 : K ≤ 22 := by omega
  clear hK hq
  obtain ⟨v, hv⟩ : ∃ v, v = Db.val e := ⟨_, rfl⟩
  rw [← hv] at WE hve hX
  clear hv hmd hed
  cases be
  · have hs : Db.sg false = 1 := rfl
    rw [hs] at hX
    have hX1 : (v : Int) - (bl : Int) = X := by omega
    clear hX hs
    go_enter Tryd.func17, Tryd.ntmps17
    go_wp2_with (first | (go_at_call 32; refine (PA.out _).mono ?_; rintro e w' ⟨rfl, rfl⟩) | (go_at_call 33; refine (WE.out _).mono ?_; rintro e w' ⟨rfl, rfl⟩))
    go_loop [11, 12] (fun s11 s12 => ∃ n : Nat, n ≤ K ∧ s11 = .float .f64 (Db.pw n) ∧ s12 = .int .i64 n) (fun _ s12 => K - (intOf s12).toNat)
    case atStart => exact ⟨0, by omega, rfl, rfl⟩
    case round =>
      obtain ⟨n, hn, rfl, rfl⟩ := hrel
      by_cases hlt : n < K
      · have hr2 := fun W => run_mul (P := Tryd.prog) (t := 33) (HS.out n (by omega)) W
        unfold Db.ten at hr2
        obtain ⟨x', hx'⟩ : ∃ x', x' = Db.pw n := ⟨_, rfl⟩
        obtain ⟨y', hy'⟩ : ∃ y', y' = Db.pw (n + 1) := ⟨_, rfl⟩
        have HY := hid hy'
        rw [← hx', ← hy'] at hr2
        rw [← hx']
        clear hx' hy' h0 hr
        go_wp2
        go_round
        case rel => exact ⟨n + 1, by omega, by rw [HY.out], by go_num⟩
        case measure => simp [intOf]; omega
      · obtain rfl : n = K := by omega
        clear h0
        go_wp2_with (first | (go_at_call 33; refine (WM.out _).mono ?_; rintro e w' ⟨rfl, rfl⟩) | (go_at_call 34; refine (C2.out _).mono ?_; rintro e w' ⟨rfl, rfl⟩))
        go_ret2
        exact ⟨rfl, rfl⟩
  · have hs : Db.sg true = -1 := rfl
    rw [hs] at hX
    have hX1 : -(v : Int) - (bl : Int) = X := by omega
    clear hX hs
    go_enter Tryd.func17, Tryd.ntmps17
    go_wp2_with (first | (go_at_call 32; refine (PA.out _).mono ?_; rintro e w' ⟨rfl, rfl⟩) | (go_at_call 33; refine (WE.out _).mono ?_; rintro e w' ⟨rfl, rfl⟩))
    go_loop [11, 12] (fun s11 s12 => ∃ n : Nat, n ≤ K ∧ s11 = .float .f64 (Db.pw n) ∧ s12 = .int .i64 n) (fun _ s12 => K - (intOf s12).toNat)
    case atStart => exact ⟨0, by omega, rfl, rfl⟩
    case round =>
      obtain ⟨n, hn, rfl, rfl⟩ := hrel
      by_cases hlt : n < K
      · have hr2 := fun W => run_mul (P := Tryd.prog) (t := 33) (HS.out n (by omega)) W
        unfold Db.ten at hr2
        obtain ⟨x', hx'⟩ : ∃ x', x' = Db.pw n := ⟨_, rfl⟩
        obtain ⟨y', hy'⟩ : ∃ y', y' = Db.pw (n + 1) := ⟨_, rfl⟩
        have HY := hid hy'
        rw [← hx', ← hy'] at hr2
        rw [← hx']
        clear hx' hy' h0 hr
        go_wp2
        go_round
        case rel => exact ⟨n + 1, by omega, by rw [HY.out], by go_num⟩
        case measure => simp [intOf]; omega
      · obtain rfl : n = K := by omega
        clear h0
        go_wp2_with (first | (go_at_call 33; refine (WM.out _).mono ?_; rintro e w' ⟨rfl, rfl⟩) | (go_at_call 34; refine (C2.out _).mono ?_; rintro e w' ⟨rfl, rfl⟩))
        go_ret2
        exact ⟨rfl, rfl⟩
theorem rparse_neg_q (t : List UInt8) (w : World) (hl : ((43 :: t) : List UInt8).length ≤ 9223372036854775806) (h1 : ((43 :: t) : List UInt8) ≠ [78, 97, 78]) (h2 : (t : List UInt8) ≠ [73, 78, 70]) (m e : List UInt8) (bl : Nat) (be : Bool)
    (PA : Hid (∀ w, Calls Tryd.prog 32 #[str t] w fun e' w' => e' = .returned (five m bl e be true) ∧ w = w')) (hml : m.length ≤ 15) (hel : e.length ≤ 3) (hmd : Db.AllDig m) (hed : Db.AllDig e) (hbl : bl ≤ 15) (X : Int) (hX : Db.sg be * (Db.val e : Int) - bl = X) (hf1 : -22 ≤ X) (hf2 : X < 0) :
    Calls Tryd.prog 17 #[str (43 :: t)] w fun e w' => e = .returned (.tuple #[.float .f64 (Db.csign false (Db.mag m X)), .bool true]) ∧ w = w' := by
  have hc0 := fun p => ba_get (43 :: t) 0 43 rfl p
  have T0 := ba_tail 43 t
  simp only [List.length_cons] at hl
  have b1 : (((43 :: t) : List UInt8) == [78, 97, 78]) = false := beq_eq_false_iff_ne.2 h1
  have b2 : ((t : List UInt8) == [73, 78, 70]) = false := beq_eq_false_iff_ne.2 h2
  clear h1 h2
  unfold five at PA
  have hel0 : e.length ≤ 15 := by omega
  have WE := hid (fun w => rwhole_any e w hel0 hed)
  have hve : Db.val e < 1000 := Nat.lt_of_lt_of_le (Db.val_lt' e hed) (by have := Nat.pow_le_pow_right (n := 10) (by omega) hel; simpa using this)
  have WM := hid (fun w => rwhole_any m w hml hmd)
  have hval : Db.val m < 1000000000000000 := Nat.lt_of_lt_of_le (Db.val_lt' m hmd) (Db.ten_le hml)
  have C2 := hid (fun w => copysign_any (Db.mag m X) false w (Db.mag_lt m X))
  have sfv : Db.sgf false = 4607182418800017408 := rfl
  rw [sfv] at C2
  have hq := Db.mag_neg m X (by omega) (by omega) (by omega)
  obtain ⟨V, hV⟩ : ∃ V, V = Db.val m := ⟨_, rfl⟩
  obtain ⟨M, hM⟩ : ∃ M, M = Db.mag m X := ⟨_, rfl⟩
  rw [← hV] at WM hval hq
  rw [← hM] at hq C2 ⊢
  clear hV hM
  have hr := fun W => run_div (P := Tryd.prog) (t := 33) hq W
  have hfl := Db.fl_eq V
  have h0 : Db.pw 0 = 4607182418800017408 := rfl
  have HS := hid Db.pw_step
  obtain ⟨K, hK⟩ : ∃ K : Nat, K = (-X).toNat := ⟨_, rfl⟩
  have HK := hid hK
  rw [← hK] at hr
  have hKX : (K : Int) = -X := by omega
  have hK22 : K ≤ 22 := by omega
  clear hK hq
  obtain ⟨v, hv⟩ : ∃ v, v = Db.val e := ⟨_, rfl⟩
  rw [← hv] at WE hve hX
  clear hv hmd hed
  cases be
  · have hs : Db.sg false = 1 := rfl
    rw [hs] at hX
    have hX1 : (v : Int) - (bl : Int) = X := by omega
    clear hX hs
    go_enter Tryd.func17, Tryd.ntmps17
    go_wp2_with (first | (go_at_call 32; refine (PA.out _).mono ?_; rintro e w' ⟨rfl, rfl⟩) | (go_at_call 33; refine (WE.out _).mono ?_; rintro e w' ⟨rfl, rfl⟩))
    go_loop [11, 12] (fun s11 s12 => ∃ n : Nat, n ≤ K ∧ s11 = .float .f64 (Db.pw n) ∧ s12 = .int .i64 n) (fun _ s12 => K - (intOf s12).toNat)
    case atStart => exact ⟨0, by omega, rfl, rfl⟩
    case round =>
      obtain ⟨n, hn, rfl, rfl⟩ := hrel
      by_cases hlt : n < K
      · have hr2 := fun W => run_mul (P := Tryd.prog) (t := 33) (HS.out n (by omega)) W
        unfold Db.ten at hr2
        obtain ⟨x', hx'⟩ : ∃ x', x' = Db.pw n := ⟨_, rfl⟩
        obtain ⟨y', hy'⟩ : ∃ y', y' = Db.pw (n + 1) := ⟨_, rfl⟩
        have HY := hid hy'
        rw [← hx', ← hy'] at hr2
        rw [← hx']
        clear hx' hy' h0 hr
        go_wp2
        go_round
        case rel => exact ⟨n + 1, by omega, by rw [HY.out], by go_num⟩
        case measure => simp [intOf]; omega
      · obtain rfl : n = K := by omega
        clear h0
        go_wp2_with (first | (go_at_call 33; refine (WM.out _).mono ?_; rintro e w' ⟨rfl, rfl⟩) | (go_at_call 34; refine (C2.out _).mono ?_; rintro e w' ⟨rfl, rfl⟩))
        go_ret2
        exact ⟨rfl, rfl⟩
  · have hs : Db.sg true = -1 := rfl
    rw [hs] at hX
    have hX1 : -(v : Int) - (bl : Int) = X := by omega
    clear hX hs
    go_enter Tryd.func17, Tryd.ntmps17
    go_wp2_with (first | (go_at_call 32; refine (PA.out _).mono ?_; rintro e w' ⟨rfl, rfl⟩) | (go_at_call 33; refine (WE.out _).mono ?_; rintro e w' ⟨rfl, rfl⟩))
    go_loop [11, 12] (fun s11 s12 => ∃ n : Nat, n ≤ K ∧ s11 = .float .f64 (Db.pw n) ∧ s12 = .int .i64 n) (fun _ s12 => K - (intOf s12).toNat)
    case atStart => exact ⟨0, by omega, rfl, rfl⟩
    case round =>
      obtain ⟨n, hn, rfl, rfl⟩ := hrel
      by_cases hlt : n < K
      · have hr2 := fun W => run_mul (P := Tryd.prog) (t := 33) (HS.out n (by omega)) W
        unfold Db.ten at hr2
        obtain ⟨x', hx'⟩ : ∃ x', x' = Db.pw n := ⟨_, rfl⟩
        obtain ⟨y', hy'⟩ : ∃ y', y' = Db.pw (n + 1) := ⟨_, rfl⟩
        have HY := hid hy'
        rw [← hx', ← hy'] at hr2
        rw [← hx']
        clear hx' hy' h0 hr
        go_wp2
        go_round
        case rel => exact ⟨n + 1, by omega, by rw [HY.out], by go_num⟩
        case measure => simp [intOf]; omega
      · obtain rfl : n = K := by omega
        clear h0
        go_wp2_with (first | (go_at_call 33; refine (WM.out _).mono ?_; rintro e w' ⟨rfl, rfl⟩) | (go_at_call 34; refine (C2.out _).mono ?_; rintro e w' ⟨rfl, rfl⟩))
        go_ret2
        exact ⟨rfl, rfl⟩
theorem rparse_neg_n  (w : World) (hl : ([] : List UInt8).length ≤ 9223372036854775806) (h1 : ([] : List UInt8) ≠ [78, 97, 78]) (h2 : ([] : List UInt8) ≠ [73, 78, 70]) (m e : List UInt8) (bl : Nat) (be : Bool)
    (PA : Hid (∀ w, Calls Tryd.prog 32 #[str []] w fun e' w' => e' = .returned (five m bl e be true) ∧ w = w')) (hml : m.length ≤ 15) (hel : e.length ≤ 3) (hmd : Db.AllDig m) (hed : Db.AllDig e) (hbl : bl ≤ 15) (X : Int) (hX : Db.sg be * (Db.val e : Int) - bl = X) (hf1 : -22 ≤ X) (hf2 : X < 0) :
    Calls Tryd.prog 17 #[str []] w fun e w' => e = .returned (.tuple #[.float .f64 (Db.csign false (Db.mag m X)), .bool true]) ∧ w = w' := by
  have b1 : (([] : List UInt8) == [78, 97, 78]) = false := beq_eq_false_iff_ne.2 h1
  have b2 : (([] : List UInt8) == [73, 78, 70]) = false := beq_eq_false_iff_ne.2 h2
  clear h1 h2
  unfold five at PA
  have hel0 : e.length ≤ 15 := by omega
  have WE := hid (fun w => rwhole_any e w hel0 hed)
  have hve : Db.val e < 1000 := Nat.lt_of_lt_of_le (Db.val_lt' e hed) (by have := Nat.pow_le_pow_right (n := 10) (by omega) hel; simpa using this)
  have WM := hid (fun w => rwhole_any m w hml hmd)
  have hval : Db.val m < 1000000000000000 := Nat.lt_of_lt_of_le (Db.val_lt' m hmd) (Db.ten_le hml)
  have C2 := hid (fun w => copysign_any (Db.mag m X) false w (Db.mag_lt m X))
  have sfv : Db.sgf false = 4607182418800017408 := rfl
  rw [sfv] at C2
  have hq := Db.mag_neg m X (by omega) (by omega) (by omega)
  obtain ⟨V, hV⟩ : ∃ V, V = Db.val m := ⟨_, rfl⟩
  obtain ⟨M, hM⟩ : ∃ M, M = Db.mag m X := ⟨_, rfl⟩
  rw [← hV] at WM hval hq
  rw [← hM] at hq C2 ⊢
  clear hV hM
  have hr := fun W => run_div (P := Tryd.prog) (t := 33) hq W
  have hfl := Db.fl_eq V
  have h0 : Db.pw 0 = 4607182418800017408 := rfl
  have HS := hid Db.pw_step
  obtain ⟨K, hK⟩ : ∃ K : Nat, K = (-X).toNat := ⟨_, rfl⟩
  have HK := hid hK
  rw [← hK] at hr
  have hKX : (K : Int) = -X := by omega
  have hK22 : K ≤ 22 := by omega
  clear hK hq
  obtain ⟨v, hv⟩ : ∃ v, v = Db.val e := ⟨_, rfl⟩
  rw [← hv] at WE hve hX
  clear hv hmd hed
  cases be
  · have hs : Db.sg false = 1 := rfl
    rw [hs] at hX
    have hX1 : (v : Int) - (bl : Int) = X := by omega
    clear hX hs
    go_enter Tryd.func17, Tryd.ntmps17
    go_wp2_with (first | (go_at_call 32; refine (PA.out _).mono ?_; rintro e w' ⟨rfl, rfl⟩) | (go_at_call 33; refine (WE.out _).mono ?_; rintro e w' ⟨rfl, rfl⟩))
    go_loop [11, 12] (fun s11 s12 => ∃ n : Nat, n ≤ K ∧ s11 = .float .f64 (Db.pw n) ∧ s12 = .int .i64 n) (fun _ s12 => K - (intOf s12).toNat)
    case atStart => exact ⟨0, by omega, rfl, rfl⟩
    case round =>
      obtain ⟨n, hn, rfl, rfl⟩ := hrel
      by_cases hlt : n < K
      · have hr2 := fun W => run_mul (P := Tryd.prog) (t := 33) (HS.out n (by omega)) W
        unfold Db.ten at hr2
        obtain ⟨x', hx'⟩ : ∃ x', x' = Db.pw n := ⟨_, rfl⟩
        obtain ⟨y', hy'⟩ : ∃ y', y' = Db.pw (n + 1) := ⟨_, rfl⟩
        have HY := hid hy'
        rw [← hx', ← hy'] at hr2
        rw [← hx']
        clear hx' hy' h0 hr
        go_wp2
        go_round
        case rel => exact ⟨n + 1, by omega, by rw [HY.out], by go_num⟩
        case measure => simp [intOf]; omega
      · obtain rfl : n = K := by omega
        clear h0
        go_wp2_with (first | (go_at_call 33; refine (WM.out _).mono ?_; rintro e w' ⟨rfl, rfl⟩) | (go_at_call 34; refine (C2.out _).mono ?_; rintro e w' ⟨rfl, rfl⟩))
        go_ret2
        exact ⟨rfl, rfl⟩
  · have hs : Db.sg true = -1 := rfl
    rw [hs] at hX
    have hX1 : -(v : Int) - (bl : Int) = X := by omega
    clear hX hs
    go_enter Tryd.func17, Tryd.ntmps17
    go_wp2_with (first | (go_at_call 32; refine (PA.out _).mono ?_; rintro e w' ⟨rfl, rfl⟩) | (go_at_call 33; refine (WE.out _).mono ?_; rintro e w' ⟨rfl, rfl⟩))
    go_loop [11, 12] (fun s11 s12 => ∃ n : Nat, n ≤ K ∧ s11 = .float .f64 (Db.pw n) ∧ s12 = .int .i64 n) (fun _ s12 => K - (intOf s12).toNat)
    case atStart => exact ⟨0, by omega, rfl, rfl⟩
    case round =>
      obtain ⟨n, hn, rfl, rfl⟩ := hrel
      by_cases hlt : n < K
      · have hr2 := fun W => run_mul (P := Tryd.prog) (t := 33) (HS.out n (by omega)) W
        unfold Db.ten at hr2
        obtain ⟨x', hx'⟩ : ∃ x', x' = Db.pw n := ⟨_, rfl⟩
        obtain ⟨y', hy'⟩ : ∃ y', y' = Db.pw (n + 1) := ⟨_, rfl⟩
        have HY := hid hy'
        rw [← hx', ← hy'] at hr2
        rw [← hx']
        clear hx' hy' h0 hr
        go_wp2
        go_round
        case rel => exact ⟨n + 1, by omega, by rw [HY.out], by go_num⟩
        case measure => simp [intOf]; omega
      · obtain rfl : n = K := by omega
        clear h0
        go_wp2_with (first | (go_at_call 33; refine (WM.out _).mono ?_; rintro e w' ⟨rfl, rfl⟩) | (go_at_call 34; refine (C2.out _).mono ?_; rintro e w' ⟨rfl, rfl⟩))
        go_ret2
        exact ⟨rfl, rfl⟩
theorem rparse_neg_o (c : UInt8) (x : List UInt8) (c1 : c ≠ 43) (c2 : c ≠ 45) (w : World) (hl : ((c :: x) : List UInt8).length ≤ 9223372036854775806) (h1 : ((c :: x) : List UInt8) ≠ [78, 97, 78]) (h2 : ((c :: x) : List UInt8) ≠ [73, 78, 70]) (m e : List UInt8) (bl : Nat) (be : Bool)
    (PA : Hid (∀ w, Calls Tryd.prog 32 #[str (c :: x)] w fun e' w' => e' = .returned (five m bl e be true) ∧ w = w')) (hml : m.length ≤ 15) (hel : e.length ≤ 3) (hmd : Db.AllDig m) (hed : Db.AllDig e) (hbl : bl ≤ 15) (X : Int) (hX : Db.sg be * (Db.val e : Int) - bl = X) (hf1 : -22 ≤ X) (hf2 : X < 0) :
    Calls Tryd.prog 17 #[str (c :: x)] w fun e w' => e = .returned (.tuple #[.float .f64 (Db.csign false (Db.mag m X)), .bool true]) ∧ w = w' := by
  have hc0 := fun p => ba_get (c :: x) 0 c rfl p
  simp only [List.length_cons] at hl
  have g1 : ((c.toNat : Int) == 43) = false := by rw [beq_eq_false_iff_ne]; intro e; exact c1 (UInt8.toNat_inj.1 (by show c.toNat = 43; omega))
  have g2 : ((c.toNat : Int) == 45) = false := by rw [beq_eq_false_iff_ne]; intro e; exact c2 (UInt8.toNat_inj.1 (by show c.toNat = 45; omega))
  clear c1 c2
  have b1 : (((c :: x) : List UInt8) == [78, 97, 78]) = false := beq_eq_false_iff_ne.2 h1
  have b2 : (((c :: x) : List UInt8) == [73, 78, 70]) = false := beq_eq_false_iff_ne.2 h2
  clear h1 h2
  unfold five at PA
  have hel0 : e.length ≤ 15 := by omega
  have WE := hid (fun w => rwhole_any e w hel0 hed)
  have hve : Db.val e < 1000 := Nat.lt_of_lt_of_le (Db.val_lt' e hed) (by have := Nat.pow_le_pow_right (n := 10) (by omega) hel; simpa using this)
  have WM := hid (fun w => rwhole_any m w hml hmd)
  have hval : Db.val m < 1000000000000000 := Nat.lt_of_lt_of_le (Db.val_lt' m hmd) (Db.ten_le hml)
  have C2 := hid (fun w => copysign_any (Db.mag m X) false w (Db.mag_lt m X))
  have sfv : Db.sgf false = 4607182418800017408 := rfl
  rw [sfv] at C2
  have hq := Db.mag_neg m X (by omega) (by omega) (by omega)
  obtain ⟨V, hV⟩ : ∃ V, V = Db.val m := ⟨_, rfl⟩
  obtain ⟨M, hM⟩ : ∃ M, M = Db.mag m X := ⟨_, rfl⟩
  rw [← hV] at WM hval hq
  rw [← hM] at hq C2 ⊢
  clear hV hM
  have hr := fun W => run_div (P := Tryd.prog) (t := 33) hq W
  have hfl := Db.fl_eq V
  have h0 : Db.pw 0 = 4607182418800017408 := rfl
  have HS := hid Db.pw_step
  obtain ⟨K, hK⟩ : ∃ K : Nat, K = (-X).toNat := ⟨_, rfl⟩
  have HK := hid hK
  rw [← hK] at hr
  have hKX : (K : Int) = -X := by omega
  have hK22 : K ≤ 22 := by omega
  clear hK hq
  obtain ⟨v, hv⟩ : ∃ v, v = Db.val e := ⟨_, rfl⟩
  rw [← hv] at WE hve hX
  clear hv hmd hed
  cases be
  · have hs : Db.sg false = 1 := rfl
    rw [hs] at hX
    have hX1 : (v : Int) - (bl : Int) = X := by omega
    clear hX hs
    go_enter Tryd.func17, Tryd.ntmps17
    go_wp2_with (first | (go_at_call 32; refine (PA.out _).mono ?_; rintro e w' ⟨rfl, rfl⟩) | (go_at_call 33; refine (WE.out _).mono ?_; rintro e w' ⟨rfl, rfl⟩))
    go_loop [11, 12] (fun s11 s12 => ∃ n : Nat, n ≤ K ∧ s11 = .float .f64 (Db.pw n) ∧ s12 = .int .i64 n) (fun _ s12 => K - (intOf s12).toNat)
    case atStart => exact ⟨0, by omega, rfl, rfl⟩
    case round =>
      obtain ⟨n, hn, rfl, rfl⟩ := hrel
      by_cases hlt : n < K
      · have hr2 := fun W => run_mul (P := Tryd.prog) (t := 33) (HS.out n (by omega)) W
        unfold Db.ten at hr2
        obtain ⟨x', hx'⟩ : ∃ x', x' = Db.pw n := ⟨_, rfl⟩
        obtain ⟨y', hy'⟩ : ∃ y', y' = Db.pw (n + 1) := ⟨_, rfl⟩
        have HY := hid hy'
        rw [← hx', ← hy'] at hr2
        rw [← hx']
        clear hx' hy' h0 hr
        go_wp2
        go_round
        case rel => exact ⟨n + 1, by omega, by rw [HY.out], by go_num⟩
        case measure => simp [intOf]; omega
      · obtain rfl : n = K := by omega
        clear h0
        go_wp2_with (first | (go_at_call 33; refine (WM.out _).mono ?_; rintro e w' ⟨rfl, rfl⟩) | (go_at_call 34; refine (C2.out _).mono ?_; rintro e w' ⟨rfl, rfl⟩))
        go_ret2
        exact ⟨rfl, rfl⟩
  · have hs : Db.sg true = -1 := rfl
    rw [hs] at hX
    have hX1 : -(v : Int) - (bl : Int) = X := by omega
    clear hX hs
    go_enter Tryd.func17, Tryd.ntmps17
    go_wp2_with (first | (go_at_call 32; refine (PA.out _).mono ?_; rintro e w' ⟨rfl, rfl⟩) | (go_at_call 33; refine (WE.out _).mono ?_; rintro e w' ⟨rfl, rfl⟩))
    go_loop [11, 12] (fun s11 s12 => ∃ n : Nat, n ≤ K ∧ s11 = .float .f64 (Db.pw n) ∧ s12 = .int .i64 n) (fun _ s12 => K - (intOf s12).toNat)
    case atStart => exact ⟨0, by omega, rfl, rfl⟩
    case round =>
      obtain ⟨n, hn, rfl, rfl⟩ := hrel
      by_cases hlt : n < K
      · have hr2 := fun W => run_mul (P := Tryd.prog) (t := 33) (HS.out n (by omega)) W
        unfold Db.ten at hr2
        obtain ⟨x', hx'⟩ : ∃ x', x' = Db.pw n := ⟨_, rfl⟩
        obtain ⟨y', hy'⟩ : ∃ y', y' = Db.pw (n + 1) := ⟨_, rfl⟩
        have HY := hid hy'
        rw [← hx', ← hy'] at hr2
        rw [← hx']
        clear hx' hy' h0 hr
        go_wp2
        go_round
        case rel => exact ⟨n + 1, by omega, by rw [HY.out], by go_num⟩
        case measure => simp [intOf]; omega
      · obtain rfl : n = K := by omega
        clear h0
        go_wp2_with (first | (go_at_call 33; refine (WM.out _).mono ?_; rintro e w' ⟨rfl, rfl⟩) | (go_at_call 34; refine (C2.out _).mono ?_; rintro e w' ⟨rfl, rfl⟩))
        go_ret2
        exact ⟨rfl, rfl⟩
theorem rparse_pos_p (t : List UInt8) (w : World) (hl : ((45 :: t) : List UInt8).length ≤ 9223372036854775806) (h1 : ((45 :: t) : List UInt8) ≠ [78, 97, 78]) (h2 : (t : List UInt8) ≠ [73, 78, 70]) (m e : List UInt8) (bl : Nat) (be : Bool)
    (PA : Hid (∀ w, Calls Tryd.prog 32 #[str t] w fun e' w' => e' = .returned (five m bl e be true) ∧ w = w')) (hml : m.length ≤ 15) (hel : e.length ≤ 3) (hmd : Db.AllDig m) (hed : Db.AllDig e) (hbl : bl ≤ 15) (X : Int) (hX : Db.sg be * (Db.val e : Int) - bl = X) (hf1 : 0 ≤ X) (hf2 : X ≤ 22) :
    Calls Tryd.prog 17 #[str (45 :: t)] w fun e w' => e = .returned (.tuple #[.float .f64 (Db.csign true (Db.mag m X)), .bool true]) ∧ w = w' := by
  have hc0 := fun p => ba_get (45 :: t) 0 45 rfl p
  have T0 := ba_tail 45 t
  simp only [List.length_cons] at hl
  have b1 : (((45 :: t) : List UInt8) == [78, 97, 78]) = false := beq_eq_false_iff_ne.2 h1
  have b2 : ((t : List UInt8) == [73, 78, 70]) = false := beq_eq_false_iff_ne.2 h2
  clear h1 h2
  unfold five at PA
  have hel0 : e.length ≤ 15 := by omega
  have WE := hid (fun w => rwhole_any e w hel0 hed)
  have hve : Db.val e < 1000 := Nat.lt_of_lt_of_le (Db.val_lt' e hed) (by have := Nat.pow_le_pow_right (n := 10) (by omega) hel; simpa using this)
  have WM := hid (fun w => rwhole_any m w hml hmd)
  have hval : Db.val m < 1000000000000000 := Nat.lt_of_lt_of_le (Db.val_lt' m hmd) (Db.ten_le hml)
  have C2 := hid (fun w => copysign_any (Db.mag m X) true w (Db.mag_lt m X))
  have sfv : Db.sgf true = 13830554455654793216 := rfl
  rw [sfv] at C2
  have hq := Db.mag_pos m X (by omega) (by omega) (by omega)
  obtain ⟨V, hV⟩ : ∃ V, V = Db.val m := ⟨_, rfl⟩
  obtain ⟨M, hM⟩ : ∃ M, M = Db.mag m X := ⟨_, rfl⟩
  rw [← hV] at WM hval hq
  rw [← hM] at hq C2 ⊢
  clear hV hM
  have hr := fun W => run_mul (P := Tryd.prog) (t := 33) hq W
  have hfl := Db.fl_eq V
  have h0 : Db.pw 0 = 4607182418800017408 := rfl
  have HS := hid Db.pw_step
  obtain ⟨K, hK⟩ : ∃ K : Nat, K = X.toNat := ⟨_, rfl⟩
  have HK := hid hK
  rw [← hK] at hr
  have hKX : (K : Int) = X := by omega
  have hK22 : K ≤ 22 := by omega
  clear hK hq
  obtain ⟨v, hv⟩ : ∃ v, v = Db.val e := ⟨_, rfl⟩
  rw [← hv] at WE hve hX
  clear hv hmd hed
  cases be
  · have hs : Db.sg false = 1 := rfl
    rw [hs] at hX
    have hX1 : (v : Int) - (bl : Int) = X := by omega
    clear hX hs
    go_enter Tryd.func17, Tryd.ntmps17
    go_wp2_with (first | (go_at_call 32; refine (PA.out _).mono ?_; rintro e w' ⟨rfl, rfl⟩) | (go_at_call 33; refine (WE.out _).mono ?_; rintro e w' ⟨rfl, rfl⟩))
    go_loop [11, 12] (fun s11 s12 => ∃ n : Nat, n ≤ K ∧ s11 = .float .f64 (Db.pw n) ∧ s12 = .int .i64 n) (fun _ s12 => K - (intOf s12).toNat)
    case atStart => exact ⟨0, by omega, rfl, rfl⟩
    case round =>
      obtain ⟨n, hn, rfl, rfl⟩ := hrel
      by_cases hlt : n < K
      · have hr2 := fun W => run_mul (P := Tryd.prog) (t := 33) (HS.out n (by omega)) W
        unfold Db.ten at hr2
        obtain ⟨x', hx'⟩ : ∃ x', x' = Db.pw n := ⟨_, rfl⟩
        obtain ⟨y', hy'⟩ : ∃ y', y' = Db.pw (n + 1) := ⟨_, rfl⟩
        have HY := hid hy'
        rw [← hx', ← hy'] at hr2
        rw [← hx']
        clear hx' hy' h0 hr
        go_wp2
        go_round
        case rel => exact ⟨n + 1, by omega, by rw [HY.out], by go_num⟩
        case measure => simp [intOf]; omega
      · obtain rfl : n = K := by omega
        clear h0
        go_wp2_with (first | (go_at_call 33; refine (WM.out _).mono ?_; rintro e w' ⟨rfl, rfl⟩) | (go_at_call 34; refine (C2.out _).mono ?_; rintro e w' ⟨rfl, rfl⟩))
        go_ret2
        exact ⟨rfl, rfl⟩
  · have hs : Db.sg true = -1 := rfl
    rw [hs] at hX
    have hX1 : -(v : Int) - (bl : Int) = X := by omega
    clear hX hs
    go_enter Tryd.func17, Tryd.ntmps17
    go_wp2_with (first | (go_at_call 32; refine (PA.out _).mono ?_; rintro e w' ⟨rfl, rfl⟩) | (go_at_call 33; refine (WE.out _).mono ?_; rintro e w' ⟨rfl, rfl⟩))
    go_loop [11, 12] (fun s11 s12 => ∃ n : Nat, n ≤ K ∧ s11 = .float .f64 (Db.pw n) ∧ s12 = .int .i64 n) (fun _ s12 => K - (intOf s12).toNat)
    case atStart => exact ⟨0, by omega, rfl, rfl⟩
    case round =>
      obtain ⟨n, hn, rfl, rfl⟩ := hrel
      by_cases hlt : n < K
      · exfalso; omega
      · obtain rfl : n = K := by omega
        clear h0
        go_wp2_with (first | (go_at_call 33; refine (WM.out _).mono ?_; rintro e w' ⟨rfl, rfl⟩) | (go_at_call 34; refine (C2.out _).mono ?_; rintro e w' ⟨rfl, rfl⟩))
        go_ret2
        exact ⟨rfl, rfl⟩
theorem rparse_pos_q (t : List UInt8) (w : World) (hl : ((43 :: t) : List UInt8).length ≤ 9223372036854775806) (h1 : ((43 :: t) : List UInt8) ≠ [78, 97, 78]) (h2 : (t : List UInt8) ≠ [73, 78, 70]) (m e : List UInt8) (bl : Nat) (be : Bool)
    (PA : Hid (∀ w, Calls Tryd.prog 32 #[str t] w fun e' w' => e' = .returned (five m bl e be true) ∧ w = w')) (hml : m.length ≤ 15) (hel : e.length ≤ 3) (hmd : Db.AllDig m) (hed : Db.AllDig e) (hbl : bl ≤ 15) (X : Int) (hX : Db.sg be * (Db.val e : Int) - bl = X) (hf1 : 0 ≤ X) (hf2 : X ≤ 22) :
    Calls Tryd.prog 17 #[str (43 :: t)] w fun e w' => e = .returned (.tuple #[.float .f64 (Db.csign false (Db.mag m X)), .bool true]) ∧ w = w' := by
  have hc0 := fun p => ba_get (43 :: t) 0 43 rfl p
  have T0 := ba_tail 43 t
  simp only [List.length_cons] at hl
  have b1 : (((43 :: t) : List UInt8) == [78, 97, 78]) = false := beq_eq_false_iff_ne.2 h1
  have b2 : ((t : List UInt8) == [73, 78, 70]) = false := beq_eq_false_iff_ne.2 h2
  clear h1 h2
  unfold five at PA
  have hel0 : e.length ≤ 15 := by omega
  have WE := hid (fun w => rwhole_any e w hel0 hed)
  have hve : Db.val e < 1000 := Nat.lt_of_lt_of_le (Db.val_lt' e hed) (by have := Nat.pow_le_pow_right (n := 10) (by omega) hel; simpa using this)
  have WM := hid (fun w => rwhole_any m w hml hmd)
  have hval : Db.val m < 1000000000000000 := Nat.lt_of_lt_of_le (Db.val_lt' m hmd) (Db.ten_le hml)
  have C2 := hid (fun w => copysign_any (Db.mag m X) false w (Db.mag_lt m X))
  have sfv : Db.sgf false = 4607182418800017408 := rfl
  rw [sfv] at C2
  have hq := Db.mag_pos m X (by omega) (by omega) (by omega)
  obtain ⟨V, hV⟩ : ∃ V, V = Db.val m := ⟨_, rfl⟩
  obtain ⟨M, hM⟩ : ∃ M, M = Db.mag m X := ⟨_, rfl⟩
  rw [← hV] at WM hval hq
  rw [← hM] at hq C2 ⊢
  clear hV hM
  have hr := fun W => run_mul (P := Tryd.prog) (t := 33) hq W
  have hfl := Db.fl_eq V
  have h0 : Db.pw 0 = 4607182418800017408 := rfl
  have HS := hid Db.pw_step
  obtain ⟨K, hK⟩ : ∃ K : Nat, K = X.toNat := ⟨_, rfl⟩
  have HK := hid hK
  rw [← hK] at hr
  have hKX : (K : Int) = X := by omega
  have hK22 : K ≤ 22 := by omega
  clear hK hq
  obtain ⟨v, hv⟩ : ∃ v, v = Db.val e := ⟨_, rfl⟩
  rw [← hv] at WE hve hX
  clear hv hmd hed
  cases be
  · have hs : Db.sg false = 1 := rfl
    rw [hs] at hX
    have hX1 : (v : Int) - (bl : Int) = X := by omega
    clear hX hs
    go_enter Tryd.func17, Tryd.ntmps17
    go_wp2_with (first | (go_at_call 32; refine (PA.out _).mono ?_; rintro e w' ⟨rfl, rfl⟩) | (go_at_call 33; refine (WE.out _).mono ?_; rintro e w' ⟨rfl, rfl⟩))
    go_loop [11, 12] (fun s11 s12 => ∃ n : Nat, n ≤ K ∧ s11 = .float .f64 (Db.pw n) ∧ s12 = .int .i64 n) (fun _ s12 => K - (intOf s12).toNat)
    case atStart => exact ⟨0, by omega, rfl, rfl⟩
    case round =>
      obtain ⟨n, hn, rfl, rfl⟩ := hrel
      by_cases hlt : n < K
      · have hr2 := fun W => run_mul (P := Tryd.prog) (t := 33) (HS.out n (by omega)) W
        unfold Db.ten at hr2
        obtain ⟨x', hx'⟩ : ∃ x', x' = Db.pw n := ⟨_, rfl⟩
        obtain ⟨y', hy'⟩ : ∃ y', y' = Db.pw (n + 1) := ⟨_, rfl⟩
        have HY := hid hy'
        rw [← hx', ← hy'] at hr2
        rw [← hx']
        clear hx' hy' h0 hr
        go_wp2
        go_round
        case rel => exact ⟨n + 1, by omega, by rw [HY.out], by go_num⟩
        case measure => simp [intOf]; omega
      · obtain rfl : n = K := by omega
        clear h0
        go_wp2_with (first | (go_at_call 33; refine (WM.out _).mono ?_; rintro e w' ⟨rfl, rfl⟩) | (go_at_call 34; refine (C2.out _).mono ?_; rintro e w' ⟨rfl, rfl⟩))
        go_ret2
        exact ⟨rfl, rfl⟩
  · have hs : Db.sg true = -1 := rfl
    rw [hs] at hX
    have hX1 : -(v : Int) - (bl : Int) = X := by omega
    clear hX hs
    go_enter Tryd.func17, Tryd.ntmps17
    go_wp2_with (first | (go_at_call 32; refine (PA.out _).mono ?_; rintro e w' ⟨rfl, rfl⟩) | (go_at_call 33; refine (WE.out _).mono ?_; rintro e w' ⟨rfl, rfl⟩))
    go_loop [11, 12] (fun s11 s12 => ∃ n : Nat, n ≤ K ∧ s11 = .float .f64 (Db.pw n) ∧ s12 = .int .i64 n) (fun _ s12 => K - (intOf s12).toNat)
    case atStart => exact ⟨0, by omega, rfl, rfl⟩
    case round =>
      obtain ⟨n, hn, rfl, rfl⟩ := hrel
      by_cases hlt : n < K
      · exfalso; omega
      · obtain rfl : n = K := by omega
        clear h0
        go_wp2_with (first | (go_at_call 33; refine (WM.out _).mono ?_; rintro e w' ⟨rfl, rfl⟩) | (go_at_call 34; refine (C2.out _).mono ?_; rintro e w' ⟨rfl, rfl⟩))
        go_ret2
        exact ⟨rfl, rfl⟩
theorem rparse_pos_n  (w : World) (hl : ([] : List UInt8).length ≤ 9223372036854775806) (h1 : ([] : List UInt8) ≠ [78, 97, 78]) (h2 : ([] : List UInt8) ≠ [73, 78, 70]) (m e : List UInt8) (bl : Nat) (be : Bool)
    (PA : Hid (∀ w, Calls Tryd.prog 32 #[str []] w fun e' w' => e' = .returned (five m bl e be true) ∧ w = w')) (hml : m.length ≤ 15) (hel : e.length ≤ 3) (hmd : Db.AllDig m) (hed : Db.AllDig e) (hbl : bl ≤ 15) (X : Int) (hX : Db.sg be * (Db.val e : Int) - bl = X) (hf1 : 0 ≤ X) (hf2 : X ≤ 22) :
    Calls Tryd.prog 17 #[str []] w fun e w' => e = .returned (.tuple #[.float .f64 (Db.csign false (Db.mag m X)), .bool true]) ∧ w = w' := by
  have b1 : (([] : List UInt8) == [78, 97, 78]) = false := beq_eq_false_iff_ne.2 h1
  have b2 : (([] : List UInt8) == [73, 78, 70]) = false := beq_eq_false_iff_ne.2 h2
  clear h1 h2
  unfold five at PA
  have hel0 : e.length ≤ 15 := by omega
  have WE := hid (fun w => rwhole_any e w hel0 hed)
  have hve : Db.val e < 1000 := Nat.lt_of_lt_of_le (Db.val_lt' e hed) (by have := Nat.pow_le_pow_right (n := 10) (by omega) hel; simpa using this)
  have WM := hid (fun w => rwhole_any m w hml hmd)
  have hval : Db.val m < 1000000000000000 := Nat.lt_of_lt_of_le (Db.val_lt' m hmd) (Db.ten_le hml)
  have C2 := hid (fun w => copysign_any (Db.mag m X) false w (Db.mag_lt m X))
  have sfv : Db.sgf false = 4607182418800017408 := rfl
  rw [sfv] at C2
  have hq := Db.mag_pos m X (by omega) (by omega) (by omega)
  obtain ⟨V, hV⟩ : ∃ V, V = Db.val m := ⟨_, rfl⟩
  obtain ⟨M, hM⟩ : ∃ M, M = Db.mag m X := ⟨_, rfl⟩
  rw [← hV] at WM hval hq
  rw [← hM] at hq C2 ⊢
  clear hV hM
  have hr := fun W => run_mul (P := Tryd.prog) (t := 33) hq W
  have hfl := Db.fl_eq V
  have h0 : Db.pw 0 = 4607182418800017408 := rfl
  have HS := hid Db.pw_step
  obtain ⟨K, hK⟩ : ∃ K : Nat, K = X.toNat := ⟨_, rfl⟩
  have HK := hid hK
  rw [← hK] at hr
  have hKX : (K : Int) = X := by omega
  have hK22 : K ≤ 22 := by omega
  clear hK hq
  obtain ⟨v, hv⟩ : ∃ v, v = Db.val e := ⟨_, rfl⟩
  rw [← hv] at WE hve hX
  clear hv hmd hed
  cases be
  · have hs : Db.sg false = 1 := rfl
    rw [hs] at hX
    have hX1 : (v : Int) - (bl : Int) = X := by omega
    clear hX hs
    go_enter Tryd.func17, Tryd.ntmps17
    go_wp2_with (first | (go_at_call 32; refine (PA.out _).mono ?_; rintro e w' ⟨rfl, rfl⟩) | (go_at_call 33; refine (WE.out _).mono ?_; rintro e w' ⟨rfl, rfl⟩))
    go_loop [11, 12] (fun s11 s12 => ∃ n : Nat, n ≤ K ∧ s11 = .float .f64 (Db.pw n) ∧ s12 = .int .i64 n) (fun _ s12 => K - (intOf s12).toNat)
    case atStart => exact ⟨0, by omega, rfl, rfl⟩
    case round =>
      obtain ⟨n, hn, rfl, rfl⟩ := hrel
      by_cases hlt : n < K
      · have hr2 := fun W => run_mul (P := Tryd.prog) (t := 33) (HS.out n (by omega)) W
        unfold Db.ten at hr2
        obtain ⟨x', hx'⟩ : ∃ x', x' = Db.pw n := ⟨_, rfl⟩
        obtain ⟨y', hy'⟩ : ∃ y', y' = Db.pw (n + 1) := ⟨_, rfl⟩
        have HY := hid hy'
        rw [← hx', ← hy'] at hr2
        rw [← hx']
        clear hx' hy' h0 hr
        go_wp2
        go_round
        case rel => exact ⟨n + 1, by omega, by rw [HY.out], by go_num⟩
        case measure => simp [intOf]; omega
      · obtain rfl : n = K := by omega
        clear h0
        go_wp2_with (first | (go_at_call 33; refine (WM.out _).mono ?_; rintro e w' ⟨rfl, rfl⟩) | (go_at_call 34; refine (C2.out _).mono ?_; rintro e w' ⟨rfl, rfl⟩))
        go_ret2
        exact ⟨rfl, rfl⟩
  · have hs : Db.sg true = -1 := rfl
    rw [hs] at hX
    have hX1 : -(v : Int) - (bl : Int) = X := by omega
    clear hX hs
    go_enter Tryd.func17, Tryd.ntmps17
    go_wp2_with (first | (go_at_call 32; refine (PA.out _).mono ?_; rintro e w' ⟨rfl, rfl⟩) | (go_at_call 33; refine (WE.out _).mono ?_; rintro e w' ⟨rfl, rfl⟩))
    go_loop [11, 12] (fun s11 s12 => ∃ n : Nat, n ≤ K ∧ s11 = .float .f64 (Db.pw n) ∧ s12 = .int .i64 n) (fun _ s12 => K - (intOf s12).toNat)
    case atStart => exact ⟨0, by omega, rfl, rfl⟩
    case round =>
      obtain ⟨n, hn, rfl, rfl⟩ := hrel
      by_cases hlt : n < K
      · exfalso; omega
      · obtain rfl : n = K := by omega
        clear h0
        go_wp2_with (first | (go_at_call 33; refine (WM.out _).mono ?_; rintro e w' ⟨rfl, rfl⟩) | (go_at_call 34; refine (C2.out _).mono ?_; rintro e w' ⟨rfl, rfl⟩))
        go_ret2
        exact ⟨rfl, rfl⟩
theorem rparse_pos_o (c : UInt8) (x : List UInt8) (c1 : c ≠ 43) (c2 : c ≠ 45) (w : World) (hl : ((c :: x) : List UInt8).length ≤ 9223372036854775806) (h1 : ((c :: x) : List UInt8) ≠ [78, 97, 78]) (h2 : ((c :: x) : List UInt8) ≠ [73, 78, 70]) (m e : List UInt8) (bl : Nat) (be : Bool)
    (PA : Hid (∀ w, Calls Tryd.prog 32 #[str (c :: x)] w fun e' w' => e' = .returned (five m bl e be true) ∧ w = w')) (hml : m.length ≤ 15) (hel : e.length ≤ 3) (hmd : Db.AllDig m) (hed : Db.AllDig e) (hbl : bl ≤ 15) (X : Int) (hX : Db.sg be * (Db.val e : Int) - bl = X) (hf1 : 0 ≤ X) (hf2 : X ≤ 22) :
    Calls Tryd.prog 17 #[str (c :: x)] w fun e w' => e = .returned (.tuple #[.float .f64 (Db.csign false (Db.mag m X)), .bool true]) ∧ w = w' := by
  have hc0 := fun p => ba_get (c :: x) 0 c rfl p
  simp only [List.length_cons] at hl
  have g1 : ((c.toNat : Int) == 43) = false := by rw [beq_eq_false_iff_ne]; intro e; exact c1 (UInt8.toNat_inj.1 (by show c.toNat = 43; omega))
  have g2 : ((c.toNat : Int) == 45) = false := by rw [beq_eq_false_iff_ne]; intro e; exact c2 (UInt8.toNat_inj.1 (by show c.toNat = 45; omega))
  clear c1 c2
  have b1 : (((c :: x) : List UInt8) == [78, 97, 78]) = false := beq_eq_false_iff_ne.2 h1
  have b2 : (((c :: x) : List UInt8) == [73, 78, 70]) = false := beq_eq_false_iff_ne.2 h2
  clear h1 h2
  unfold five at PA
  have hel0 : e.length ≤ 15 := by omega
  have WE := hid (fun w => rwhole_any e w hel0 hed)
  have hve : Db.val e < 1000 := Nat.lt_of_lt_of_le (Db.val_lt' e hed) (by have := Nat.pow_le_pow_right (n := 10) (by omega) hel; simpa using this)
  have WM := hid (fun w => rwhole_any m w hml hmd)
  have hval : Db.val m < 1000000000000000 := Nat.lt_of_lt_of_le (Db.val_lt' m hmd) (Db.ten_le hml)
  have C2 := hid (fun w => copysign_any (Db.mag m X) false w (Db.mag_lt m X))
  have sfv : Db.sgf false = 4607182418800017408 := rfl
  rw [sfv] at C2
  have hq := Db.mag_pos m X (by omega) (by omega) (by omega)
  obtain ⟨V, hV⟩ : ∃ V, V = Db.val m := ⟨_, rfl⟩
  obtain ⟨M, hM⟩ : ∃ M, M = Db.mag m X := ⟨_, rfl⟩
  rw [← hV] at WM hval hq
  rw [← hM] at hq C2 ⊢
  clear hV hM
  have hr := fun W => run_mul (P := Tryd.prog) (t := 33) hq W
  have hfl := Db.fl_eq V
  have h0 : Db.pw 0 = 4607182418800017408 := rfl
  have HS := hid Db.pw_step
  obtain ⟨K, hK⟩ : ∃ K : Nat, K = X.toNat := ⟨_, rfl⟩
  have HK := hid hK
  rw [← hK] at hr
  have hKX : (K : Int) = X := by omega
  have hK22 : K ≤ 22 := by omega
  clear hK hq
  obtain ⟨v, hv⟩ : ∃ v, v = Db.val e := ⟨_, rfl⟩
  rw [← hv] at WE hve hX
  clear hv hmd hed
  cases be
  · have hs : Db.sg false = 1 := rfl
    rw [hs] at hX
    have hX1 : (v : Int) - (bl : Int) = X := by omega
    clear hX hs
    go_enter Tryd.func17, Tryd.ntmps17
    go_wp2_with (first | (go_at_call 32; refine (PA.out _).mono ?_; rintro e w' ⟨rfl, rfl⟩) | (go_at_call 33; refine (WE.out _).mono ?_; rintro e w' ⟨rfl, rfl⟩))
    go_loop [11, 12] (fun s11 s12 => ∃ n : Nat, n ≤ K ∧ s11 = .float .f64 (Db.pw n) ∧ s12 = .int .i64 n) (fun _ s12 => K - (intOf s12).toNat)
    case atStart => exact ⟨0, by omega, rfl, rfl⟩
    case round =>
      obtain ⟨n, hn, rfl, rfl⟩ := hrel
      by_cases hlt : n < K
      · have hr2 := fun W => run_mul (P := Tryd.prog) (t := 33) (HS.out n (by omega)) W
        unfold Db.ten at hr2
        obtain ⟨x', hx'⟩ : ∃ x', x' = Db.pw n := ⟨_, rfl⟩
        obtain ⟨y', hy'⟩ : ∃ y', y' = Db.pw (n + 1) := ⟨_, rfl⟩
        have HY := hid hy'
        rw [← hx', ← hy'] at hr2
        rw [← hx']
        clear hx' hy' h0 hr
        go_wp2
        go_round
        case rel => exact ⟨n + 1, by omega, by rw [HY.out], by go_num⟩
        case measure => simp [intOf]; omega
      · obtain rfl : n = K := by omega
        clear h0
        go_wp2_with (first | (go_at_call 33; refine (WM.out _).mono ?_; rintro e w' ⟨rfl, rfl⟩) | (go_at_call 34; refine (C2.out _).mono ?_; rintro e w' ⟨rfl, rfl⟩))
        go_ret2
        exact ⟨rfl, rfl⟩
  · have hs : Db.sg true = -1 := rfl
    rw [hs] at hX
    have hX1 : -(v : Int) - (bl : Int) = X := by omega
    clear hX hs
    go_enter Tryd.func17, Tryd.ntmps17
    go_wp2_with (first | (go_at_call 32; refine (PA.out _).mono ?_; rintro e w' ⟨rfl, rfl⟩) | (go_at_call 33; refine (WE.out _).mono ?_; rintro e w' ⟨rfl, rfl⟩))
    go_loop [11, 12] (fun s11 s12 => ∃ n : Nat, n ≤ K ∧ s11 = .float .f64 (Db.pw n) ∧ s12 = .int .i64 n) (fun _ s12 => K - (intOf s12).toNat)
    case atStart => exact ⟨0, by omega, rfl, rfl⟩
    case round =>
      obtain ⟨n, hn, rfl, rfl⟩ := hrel
      by_cases hlt : n < K
      · exfalso; omega
      · obtain rfl : n = K := by omega
        clear h0
        go_wp2_with (first | (go_at_call 33; refine (WM.out _).mono ?_; rintro e w' ⟨rfl, rfl⟩) | (go_at_call 34; refine (C2.out _).mono ?_; rintro e w' ⟨rfl, rfl⟩))
        go_ret2
        exact ⟨rfl, rfl⟩

theorem Db.fin_num (a b r : List UInt8) (ha : Db.AllDig a) (hb : Db.AllDig b) : match Db.fin a b r with
    | none => Db.num' a b r = none
    | some (m, bl, e, be) => m = a ++ b ∧ bl = b.length ∧ Db.AllDig e ∧ e.length ≤ r.length ∧ Db.num' a b r = (if 15 < m.length ∨ 3 < e.length then none else if Db.sg be * (Db.val e : Int) - bl < -22 ∨ 22 < Db.sg be * (Db.val e : Int) - bl then none else some (m, Db.sg be * (Db.val e : Int) - bl)) := by
  by_cases hz : a.length + b.length = 0
  · have e1 : Db.fin a b r = none := by unfold Db.fin; rw [if_pos hz]
    rw [e1]
    show Db.num' a b r = none
    unfold Db.num'; rw [if_pos (Or.inl hz)]
  · have hn : ∀ e, Db.expo r = some e → Db.num' a b r = (if 15 < (a ++ b).length then none else if e - b.length < -22 ∨ 22 < e - b.length then none else some (a ++ b, e - b.length)) := by
      intro e he
      unfold Db.num'
      rw [List.length_append]
      by_cases h15 : 15 < a.length + b.length
      · rw [if_pos (Or.inr h15), if_pos h15]
      · rw [if_neg (by omega), if_neg h15, he]
    have hn0 : Db.expo r = none → Db.num' a b r = none := by
      intro he
      unfold Db.num'
      rw [he]
      split <;> rfl
    cases r with
    | nil =>
      have e1 : Db.fin a b [] = some (a ++ b, b.length, [], false) := by unfold Db.fin; rw [if_neg hz]
      rw [e1]
      refine ⟨rfl, rfl, fun i c h => by simp at h, Nat.le_refl _, ?_⟩
      rw [hn 0 rfl]
      simp [Db.sg, Db.val]
    | cons c y =>
      by_cases he : c = 101 ∨ c = 69
      · by_cases hd : (Db.sign y).2 = [] ∨ Db.digs (Db.sign y).2 ≠ (Db.sign y).2.length
        · have e1 : Db.fin a b (c :: y) = none := by unfold Db.fin; rw [if_neg hz]; simp only; rw [if_pos he, if_pos hd]
          rw [e1]
          show Db.num' a b (c :: y) = none
          refine hn0 ?_
          simp only [Db.expo]
          rw [if_pos he, if_neg]
          rintro ⟨h1, h2, h3⟩
          rcases hd with hd | hd
          · exact h2 hd
          · exact hd h1
        · have e1 : Db.fin a b (c :: y) = some (a ++ b, b.length, (Db.sign y).2, (Db.sign y).1) := by unfold Db.fin; rw [if_neg hz]; simp only; rw [if_pos he, if_neg hd]
          rw [e1]
          have d1 : (Db.sign y).2 ≠ [] := fun h => hd (Or.inl h)
          have d2 : Db.digs (Db.sign y).2 = (Db.sign y).2.length := Decidable.byContradiction fun h => hd (Or.inr h)
          refine ⟨rfl, rfl, Db.digs_eq_length d2, by have := Db.sign_len y; simp only [List.length_cons]; omega, ?_⟩
          by_cases h3 : (Db.sign y).2.length ≤ 3
          · rw [hn (Db.sg (Db.sign y).1 * (Db.val (Db.sign y).2 : Int)) (by simp only [Db.expo]; rw [if_pos he, if_pos ⟨d2, d1, h3⟩])]
            by_cases h15 : 15 < (a ++ b).length
            · rw [if_pos h15, if_pos (Or.inl h15)]
            · rw [if_neg h15, if_neg (show ¬ (15 < (a ++ b).length ∨ 3 < (Db.sign y).2.length) by omega)]
          · rw [hn0 (by simp only [Db.expo]; rw [if_pos he, if_neg (fun h => h3 h.2.2)])]
            rw [if_pos (Or.inr (by omega))]
      · have e1 : Db.fin a b (c :: y) = none := by unfold Db.fin; rw [if_neg hz]; simp only; rw [if_neg he]
        rw [e1]
        show Db.num' a b (c :: y) = none
        refine hn0 ?_
        simp only [Db.expo]
        rw [if_neg he]
theorem Db.cut_facts (l : List UInt8) : Db.AllDig (Db.cut l).1 ∧ Db.AllDig (Db.cut l).2.1 ∧ (Db.cut l).1.length + (Db.cut l).2.1.length ≤ l.length ∧ (Db.cut l).2.2.length ≤ l.length := by
  have hd := Db.digs_le l
  have hnil : Db.AllDig [] := fun i c h => by simp at h
  have hta : (l.take (Db.digs l)).length = Db.digs l := by rw [List.length_take]; omega
  cases hr : l.drop (Db.digs l) with
  | nil => rw [Db.cut_nil hr]; exact ⟨Db.digs_dig l, hnil, by simp; omega, by simp⟩
  | cons c x =>
    have hlen : (c :: x).length = l.length - Db.digs l := by rw [← hr, List.length_drop]
    simp only [List.length_cons] at hlen
    by_cases hc : c = 46
    · subst hc
      rw [Db.cut_pt hr]
      have hd2 := Db.digs_le x
      exact ⟨Db.digs_dig l, Db.digs_dig x, by show _ + (x.take (Db.digs x)).length ≤ _; rw [hta, List.length_take]; omega, by show (x.drop (Db.digs x)).length ≤ _; rw [List.length_drop]; omega⟩
    · rw [Db.cut_no hr hc]
      exact ⟨Db.digs_dig l, hnil, by show (l.take (Db.digs l)).length + 0 ≤ _; omega, by simp only [List.length_cons]; omega⟩
/-- What is behind the sign, with the sign. -/
def Db.prs (s : Bool) (t : List UInt8) : Option Nat :=
  if t = [73, 78, 70] then some (if s then 18442240474082181120 else 9218868437227405312) else
  match Db.nm t with
  | none => none
  | some (d, e) => some (Db.csign s (Db.mag d e))
theorem Db.parse_prs (l : List UInt8) (h : l ≠ [78, 97, 78]) : Db.parse l = Db.prs (Db.sign l).1 (Db.sign l).2 := by unfold Db.parse Db.prs; rw [if_neg h]; rfl
def ansOf (o : Option Nat) : Value := .tuple #[.float .f64 (o.getD 0), .bool o.isSome]
theorem rparse_form_p (t : List UInt8) (w : World) (hl : ((45 :: t) : List UInt8).length ≤ 9223372036854775806) (h1 : ((45 :: t) : List UInt8) ≠ [78, 97, 78]) :
    Calls Tryd.prog 17 #[str (45 :: t)] w fun e w' => e = .returned (ansOf (Db.prs true t)) ∧ w = w' := by
  by_cases h2 : t = [73, 78, 70]
  · have e1 : Db.prs true t = some 18442240474082181120 := by unfold Db.prs; rw [if_pos h2]; rfl
    rw [e1]
    exact rparse_inf_p t w hl h2
  · have hT : (t : List UInt8).length ≤ 9223372036854775806 := by first | exact hl | (simp only [List.length_cons] at hl; omega)
    have PA := hid (fun w => rparts_any t w hT)
    obtain ⟨f1, f2, f3, f4⟩ := Db.cut_facts t
    have FN := Db.fin_num _ _ (Db.cut t).2.2 f1 f2
    have hp : Db.prs true t = match Db.num' (Db.cut t).1 (Db.cut t).2.1 (Db.cut t).2.2 with
      | none => none
      | some (d, e) => some (Db.csign true (Db.mag d e)) := by unfold Db.prs; rw [if_neg h2]; rfl
    rw [hp]
    clear hp
    cases hf : Db.fin (Db.cut t).1 (Db.cut t).2.1 (Db.cut t).2.2 with
    | none =>
      rw [hf] at FN PA
      simp only at FN
      rw [FN]
      exact rparse_none_p t w hl h1 h2 PA
    | some q =>
      obtain ⟨m, bl, e, be⟩ := q
      rw [hf] at FN PA
      simp only at FN
      obtain ⟨hm, hbl, hed, hel, hq⟩ := FN
      have hmd : Db.AllDig m := by rw [hm]; exact f1.append f2
      have hml : m.length = (Db.cut t).1.length + (Db.cut t).2.1.length := by rw [hm, List.length_append]
      rw [hq]
      by_cases hb : 15 < m.length ∨ 3 < e.length
      · rw [if_pos hb]
        exact rparse_long_p t w hl h1 h2 m e bl be PA (by omega) (by omega) hb
      · rw [if_neg hb]
        by_cases hr : Db.sg be * (Db.val e : Int) - bl < -22 ∨ 22 < Db.sg be * (Db.val e : Int) - bl
        · rw [if_pos hr]
          exact rparse_far_p t w hl h1 h2 m e bl be PA (by omega) (by omega) hmd hed (by omega) hr
        · rw [if_neg hr]
          by_cases hx : Db.sg be * (Db.val e : Int) - bl < 0
          · exact rparse_neg_p t w hl h1 h2 m e bl be PA (by omega) (by omega) hmd hed (by omega) _ rfl (by omega) hx
          · exact rparse_pos_p t w hl h1 h2 m e bl be PA (by omega) (by omega) hmd hed (by omega) _ rfl (by omega) (by omega)
theorem rparse_form_q (t : List UInt8) (w : World) (hl : ((43 :: t) : List UInt8).length ≤ 9223372036854775806) (h1 : ((43 :: t) : List UInt8) ≠ [78, 97, 78]) :
    Calls Tryd.prog 17 #[str (43 :: t)] w fun e w' => e = .returned (ansOf (Db.prs false t)) ∧ w = w' := by
  by_cases h2 : t = [73, 78, 70]
  · have e1 : Db.prs false t = some 9218868437227405312 := by unfold Db.prs; rw [if_pos h2]; rfl
    rw [e1]
    exact rparse_inf_q t w hl h2
  · have hT : (t : List UInt8).length ≤ 9223372036854775806 := by first | exact hl | (simp only [List.length_cons] at hl; omega)
    have PA := hid (fun w => rparts_any t w hT)
    obtain ⟨f1, f2, f3, f4⟩ := Db.cut_facts t
    have FN := Db.fin_num _ _ (Db.cut t).2.2 f1 f2
    have hp : Db.prs false t = match Db.num' (Db.cut t).1 (Db.cut t).2.1 (Db.cut t).2.2 with
      | none => none
      | some (d, e) => some (Db.csign false (Db.mag d e)) := by unfold Db.prs; rw [if_neg h2]; rfl
    rw [hp]
    clear hp
    cases hf : Db.fin (Db.cut t).1 (Db.cut t).2.1 (Db.cut t).2.2 with
    | none =>
      rw [hf] at FN PA
      simp only at FN
      rw [FN]
      exact rparse_none_q t w hl h1 h2 PA
    | some q =>
      obtain ⟨m, bl, e, be⟩ := q
      rw [hf] at FN PA
      simp only at FN
      obtain ⟨hm, hbl, hed, hel, hq⟩ := FN
      have hmd : Db.AllDig m := by rw [hm]; exact f1.append f2
      have hml : m.length = (Db.cut t).1.length + (Db.cut t).2.1.length := by rw [hm, List.length_append]
      rw [hq]
      by_cases hb : 15 < m.length ∨ 3 < e.length
      · rw [if_pos hb]
        exact rparse_long_q t w hl h1 h2 m e bl be PA (by omega) (by omega) hb
      · rw [if_neg hb]
        by_cases hr : Db.sg be * (Db.val e : Int) - bl < -22 ∨ 22 < Db.sg be * (Db.val e : Int) - bl
        · rw [if_pos hr]
          exact rparse_far_q t w hl h1 h2 m e bl be PA (by omega) (by omega) hmd hed (by omega) hr
        · rw [if_neg hr]
          by_cases hx : Db.sg be * (Db.val e : Int) - bl < 0
          · exact rparse_neg_q t w hl h1 h2 m e bl be PA (by omega) (by omega) hmd hed (by omega) _ rfl (by omega) hx
          · exact rparse_pos_q t w hl h1 h2 m e bl be PA (by omega) (by omega) hmd hed (by omega) _ rfl (by omega) (by omega)
theorem rparse_form_n  (w : World) (hl : ([] : List UInt8).length ≤ 9223372036854775806) (h1 : ([] : List UInt8) ≠ [78, 97, 78]) :
    Calls Tryd.prog 17 #[str []] w fun e w' => e = .returned (ansOf (Db.prs false [])) ∧ w = w' := by
  by_cases h2 : ([] : List UInt8) = [73, 78, 70]
  · cases h2
  · have hT : ([] : List UInt8).length ≤ 9223372036854775806 := by first | exact hl | (simp only [List.length_cons] at hl; omega)
    have PA := hid (fun w => rparts_any [] w hT)
    obtain ⟨f1, f2, f3, f4⟩ := Db.cut_facts []
    have FN := Db.fin_num _ _ (Db.cut []).2.2 f1 f2
    have hp : Db.prs false [] = match Db.num' (Db.cut []).1 (Db.cut []).2.1 (Db.cut []).2.2 with
      | none => none
      | some (d, e) => some (Db.csign false (Db.mag d e)) := by unfold Db.prs; rw [if_neg h2]; rfl
    rw [hp]
    clear hp
    cases hf : Db.fin (Db.cut []).1 (Db.cut []).2.1 (Db.cut []).2.2 with
    | none =>
      rw [hf] at FN PA
      simp only at FN
      rw [FN]
      exact rparse_none_n  w hl h1 h2 PA
    | some q =>
      obtain ⟨m, bl, e, be⟩ := q
      rw [hf] at FN PA
      simp only at FN
      obtain ⟨hm, hbl, hed, hel, hq⟩ := FN
      have hmd : Db.AllDig m := by rw [hm]; exact f1.append f2
      have hml : m.length = (Db.cut []).1.length + (Db.cut []).2.1.length := by rw [hm, List.length_append]
      rw [hq]
      by_cases hb : 15 < m.length ∨ 3 < e.length
      · rw [if_pos hb]
        exact rparse_long_n  w hl h1 h2 m e bl be PA (by omega) (by omega) hb
      · rw [if_neg hb]
        by_cases hr : Db.sg be * (Db.val e : Int) - bl < -22 ∨ 22 < Db.sg be * (Db.val e : Int) - bl
        · rw [if_pos hr]
          exact rparse_far_n  w hl h1 h2 m e bl be PA (by omega) (by omega) hmd hed (by omega) hr
        · rw [if_neg hr]
          by_cases hx : Db.sg be * (Db.val e : Int) - bl < 0
          · exact rparse_neg_n  w hl h1 h2 m e bl be PA (by omega) (by omega) hmd hed (by omega) _ rfl (by omega) hx
          · exact rparse_pos_n  w hl h1 h2 m e bl be PA (by omega) (by omega) hmd hed (by omega) _ rfl (by omega) (by omega)
theorem rparse_form_o (c : UInt8) (x : List UInt8) (c1 : c ≠ 43) (c2 : c ≠ 45) (w : World) (hl : ((c :: x) : List UInt8).length ≤ 9223372036854775806) (h1 : ((c :: x) : List UInt8) ≠ [78, 97, 78]) :
    Calls Tryd.prog 17 #[str (c :: x)] w fun e w' => e = .returned (ansOf (Db.prs false (c :: x))) ∧ w = w' := by
  by_cases h2 : (c :: x) = [73, 78, 70]
  · have e1 : Db.prs false (c :: x) = some 9218868437227405312 := by unfold Db.prs; rw [if_pos h2]; rfl
    rw [e1]
    exact rparse_inf_o c x c1 c2 w hl h2
  · have hT : ((c :: x) : List UInt8).length ≤ 9223372036854775806 := by first | exact hl | (simp only [List.length_cons] at hl; omega)
    have PA := hid (fun w => rparts_any (c :: x) w hT)
    obtain ⟨f1, f2, f3, f4⟩ := Db.cut_facts (c :: x)
    have FN := Db.fin_num _ _ (Db.cut (c :: x)).2.2 f1 f2
    have hp : Db.prs false (c :: x) = match Db.num' (Db.cut (c :: x)).1 (Db.cut (c :: x)).2.1 (Db.cut (c :: x)).2.2 with
      | none => none
      | some (d, e) => some (Db.csign false (Db.mag d e)) := by unfold Db.prs; rw [if_neg h2]; rfl
    rw [hp]
    clear hp
    cases hf : Db.fin (Db.cut (c :: x)).1 (Db.cut (c :: x)).2.1 (Db.cut (c :: x)).2.2 with
    | none =>
      rw [hf] at FN PA
      simp only at FN
      rw [FN]
      exact rparse_none_o c x c1 c2 w hl h1 h2 PA
    | some q =>
      obtain ⟨m, bl, e, be⟩ := q
      rw [hf] at FN PA
      simp only at FN
      obtain ⟨hm, hbl, hed, hel, hq⟩ := FN
      have hmd : Db.AllDig m := by rw [hm]; exact f1.append f2
      have hml : m.length = (Db.cut (c :: x)).1.length + (Db.cut (c :: x)).2.1.length := by rw [hm, List.length_append]
      rw [hq]
      by_cases hb : 15 < m.length ∨ 3 < e.length
      · rw [if_pos hb]
        exact rparse_long_o c x c1 c2 w hl h1 h2 m e bl be PA (by omega) (by omega) hb
      · rw [if_neg hb]
        by_cases hr : Db.sg be * (Db.val e : Int) - bl < -22 ∨ 22 < Db.sg be * (Db.val e : Int) - bl
        · rw [if_pos hr]
          exact rparse_far_o c x c1 c2 w hl h1 h2 m e bl be PA (by omega) (by omega) hmd hed (by omega) hr
        · rw [if_neg hr]
          by_cases hx : Db.sg be * (Db.val e : Int) - bl < 0
          · exact rparse_neg_o c x c1 c2 w hl h1 h2 m e bl be PA (by omega) (by omega) hmd hed (by omega) _ rfl (by omega) hx
          · exact rparse_pos_o c x c1 c2 w hl h1 h2 m e bl be PA (by omega) (by omega) hmd hed (by omega) _ rfl (by omega) (by omega)
theorem rparse_any (l : List UInt8) (w : World) (hl : l.length ≤ 9223372036854775806) :
    Calls Tryd.prog 17 #[str l] w fun e w' => e = .returned (.tuple #[.float .f64 ((Db.parse l).getD 0), .bool (Db.parse l).isSome]) ∧ w = w' := by
  by_cases h1 : l = [78, 97, 78]
  · subst h1
    exact rparse_nan w
  · rw [Db.parse_prs l h1]
    cases l with
    | nil => exact rparse_form_n w hl h1
    | cons c x =>
      by_cases c2 : c = 45
      · subst c2
        exact rparse_form_p x w hl h1
      · by_cases c1 : c = 43
        · subst c1
          exact rparse_form_q x w hl h1
        · have e1 : Db.sign (c :: x) = (false, c :: x) := by simp only [Db.sign]; rw [if_neg c2, if_neg c1]
          rw [e1]
          exact rparse_form_o c x c1 c2 w hl h1
end Go.Proofs.YtmooppakneoidaaDoor
