/- double's parseUnsigned. -/
import Derived.Test.YtmooppakneoidaaDoorDbl
import Derived.Test.YtmooppakneoidaaDoorFloat
namespace Go.Proofs.YtmooppakneoidaaDoor
set_option linter.unusedVariables false
set_option linter.unusedSimpArgs false
open Go.ChangeShapes Go.WideShapes Go.ChangeAt Go.RowKit

/-! ### the floats of it -/
namespace Db
def fl (n : Nat) : Nat := Fl.F.nearest false n 0
theorem one_eq : Fl.F.nearest false 1 0 = one := by decide +kernel
theorem ten_eq : Fl.F.nearest false 10 0 = ten := by decide +kernel
theorem isN_ten : Fl.IsN 10 ten := by
  have := Fl.isN_small 10 (by omega) (by omega)
  rwa [ten_eq] at this
theorem five_lt {k : Nat} (h : k ≤ 22) : 5 ^ k < 9007199254740992 := Nat.lt_of_le_of_lt (Nat.pow_le_pow_right (n := 5) (by omega) h) (by decide)
theorem isN_pow10 (n k : Nat) (h0 : 0 < n) (h1 : n * 5 ^ k < 9007199254740992) (hk : k ≤ 900) : Fl.IsN (n * 10 ^ k) (fl (n * 10 ^ k)) := by
  have e : n * 10 ^ k = n * 5 ^ k * 2 ^ k := by rw [Nat.mul_assoc, ← Nat.mul_pow]
  unfold fl
  rw [e]
  exact Fl.isN_of _ k (Nat.mul_pos h0 (Nat.pow_pos (by omega))) h1 hk
theorem isN_pw : ∀ k, k ≤ 22 → Fl.IsN (10 ^ k) (pw k) := by
  intro k
  induction k with
  | zero =>
    intro _
    have := Fl.isN_small 1 (by omega) (by omega)
    rwa [one_eq] at this
  | succ k ih =>
    intro h
    have h1 := ih (by omega)
    have h2 := isN_pow10 1 (k + 1) (by omega) (by rw [Nat.one_mul]; exact five_lt h) (by omega)
    rw [Nat.one_mul] at h2
    have h3 := Fl.mul_isN h1 isN_ten (z := fl (10 ^ (k + 1))) (by rw [← Nat.pow_succ]; exact h2)
    have e : pw (k + 1) = fl (10 ^ (k + 1)) := by
      show ((FloatKind.f64.format.mul (pw k) ten)).getD 0 = _
      rw [show FloatKind.f64.format.mul (pw k) ten = some (fl (10 ^ (k + 1))) from h3]; rfl
    rw [e]; exact h2
theorem fl_read (n : Nat) (h : n < 9007199254740992) : ∃ m p, Fl.F.read (fl n) = .number false m p := by
  rcases Nat.eq_zero_or_pos n with rfl | h0
  · exact ⟨0, -1074, by decide +kernel⟩
  · obtain ⟨q, e, hr, _⟩ := (Fl.isN_small n h0 h).read
    exact ⟨_, _, hr⟩
theorem fl_eq (V : Nat) : floatOfInt FloatKind.f64 (V : Int) = fl V := by
  have h : decide ((V : Int) < 0) = false := by rw [decide_eq_false_iff_not]; omega
  show Fl.F.write (.number (decide ((V : Int) < 0)) (V : Int).natAbs 0) = _
  rw [h]; rfl
/-- The number of digits and a power of ten. -/
def mag (d : List UInt8) (e : Int) : Nat := if e < 0 then (Fl.F.div (fl (val d)) (pw (-e).toNat)).getD 0 else (Fl.F.mul (fl (val d)) (pw e.toNat)).getD 0
theorem mag_neg (d : List UInt8) (e : Int) (hd : val d < 9007199254740992) (h1 : e < 0) (h2 : -22 ≤ e) : Fl.F.div (fl (val d)) (pw (-e).toNat) = some (mag d e) := by
  unfold mag
  rw [if_pos h1]
  obtain ⟨m, p, hr⟩ := fl_read (val d) hd
  obtain ⟨q, x, hr2, hq, _⟩ := (isN_pw (-e).toNat (by omega)).read
  unfold Ieee.Format.div
  rw [hr, hr2]
  simp only [Ieee.Datum.quotient, if_neg (show ¬ q = 0 by omega)]
  rfl
theorem mag_pos (d : List UInt8) (e : Int) (hd : val d < 9007199254740992) (h1 : ¬ e < 0) (h2 : e ≤ 22) : Fl.F.mul (fl (val d)) (pw e.toNat) = some (mag d e) := by
  unfold mag
  rw [if_neg h1]
  obtain ⟨m, p, hr⟩ := fl_read (val d) hd
  obtain ⟨q, x, hr2, hq, _⟩ := (isN_pw e.toNat (by omega)).read
  unfold Ieee.Format.mul
  rw [hr, hr2]
  rfl
end Db

theorem cp_nil (w : World) : Calls Tryd.prog 66 #[str [], .string ⟨#[46]⟩] w fun e w' => e = .returned (.tuple #[str [], .bool false]) ∧ w = w' := by
  go_enter Tryd.func66, Tryd.ntmps66
  go_wp2
  go_ret2
  exact ⟨rfl, rfl⟩
theorem cp_yes (l : List UInt8) (w : World) (hl : l.length ≤ 9223372036854775806) : Calls Tryd.prog 66 #[str (46 :: l), .string ⟨#[46]⟩] w fun e w' => e = .returned (.tuple #[str l, .bool true]) ∧ w = w' := by
  have hx := ba_head 46 l
  have hy := ba_tail 46 l
  go_enter Tryd.func66, Tryd.ntmps66
  go_wp2
  go_ret2
  exact ⟨rfl, rfl⟩
theorem cp_no (c : UInt8) (l : List UInt8) (w : World) (hl : l.length ≤ 9223372036854775806) (hc : c ≠ 46) : Calls Tryd.prog 66 #[str (c :: l), .string ⟨#[46]⟩] w fun e w' => e = .returned (.tuple #[str (c :: l), .bool false]) ∧ w = w' := by
  have hx := ba_head c l
  have b1 : ([c] == [46]) = false := by simp [hc]
  clear hc
  go_enter Tryd.func66, Tryd.ntmps66
  go_wp2
  go_ret2
  exact ⟨rfl, rfl⟩

theorem ba_append (a b : List UInt8) : (⟨a.toArray⟩ : ByteArray) ++ ⟨b.toArray⟩ = ⟨(a ++ b).toArray⟩ := by
  apply ByteArray.ext
  simp
theorem ba_append_nil (a : List UInt8) : (⟨a.toArray⟩ : ByteArray) ++ (⟨#[]⟩ : ByteArray) = ⟨a.toArray⟩ := by
  apply ByteArray.ext
  simp
set_option maxHeartbeats 1000000
theorem puns_1_none (l x r : List UInt8) (w : World) (hl : l.length ≤ 9223372036854775806) (hx : x.length ≤ l.length) (C2 : Hid (∀ w, Calls Tryd.prog 68 #[str x] w fun e w' => e = .returned (.tuple #[str [], str r]) ∧ ∃ q, w' = w.drewN q))
    (C1 : Hid (∀ w, Calls Tryd.prog 68 #[str l] w fun e w' => e = .returned (.tuple #[str [], str (46 :: x)]) ∧ ∃ q, w' = w.drewN q)) :
    Calls Tryd.prog 53 #[str l] w fun e w' => e = .returned (.tuple #[.float .f64 0, .bool false]) ∧ ∃ q, w' = w.drewN q := by
  have CP := hid (fun w => cp_yes x w (by omega))
  go_enter Tryd.func53, Tryd.ntmps53
  go_wp2_with fail
  refine (C1.out _).mono ?_
  rintro e w' ⟨rfl, q1, rfl⟩
  go_wp2_with (go_at_call 66; refine (CP.out _).mono ?_; rintro e w' ⟨rfl, rfl⟩)
  refine (C2.out _).mono ?_
  rintro e w' ⟨rfl, q2, rfl⟩
  go_wp2_with (first
    | (go_at_call 66; refine (CP.out _).mono ?_; rintro e w' ⟨rfl, rfl⟩)
    | (go_at_call 69; refine (EX.out _).mono ?_; rintro e w' ⟨rfl, q3, rfl⟩)
    | (go_at_call 70; refine (DV.out _).mono ?_; rintro e w' ⟨rfl, rfl⟩)
    | (go_at_call 71; refine (PW.out _).mono ?_; rintro e w' ⟨rfl, rfl⟩))
  go_ret2
  exact ⟨rfl, _, rfl⟩
theorem puns_1_many (l a : List UInt8) (x b r : List UInt8) (hx : x.length ≤ l.length) (C2 : Hid (∀ w, Calls Tryd.prog 68 #[str x] w fun e w' => e = .returned (.tuple #[str b, str r]) ∧ ∃ q, w' = w.drewN q)) (w : World) (hl : l.length ≤ 9223372036854775806) (ha : a.length ≤ l.length) (hab : a.length + b.length ≤ l.length) (hr : r.length ≤ l.length)
    (C1 : Hid (∀ w, Calls Tryd.prog 68 #[str l] w fun e w' => e = .returned (.tuple #[str a, str (46 :: x)]) ∧ ∃ q, w' = w.drewN q)) (hn : 15 < a.length + b.length) :
    Calls Tryd.prog 53 #[str l] w fun e w' => e = .returned (.tuple #[.float .f64 0, .bool false]) ∧ ∃ q, w' = w.drewN q := by
  have CP := hid (fun w => cp_yes x w (by omega))
  have z0 : ((a.length : Int) + b.length == 0) = false := beq_eq_false_iff_ne.2 (by omega)
  go_enter Tryd.func53, Tryd.ntmps53
  go_wp2_with fail
  refine (C1.out _).mono ?_
  rintro e w' ⟨rfl, q1, rfl⟩
  go_wp2_with (go_at_call 66; refine (CP.out _).mono ?_; rintro e w' ⟨rfl, rfl⟩)
  refine (C2.out _).mono ?_
  rintro e w' ⟨rfl, q2, rfl⟩
  go_wp2_with (first
    | (go_at_call 66; refine (CP.out _).mono ?_; rintro e w' ⟨rfl, rfl⟩)
    | (go_at_call 69; refine (EX.out _).mono ?_; rintro e w' ⟨rfl, q3, rfl⟩)
    | (go_at_call 70; refine (DV.out _).mono ?_; rintro e w' ⟨rfl, rfl⟩)
    | (go_at_call 71; refine (PW.out _).mono ?_; rintro e w' ⟨rfl, rfl⟩))
  go_ret2
  exact ⟨rfl, _, rfl⟩
theorem puns_1_noexp (l a : List UInt8) (x b r : List UInt8) (hx : x.length ≤ l.length) (C2 : Hid (∀ w, Calls Tryd.prog 68 #[str x] w fun e w' => e = .returned (.tuple #[str b, str r]) ∧ ∃ q, w' = w.drewN q)) (w : World) (hl : l.length ≤ 9223372036854775806) (ha : a.length ≤ l.length) (hab : a.length + b.length ≤ l.length) (hr : r.length ≤ l.length)
    (C1 : Hid (∀ w, Calls Tryd.prog 68 #[str l] w fun e w' => e = .returned (.tuple #[str a, str (46 :: x)]) ∧ ∃ q, w' = w.drewN q)) (hn1 : 1 ≤ a.length + b.length) (hn : a.length + b.length ≤ 15) (he : Db.expo r = none) :
    Calls Tryd.prog 53 #[str l] w fun e w' => e = .returned (.tuple #[.float .f64 0, .bool false]) ∧ ∃ q, w' = w.drewN q := by
  have CP := hid (fun w => cp_yes x w (by omega))
  have EX := hid (fun w => expo_any r w (by omega))
  rw [he] at EX
  clear he
  have z0 : ((a.length : Int) + b.length == 0) = false := beq_eq_false_iff_ne.2 (by omega)
  go_enter Tryd.func53, Tryd.ntmps53
  go_wp2_with fail
  refine (C1.out _).mono ?_
  rintro e w' ⟨rfl, q1, rfl⟩
  go_wp2_with (go_at_call 66; refine (CP.out _).mono ?_; rintro e w' ⟨rfl, rfl⟩)
  refine (C2.out _).mono ?_
  rintro e w' ⟨rfl, q2, rfl⟩
  go_wp2_with (first
    | (go_at_call 66; refine (CP.out _).mono ?_; rintro e w' ⟨rfl, rfl⟩)
    | (go_at_call 69; refine (EX.out _).mono ?_; rintro e w' ⟨rfl, q3, rfl⟩)
    | (go_at_call 70; refine (DV.out _).mono ?_; rintro e w' ⟨rfl, rfl⟩)
    | (go_at_call 71; refine (PW.out _).mono ?_; rintro e w' ⟨rfl, rfl⟩))
  go_ret2
  exact ⟨rfl, _, rfl⟩
theorem puns_1_far (l a : List UInt8) (x b r : List UInt8) (hx : x.length ≤ l.length) (C2 : Hid (∀ w, Calls Tryd.prog 68 #[str x] w fun e w' => e = .returned (.tuple #[str b, str r]) ∧ ∃ q, w' = w.drewN q)) (w : World) (hl : l.length ≤ 9223372036854775806) (ha : a.length ≤ l.length) (hab : a.length + b.length ≤ l.length) (hr : r.length ≤ l.length)
    (C1 : Hid (∀ w, Calls Tryd.prog 68 #[str l] w fun e w' => e = .returned (.tuple #[str a, str (46 :: x)]) ∧ ∃ q, w' = w.drewN q)) (hn1 : 1 ≤ a.length + b.length) (hn : a.length + b.length ≤ 15) (ve : Int) (he : Db.expo r = some ve) (hv1 : -999 ≤ ve) (hv2 : ve ≤ 999) (hf : ve - b.length < -22 ∨ 22 < ve - b.length) :
    Calls Tryd.prog 53 #[str l] w fun e w' => e = .returned (.tuple #[.float .f64 0, .bool false]) ∧ ∃ q, w' = w.drewN q := by
  have CP := hid (fun w => cp_yes x w (by omega))
  have EX := hid (fun w => expo_any r w (by omega))
  rw [he] at EX
  simp only [Option.getD_some, Option.isSome_some] at EX
  clear he
  have z0 : ((a.length : Int) + b.length == 0) = false := beq_eq_false_iff_ne.2 (by omega)
  rcases hf with hf | hf
  all_goals
    go_enter Tryd.func53, Tryd.ntmps53
    go_wp2_with fail
    refine (C1.out _).mono ?_
    rintro e w' ⟨rfl, q1, rfl⟩
    go_wp2_with (go_at_call 66; refine (CP.out _).mono ?_; rintro e w' ⟨rfl, rfl⟩)
    refine (C2.out _).mono ?_
    rintro e w' ⟨rfl, q2, rfl⟩
    go_wp2_with (first
      | (go_at_call 66; refine (CP.out _).mono ?_; rintro e w' ⟨rfl, rfl⟩)
      | (go_at_call 69; refine (EX.out _).mono ?_; rintro e w' ⟨rfl, q3, rfl⟩)
      | (go_at_call 70; refine (DV.out _).mono ?_; rintro e w' ⟨rfl, rfl⟩)
      | (go_at_call 71; refine (PW.out _).mono ?_; rintro e w' ⟨rfl, rfl⟩))
    go_ret2
    exact ⟨rfl, _, rfl⟩
theorem puns_1_good (l a : List UInt8) (x b r : List UInt8) (hx : x.length ≤ l.length) (C2 : Hid (∀ w, Calls Tryd.prog 68 #[str x] w fun e w' => e = .returned (.tuple #[str b, str r]) ∧ ∃ q, w' = w.drewN q)) (w : World) (hl : l.length ≤ 9223372036854775806) (ha : a.length ≤ l.length) (hab : a.length + b.length ≤ l.length) (hr : r.length ≤ l.length)
    (C1 : Hid (∀ w, Calls Tryd.prog 68 #[str l] w fun e w' => e = .returned (.tuple #[str a, str (46 :: x)]) ∧ ∃ q, w' = w.drewN q)) (hn1 : 1 ≤ a.length + b.length) (hn : a.length + b.length ≤ 15) (ve : Int) (he : Db.expo r = some ve) (hv1 : -999 ≤ ve) (hv2 : ve ≤ 999) (hf1 : -22 ≤ ve - b.length) (hf2 : ve - b.length ≤ 22) (hd : Db.AllDig (a ++ b)) :
    Calls Tryd.prog 53 #[str l] w fun e w' => e = .returned (.tuple #[.float .f64 (Db.mag (a ++ b) (ve - b.length)), .bool true]) ∧ ∃ q, w' = w.drewN q := by
  have CP := hid (fun w => cp_yes x w (by omega))
  have EX := hid (fun w => expo_any r w (by omega))
  rw [he] at EX
  simp only [Option.getD_some, Option.isSome_some] at EX
  clear he
  have z0 : ((a.length : Int) + b.length == 0) = false := beq_eq_false_iff_ne.2 (by omega)
  have hDl : (a ++ b).length ≤ 15 := by rw [List.length_append]; exact hn
  have DV := hid (fun w => dvalue_any (a ++ b) w hDl hd)
  have hval : Db.val (a ++ b) < 1000000000000000 := Nat.lt_of_lt_of_le (Db.val_lt' _ hd) (Db.ten_le hDl)
  have happ := ba_append a b
  have hmn := Db.mag_neg (a ++ b) (ve - b.length) (by omega)
  have hmp := Db.mag_pos (a ++ b) (ve - b.length) (by omega)
  obtain ⟨V, hV⟩ : ∃ V, V = Db.val (a ++ b) := ⟨_, rfl⟩
  obtain ⟨M, hM⟩ : ∃ M, M = Db.mag (a ++ b) (ve - b.length) := ⟨_, rfl⟩
  rw [← hV] at DV hval hmn hmp
  rw [← hM] at hmn hmp ⊢
  obtain ⟨D, hD⟩ : ∃ D, D = a ++ b := ⟨_, rfl⟩
  rw [← hD] at DV happ hDl
  obtain ⟨X, hX⟩ : ∃ X, ve - b.length = X := ⟨_, rfl⟩
  rw [hX] at hf1 hf2 hmn hmp
  clear hD hd hV hM
  have hfl := Db.fl_eq V
  by_cases hneg : X < 0
  · have hr := fun W => run_div (P := Tryd.prog) (t := 33) (hmn hneg hf1) W
    have PW := hid (fun w => pow_any (-X).toNat w (by omega))
    rw [Int.toNat_of_nonneg (by omega)] at PW
    clear hmn hmp
    go_enter Tryd.func53, Tryd.ntmps53
    go_wp2_with fail
    refine (C1.out _).mono ?_
    rintro e w' ⟨rfl, q1, rfl⟩
    go_wp2_with (go_at_call 66; refine (CP.out _).mono ?_; rintro e w' ⟨rfl, rfl⟩)
    refine (C2.out _).mono ?_
    rintro e w' ⟨rfl, q2, rfl⟩
    go_wp2_with (first
      | (go_at_call 66; refine (CP.out _).mono ?_; rintro e w' ⟨rfl, rfl⟩)
      | (go_at_call 69; refine (EX.out _).mono ?_; rintro e w' ⟨rfl, q3, rfl⟩)
      | (go_at_call 70; refine (DV.out _).mono ?_; rintro e w' ⟨rfl, rfl⟩)
      | (go_at_call 71; refine (PW.out _).mono ?_; rintro e w' ⟨rfl, rfl⟩))
    go_ret2
    exact ⟨rfl, _, rfl⟩
  · have hr := fun W => run_mul (P := Tryd.prog) (t := 33) (hmp hneg hf2) W
    have PW := hid (fun w => pow_any (X).toNat w (by omega))
    rw [Int.toNat_of_nonneg (by omega)] at PW
    clear hmn hmp
    go_enter Tryd.func53, Tryd.ntmps53
    go_wp2_with fail
    refine (C1.out _).mono ?_
    rintro e w' ⟨rfl, q1, rfl⟩
    go_wp2_with (go_at_call 66; refine (CP.out _).mono ?_; rintro e w' ⟨rfl, rfl⟩)
    refine (C2.out _).mono ?_
    rintro e w' ⟨rfl, q2, rfl⟩
    go_wp2_with (first
      | (go_at_call 66; refine (CP.out _).mono ?_; rintro e w' ⟨rfl, rfl⟩)
      | (go_at_call 69; refine (EX.out _).mono ?_; rintro e w' ⟨rfl, q3, rfl⟩)
      | (go_at_call 70; refine (DV.out _).mono ?_; rintro e w' ⟨rfl, rfl⟩)
      | (go_at_call 71; refine (PW.out _).mono ?_; rintro e w' ⟨rfl, rfl⟩))
    go_ret2
    exact ⟨rfl, _, rfl⟩
theorem puns_2_none (l : List UInt8) (w : World) (hl : l.length ≤ 9223372036854775806) (hr : ([] : List UInt8).length ≤ l.length)
    (C1 : Hid (∀ w, Calls Tryd.prog 68 #[str l] w fun e w' => e = .returned (.tuple #[str [], str ([])]) ∧ ∃ q, w' = w.drewN q)) :
    Calls Tryd.prog 53 #[str l] w fun e w' => e = .returned (.tuple #[.float .f64 0, .bool false]) ∧ ∃ q, w' = w.drewN q := by
  have CP := hid (fun w => cp_nil w)
  go_enter Tryd.func53, Tryd.ntmps53
  go_wp2_with fail
  refine (C1.out _).mono ?_
  rintro e w' ⟨rfl, q1, rfl⟩
  go_wp2_with (first
    | (go_at_call 66; refine (CP.out _).mono ?_; rintro e w' ⟨rfl, rfl⟩)
    | (go_at_call 69; refine (EX.out _).mono ?_; rintro e w' ⟨rfl, q3, rfl⟩)
    | (go_at_call 70; refine (DV.out _).mono ?_; rintro e w' ⟨rfl, rfl⟩)
    | (go_at_call 71; refine (PW.out _).mono ?_; rintro e w' ⟨rfl, rfl⟩))
  go_ret2
  exact ⟨rfl, _, rfl⟩
theorem puns_2_many (l a : List UInt8) (w : World) (hl : l.length ≤ 9223372036854775806) (ha : a.length ≤ l.length) (hr : ([] : List UInt8).length ≤ l.length)
    (C1 : Hid (∀ w, Calls Tryd.prog 68 #[str l] w fun e w' => e = .returned (.tuple #[str a, str ([])]) ∧ ∃ q, w' = w.drewN q)) (hn : 15 < a.length) :
    Calls Tryd.prog 53 #[str l] w fun e w' => e = .returned (.tuple #[.float .f64 0, .bool false]) ∧ ∃ q, w' = w.drewN q := by
  have CP := hid (fun w => cp_nil w)
  have z0 : ((a.length : Int) == 0) = false := beq_eq_false_iff_ne.2 (by omega)
  go_enter Tryd.func53, Tryd.ntmps53
  go_wp2_with fail
  refine (C1.out _).mono ?_
  rintro e w' ⟨rfl, q1, rfl⟩
  go_wp2_with (first
    | (go_at_call 66; refine (CP.out _).mono ?_; rintro e w' ⟨rfl, rfl⟩)
    | (go_at_call 69; refine (EX.out _).mono ?_; rintro e w' ⟨rfl, q3, rfl⟩)
    | (go_at_call 70; refine (DV.out _).mono ?_; rintro e w' ⟨rfl, rfl⟩)
    | (go_at_call 71; refine (PW.out _).mono ?_; rintro e w' ⟨rfl, rfl⟩))
  go_ret2
  exact ⟨rfl, _, rfl⟩
theorem puns_2_noexp (l a : List UInt8) (w : World) (hl : l.length ≤ 9223372036854775806) (ha : a.length ≤ l.length) (hr : ([] : List UInt8).length ≤ l.length)
    (C1 : Hid (∀ w, Calls Tryd.prog 68 #[str l] w fun e w' => e = .returned (.tuple #[str a, str ([])]) ∧ ∃ q, w' = w.drewN q)) (hn1 : 1 ≤ a.length) (hn : a.length ≤ 15) (he : Db.expo ([] : List UInt8) = none) :
    Calls Tryd.prog 53 #[str l] w fun e w' => e = .returned (.tuple #[.float .f64 0, .bool false]) ∧ ∃ q, w' = w.drewN q := by
  have CP := hid (fun w => cp_nil w)
  have EX := hid (fun w => expo_any ([] : List UInt8) w (by simp))
  rw [he] at EX
  clear he
  have z0 : ((a.length : Int) == 0) = false := beq_eq_false_iff_ne.2 (by omega)
  go_enter Tryd.func53, Tryd.ntmps53
  go_wp2_with fail
  refine (C1.out _).mono ?_
  rintro e w' ⟨rfl, q1, rfl⟩
  go_wp2_with (first
    | (go_at_call 66; refine (CP.out _).mono ?_; rintro e w' ⟨rfl, rfl⟩)
    | (go_at_call 69; refine (EX.out _).mono ?_; rintro e w' ⟨rfl, q3, rfl⟩)
    | (go_at_call 70; refine (DV.out _).mono ?_; rintro e w' ⟨rfl, rfl⟩)
    | (go_at_call 71; refine (PW.out _).mono ?_; rintro e w' ⟨rfl, rfl⟩))
  go_ret2
  exact ⟨rfl, _, rfl⟩
theorem puns_2_far (l a : List UInt8) (w : World) (hl : l.length ≤ 9223372036854775806) (ha : a.length ≤ l.length) (hr : ([] : List UInt8).length ≤ l.length)
    (C1 : Hid (∀ w, Calls Tryd.prog 68 #[str l] w fun e w' => e = .returned (.tuple #[str a, str ([])]) ∧ ∃ q, w' = w.drewN q)) (hn1 : 1 ≤ a.length) (hn : a.length ≤ 15) (ve : Int) (he : Db.expo ([] : List UInt8) = some ve) (hv1 : -999 ≤ ve) (hv2 : ve ≤ 999) (hf : ve < -22 ∨ 22 < ve) :
    Calls Tryd.prog 53 #[str l] w fun e w' => e = .returned (.tuple #[.float .f64 0, .bool false]) ∧ ∃ q, w' = w.drewN q := by
  have CP := hid (fun w => cp_nil w)
  have EX := hid (fun w => expo_any ([] : List UInt8) w (by simp))
  rw [he] at EX
  simp only [Option.getD_some, Option.isSome_some] at EX
  clear he
  have z0 : ((a.length : Int) == 0) = false := beq_eq_false_iff_ne.2 (by omega)
  rcases hf with hf | hf
  all_goals
    go_enter Tryd.func53, Tryd.ntmps53
    go_wp2_with fail
    refine (C1.out _).mono ?_
    rintro e w' ⟨rfl, q1, rfl⟩
    go_wp2_with (first
      | (go_at_call 66; refine (CP.out _).mono ?_; rintro e w' ⟨rfl, rfl⟩)
      | (go_at_call 69; refine (EX.out _).mono ?_; rintro e w' ⟨rfl, q3, rfl⟩)
      | (go_at_call 70; refine (DV.out _).mono ?_; rintro e w' ⟨rfl, rfl⟩)
      | (go_at_call 71; refine (PW.out _).mono ?_; rintro e w' ⟨rfl, rfl⟩))
    go_ret2
    exact ⟨rfl, _, rfl⟩
theorem puns_2_good (l a : List UInt8) (w : World) (hl : l.length ≤ 9223372036854775806) (ha : a.length ≤ l.length) (hr : ([] : List UInt8).length ≤ l.length)
    (C1 : Hid (∀ w, Calls Tryd.prog 68 #[str l] w fun e w' => e = .returned (.tuple #[str a, str ([])]) ∧ ∃ q, w' = w.drewN q)) (hn1 : 1 ≤ a.length) (hn : a.length ≤ 15) (ve : Int) (he : Db.expo ([] : List UInt8) = some ve) (hv1 : -999 ≤ ve) (hv2 : ve ≤ 999) (hf1 : -22 ≤ ve) (hf2 : ve ≤ 22) (hd : Db.AllDig (a)) :
    Calls Tryd.prog 53 #[str l] w fun e w' => e = .returned (.tuple #[.float .f64 (Db.mag (a) (ve)), .bool true]) ∧ ∃ q, w' = w.drewN q := by
  have CP := hid (fun w => cp_nil w)
  have EX := hid (fun w => expo_any ([] : List UInt8) w (by simp))
  rw [he] at EX
  simp only [Option.getD_some, Option.isSome_some] at EX
  clear he
  have z0 : ((a.length : Int) == 0) = false := beq_eq_false_iff_ne.2 (by omega)
  have hDl : (a).length ≤ 15 := by exact hn
  have DV := hid (fun w => dvalue_any (a) w hDl hd)
  have hval : Db.val (a) < 1000000000000000 := Nat.lt_of_lt_of_le (Db.val_lt' _ hd) (Db.ten_le hDl)
  have happ := ba_append_nil a
  have hmn := Db.mag_neg (a) (ve) (by omega)
  have hmp := Db.mag_pos (a) (ve) (by omega)
  obtain ⟨V, hV⟩ : ∃ V, V = Db.val (a) := ⟨_, rfl⟩
  obtain ⟨M, hM⟩ : ∃ M, M = Db.mag (a) (ve) := ⟨_, rfl⟩
  rw [← hV] at DV hval hmn hmp
  rw [← hM] at hmn hmp ⊢
  obtain ⟨X, hX⟩ : ∃ X, ve = X := ⟨_, rfl⟩
  subst hX
  clear hd hV hM
  have hfl := Db.fl_eq V
  by_cases hneg : ve < 0
  · have hr := fun W => run_div (P := Tryd.prog) (t := 33) (hmn hneg hf1) W
    have PW := hid (fun w => pow_any (-ve).toNat w (by omega))
    rw [Int.toNat_of_nonneg (by omega)] at PW
    clear hmn hmp
    go_enter Tryd.func53, Tryd.ntmps53
    go_wp2_with fail
    refine (C1.out _).mono ?_
    rintro e w' ⟨rfl, q1, rfl⟩
    go_wp2_with (first
      | (go_at_call 66; refine (CP.out _).mono ?_; rintro e w' ⟨rfl, rfl⟩)
      | (go_at_call 69; refine (EX.out _).mono ?_; rintro e w' ⟨rfl, q3, rfl⟩)
      | (go_at_call 70; refine (DV.out _).mono ?_; rintro e w' ⟨rfl, rfl⟩)
      | (go_at_call 71; refine (PW.out _).mono ?_; rintro e w' ⟨rfl, rfl⟩))
    go_ret2
    exact ⟨rfl, _, rfl⟩
  · have hr := fun W => run_mul (P := Tryd.prog) (t := 33) (hmp hneg hf2) W
    have PW := hid (fun w => pow_any (ve).toNat w (by omega))
    rw [Int.toNat_of_nonneg (by omega)] at PW
    clear hmn hmp
    go_enter Tryd.func53, Tryd.ntmps53
    go_wp2_with fail
    refine (C1.out _).mono ?_
    rintro e w' ⟨rfl, q1, rfl⟩
    go_wp2_with (first
      | (go_at_call 66; refine (CP.out _).mono ?_; rintro e w' ⟨rfl, rfl⟩)
      | (go_at_call 69; refine (EX.out _).mono ?_; rintro e w' ⟨rfl, q3, rfl⟩)
      | (go_at_call 70; refine (DV.out _).mono ?_; rintro e w' ⟨rfl, rfl⟩)
      | (go_at_call 71; refine (PW.out _).mono ?_; rintro e w' ⟨rfl, rfl⟩))
    go_ret2
    exact ⟨rfl, _, rfl⟩
theorem puns_3_none (l : List UInt8) (c : UInt8) (x : List UInt8) (hc : c ≠ 46) (w : World) (hl : l.length ≤ 9223372036854775806) (hr : (c :: x).length ≤ l.length)
    (C1 : Hid (∀ w, Calls Tryd.prog 68 #[str l] w fun e w' => e = .returned (.tuple #[str [], str (c :: x)]) ∧ ∃ q, w' = w.drewN q)) :
    Calls Tryd.prog 53 #[str l] w fun e w' => e = .returned (.tuple #[.float .f64 0, .bool false]) ∧ ∃ q, w' = w.drewN q := by
  have CP := hid (fun w => cp_no c x w (by simp at hr; omega) hc)
  clear hc
  simp only [List.length_cons] at hr
  go_enter Tryd.func53, Tryd.ntmps53
  go_wp2_with fail
  refine (C1.out _).mono ?_
  rintro e w' ⟨rfl, q1, rfl⟩
  go_wp2_with (first
    | (go_at_call 66; refine (CP.out _).mono ?_; rintro e w' ⟨rfl, rfl⟩)
    | (go_at_call 69; refine (EX.out _).mono ?_; rintro e w' ⟨rfl, q3, rfl⟩)
    | (go_at_call 70; refine (DV.out _).mono ?_; rintro e w' ⟨rfl, rfl⟩)
    | (go_at_call 71; refine (PW.out _).mono ?_; rintro e w' ⟨rfl, rfl⟩))
  go_ret2
  exact ⟨rfl, _, rfl⟩
theorem puns_3_many (l a : List UInt8) (c : UInt8) (x : List UInt8) (hc : c ≠ 46) (w : World) (hl : l.length ≤ 9223372036854775806) (ha : a.length ≤ l.length) (hr : (c :: x).length ≤ l.length)
    (C1 : Hid (∀ w, Calls Tryd.prog 68 #[str l] w fun e w' => e = .returned (.tuple #[str a, str (c :: x)]) ∧ ∃ q, w' = w.drewN q)) (hn : 15 < a.length) :
    Calls Tryd.prog 53 #[str l] w fun e w' => e = .returned (.tuple #[.float .f64 0, .bool false]) ∧ ∃ q, w' = w.drewN q := by
  have CP := hid (fun w => cp_no c x w (by simp at hr; omega) hc)
  clear hc
  simp only [List.length_cons] at hr
  have z0 : ((a.length : Int) == 0) = false := beq_eq_false_iff_ne.2 (by omega)
  go_enter Tryd.func53, Tryd.ntmps53
  go_wp2_with fail
  refine (C1.out _).mono ?_
  rintro e w' ⟨rfl, q1, rfl⟩
  go_wp2_with (first
    | (go_at_call 66; refine (CP.out _).mono ?_; rintro e w' ⟨rfl, rfl⟩)
    | (go_at_call 69; refine (EX.out _).mono ?_; rintro e w' ⟨rfl, q3, rfl⟩)
    | (go_at_call 70; refine (DV.out _).mono ?_; rintro e w' ⟨rfl, rfl⟩)
    | (go_at_call 71; refine (PW.out _).mono ?_; rintro e w' ⟨rfl, rfl⟩))
  go_ret2
  exact ⟨rfl, _, rfl⟩
theorem puns_3_noexp (l a : List UInt8) (c : UInt8) (x : List UInt8) (hc : c ≠ 46) (w : World) (hl : l.length ≤ 9223372036854775806) (ha : a.length ≤ l.length) (hr : (c :: x).length ≤ l.length)
    (C1 : Hid (∀ w, Calls Tryd.prog 68 #[str l] w fun e w' => e = .returned (.tuple #[str a, str (c :: x)]) ∧ ∃ q, w' = w.drewN q)) (hn1 : 1 ≤ a.length) (hn : a.length ≤ 15) (he : Db.expo (c :: x) = none) :
    Calls Tryd.prog 53 #[str l] w fun e w' => e = .returned (.tuple #[.float .f64 0, .bool false]) ∧ ∃ q, w' = w.drewN q := by
  have CP := hid (fun w => cp_no c x w (by simp at hr; omega) hc)
  clear hc
  simp only [List.length_cons] at hr
  have EX := hid (fun w => expo_any (c :: x) w (by simp; omega))
  rw [he] at EX
  clear he
  have z0 : ((a.length : Int) == 0) = false := beq_eq_false_iff_ne.2 (by omega)
  go_enter Tryd.func53, Tryd.ntmps53
  go_wp2_with fail
  refine (C1.out _).mono ?_
  rintro e w' ⟨rfl, q1, rfl⟩
  go_wp2_with (first
    | (go_at_call 66; refine (CP.out _).mono ?_; rintro e w' ⟨rfl, rfl⟩)
    | (go_at_call 69; refine (EX.out _).mono ?_; rintro e w' ⟨rfl, q3, rfl⟩)
    | (go_at_call 70; refine (DV.out _).mono ?_; rintro e w' ⟨rfl, rfl⟩)
    | (go_at_call 71; refine (PW.out _).mono ?_; rintro e w' ⟨rfl, rfl⟩))
  go_ret2
  exact ⟨rfl, _, rfl⟩
theorem puns_3_far (l a : List UInt8) (c : UInt8) (x : List UInt8) (hc : c ≠ 46) (w : World) (hl : l.length ≤ 9223372036854775806) (ha : a.length ≤ l.length) (hr : (c :: x).length ≤ l.length)
    (C1 : Hid (∀ w, Calls Tryd.prog 68 #[str l] w fun e w' => e = .returned (.tuple #[str a, str (c :: x)]) ∧ ∃ q, w' = w.drewN q)) (hn1 : 1 ≤ a.length) (hn : a.length ≤ 15) (ve : Int) (he : Db.expo (c :: x) = some ve) (hv1 : -999 ≤ ve) (hv2 : ve ≤ 999) (hf : ve < -22 ∨ 22 < ve) :
    Calls Tryd.prog 53 #[str l] w fun e w' => e = .returned (.tuple #[.float .f64 0, .bool false]) ∧ ∃ q, w' = w.drewN q := by
  have CP := hid (fun w => cp_no c x w (by simp at hr; omega) hc)
  clear hc
  simp only [List.length_cons] at hr
  have EX := hid (fun w => expo_any (c :: x) w (by simp; omega))
  rw [he] at EX
  simp only [Option.getD_some, Option.isSome_some] at EX
  clear he
  have z0 : ((a.length : Int) == 0) = false := beq_eq_false_iff_ne.2 (by omega)
  rcases hf with hf | hf
  all_goals
    go_enter Tryd.func53, Tryd.ntmps53
    go_wp2_with fail
    refine (C1.out _).mono ?_
    rintro e w' ⟨rfl, q1, rfl⟩
    go_wp2_with (first
      | (go_at_call 66; refine (CP.out _).mono ?_; rintro e w' ⟨rfl, rfl⟩)
      | (go_at_call 69; refine (EX.out _).mono ?_; rintro e w' ⟨rfl, q3, rfl⟩)
      | (go_at_call 70; refine (DV.out _).mono ?_; rintro e w' ⟨rfl, rfl⟩)
      | (go_at_call 71; refine (PW.out _).mono ?_; rintro e w' ⟨rfl, rfl⟩))
    go_ret2
    exact ⟨rfl, _, rfl⟩
theorem puns_3_good (l a : List UInt8) (c : UInt8) (x : List UInt8) (hc : c ≠ 46) (w : World) (hl : l.length ≤ 9223372036854775806) (ha : a.length ≤ l.length) (hr : (c :: x).length ≤ l.length)
    (C1 : Hid (∀ w, Calls Tryd.prog 68 #[str l] w fun e w' => e = .returned (.tuple #[str a, str (c :: x)]) ∧ ∃ q, w' = w.drewN q)) (hn1 : 1 ≤ a.length) (hn : a.length ≤ 15) (ve : Int) (he : Db.expo (c :: x) = some ve) (hv1 : -999 ≤ ve) (hv2 : ve ≤ 999) (hf1 : -22 ≤ ve) (hf2 : ve ≤ 22) (hd : Db.AllDig (a)) :
    Calls Tryd.prog 53 #[str l] w fun e w' => e = .returned (.tuple #[.float .f64 (Db.mag (a) (ve)), .bool true]) ∧ ∃ q, w' = w.drewN q := by
  have CP := hid (fun w => cp_no c x w (by simp at hr; omega) hc)
  clear hc
  simp only [List.length_cons] at hr
  have EX := hid (fun w => expo_any (c :: x) w (by simp; omega))
  rw [he] at EX
  simp only [Option.getD_some, Option.isSome_some] at EX
  clear he
  have z0 : ((a.length : Int) == 0) = false := beq_eq_false_iff_ne.2 (by omega)
  have hDl : (a).length ≤ 15 := by exact hn
  have DV := hid (fun w => dvalue_any (a) w hDl hd)
  have hval : Db.val (a) < 1000000000000000 := Nat.lt_of_lt_of_le (Db.val_lt' _ hd) (Db.ten_le hDl)
  have happ := ba_append_nil a
  have hmn := Db.mag_neg (a) (ve) (by omega)
  have hmp := Db.mag_pos (a) (ve) (by omega)
  obtain ⟨V, hV⟩ : ∃ V, V = Db.val (a) := ⟨_, rfl⟩
  obtain ⟨M, hM⟩ : ∃ M, M = Db.mag (a) (ve) := ⟨_, rfl⟩
  rw [← hV] at DV hval hmn hmp
  rw [← hM] at hmn hmp ⊢
  obtain ⟨X, hX⟩ : ∃ X, ve = X := ⟨_, rfl⟩
  subst hX
  clear hd hV hM
  have hfl := Db.fl_eq V
  by_cases hneg : ve < 0
  · have hr := fun W => run_div (P := Tryd.prog) (t := 33) (hmn hneg hf1) W
    have PW := hid (fun w => pow_any (-ve).toNat w (by omega))
    rw [Int.toNat_of_nonneg (by omega)] at PW
    clear hmn hmp
    go_enter Tryd.func53, Tryd.ntmps53
    go_wp2_with fail
    refine (C1.out _).mono ?_
    rintro e w' ⟨rfl, q1, rfl⟩
    go_wp2_with (first
      | (go_at_call 66; refine (CP.out _).mono ?_; rintro e w' ⟨rfl, rfl⟩)
      | (go_at_call 69; refine (EX.out _).mono ?_; rintro e w' ⟨rfl, q3, rfl⟩)
      | (go_at_call 70; refine (DV.out _).mono ?_; rintro e w' ⟨rfl, rfl⟩)
      | (go_at_call 71; refine (PW.out _).mono ?_; rintro e w' ⟨rfl, rfl⟩))
    go_ret2
    exact ⟨rfl, _, rfl⟩
  · have hr := fun W => run_mul (P := Tryd.prog) (t := 33) (hmp hneg hf2) W
    have PW := hid (fun w => pow_any (ve).toNat w (by omega))
    rw [Int.toNat_of_nonneg (by omega)] at PW
    clear hmn hmp
    go_enter Tryd.func53, Tryd.ntmps53
    go_wp2_with fail
    refine (C1.out _).mono ?_
    rintro e w' ⟨rfl, q1, rfl⟩
    go_wp2_with (first
      | (go_at_call 66; refine (CP.out _).mono ?_; rintro e w' ⟨rfl, rfl⟩)
      | (go_at_call 69; refine (EX.out _).mono ?_; rintro e w' ⟨rfl, q3, rfl⟩)
      | (go_at_call 70; refine (DV.out _).mono ?_; rintro e w' ⟨rfl, rfl⟩)
      | (go_at_call 71; refine (PW.out _).mono ?_; rintro e w' ⟨rfl, rfl⟩))
    go_ret2
    exact ⟨rfl, _, rfl⟩
end Go.Proofs.YtmooppakneoidaaDoor
