/- What parseUnsigned answers, all cases in one; package math's little functions. -/
import Derived.Test.YtmooppakneoidaaDoorDbl2
import Derived.Laws.Externs
namespace Go.Proofs.YtmooppakneoidaaDoor
set_option linter.unusedVariables false
set_option linter.unusedSimpArgs false
open Go.ChangeShapes Go.WideShapes Go.ChangeAt Go.RowKit

namespace Db
/-- A number's float, nought where it is none. -/
def magO : Option (List UInt8 × Int) → Nat
  | none => 0
  | some (d, e) => mag d e
def num' (a b r : List UInt8) : Option (List UInt8 × Int) :=
  if a.length + b.length = 0 ∨ 15 < a.length + b.length then none else
  match expo r with
  | none => none
  | some e => if e - b.length < -22 ∨ 22 < e - b.length then none else some (a ++ b, e - b.length)
/-- The digits ahead of the point, those behind it, what is left. -/
def cut (l : List UInt8) : List UInt8 × List UInt8 × List UInt8 :=
  match l.drop (digs l) with
  | [] => (l.take (digs l), [], [])
  | c :: r => if c = 46 then (l.take (digs l), r.take (digs r), r.drop (digs r)) else (l.take (digs l), [], c :: r)
theorem cut_nil {l : List UInt8} (h : l.drop (digs l) = []) : cut l = (l.take (digs l), [], []) := by simp only [cut, h]
theorem cut_pt {l r : List UInt8} (h : l.drop (digs l) = 46 :: r) : cut l = (l.take (digs l), r.take (digs r), r.drop (digs r)) := by simp only [cut, h, if_true]
theorem cut_no {l r : List UInt8} {c : UInt8} (h : l.drop (digs l) = c :: r) (hc : c ≠ 46) : cut l = (l.take (digs l), [], c :: r) := by simp only [cut, h, if_neg hc]
/-- A number's digits and its power of ten. -/
def nm (l : List UInt8) : Option (List UInt8 × Int) := num' (cut l).1 (cut l).2.1 (cut l).2.2
theorem expo_bd (r : List UInt8) (e : Int) (h : expo r = some e) : -999 ≤ e ∧ e ≤ 999 := by
  cases r with
  | nil => simp [expo] at h; omega
  | cons c l =>
    simp only [expo] at h
    split at h
    · split at h
      · rename_i h1
        obtain ⟨h2, h3, h4⟩ := h1
        have hv := val_lt' _ (digs_eq_length h2)
        have hp : 10 ^ (sign l).2.length ≤ 10 ^ 3 := Nat.pow_le_pow_right (by omega) h4
        simp only [Option.some.injEq] at h
        have h5 : (10 : Nat) ^ 3 = 1000 := by decide
        have h6 : val (sign l).2 ≤ 999 := by omega
        rw [← h]
        cases (sign l).1 <;> simp [sg] <;> omega
      · cases h
    · cases h
end Db
theorem puns_one (l a b r r0 : List UInt8) (w : World) (hl : l.length ≤ 9223372036854775806) (ha : a.length ≤ l.length) (hab : a.length + b.length ≤ l.length) (hr : r.length ≤ l.length)
    (hda : Db.AllDig a) (hdb : Db.AllDig b)
    (C1 : Hid (∀ w, Calls Tryd.prog 68 #[str l] w fun e w' => e = .returned (.tuple #[str a, str r0]) ∧ ∃ q, w' = w.drewN q))
    (sh : (∃ x, r0 = 46 :: x ∧ x.length ≤ l.length ∧ Hid (∀ w, Calls Tryd.prog 68 #[str x] w fun e w' => e = .returned (.tuple #[str b, str r]) ∧ ∃ q, w' = w.drewN q)) ∨ (r0 = [] ∧ r = [] ∧ b = []) ∨ (∃ c x, c ≠ 46 ∧ r0 = c :: x ∧ r = c :: x ∧ b = [])) :
    Calls Tryd.prog 53 #[str l] w fun e w' => e = .returned (.tuple #[.float .f64 (Db.magO (Db.num' a b r)), .bool (Db.num' a b r).isSome]) ∧ ∃ q, w' = w.drewN q := by
  by_cases hn : a.length + b.length = 0 ∨ 15 < a.length + b.length
  · have e : Db.num' a b r = none := by unfold Db.num'; rw [if_pos hn]
    rw [e]
    rcases sh with ⟨x, rfl, hx, C2⟩ | ⟨rfl, rfl, rfl⟩ | ⟨c, x, hc, rfl, rfl, rfl⟩
    · rcases hn with hn | hn
      · obtain rfl : a = [] := List.eq_nil_of_length_eq_zero (by omega)
        obtain rfl : b = [] := List.eq_nil_of_length_eq_zero (by omega)
        exact puns_1_none l x r w hl hx C2 C1
      · exact puns_1_many l a x b r hx C2 w hl ha hab hr C1 hn
    · rcases hn with hn | hn
      · obtain rfl : a = [] := List.eq_nil_of_length_eq_zero (by simpa using hn)
        exact puns_2_none l w hl hr C1
      · exact puns_2_many l a w hl ha hr C1 (by simpa using hn)
    · rcases hn with hn | hn
      · obtain rfl : a = [] := List.eq_nil_of_length_eq_zero (by simpa using hn)
        exact puns_3_none l c x hc w hl hr C1
      · exact puns_3_many l a c x hc w hl ha hr C1 (by simpa using hn)
  · have hn1 : 1 ≤ a.length + b.length := by omega
    have hn2 : a.length + b.length ≤ 15 := by omega
    cases he : Db.expo r with
    | none =>
      have e : Db.num' a b r = none := by unfold Db.num'; rw [if_neg hn, he]
      rw [e]
      rcases sh with ⟨x, rfl, hx, C2⟩ | ⟨rfl, rfl, rfl⟩ | ⟨c, x, hc, rfl, rfl, rfl⟩
      · exact puns_1_noexp l a x b r hx C2 w hl ha hab hr C1 hn1 hn2 he
      · exact puns_2_noexp l a w hl ha hr C1 (by simpa using hn1) (by simpa using hn2) he
      · exact puns_3_noexp l a c x hc w hl ha hr C1 (by simpa using hn1) (by simpa using hn2) he
    | some ve =>
      obtain ⟨v1, v2⟩ := Db.expo_bd r ve he
      by_cases hf : ve - b.length < -22 ∨ 22 < ve - b.length
      · have e : Db.num' a b r = none := by unfold Db.num'; rw [if_neg hn, he]; simp only; rw [if_pos hf]
        rw [e]
        rcases sh with ⟨x, rfl, hx, C2⟩ | ⟨rfl, rfl, rfl⟩ | ⟨c, x, hc, rfl, rfl, rfl⟩
        · exact puns_1_far l a x b r hx C2 w hl ha hab hr C1 hn1 hn2 ve he v1 v2 hf
        · exact puns_2_far l a w hl ha hr C1 (by simpa using hn1) (by simpa using hn2) ve he v1 v2 (by simpa using hf)
        · exact puns_3_far l a c x hc w hl ha hr C1 (by simpa using hn1) (by simpa using hn2) ve he v1 v2 (by simpa using hf)
      · have e : Db.num' a b r = some (a ++ b, ve - b.length) := by unfold Db.num'; rw [if_neg hn, he]; simp only; rw [if_neg hf]
        rw [e]
        rcases sh with ⟨x, rfl, hx, C2⟩ | ⟨rfl, rfl, rfl⟩ | ⟨c, x, hc, rfl, rfl, rfl⟩
        · exact puns_1_good l a x b r hx C2 w hl ha hab hr C1 hn1 hn2 ve he v1 v2 (by omega) (by omega) (hda.append hdb)
        · have := puns_2_good l a w hl ha hr C1 (by simpa using hn1) (by simpa using hn2) ve he v1 v2 (by simp at hf; omega) (by simp at hf; omega) hda
          simpa [Db.magO] using this
        · have := puns_3_good l a c x hc w hl ha hr C1 (by simpa using hn1) (by simpa using hn2) ve he v1 v2 (by simp at hf; omega) (by simp at hf; omega) hda
          simpa [Db.magO] using this
theorem puns_any (l : List UInt8) (w : World) (hl : l.length ≤ 9223372036854775806) :
    Calls Tryd.prog 53 #[str l] w fun e w' => e = .returned (.tuple #[.float .f64 (Db.magO (Db.nm l)), .bool (Db.nm l).isSome]) ∧ ∃ q, w' = w.drewN q := by
  have hd := Db.digs_le l
  have C1 := hid (fun w => cutdigits_any l w (by omega))
  have hda := Db.digs_dig l
  have hta : (l.take (Db.digs l)).length = Db.digs l := by rw [List.length_take]; omega
  unfold Db.nm
  cases hr : l.drop (Db.digs l) with
  | nil =>
    rw [Db.cut_nil hr]
    rw [hr] at C1
    exact puns_one l (l.take (Db.digs l)) [] [] [] w hl (by omega) (by simp; omega) (by simp) hda (fun i c h => by simp at h) C1 (Or.inr (Or.inl ⟨rfl, rfl, rfl⟩))
  | cons c x =>
    have hlen : (c :: x).length = l.length - Db.digs l := by rw [← hr, List.length_drop]
    simp only [List.length_cons] at hlen
    rw [hr] at C1
    by_cases hc : c = 46
    · subst hc
      rw [Db.cut_pt hr]
      have hd2 := Db.digs_le x
      have C2 := hid (fun w => cutdigits_any x w (by omega))
      exact puns_one l (l.take (Db.digs l)) (x.take (Db.digs x)) (x.drop (Db.digs x)) (46 :: x) w hl (by omega) (by rw [hta, List.length_take]; omega) (by rw [List.length_drop]; omega) hda (Db.digs_dig x) C1 (Or.inl ⟨x, rfl, by omega, C2⟩)
    · rw [Db.cut_no hr hc]
      exact puns_one l (l.take (Db.digs l)) [] (c :: x) (c :: x) w hl (by omega) (by simp; omega) (by simp; omega) hda (fun i c h => by simp at h) C1 (Or.inr (Or.inr ⟨c, x, hc, rfl, rfl, rfl⟩))

/-! ### package math -/
theorem run_frombits (x : Nat) (w : World) : (callFunc 54 #[.int .u64 x]).run Tryd.prog w = .ok (.value (.float .f64 x)) w := by
  rw [run_callFunc_extern (e := Extern.MathFloatBits.float64frombits) Tryd.func54 (by kernel_rfl) (by kernel_rfl) (by kernel_rfl) (by kernel_rfl)]; rfl
theorem run_tobits (x : Nat) (w : World) : (callFunc 56 #[.float .f64 x]).run Tryd.prog w = .ok (.value (.int .u64 x)) w := by
  rw [run_callFunc_extern (e := Extern.MathFloatBits.float64bits) Tryd.func56 (by kernel_rfl) (by kernel_rfl) (by kernel_rfl) (by kernel_rfl)]; rfl
theorem nan_any (w : World) : Calls Tryd.prog 30 #[] w fun e w' => e = .returned (.float .f64 9221120237041090561) ∧ w = w' := by
  have fb : ∀ w, (callFunc 54 #[.int .u64 9221120237041090561]).run Tryd.prog w = .ok (.value (.float .f64 9221120237041090561)) w := fun w => run_frombits 9221120237041090561 w
  go_enter Tryd.func30, Tryd.ntmps30
  go_wp2
  go_ret
  exact ⟨rfl, rfl⟩
theorem inf_any (s : Bool) (w : World) : Calls Tryd.prog 31 #[.int .i64 (Db.sg s)] w fun e w' => e = .returned (.float .f64 (if s then 18442240474082181120 else 9218868437227405312)) ∧ w = w' := by
  cases s
  · have fb : ∀ w, (callFunc 54 #[.int .u64 9218868437227405312]).run Tryd.prog w = .ok (.value (.float .f64 9218868437227405312)) w := fun w => run_frombits 9218868437227405312 w
    show Calls Tryd.prog 31 #[.int .i64 1] w fun e w' => e = .returned (.float .f64 9218868437227405312) ∧ w = w'
    go_enter Tryd.func31, Tryd.ntmps31
    go_wp2
    go_ret
    exact ⟨rfl, rfl⟩
  · have fb : ∀ w, (callFunc 54 #[.int .u64 18442240474082181120]).run Tryd.prog w = .ok (.value (.float .f64 18442240474082181120)) w := fun w => run_frombits 18442240474082181120 w
    show Calls Tryd.prog 31 #[.int .i64 (-1)] w fun e w' => e = .returned (.float .f64 18442240474082181120) ∧ w = w'
    go_enter Tryd.func31, Tryd.ntmps31
    go_wp2
    go_ret
    exact ⟨rfl, rfl⟩
/-- The sign bit of a word. -/
def Db.neg (x : Nat) : Bool := decide (9223372036854775808 ≤ x)
theorem signbit_any (x : Nat) (w : World) (hx : x < 18446744073709551616) : Calls Tryd.prog 72 #[.float .f64 x] w fun e w' => e = .returned (.bool (Db.neg x)) ∧ w = w' := by
  have tb := fun w => run_tobits x w
  unfold Db.neg
  by_cases h : 9223372036854775808 ≤ x
  · have h1 : IntKind.i64.wrap (x : Int) = (x : Int) - 18446744073709551616 := by rw [IntKind.wrap_i64]; omega
    rw [decide_eq_true h]
    go_enter Tryd.func72, Tryd.ntmps72
    go_wp2
    go_ret
    exact ⟨ret_bool (by simp; omega), rfl⟩
  · have h1 : IntKind.i64.wrap (x : Int) = (x : Int) := by rw [IntKind.wrap_i64]; omega
    rw [decide_eq_false h]
    go_enter Tryd.func72, Tryd.ntmps72
    go_wp2
    go_ret
    exact ⟨ret_bool (by simp), rfl⟩
/-- A word with a sign. -/
def Db.csign (s : Bool) (x : Nat) : Nat := x % 9223372036854775808 + (if s then 9223372036854775808 else 0)
def Db.sgf (s : Bool) : Nat := if s then 13830554455654793216 else 4607182418800017408
theorem Db.andNot63 (x : Nat) (hx : x < 18446744073709551616) : bits BinOp.andNot IntKind.u64 (x : Int) 9223372036854775808 = ((x % 9223372036854775808 : Nat) : Int) := by
  have h := u64_andNot_nat x 9223372036854775808 hx (by omega)
  have e : x &&& (18446744073709551615 - 9223372036854775808) = x % 2 ^ 63 := Nat.and_two_pow_sub_one_eq_mod x 63
  rw [e] at h
  exact h
theorem Db.and63 (s : Bool) : bits BinOp.and IntKind.u64 ((Db.sgf s : Nat) : Int) 9223372036854775808 = ((if s then 9223372036854775808 else 0 : Nat) : Int) := by
  cases s <;> decide +kernel
theorem Db.or63 (y : Nat) (hy : y < 9223372036854775808) (s : Bool) : bits BinOp.or IntKind.u64 (y : Int) ((if s then 9223372036854775808 else 0 : Nat) : Int) = ((y + (if s then 9223372036854775808 else 0) : Nat) : Int) := by
  rw [u64_or_nat _ _ (by omega) (by split <;> omega)]
  congr 1
  cases s
  · simp
  · have := Nat.two_pow_add_eq_or_of_lt (i := 63) (b := y) hy 1
    simp only [if_true]
    rw [Nat.or_comm, show (9223372036854775808 : Nat) = 2 ^ 63 * 1 by rfl, ← this]; omega
theorem copysign_any (x : Nat) (s : Bool) (w : World) (hx : x < 18446744073709551616) : Calls Tryd.prog 34 #[.float .f64 x, .float .f64 (Db.sgf s)] w fun e w' => e = .returned (.float .f64 (Db.csign s x)) ∧ w = w' := by
  have t1 := fun w => run_tobits x w
  have t2 := fun w => run_tobits (Db.sgf s) w
  have f1 := fun w => run_frombits (Db.csign s x) w
  have a1 := Db.andNot63 x hx
  have a2 := Db.and63 s
  have a3 := Db.or63 (x % 9223372036854775808) (Nat.mod_lt _ (by omega)) s
  obtain ⟨y, hy⟩ : ∃ y, y = Db.sgf s := ⟨_, rfl⟩
  obtain ⟨u, hu⟩ : ∃ u, u = x % 9223372036854775808 := ⟨_, rfl⟩
  obtain ⟨v, hv⟩ : ∃ v : Nat, v = (if s then 9223372036854775808 else 0) := ⟨_, rfl⟩
  obtain ⟨r, hr⟩ : ∃ r, r = Db.csign s x := ⟨_, rfl⟩
  have e3 : u + v = r := by rw [hu, hv, hr]; rfl
  rw [← hu] at a1 a3
  rw [← hv] at a2 a3
  rw [e3] at a3
  rw [← hy] at t2 a2 ⊢
  rw [← hr] at f1 ⊢
  clear hy hu hv hr e3
  go_enter Tryd.func34, Tryd.ntmps34
  go_wp2
  go_ret
  exact ⟨rfl, rfl⟩

namespace Db
def parse (l : List UInt8) : Option Nat :=
  if l = [78, 97, 78] then some 9221120237041090561 else
  if (sign l).2 = [73, 78, 70] then some (if (sign l).1 then 18442240474082181120 else 9218868437227405312) else
  match nm (sign l).2 with
  | none => none
  | some (d, e) => some (csign (sign l).1 (mag d e))
theorem mag_lt (d : List UInt8) (e : Int) : mag d e < 18446744073709551616 := by
  unfold mag
  split
  · cases h : Fl.F.div (fl (val d)) (pw (-e).toNat) with
    | none => decide
    | some r => exact Fl.F.div_lt h
  · cases h : Fl.F.mul (fl (val d)) (pw e.toNat) with
    | none => decide
    | some r => exact Fl.F.mul_lt h
theorem sgf_eq (s : Bool) : floatOfInt FloatKind.f64 (sg s) = sgf s := by cases s <;> decide +kernel
end Db
theorem parse_any (l : List UInt8) (w : World) (hl : l.length ≤ 9223372036854775806) :
    Calls Tryd.prog 29 #[str l] w fun e w' => e = .returned (.tuple #[.float .f64 ((Db.parse l).getD 0), .bool (Db.parse l).isSome]) ∧ ∃ q, w' = w.drewN q := by
  have hsl := Db.sign_len l
  by_cases h1 : l = [78, 97, 78]
  · subst h1
    have NA := hid (fun w => nan_any w)
    go_enter Tryd.func29, Tryd.ntmps29
    go_wp2_with (go_at_call 30; refine (NA.out _).mono ?_; rintro e w' ⟨rfl, rfl⟩)
    go_ret2
    exact ⟨rfl, 0, rfl⟩
  · have b1 : (l == [78, 97, 78]) = false := beq_eq_false_iff_ne.2 h1
    have CS := hid (fun w => cutsign_any l w (by omega))
    have PU := hid (fun w => puns_any (Db.sign l).2 w (by omega))
    have IN := hid (fun w => inf_any (Db.sign l).1 w)
    have hp : Db.parse l = if (Db.sign l).2 = [73, 78, 70] then some (if (Db.sign l).1 then 18442240474082181120 else 9218868437227405312) else match Db.nm (Db.sign l).2 with
      | none => none
      | some (d, e) => some (Db.csign (Db.sign l).1 (Db.mag d e)) := by unfold Db.parse; rw [if_neg h1]
    have sf := Db.sgf_eq (Db.sign l).1
    have CP := hid (fun x w hx => copysign_any x (Db.sign l).1 w hx)
    obtain ⟨r, hr⟩ : ∃ r, r = (Db.sign l).2 := ⟨_, rfl⟩
    obtain ⟨s, hs⟩ : ∃ s, s = (Db.sign l).1 := ⟨_, rfl⟩
    rw [← hr] at CS PU hp
    rw [← hs] at CS IN hp sf CP
    obtain ⟨g, hg⟩ : ∃ g, g = Db.sg s := ⟨_, rfl⟩
    rw [← hg] at CS IN sf
    obtain ⟨iv, hiv⟩ : ∃ iv : Nat, iv = (if s then 18442240474082181120 else 9218868437227405312) := ⟨_, rfl⟩
    rw [← hiv] at IN hp
    rw [hp]
    clear hr hs hp hg hsl h1 hiv
    by_cases h2 : r = [73, 78, 70]
    · subst h2
      rw [if_pos rfl]
      go_enter Tryd.func29, Tryd.ntmps29
      go_wp2_with (first
        | (go_at_call 52; refine (CS.out _).mono ?_; rintro e w' ⟨rfl, rfl⟩)
        | (go_at_call 31; refine (IN.out _).mono ?_; rintro e w' ⟨rfl, rfl⟩))
      go_ret2
      exact ⟨rfl, 0, rfl⟩
    · have b2 : (r == [73, 78, 70]) = false := beq_eq_false_iff_ne.2 h2
      rw [if_neg h2]
      clear h2
      cases hn : Db.nm r with
      | none =>
        rw [hn] at PU
        clear hn
        go_enter Tryd.func29, Tryd.ntmps29
        go_wp2_with (first
          | (go_at_call 52; refine (CS.out _).mono ?_; rintro e w' ⟨rfl, rfl⟩)
          | (go_at_call 53; refine (PU.out _).mono ?_; rintro e w' ⟨rfl, q, rfl⟩))
        go_ret2
        exact ⟨rfl, _, rfl⟩
      | some de =>
        obtain ⟨d, e⟩ := de
        rw [hn] at PU
        have C2 := hid (fun w => CP.out (Db.mag d e) w (Db.mag_lt d e))
        simp only [Db.magO, Option.isSome_some] at PU
        obtain ⟨m, hm⟩ : ∃ m, m = Db.mag d e := ⟨_, rfl⟩
        rw [← hm] at PU C2
        show Calls Tryd.prog 29 #[str l] w fun e' w' => e' = .returned (.tuple #[.float .f64 (Db.csign s (Db.mag d e)), .bool true]) ∧ ∃ q, w' = w.drewN q
        rw [← hm]
        clear hn hm CP
        go_enter Tryd.func29, Tryd.ntmps29
        go_wp2_with (first
          | (go_at_call 52; refine (CS.out _).mono ?_; rintro e w' ⟨rfl, rfl⟩)
          | (go_at_call 53; refine (PU.out _).mono ?_; rintro e w' ⟨rfl, q, rfl⟩)
          | (go_at_call 34; refine (C2.out _).mono ?_; rintro e w' ⟨rfl, rfl⟩))
        go_ret2
        exact ⟨rfl, _, rfl⟩
end Go.Proofs.YtmooppakneoidaaDoor
