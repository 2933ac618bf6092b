/- term's Number. -/
import Derived.Test.YtmooppakneoidaaDoorTmShow2
import Derived.Test.YtmooppakneoidaaDoorDbl3
namespace Go.Proofs.YtmooppakneoidaaDoor
set_option linter.unusedVariables false
set_option linter.unusedSimpArgs false
set_option maxRecDepth 100000
open Go.ChangeShapes Go.WideShapes Go.ChangeAt Go.RowKit

/-- The names of the types of numbers. -/
def xsd : List UInt8 := [104, 116, 116, 112, 58, 47, 47, 119, 119, 119, 46, 119, 51, 46, 111, 114, 103, 47, 50, 48, 48, 49, 47, 88, 77, 76, 83, 99, 104, 101, 109, 97, 35]
def tDouble : List UInt8 := xsd ++ [100, 111, 117, 98, 108, 101]
def tDecimal : List UInt8 := xsd ++ [100, 101, 99, 105, 109, 97, 108]
def tInteger : List UInt8 := xsd ++ [105, 110, 116, 101, 103, 101, 114]
def numT (x : List UInt8) : Bool := x == tDouble || x == tDecimal || x == tInteger
/-- A term's number. -/
def Tm.num (k : Int) (t x : List UInt8) : Option Nat := if k = 5 ∧ numT x = true then Db.parse t else none
theorem tnum_not (k : Int) (t x : List UInt8) (w : World) (h : k ≠ 5) :
    Calls Tryd.prog 16 #[tmV k t x] w fun e w' => e = .returned (.tuple #[.float .f64 0, .bool false]) ∧ Below w.heap.size w w' := by
  have b5 : (k == 5) = false := beq_eq_false_iff_ne.2 h
  have c5 : (k != 5) = true := by simp [bne, b5]
  clear h
  go_enter Tryd.func16, Tryd.ntmps16
  go_wp2
  go_ret2
  exact ⟨rfl, (Below.refl _ _).alloc (Nat.le_refl _) _⟩
set_option maxHeartbeats 1000000 in
theorem tnum_five (t x : List UInt8) (w : World) (hl : t.length ≤ 9223372036854775806) :
    Calls Tryd.prog 16 #[tmV 5 t x] w fun e w' => e = .returned (.tuple #[.float .f64 ((Tm.num 5 t x).getD 0), .bool (Tm.num 5 t x).isSome]) ∧ Below w.heap.size w w' := by
  have HW := hid (show Below w.heap.size w (w.alloc (.cells #[.int .i64 5, str t, str x] 23)) from (Below.refl _ _).alloc (Nat.le_refl _) _)
  have PA := hid (fun w => parse_any t w hl)
  unfold Tm.num numT
  obtain ⟨v, hv⟩ : ∃ v, v = (Db.parse t).getD 0 := ⟨_, rfl⟩
  obtain ⟨o, ho⟩ : ∃ v, v = (Db.parse t).isSome := ⟨_, rfl⟩
  rw [← hv, ← ho] at PA
  cases h1 : (x == tDouble)
  · cases h2 : (x == tDecimal)
    · cases h3 : (x == tInteger)
      · rw [if_neg (by simp)]
        unfold tDouble tDecimal tInteger xsd at *
        simp only [List.cons_append, List.nil_append] at h1 h2 h3
        clear hv ho
        go_enter Tryd.func16, Tryd.ntmps16
        go_wp2
        go_ret2
        exact ⟨rfl, HW.out⟩
      · rw [if_pos (by simp), ← hv, ← ho]
        unfold tDouble tDecimal tInteger xsd at *
        simp only [List.cons_append, List.nil_append] at h1 h2 h3
        clear hv ho
        go_enter Tryd.func16, Tryd.ntmps16
        go_wp2_with (go_at_call 29; refine (PA.out _).mono ?_; rintro e w' ⟨rfl, q, rfl⟩)
        go_ret2
        exact ⟨rfl, below_drawn HW.out q⟩
    · rw [if_pos (by simp), ← hv, ← ho]
      unfold tDouble tDecimal xsd at *
      simp only [List.cons_append, List.nil_append] at h1 h2
      clear hv ho
      go_enter Tryd.func16, Tryd.ntmps16
      go_wp2_with (go_at_call 29; refine (PA.out _).mono ?_; rintro e w' ⟨rfl, q, rfl⟩)
      go_ret2
      exact ⟨rfl, below_drawn HW.out q⟩
  · rw [if_pos (by simp), ← hv, ← ho]
    unfold tDouble xsd at *
    simp only [List.cons_append, List.nil_append] at h1
    clear hv ho
    go_enter Tryd.func16, Tryd.ntmps16
    go_wp2_with (go_at_call 29; refine (PA.out _).mono ?_; rintro e w' ⟨rfl, q, rfl⟩)
    go_ret2
    exact ⟨rfl, below_drawn HW.out q⟩
theorem tnum_any (k : Int) (t x : List UInt8) (w : World) (hl : t.length ≤ 9223372036854775806) :
    Calls Tryd.prog 16 #[tmV k t x] w fun e w' => e = .returned (.tuple #[.float .f64 ((Tm.num k t x).getD 0), .bool (Tm.num k t x).isSome]) ∧ Below w.heap.size w w' := by
  by_cases h : k = 5
  · subst h; exact tnum_five t x w hl
  · have e : Tm.num k t x = none := by unfold Tm.num; rw [if_neg (fun h2 => h h2.1)]
    rw [e]; exact tnum_not k t x w h
end Go.Proofs.YtmooppakneoidaaDoor
