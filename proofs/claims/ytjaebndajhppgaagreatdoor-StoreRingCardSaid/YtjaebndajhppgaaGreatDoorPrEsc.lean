/- The program's reader of a line: a rune's digits; what stands behind a backslash. -/
import Derived.Test.YtjaebndajhppgaaGreatDoorPrHex
import Derived.Deep.RegionWith
namespace Go.Proofs.YtjaebndajhppgaaGreatDoor
set_option linter.unusedVariables false
set_option linter.unusedSimpArgs false
set_option maxRecDepth 100000
open Go.ChangeShapes Go.WideShapes Go.ChangeAt Go.RowKit
def ErrAt (w : World) : Prop := ∃ ev, w.cell? ⟨4, 0, none⟩ = some ev ∧ (ev = .nilIface ∨ ∃ te pe, ev = .iface te pe)
theorem ErrAt.keep {w w' : World} (h : ErrAt w) (hb : Below w.heap.size w w') : ErrAt w' := by
  obtain ⟨ev, h1, h2⟩ := h
  exact ⟨ev, (hb.cell (lt_of_cell h1)).trans h1, h2⟩
theorem ErrAt.but {q : Nat} {w w' : World} (h : ErrAt w) (hb : But q w w') (hq : q ≠ 4) : ErrAt w' := by
  obtain ⟨ev, h1, h2⟩ := h
  have hk := hb.block 4 (lt_of_cell h1) (by simpa using fun e => hq e.symm)
  refine ⟨ev, ?_, h2⟩
  rw [← h1]
  simp only [World.cell?, hk]
theorem hexL_take : ∀ (n : Nat) (s : List UInt8) (x : Nat), n ≤ s.length → Tm.hexL (s.take n).length (s.take n) x = Tm.hexL n s x
  | 0, s, x, _ => by simp [Tm.hexL]
  | n + 1, [], x, h => by simp at h
  | n + 1, c :: t, x, h => by
    simp only [List.length_cons] at h
    rw [List.take_succ_cons, List.length_cons]
    unfold Tm.hexL
    cases Tm.hexc c with
    | none => rfl
    | some d => exact hexL_take n t _ (by omega)
theorem hexL_lt : ∀ (n : Nat) (s : List UInt8) (x y : Nat), Tm.hexL n s x = some y → y < (x + 1) * 16 ^ n
  | 0, s, x, y, h => by
    unfold Tm.hexL at h; simp only [Option.some.injEq] at h; omega
  | n + 1, [], x, y, h => by unfold Tm.hexL at h; cases h
  | n + 1, c :: t, x, y, h => by
    unfold Tm.hexL at h
    cases hc : Tm.hexc c with
    | none => rw [hc] at h; cases h
    | some d =>
      rw [hc] at h
      have h2 := hexL_lt n t _ y h
      have hd : d < 16 := by
        unfold Tm.hexc at hc
        split at hc
        · simp only [Option.some.injEq] at hc; omega
        · split at hc
          · simp only [Option.some.injEq] at hc; omega
          · split at hc
            · simp only [Option.some.injEq] at hc; omega
            · cases hc
      rw [Nat.pow_succ, Nat.mul_comm (16 ^ n) 16, ← Nat.mul_assoc]
      exact Nat.lt_of_lt_of_le h2 (Nat.mul_le_mul_right _ (by omega))
theorem spu_some (s : List UInt8) (x : Nat) (w : World) (h0 : 0 < s.length) (h8 : s.length ≤ 8) (hx : Tm.hexL s.length s 0 = some x) :
    Calls Tryz.prog 260 #[str s, .int .i64 16, .int .i64 32] w fun e w' => e = .returned (.tuple #[.int .u64 (x : Nat), .nilIface]) ∧ Below w.heap.size w w' := by
  have IP := hid fun w => ipu_any s w h0 h8
  rw [hx] at IP
  have IP2 : Hid (∀ w, Calls Tryz.prog 271 #[str s, .int .i64 16, .int .i64 32] w fun e w' => e = .returned (.tuple #[.int .u64 (x : Nat), .nilIface]) ∧ Below w.heap.size w w') := IP
  clear IP
  go_enter Tryz.func260, Tryz.ntmps260
  go_wp2_with fail
  refine (IP2.out _).mono ?_
  rintro e w2 ⟨rfl, hb⟩
  have HB := hid hb
  clear hb
  go_wp2
  go_ret2
  exact ⟨rfl, HB.out⟩
theorem spu_none (s : List UInt8) (w : World) (hE : ErrAt w) (h0 : 0 < s.length) (h8 : s.length ≤ 8) (hx : Tm.hexL s.length s 0 = none) :
    Calls Tryz.prog 260 #[str s, .int .i64 16, .int .i64 32] w fun e w' => (∃ t a, e = .returned (.tuple #[.int .u64 0, .iface t (.pointer (some a))])) ∧ Below w.heap.size w w' := by
  have IP := hid fun w => ipu_any s w h0 h8
  rw [hx] at IP
  have IP2 : Hid (∀ w, Calls Tryz.prog 271 #[str s, .int .i64 16, .int .i64 32] w fun e w' => e = .returned (.tuple #[.int .u64 0, .iface 312 (.int .i64 2)]) ∧ Below w.heap.size w w') := IP
  have HE := hid hE
  clear IP hE
  go_enter Tryz.func260, Tryz.ntmps260
  go_wp2_with fail
  refine (IP2.out _).mono ?_
  rintro e w2 ⟨rfl, hb⟩
  have HB := hid hb
  obtain ⟨ev, k1, k2⟩ := HE.out.keep hb
  have TE := hid fun fn => Tryz.strconv_toError_syntax fn ⟨s.toArray⟩ 16 32 ev w2 (by simp [ByteArray.size]; omega) k1 k2
  clear hb k1 k2
  go_wp2_with fail
  refine (TE.out _).mono ?_
  rintro e w3 ⟨N, rfl, _, _, hb⟩
  have HB3 := hid (below_then HB.out hb)
  clear hb
  go_wp2
  go_ret2
  exact ⟨⟨_, _, rfl⟩, HB3.out⟩
def runeV (r : Option Nat) : Value := match r with
  | some x => .tuple #[.int .i32 (x : Nat), .bool true]
  | none => .tuple #[.int .i32 0, .bool false]
theorem vrune_any (x : Nat) (hx : x ≤ 1114111) (w : World) : Calls Tryz.prog 261 #[.int .i32 (x : Nat)] w fun e w' => e = .returned (.bool (decide (¬ (55296 ≤ x ∧ x ≤ 57343)))) ∧ w' = w := by
  have h := Tryz.utf8_ValidRune (x : Int) w
  have hv : Lib.validRune (x : Int) = decide (¬ (55296 ≤ x ∧ x ≤ 57343)) := by
    unfold Lib.validRune
    rw [Bool.eq_iff_iff]
    simp only [decide_eq_true_eq]
    omega
  rw [hv] at h
  exact h
end Go.Proofs.YtjaebndajhppgaaGreatDoor
