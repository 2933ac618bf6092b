/- A wave: what each law asks at its end. -/
import Derived.Test.YtpjflmocbmmmaaaWvNew
import Derived.Test.YtpjflmocbmmmaaaWvSel
namespace Go.Proofs.Ytpjflmocbmmmaaa
set_option linter.unusedVariables false
set_option linter.unusedSimpArgs false
set_option maxRecDepth 100000
open Go.ChangeShapes Go.WideShapes Go.ChangeAt Go.RowKit
theorem may_357 : Pm.May (([3, 7, 5] : List Nat).map fun x : Nat => (x : Int)) (3 : Nat) := by
  refine ⟨by decide, by decide, by decide, fun i hi => ?_⟩
  match i, hi with
  | 0, _ => decide
  | 1, _ => decide
  | 2, _ => decide
  | i + 3, hi => simp at hi; omega
theorem wlen_wave (p wd : Nat) (l : List Nat) (w : World) (h : IsWave w p l wd) : Calls Try.prog 14 #[.pointer (some ⟨p, 0, none⟩)] w fun e w' => e = .returned (.int .i64 l.length) ∧ w' = w := by
  obtain ⟨_, _, _, ad, cap, c0, _⟩ := h
  exact wlen_cell p _ w c0
theorem known_any (w : World) : Calls Try.prog 13 #[] w fun e w' => e = .returned (.bool true) ∧ Below w.heap.size w w' := by
  have hN : NatsAt (w.alloc (.cells #[.int .i64 3, .int .i64 7, .int .i64 5] 3)) (some ⟨w.heap.size, 0, none⟩) [3, 7, 5] := by
    refine Or.inr ⟨_, 0, rfl, fun i hi => ?_⟩
    match i, hi with
    | 0, _ => simp [go_sem]
    | 1, _ => simp [go_sem]
    | 2, _ => simp [go_sem]
    | i + 3, hi => simp at hi; omega
  have NW := hid (wnew_ok (some ⟨w.heap.size, 0, none⟩) 3 3 3 [3, 7, 5] _ rfl may_357 hN)
  clear hN
  have e1 : Wv.nxt (Wv.rng [3, 7, 5] 0 3) 4 = 5 := by decide
  have e2 : ([3, 7, 5] : List Nat).getD 1 0 = 7 := rfl
  have E1 := hid (fun p W (h : IsWave W p [3, 7, 5] 3) => by
    have := wnext_any p 3 [3, 7, 5] 0 3 4 W h
    rw [e1] at this; exact this)
  have E2 := hid (fun p W (h : IsWave W p [3, 7, 5] 3) => by
    have := wacc_in p 3 1 [3, 7, 5] W h (by decide)
    rw [e2] at this; exact this)
  have E3 := hid (fun p W (h : IsWave W p [3, 7, 5] 3) => by
    have := wlen_wave p 3 [3, 7, 5] W h
    rw [show ([3, 7, 5] : List Nat).length = 3 from rfl] at this; exact this)
  clear e1 e2
  go_enter Try.func13, Try.ntmps13
  go_wp2_with (first
    | (go_at_call 11; refine NW.out.mono ?_; rintro e w1 ⟨p, rfl, hB1, hF1⟩; have IW := hid (Fresh.it hF1))
    | (go_at_call 22; refine (E1.out p _ IW.out).mono ?_; rintro e w2 ⟨rfl, hB2⟩)
    | (go_at_call 15; refine (E2.out p _ (IW.out.keep hB2)).mono ?_; rintro e w3 ⟨rfl, hB3⟩)
    | (go_at_call 14; refine (E3.out p _ (IW.out.keep (below_then hB2 hB3))).mono ?_; rintro e w4 ⟨rfl, rfl⟩))
  go_ret
  have hz := hB1.size
  refine ⟨rfl, ?_⟩
  have h0 : Below w.heap.size w (w.alloc (.cells #[.int .i64 3, .int .i64 7, .int .i64 5] 3)) := (Below.refl _ _).alloc (Nat.le_refl _) _
  exact below_then (below_then (below_then h0 hB1) hB2) hB3
end Go.Proofs.Ytpjflmocbmmmaaa
