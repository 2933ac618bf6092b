/- A wave: Count and Rank. -/
import Derived.Test.YtagadfgginneeaaWvBelow
namespace Go.Proofs.Ytagadfgginneeaa
set_option linter.unusedVariables false
set_option maxRecDepth 100000
set_option linter.unusedSimpArgs false
open Go.ChangeShapes Go.WideShapes Go.ChangeAt Go.RowKit

theorem whold_any (p wd : Nat) (l : List Nat) (a b : Int) (w : World) (h : IsWave w p l wd) :
    Calls Try.prog 49 #[.pointer (some ⟨p, 0, none⟩), .int .i64 a, .int .i64 b] w fun e w' => e = .returned (.tuple #[.int .i64 (Wv.loEnd l.length a b : Nat), .int .i64 (Wv.hiEnd l.length b : Nat)]) ∧ w' = w := by
  obtain ⟨hw, hn, hlt, ad, cap, c0, c1, hL⟩ := h
  exact whold_core _ l.length a b w hn fun W hW => wlen_cell p _ W (by rw [hW]; exact c0)
theorem wtop_wave (p wd : Nat) (l : List Nat) (w : World) (h : IsWave w p l wd) :
    Calls Try.prog 73 #[.pointer (some ⟨p, 0, none⟩)] w fun e w' => e = .returned (.int .i64 ((2 ^ wd : Nat) - 1 : Int)) ∧ w' = w := by
  obtain ⟨hw, hn, hlt, ad, cap, c0, c1, hL⟩ := h
  exact wtop_any p wd ad cap w c1 hw
theorem whold_nil (a b : Int) (w : World) :
    Calls Try.prog 49 #[.pointer none, .int .i64 a, .int .i64 b] w fun e w' => e = .returned (.tuple #[.int .i64 0, .int .i64 0]) ∧ w' = w := by
  have := whold_core (.pointer none) 0 a b w (by omega) fun W hW => wlen_nil W
  have e1 : Wv.hiEnd 0 b ≤ 0 := Wv.hiEnd_le 0 b
  have e2 : Wv.loEnd 0 a b ≤ Wv.hiEnd 0 b := Wv.loEnd_le 0 a b
  rw [show Wv.hiEnd 0 b = 0 by omega, show Wv.loEnd 0 a b = 0 by omega] at this
  exact this
theorem wcount_nil (a b lo hi : Int) (w : World) :
    Calls Try.prog 58 #[.pointer none, .int .i64 a, .int .i64 b, .int .i64 lo, .int .i64 hi] w fun e w' => e = .returned (.int .i64 0) ∧ Below w.heap.size w w' := by
  go_enter Try.func58, Try.ntmps58
  go_wp2_with (go_at_call 49; refine (whold_nil _ _ _).mono ?_; rintro e w' ⟨rfl, rfl⟩)
  go_ret
  exact ⟨rfl, Below.refl _ _⟩
theorem wcount_any (p wd : Nat) (l : List Nat) (a b lo hi : Int) (w : World) (h : IsWave w p l wd) (hhi : -9223372036854775808 ≤ hi) :
    Calls Try.prog 58 #[.pointer (some ⟨p, 0, none⟩), .int .i64 a, .int .i64 b, .int .i64 lo, .int .i64 hi] w fun e w' => e = .returned (.int .i64 (Wv.cntR (Wv.rng l a b) lo hi : Nat)) ∧ Below w.heap.size w w' := by
  have h1 := Wv.loEnd_le l.length a b
  have h2 := Wv.hiEnd_le l.length b
  have hn := h.2.1
  have hw := h.1
  have HO := hid (fun W (hW : W = w) => by rw [hW]; exact whold_any p wd l a b w h : ∀ W, W = w → Calls Try.prog 49 #[.pointer (some ⟨p, 0, none⟩), .int .i64 a, .int .i64 b] W fun e w' => e = .returned (.tuple #[.int .i64 (Wv.loEnd l.length a b : Nat), .int .i64 (Wv.hiEnd l.length b : Nat)]) ∧ w' = w)
  have BL := hid (fun (x : Int) W (hW : Below w.heap.size w W) => wbelow_any p _ _ wd x l W (h.keep hW) h1 h2)
  have HT := hid (fun W (hW : W = w) => wtop_wave p wd l W (by rw [hW]; exact h))
  have hlt : ∀ y ∈ Wv.rng l a b, y < 2 ^ wd := fun y hy => h.2.2.1 y (Wv.rng_mem hy)
  have hlen := Wv.rng_length l a b
  have HC := hid (show (Wv.cntR (Wv.rng l a b) lo hi) = Wv.belowR (Wv.rng l a b) (min hi ((2 ^ wd : Nat) - 1 : Int) + 1) - Wv.belowR (Wv.rng l a b) lo by
    have e := Wv.cntR_eq (Wv.rng l a b) lo (min hi ((2 ^ wd : Nat) - 1 : Int))
    have e2 : Wv.cntR (Wv.rng l a b) lo (min hi ((2 ^ wd : Nat) - 1 : Int)) = Wv.cntR (Wv.rng l a b) lo hi := by
      unfold Wv.cntR
      apply List.countP_congr
      intro x hx
      have := hlt x hx
      simp only [Bool.and_eq_true, decide_eq_true_eq]; omega
    rw [← e2, e]; rfl)
  have hx : ∀ x, Wv.belowR (Wv.rng l a b) x ≤ 1000 := fun x => by have := Wv.belowR_le (Wv.rng l a b) x; omega
  have HX := hid hx
  have h20 : 2 ^ wd ≤ 1048576 := Nat.pow_le_pow_right (by omega) hw
  have hp := Nat.two_pow_pos wd
  unfold Wv.rng at HC HX hlen ⊢
  generalize Wv.seg l (Wv.loEnd l.length a b) (Wv.hiEnd l.length b) = s at *
  generalize Wv.loEnd l.length a b = A at *
  generalize Wv.hiEnd l.length b = B at *
  generalize 2 ^ wd = P at HT HC h20 hp
  obtain ⟨c, hc⟩ : ∃ c, c = Wv.cntR s lo hi := ⟨_, rfl⟩
  rw [← hc] at HC ⊢
  clear hlt hc h hx
  by_cases hab : A = B
  · subst hab
    have hs : s = [] := List.eq_nil_of_length_eq_zero (by omega)
    have hc : c = 0 := by rw [HC.out, hs]; rfl
    subst hc
    clear HC BL hs
    go_enter Try.func58, Try.ntmps58
    go_wp2_with (go_at_call 49; refine (HO.out _ rfl).mono ?_; rintro e w' ⟨rfl, rfl⟩)
    go_ret
    exact ⟨rfl, Below.refl _ _⟩
  · have hne : ((A : Int) == (B : Int)) = false := by rw [beq_eq_false_iff_ne]; omega
    clear hlen
    go_enter Try.func58, Try.ntmps58
    go_wp2_with (first
      | (go_at_call 49; refine (HO.out _ rfl).mono ?_; rintro e w' ⟨rfl, rfl⟩)
      | (go_at_call 73; refine (HT.out _ rfl).mono ?_; rintro e w' ⟨rfl, rfl⟩)
      | fail)
    · have e1 : min hi ((P : Int) - 1) + 1 = (P : Int) := by omega
      rw [e1] at HC
      have hx1 := HX.out ((P : Int))
      have hx2 := HX.out lo
      have B1 := hid (BL.out ((P : Int)))
      have B2 := hid (BL.out lo)
      generalize Wv.belowR s ((P : Int)) = y1 at HC B1 hx1
      generalize Wv.belowR s lo = y2 at HC B2 hx2
      clear BL HX e1
      refine (B1.out _ (Below.refl _ _)).mono ?_
      rintro e w1 ⟨rfl, hB1⟩
      have HB1 := hid hB1
      clear hB1
      go_wp2_with (go_at_call 50; refine (B2.out _ HB1.out).mono ?_; rintro e w2 ⟨rfl, hB2⟩)
      all_goals
        go_ret
        exact ⟨ret_int (by have := HC.out; omega), below_then HB1.out hB2⟩
    · have e1 : min hi ((P : Int) - 1) + 1 = hi + 1 := by omega
      rw [e1] at HC
      have hx1 := HX.out (hi + 1)
      have hx2 := HX.out lo
      have B1 := hid (BL.out (hi + 1))
      have B2 := hid (BL.out lo)
      generalize Wv.belowR s (hi + 1) = y1 at HC B1 hx1
      generalize Wv.belowR s lo = y2 at HC B2 hx2
      clear BL HX e1
      refine (B1.out _ (Below.refl _ _)).mono ?_
      rintro e w1 ⟨rfl, hB1⟩
      have HB1 := hid hB1
      clear hB1
      go_wp2_with (go_at_call 50; refine (B2.out _ HB1.out).mono ?_; rintro e w2 ⟨rfl, hB2⟩)
      all_goals
        go_ret
        exact ⟨ret_int (by have := HC.out; omega), below_then HB1.out hB2⟩
theorem wrank_any (p wd : Nat) (l : List Nat) (v i : Int) (w : World) (h : IsWave w p l wd) (hv : -9223372036854775808 ≤ v) :
    Calls Try.prog 59 #[.pointer (some ⟨p, 0, none⟩), .int .i64 v, .int .i64 i] w fun e w' => e = .returned (.int .i64 (Wv.cntR (Wv.rng l 0 i) v v : Nat)) ∧ Below w.heap.size w w' := by
  go_enter Try.func59, Try.ntmps59
  go_wp2_with (go_at_call 58; refine (wcount_any p wd l 0 i v v _ h hv).mono ?_; rintro e w' ⟨rfl, hB⟩)
  go_ret
  exact ⟨rfl, hB⟩
theorem wrank_nil (v i : Int) (w : World) :
    Calls Try.prog 59 #[.pointer none, .int .i64 v, .int .i64 i] w fun e w' => e = .returned (.int .i64 0) ∧ Below w.heap.size w w' := by
  go_enter Try.func59, Try.ntmps59
  go_wp2_with (go_at_call 58; refine (wcount_nil 0 i v v _).mono ?_; rintro e w' ⟨rfl, hB⟩)
  go_ret
  exact ⟨rfl, hB⟩
end Go.Proofs.Ytagadfgginneeaa
