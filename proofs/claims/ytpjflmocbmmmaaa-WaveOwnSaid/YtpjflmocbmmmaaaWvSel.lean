/- A wave: Select. -/
import Derived.Test.YtpjflmocbmmmaaaWvNext
import Derived.Test.YtpjflmocbmmmaaaSearch
import Derived.Deep.DeepCutAuto
namespace Go.Proofs.Ytpjflmocbmmmaaa
set_option linter.unusedVariables false
set_option linter.unusedSimpArgs false
set_option maxRecDepth 100000
open Go.ChangeShapes Go.WideShapes Go.ChangeAt Go.RowKit
theorem rank_eqs (l : List Nat) (v : Int) (i : Nat) (h : i ≤ l.length) : Wv.cntR (Wv.rng l 0 i) v v = Bm.cnt (Wv.eqs l v) i := by
  rw [Wv.rng_zero, Wv.cnt_eqs]
  have : Wv.hiEnd l.length i = i := by unfold Wv.hiEnd; omega
  rw [this]
theorem wselF_any (bw bv bk p wd i : Nat) (l : List Nat) (v k : Int) (w : World) (hw : w.cell? ⟨bw, 0, none⟩ = some (.pointer (some ⟨p, 0, none⟩))) (hv : w.cell? ⟨bv, 0, none⟩ = some (.int .i64 v)) (hk : w.cell? ⟨bk, 0, none⟩ = some (.int .i64 k))
    (h : IsWave w p l wd) (hi : i < l.length) (hv0 : -9223372036854775808 ≤ v) :
    Calls Try.prog 36 #[.int .i64 i, .pointer (some ⟨bw, 0, none⟩), .pointer (some ⟨bv, 0, none⟩), .pointer (some ⟨bk, 0, none⟩)] w fun e w' => e = .returned (.bool (decide (k < Bm.cnt (Wv.eqs l v) (i + 1)))) ∧ Below w.heap.size w w' := by
  have hn := h.2.1
  have RK := hid (fun (q : Later w.heap.size w) => by
    have := wrank_any p wd l v ((i + 1 : Nat) : Int) q.it (h.keep q.low) hv0
    rw [rank_eqs l v (i + 1) (by omega), show (((i + 1 : Nat)) : Int) = (i : Int) + 1 by omega] at this
    exact this)
  have hcl := Bm.cnt_le (Wv.eqs l v) (i + 1)
  generalize Bm.cnt (Wv.eqs l v) (i + 1) = c at *
  have g0 := fun q : Later w.heap.size w => q.keep hw
  have g1 := fun q : Later w.heap.size w => q.keep hv
  have g2 := fun q : Later w.heap.size w => q.keep hk
  clear hw hv hk h
  go_enter Try.func36, Try.ntmps36
  go_wp2
  refine wp_region_later w.heap.size (by kernel_rfl) (by kernel_rfl) ?_
  repeat (go_big_quiet_step ((go_at_call 16; with_reducible exact Later.call (Nat.le_refl _) (RK.out _))))
  refine wpQuiet_nil ?_
  rintro _ ⟨q, rfl⟩
  go_wp2
  go_ret
  exact ⟨rfl, q.low⟩
theorem three_box (W : World) (a b c : Value) (ta tb tc : TypeId) : ∃ w1, w1 = ((W.alloc (.cells #[a] ta)).alloc (.cells #[b] tb)).alloc (.cells #[c] tc) ∧ w1.cell? ⟨W.heap.size, 0, none⟩ = some a ∧ w1.cell? ⟨W.heap.size + 1, 0, none⟩ = some b ∧ w1.cell? ⟨W.heap.size + 1 + 1, 0, none⟩ = some c ∧ Hid (Below W.heap.size W w1) :=
  ⟨_, rfl, by simp [go_sem], by simp [go_sem], by simp [go_sem], (((Below.refl _ _).alloc (Nat.le_refl _) _).alloc (by simp) _).alloc (by simp; omega) _⟩
theorem wsel_low (v0 : Option Addr) (v k : Int) (w : World) (hk : k < 0) : Calls Try.prog 18 #[.pointer v0, .int .i64 v, .int .i64 k] w fun e w' => e = .returned (.int .i64 (-1)) ∧ Below w.heap.size w w' := by
  go_enter Try.func18, Try.ntmps18
  go_upto_region 1 with fail
  obtain ⟨w1, hw1, c0, c1, c2, HB⟩ := three_box w (.pointer v0) (.int .i64 v) (.int .i64 k) 23 3 3
  rw [← hw1]
  clear hw1
  go_wp2
  go_ret
  exact ⟨rfl, HB.out⟩
theorem wsel_core (v0 : Option Addr) (n : Nat) (P : Nat → Bool) (v k : Int) (w : World) (hn : n ≤ 65536) (hk : 0 ≤ k) (hL : ∀ W, Below w.heap.size w W → Calls Try.prog 14 #[.pointer v0] W fun e w' => e = .returned (.int .i64 n) ∧ w' = W)
    (hF : ∀ (W : World) (b0 b1 b2 i : Nat), Below w.heap.size w W → W.cell? ⟨b0, 0, none⟩ = some (.pointer v0) → W.cell? ⟨b1, 0, none⟩ = some (.int .i64 v) → W.cell? ⟨b2, 0, none⟩ = some (.int .i64 k) → i < n →
      Calls Try.prog 36 #[.int .i64 i, .pointer (some ⟨b0, 0, none⟩), .pointer (some ⟨b1, 0, none⟩), .pointer (some ⟨b2, 0, none⟩)] W fun e w' => e = .returned (.bool (P i)) ∧ Below W.heap.size W w')
    (hm : ∀ a b, a ≤ b → b < n → P a = true → P b = true) :
    Calls Try.prog 18 #[.pointer v0, .int .i64 v, .int .i64 k] w fun e w' => ∃ r : Nat, r ≤ n ∧ (∀ t, t < r → P t = false) ∧ (∀ t, r ≤ t → t < n → P t = true) ∧ e = .returned (.int .i64 (if r = n then -1 else r)) ∧ Below w.heap.size w w' := by
  have LN := hid hL
  have FF := hid hF
  have HM := hid hm
  clear hL hF hm
  go_enter Try.func18, Try.ntmps18
  go_upto_region 1 with fail
  obtain ⟨w1, hw1, c0, c1, c2, HB⟩ := three_box w (.pointer v0) (.int .i64 v) (.int .i64 k) 23 3 3
  rw [← hw1]
  clear hw1
  go_wp2_with (go_at_call 14; refine (LN.out _ HB.out).mono ?_; rintro e w' ⟨rfl, rfl⟩)
  refine (search_any 36 #[.pointer (some ⟨w.heap.size, 0, none⟩), .pointer (some ⟨w.heap.size + 1, 0, none⟩), .pointer (some ⟨w.heap.size + 1 + 1, 0, none⟩)] n P _ ?eg hn ?hf HM.out).mono ?_
  rotate_left 2
  case eg => intro args W; go_simp
  case hf =>
    intro W hW i hi
    exact FF.out W _ _ _ i (below_then HB.out hW) (below_keep hW c0) (below_keep hW c1) (below_keep hW c2) hi
  rintro e w3 ⟨r, rfl, hr, hlo, hhi, hb3⟩
  have HR := hid (And.intro hlo hhi)
  have d0 := below_keep hb3 c0
  have HB3 := hid (below_then HB.out hb3)
  clear hlo hhi c0 c1 c2 hb3
  by_cases hrn : r = n
  · subst hrn
    go_wp2_with (go_at_call 14; refine (LN.out _ HB3.out).mono ?_; rintro e w4 ⟨rfl, rfl⟩)
    go_ret
    exact ⟨r, Nat.le_refl _, HR.out.1, HR.out.2, by rw [if_pos rfl]; rfl, HB3.out⟩
  · have hb : ((r : Int) == (n : Int)) = false := by rw [beq_eq_false_iff_ne]; omega
    have HRN := hid hrn
    clear hrn
    go_wp2_with (go_at_call 14; refine (LN.out _ HB3.out).mono ?_; rintro e w4 ⟨rfl, rfl⟩)
    go_ret
    exact ⟨r, hr, HR.out.1, HR.out.2, by rw [if_neg HRN.out]; rfl, HB3.out⟩
theorem wsel_nil (v k : Int) (w : World) : Calls Try.prog 18 #[.pointer none, .int .i64 v, .int .i64 k] w fun e w' => e = .returned (.int .i64 (-1)) ∧ Below w.heap.size w w' := by
  by_cases hk : k < 0
  · exact wsel_low _ v k w hk
  · refine (wsel_core none 0 (fun _ => false) v k w (by omega) (by omega) (fun W _ => wlen_nil W) (fun W b0 b1 b2 i _ _ _ _ hi => absurd hi (Nat.not_lt_zero _)) (fun a b _ hb => absurd hb (Nat.not_lt_zero _))).mono ?_
    rintro e w' ⟨r, hr, _, _, rfl, hb⟩
    exact ⟨by rw [if_pos (by omega)], hb⟩
theorem wsel_any (p wd : Nat) (l : List Nat) (v k : Int) (w : World) (h : IsWave w p l wd) (hv0 : -9223372036854775808 ≤ v) :
    Calls Try.prog 18 #[.pointer (some ⟨p, 0, none⟩), .int .i64 v, .int .i64 k] w fun e w' => e = .returned (.int .i64 (Bm.sel (Wv.eqs l v) k)) ∧ Below w.heap.size w w' := by
  by_cases hk : k < 0
  · rw [Bm.sel_low (Or.inl hk)]; exact wsel_low _ v k w hk
  · have hn := h.2.1
    refine (wsel_core (some ⟨p, 0, none⟩) l.length (fun i => decide (k < Bm.cnt (Wv.eqs l v) (i + 1))) v k w (by omega) (by omega)
      (fun W hW => by obtain ⟨_, _, _, ad, cap, c0, _⟩ := h; exact wlen_cell p _ W (below_keep hW c0))
      (fun W b0 b1 b2 i hW h0 h1 h2 hi => wselF_any b0 b1 b2 p wd i l v k W h0 h1 h2 (h.keep hW) hi hv0)
      (fun a b hab hb ha => by
        have := Bm.cnt_mono (Wv.eqs l v) (show a + 1 ≤ b + 1 by omega)
        simp only [decide_eq_true_eq] at ha ⊢; omega)).mono ?_
    rintro e w' ⟨r, hr, hlo, hhi, rfl, hb⟩
    refine ⟨ret_int ?_, hb⟩
    have hlast : (Bm.cnt (Wv.eqs l v) r : Int) ≤ k := by
      rcases Nat.eq_zero_or_pos r with h0 | h0
      · subst h0; rw [Bm.cnt_zero]; omega
      · have := hlo (r - 1) (by omega)
        rw [show r - 1 + 1 = r by omega] at this
        simp only [decide_eq_false_iff_not, Int.not_lt] at this; exact this
    by_cases hrn : r = l.length
    · rw [if_pos hrn]
      exact (Bm.sel_low (Or.inr (by rw [Wv.eqs_length, ← hrn]; exact hlast))).symm
    · rw [if_neg hrn]
      have h2 := hhi r (Nat.le_refl _) (by omega)
      simp only [decide_eq_true_eq] at h2
      have hs := Bm.cnt_succ (Wv.eqs l v) r
      by_cases hbit : (Wv.eqs l v).getD r false = true
      · rw [if_pos hbit] at hs
        exact (Bm.sel_eq hbit (by omega)).symm
      · rw [if_neg hbit] at hs; omega
end Go.Proofs.Ytpjflmocbmmmaaa
