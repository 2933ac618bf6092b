/- The document's Sum, and the laws' known. -/
import Derived.Test.YtgbhnkiballeeaaCrc
import Derived.Lib.SlBytesConst
namespace Go.Proofs.Ytgbhnkiballeeaa
set_option linter.unusedVariables false
set_option linter.unusedSimpArgs false
set_option maxRecDepth 100000
open Go.ChangeShapes Go.WideShapes Go.ChangeAt Go.RowKit

set_option maxHeartbeats 1000000 in
theorem rcsum_any (v : Value) (l : List Nat) (w : World) (hR : BytesAt w v l) (hb : ∀ i, l.getD i 0 < 256) :
    Calls Try.prog 19 #[v] w fun e w' => e = .returned (.int .i64 (Cr.sum l : Nat)) ∧ w = w' := by
  obtain ⟨a, cap, rfl, h1, h2, h3, hr⟩ := hR
  obtain ⟨n, hn⟩ : ∃ n, n = l.length := ⟨_, rfl⟩
  rw [← hn] at h1 hr ⊢
  have hnm : n ≤ 9223372036854775807 := by unfold maxLen at h2; omega
  have HN := hid hn
  have HR := hid hr
  have HB := hid hb
  clear hn hr hb h3
  go_enter Try.func19, Try.ntmps19
  go_wp2
  go_loop [3, 4] (fun s3 s4 => ∃ i : Nat, i ≤ n ∧ s3 = .int .i64 (Cr.sum (l.take i) : Nat) ∧ s4 = .int .i64 i) (fun _ s4 => n - (intOf s4).toNat)
  case atStart => exact ⟨0, by omega, rfl, rfl⟩
  case round =>
    obtain ⟨i, hi, rfl, rfl⟩ := hrel
    by_cases hlt : i < n
    · obtain ⟨b, off, rfl, hc⟩ := HR.out.get hlt
      have c0 := hc i hlt
      have hcb := HB.out i
      have hs0 := Cr.sum_lt _ (Cr.take_lt i HB.out)
      have HT := hid (Cr.run_take Cr.start l i (by rw [← HN.out]; exact hlt))
      obtain ⟨c, hc0⟩ : ∃ c, c = l.getD i 0 := ⟨_, rfl⟩
      obtain ⟨s, hs1⟩ : ∃ s, s = Cr.sum (l.take i) := ⟨_, rfl⟩
      rw [show Cr.run Cr.start (l.take i) = s from hs1.symm, ← hc0] at HT
      rw [← hs1] at hs0 ⊢
      rw [← hc0] at hcb c0
      simp only [u8v] at c0
      obtain ⟨x0, hx0⟩ : ∃ x, x = s ^^^ (65536 * c) := ⟨_, rfl⟩
      have hx16 := Cr.xor16 s c hs0 hcb
      have hlt2 : x0 < 2 ^ 24 := by rw [hx0]; exact Cr.in_lt s c hs0 hcb
      have HST := hid (show Cr.sum (l.take (i + 1)) = Cr.Tn 8 x0 by rw [hx0]; exact HT.out)
      rw [← hx0] at hx16
      have HL := hid (fun k => Cr.Tn_lt k x0 hlt2)
      clear hc hs1 hc0 hx0 hlt2 HT
      go_wp2
      go_loop [3, 5] (fun s3 s5 => ∃ k : Nat, k ≤ 8 ∧ s3 = .int .i64 (Cr.Tn k x0 : Nat) ∧ s5 = .int .i64 k) (fun _ s5 => 8 - (intOf s5).toNat)
      case atStart => exact ⟨0, by omega, rfl, rfl⟩
      case round =>
        obtain ⟨k, hk, rfl, rfl⟩ := hrel
        have hx := HL.out k
        have hT : Cr.Tn (k + 1) x0 = Cr.T (Cr.Tn k x0) := rfl
        by_cases hkl : k < 8
        · obtain ⟨x, hx0⟩ : ∃ x, x = Cr.Tn k x0 := ⟨_, rfl⟩
          rw [← hx0] at hx hT ⊢
          have hx24 : x < 16777216 := hx
          have hxg := Cr.xorG x hx24
          have htop := Cr.top x hx24
          by_cases h : 8388608 ≤ x
          · have hT2 : Cr.Tn (k + 1) x0 = (2 * x) ^^^ 25578747 := by rw [hT]; unfold Cr.T; rw [htop, decide_eq_true h]; rfl
            obtain ⟨y, hy⟩ : ∃ y, y = (2 * x) ^^^ 25578747 := ⟨_, rfl⟩
            rw [← hy] at hxg hT2
            have HT := hid hT2
            have hge : decide ((16777216 : Int) ≤ (x : Int) * 2) = true := by rw [decide_eq_true_iff]; omega
            clear hT hT2 hx0 htop hy hx h hs0 hcb
            go_wp2
            go_round
            case rel => exact ⟨k + 1, by omega, by rw [HT.out], by go_num⟩
            case measure => simp [intOf]; omega
          · have hT2 : Cr.Tn (k + 1) x0 = 2 * x := by rw [hT]; unfold Cr.T; rw [htop, decide_eq_false h]; simp
            have HT := hid hT2
            have hge : decide ((16777216 : Int) ≤ (x : Int) * 2) = false := by rw [decide_eq_false_iff_not]; omega
            clear hT hT2 hx0 htop hx hxg h hs0 hcb
            go_wp2
            go_round
            case rel => exact ⟨k + 1, by omega, by rw [HT.out]; go_num, by go_num⟩
            case measure => simp [intOf]; omega
        · obtain rfl : k = 8 := by omega
          clear hT hx
          go_wp2
          go_round
          case rel => exact ⟨i + 1, by omega, by rw [HST.out], by go_num⟩
          case measure => simp [intOf]; omega
    · obtain rfl : i = n := by omega
      have HF := hid (show l.take i = l by rw [HN.out, List.take_length])
      go_wp2
      go_ret
      exact ⟨by rw [HF.out]; rfl, rfl⟩

/-- One row alone, as Sum is handed it. -/
theorem one_row {W : World} {v : Value} {l : List Nat} (h : BytesAt W v l) {b : Nat} (hb : W.heap.size = b) (t : TypeId) : BRowsAt (W.alloc (.cells #[v] t)) (.slice (some ⟨b, 0, none⟩) 1 1) [l] := by
  refine ⟨fun _ => v, SlV.built hb (fun i hi => by obtain rfl : i = 0 := by omega
                                                   rfl) (by unfold maxLen; omega), fun i hi => ?_⟩
  obtain rfl : i = 0 := by simpa using hi
  exact h.keep ((Below.refl _ _).alloc (Nat.le_refl _) _)
theorem one_row_lt {l : List Nat} (h : ∀ i, l.getD i 0 < 256) : ∀ i j, ([l].getD i []).getD j 0 < 256 := by
  intro i j
  cases i with
  | zero => exact h j
  | succ i => simp [List.getD]
/-- Sum of one row. -/
theorem csum_one {W : World} {v : Value} {l : List Nat} (h : BytesAt W v l) (hl : ∀ i, l.getD i 0 < 256) {b : Nat} (hb : W.heap.size = b) :
    Calls Try.prog 22 #[.slice (some ⟨b, 0, none⟩) 1 1] (W.alloc (.cells #[v] 24)) fun e w' => e = .returned (.int .i64 (Cr.sum l : Nat)) ∧ W.alloc (.cells #[v] 24) = w' := by
  have := csum_any _ [l] _ (one_row h hb 24) (one_row_lt hl)
  rwa [show [l].flatten = l by simp] at this
end Go.Proofs.Ytgbhnkiballeeaa
