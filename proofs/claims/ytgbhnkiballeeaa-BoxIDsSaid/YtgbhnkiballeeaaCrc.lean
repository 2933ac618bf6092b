/- crc's Sum, and the document's. -/
import Derived.Test.YtgbhnkiballeeaaRows0
import Derived.Test.YtgbhnkiballeeaaCrcMath
namespace Go.Proofs.Ytgbhnkiballeeaa
set_option linter.unusedVariables false
set_option linter.unusedSimpArgs false
open Go.ChangeShapes Go.WideShapes Go.ChangeAt Go.RowKit

theorem Cr.xor16 (s c : Nat) (hs : s < 16777216) (hc : c < 256) : bits BinOp.xor IntKind.i64 (s : Int) ((c : Int) * 65536) = ((s ^^^ (65536 * c) : Nat) : Int) := by
  rw [show (c : Int) * 65536 = ((65536 * c : Nat) : Int) by omega, Bn.i64_xor_nat _ _ (by omega) (by omega)]
theorem Cr.xorG (x : Nat) (hx : x < 16777216) : bits BinOp.xor IntKind.i64 ((x : Int) * 2) 25578747 = (((2 * x) ^^^ 25578747 : Nat) : Int) := by
  have := Bn.i64_xor_nat (2 * x) 25578747 (by omega) (by omega)
  rw [show (x : Int) * 2 = ((2 * x : Nat) : Int) by omega]; exact this
theorem Cr.top (x : Nat) (hx : x < 16777216) : x.testBit 23 = decide (8388608 ≤ x) := by
  rw [Nat.testBit_eq_decide_div_mod_eq, decide_eq_decide]
  show x / 8388608 % 2 = 1 ↔ _
  omega
theorem Cr.andTop (x : Nat) (hx : x < 16777216) : bits BinOp.and IntKind.i64 ((x : Int) * 2) 16777216 = if 8388608 ≤ x then 16777216 else 0 := by
  have := Bn.i64_and_nat (2 * x) 16777216 (by omega) (by omega)
  rw [show (x : Int) * 2 = ((2 * x : Nat) : Int) by omega]
  refine this.trans ?_
  have e : 2 * x &&& 16777216 = if 8388608 ≤ x then 16777216 else 0 := by
    apply Nat.eq_of_testBit_eq
    intro j
    rw [Nat.testBit_and, show 16777216 = 2 ^ 24 by rfl, Nat.testBit_two_pow, Cr.two_testBit]
    by_cases hj : 24 = j
    · subst hj
      rw [show 24 - 1 = 23 by rfl, Cr.top x hx]
      split
      · rename_i h; simp [h]; decide
      · rename_i h; simp [h]
    · split
      · rw [Nat.testBit_two_pow]; simp [hj]
      · simp [hj]
  rw [e]
  split <;> rfl
theorem cadd_any (s c : Nat) (w : World) (hs : s < 16777216) (hc : c < 256) : Calls Try.prog 27 #[.int .i64 s, .int .u8 c] w fun e w' => e = .returned (.int .i64 (Cr.step s c : Nat)) ∧ w = w' := by
  obtain ⟨x0, hx0⟩ : ∃ x, x = s ^^^ (65536 * c) := ⟨_, rfl⟩
  have hx16 := Cr.xor16 s c hs hc
  have hlt : x0 < 2 ^ 24 := by rw [hx0]; exact Cr.in_lt s c hs hc
  have hst : Cr.step s c = Cr.Tn 8 x0 := by rw [hx0]; rfl
  rw [← hx0] at hx16
  rw [hst]
  have HL := hid (fun k => Cr.Tn_lt k x0 hlt)
  clear hx0 hlt hst
  go_enter Try.func27, Try.ntmps27
  go_wp2
  go_loop [0, 10] (fun s0 s10 => ∃ k : Nat, k ≤ 8 ∧ s0 = .int .i64 (Cr.Tn k x0 : Nat) ∧ s10 = .int .i64 k) (fun _ s10 => 8 - (intOf s10).toNat)
  case atStart => exact ⟨0, by omega, rfl, rfl⟩
  case round =>
    obtain ⟨k, hk, rfl, rfl⟩ := hrel
    have hx := HL.out k
    have hT : Cr.Tn (k + 1) x0 = Cr.T (Cr.Tn k x0) := rfl
    by_cases hlt : k < 8
    · obtain ⟨x, hx0⟩ : ∃ x, x = Cr.Tn k x0 := ⟨_, rfl⟩
      rw [← hx0] at hx hT ⊢
      have hx24 : x < 16777216 := hx
      have hand := Cr.andTop x hx24
      have hxg := Cr.xorG x hx24
      have htop := Cr.top x hx24
      by_cases h : 8388608 ≤ x
      · rw [if_pos h] at hand
        have hT2 : Cr.Tn (k + 1) x0 = (2 * x) ^^^ 25578747 := by rw [hT]; unfold Cr.T; rw [htop, decide_eq_true h]; rfl
        obtain ⟨y, hy⟩ : ∃ y, y = (2 * x) ^^^ 25578747 := ⟨_, rfl⟩
        rw [← hy] at hxg hT2
        have HT := hid hT2
        clear hT hT2 hx0 htop hy hx
        go_wp2
        go_round
        case rel => exact ⟨k + 1, by omega, by rw [HT.out], by go_num⟩
        case measure => simp [intOf]; omega
      · rw [if_neg h] at hand
        have hT2 : Cr.Tn (k + 1) x0 = 2 * x := by rw [hT]; unfold Cr.T; rw [htop, decide_eq_false h]; simp
        have HT := hid hT2
        clear hT hT2 hx0 htop hx hxg
        go_wp2
        go_round
        case rel => exact ⟨k + 1, by omega, by rw [HT.out]; go_num, by go_num⟩
        case measure => simp [intOf]; omega
    · obtain rfl : k = 8 := by omega
      clear hT hx
      go_wp2
      go_ret
      exact ⟨rfl, rfl⟩

theorem Cr.flat_take (L : List (List Nat)) (i : Nat) (h : i < L.length) : (L.take (i + 1)).flatten = (L.take i).flatten ++ L.getD i [] := by
  rw [List.take_succ_eq_append_getElem h, List.flatten_append]
  simp only [List.flatten_cons, List.flatten_nil, List.append_nil, List.getD, List.getElem?_eq_getElem h, Option.getD_some]
theorem Cr.flat_lt (L : List (List Nat)) (h : ∀ i j, (L.getD i []).getD j 0 < 256) : ∀ j, L.flatten.getD j 0 < 256 := by
  have key : ∀ (K : List (List Nat)), (∀ k ∈ K, ∀ x ∈ k, x < 256) → ∀ x ∈ K.flatten, x < 256 := by
    intro K hK x hx
    obtain ⟨k, h1, h2⟩ := List.mem_flatten.1 hx
    exact hK k h1 x h2
  have hL : ∀ x ∈ L.flatten, x < 256 := key L (fun k hk x hx => by
    obtain ⟨i, hi, rfl⟩ := List.mem_iff_getElem.1 hk
    obtain ⟨j, hj, rfl⟩ := List.mem_iff_getElem.1 hx
    have := h i j
    simpa [List.getD, hi, hj] using this)
  intro j
  rcases Nat.lt_or_ge j L.flatten.length with h1 | h1
  · have := hL (L.flatten[j]) (List.getElem_mem h1)
    simp only [List.getD, List.getElem?_eq_getElem h1, Option.getD_some]; exact this
  · rw [show L.flatten.getD j 0 = 0 by simp only [List.getD, List.getElem?_eq_none h1]; rfl]; decide
theorem Cr.take_rows {L : List (List Nat)} (h : ∀ i j, (L.getD i []).getD j 0 < 256) (i : Nat) : ∀ k j, ((L.take i).getD k []).getD j 0 < 256 := by
  intro k j
  have := h k j
  by_cases hk : k < i
  · simpa [List.getD, hk] using this
  · rw [show (L.take i).getD k [] = [] by simp only [List.getD, List.getElem?_take, if_neg hk]; rfl]; simp
set_option maxHeartbeats 1000000 in
theorem csum_any (v : Value) (L : List (List Nat)) (w : World) (hR : BRowsAt w v L) (hb : ∀ i j, (L.getD i []).getD j 0 < 256) :
    Calls Try.prog 22 #[v] w fun e w' => e = .returned (.int .i64 (Cr.sum L.flatten : Nat)) ∧ w = w' := by
  obtain ⟨V, ⟨a, cap, rfl, h1, h2, h3, hr⟩, hV⟩ := hR
  obtain ⟨n, hn⟩ : ∃ n, n = L.length := ⟨_, rfl⟩
  rw [← hn] at h1 hr hV ⊢
  have hnm : n ≤ 9223372036854775807 := by unfold maxLen at h2; omega
  have HN := hid hn
  have HR := hid hr
  have HV := hid hV
  have HB := hid hb
  clear hn hr hV hb h3
  go_enter Try.func22, Try.ntmps22
  go_wp2
  go_loop [3, 10] (fun s3 s10 => ∃ i : Nat, i ≤ n ∧ s3 = .int .i64 (Cr.sum (L.take i).flatten : Nat) ∧ s10 = .int .i64 i) (fun _ s10 => n - (intOf s10).toNat)
  case atStart => exact ⟨0, by omega, rfl, rfl⟩
  case round =>
    obtain ⟨i, hi, rfl, rfl⟩ := hrel
    by_cases hlt : i < n
    · obtain ⟨b, off, rfl, hc⟩ := HR.out.get hlt
      obtain ⟨b2, cap2, hv2, k1, k2, k3, hr2⟩ := HV.out i hlt
      have c0 := hc i hlt
      rw [hv2] at c0
      obtain ⟨m, hm⟩ : ∃ m, m = (L.getD i []).length := ⟨_, rfl⟩
      rw [← hm] at c0 k1 hr2
      have hmm : m ≤ 9223372036854775807 := by unfold maxLen at k2; omega
      have hs0 := Cr.sum_lt _ (Cr.flat_lt (L.take i) (Cr.take_rows HB.out i))
      obtain ⟨s0, hs00⟩ : ∃ s0, s0 = Cr.sum (L.take i).flatten := ⟨_, rfl⟩
      rw [← hs00] at hs0 ⊢
      have HS := hid (show Cr.sum (L.take (i + 1)).flatten = Cr.run s0 (L.getD i []) by
        rw [Cr.flat_take L i (by rw [← HN.out]; exact hlt), hs00]; exact Cr.run_append _ _ _)
      have HM := hid hm
      have HR2 := hid hr2
      clear hv2 hc k3 hm hr2 hs00
      go_wp2
      go_loop [3, 16] (fun s3 s16 => ∃ j : Nat, j ≤ m ∧ s3 = .int .i64 (Cr.run s0 ((L.getD i []).take j) : Nat) ∧ s16 = .int .i64 j) (fun _ s16 => m - (intOf s16).toNat)
      case atStart => exact ⟨0, by omega, rfl, rfl⟩
      case round =>
        obtain ⟨j, hj, rfl, rfl⟩ := hrel
        by_cases hjl : j < m
        · obtain ⟨b3, off3, rfl, hc3⟩ := HR2.out.get hjl
          have c1 := hc3 j hjl
          have hcb := HB.out i j
          have hsb := Cr.run_lt ((L.getD i []).take j) s0 hs0 (Cr.take_lt j (HB.out i))
          have HT := hid (Cr.run_take s0 (L.getD i []) j (by rw [← HM.out]; exact hjl))
          obtain ⟨c, hc0⟩ : ∃ c, c = (L.getD i []).getD j 0 := ⟨_, rfl⟩
          obtain ⟨s1, hs1⟩ : ∃ s1, s1 = Cr.run s0 ((L.getD i []).take j) := ⟨_, rfl⟩
          rw [← hs1] at hsb HT ⊢
          rw [← hc0] at hcb c1 HT
          simp only [u8v] at c1
          have CA := hid (fun w => cadd_any s1 c w hsb hcb)
          clear hc3 hs1 hc0
          go_wp2_with (go_at_call 27; refine (CA.out _).mono ?_; rintro e w' ⟨rfl, rfl⟩)
          go_round
          case rel => exact ⟨j + 1, by omega, by rw [HT.out], by go_num⟩
          case measure => simp [intOf]; omega
        · obtain rfl : j = m := by omega
          have HF := hid (show Cr.run s0 ((L.getD i []).take j) = Cr.sum (L.take (i + 1)).flatten by rw [HS.out, HM.out, List.take_length])
          go_wp2
          go_round
          case rel => exact ⟨i + 1, by omega, by rw [HF.out], by go_num⟩
          case measure => simp [intOf]; omega
    · obtain rfl : i = n := by omega
      have HF := hid (show L.take i = L by rw [HN.out, List.take_length])
      go_wp2
      go_ret
      exact ⟨by rw [HF.out]; rfl, rfl⟩
end Go.Proofs.Ytgbhnkiballeeaa
