/- auto's count, Places, Last. -/
import Derived.Test.YtobcbaeoedpefaaDoorAuRows
namespace Go.Proofs.YtobcbaeoedpefaaDoor
set_option linter.unusedVariables false
set_option linter.unusedSimpArgs false
set_option maxRecDepth 100000
open Go.ChangeShapes Go.WideShapes Go.ChangeAt Go.RowKit
open Au
/-- How many of the first j places are in a set. -/
def rowc (x j : Nat) : Nat := ((List.range j).filter fun i => x.testBit i).length
/-- How many there are in the first i rows. -/
def tot (nx : List Nat) (N i : Nat) : Nat := ((List.range i).map fun a => rowc (nx.getD a 0) N).sum
theorem rowc_succ (x j : Nat) : rowc x (j + 1) = rowc x j + if x.testBit j then 1 else 0 := by
  unfold rowc
  rw [List.range_succ, List.filter_append, List.length_append]
  congr 1
  by_cases h : x.testBit j <;> simp [h]
theorem tot_succ (nx : List Nat) (N i : Nat) : tot nx N (i + 1) = tot nx N i + rowc (nx.getD i 0) N := by
  unfold tot
  rw [List.range_succ, List.map_append, List.sum_append]
  simp
theorem rowc_le (x j : Nat) : rowc x j ≤ j := by
  unfold rowc
  have := List.length_filter_le (fun i => x.testBit i) (List.range j)
  simpa using this
theorem tot_le (nx : List Nat) (N i : Nat) : tot nx N i ≤ i * N := by
  induction i with
  | zero => simp [tot]
  | succ i ih =>
    have := rowc_le (nx.getD i 0) N
    rw [tot_succ, Nat.succ_mul]; omega
set_option maxHeartbeats 2000000 in
theorem count_au {B : Nat} {Y : Nat → Prop} {w : World} {p lb cl nb cn : Nat} {lxs : List Value} {ls : List Lb} {nx : List Nat} {last : Nat}
    (h : AuAt B Y w p lb cl nb cn lxs ls nx last) (hn : nx.length ≤ 32) (hx : ∀ j, nx.getD j 0 < 2 ^ 32) :
    Calls Tryd.prog 31 #[.pointer (some ⟨p, 0, none⟩)] w fun e w' => e = .returned (.int .i64 (tot nx nx.length nx.length)) ∧ w' = w := by
  have HA := hid fun i x (hx : x < 2 ^ 32) (hi : i < 64) w => has_any x i hx hi w
  have HX := hid hx
  have c1 := h.blk.cell (i := 1) rfl
  have HC := hid fun i (hi : i < nx.length) => (h.nextCell hi).1
  have HT := hid fun i => tot_succ nx nx.length i
  have HTL := hid fun i => tot_le nx nx.length i
  obtain ⟨N, hN⟩ : ∃ N, N = nx.length := ⟨_, rfl⟩
  have hq := (own_blk h.nown).2.2.1
  have hq2 := (own_blk h.nown).2.2.2.1
  rw [← hN] at hn c1 HC HT HTL hq ⊢
  clear h hx hN
  unfold u32v at HA HC
  go_enter Tryd.func31, Tryd.ntmps31
  go_wp2
  go_loopw [3, 12] (fun s3 s12 wr => ∃ i : Nat, i ≤ N ∧ s3 = .int .i64 (tot nx N i : Nat) ∧ s12 = .int .i64 i ∧ wr = w) (fun _ s12 _ => N - (intOf s12).toNat)
  case atStart => exact ⟨0, by omega, rfl, rfl, rfl⟩
  case round =>
    obtain ⟨i, hi, rfl, rfl, hww⟩ := hrel
    subst hww
    by_cases hlt : i < N
    · have e0 := HC.out i hlt
      have hxi := HX.out i
      have ht1 := HT.out i
      have hle := HTL.out i
      obtain ⟨x, hx⟩ : ∃ x, x = nx.getD i 0 := ⟨_, rfl⟩
      rw [← hx] at e0 hxi ht1
      obtain ⟨T0, hT0⟩ : ∃ T0, T0 = tot nx N i := ⟨_, rfl⟩
      have hmul : i * N ≤ 32 * 32 := Nat.mul_le_mul (by omega) hn
      rw [← hT0] at ht1 hle ⊢
      have HT1 := hid ht1
      have hTs : T0 ≤ 1024 := by omega
      have HAi := hid fun j (hj : j < 64) w => HA.out j x hxi hj w
      clear hx hT0 ht1 hle hmul
      obtain ⟨wo, rfl⟩ : ∃ wo : World, wo = wr := ⟨_, rfl⟩
      go_wp2
      go_loopw [3, 21] (fun s3 s21 wr => ∃ j : Nat, j ≤ N ∧ s3 = .int .i64 ((T0 + rowc x j : Nat)) ∧ s21 = .int .i64 j ∧ wr = wo) (fun _ s21 _ => N - (intOf s21).toNat)
      case atStart => exact ⟨0, by omega, rfl, rfl, rfl⟩
      case round =>
        obtain ⟨j, hj, rfl, rfl, hww⟩ := hrel
        subst hww
        by_cases hjl : j < N
        · have hs := rowc_succ x j
          have hle := rowc_le x j
          have HAj := hid (HAi.out j (by omega))
          obtain ⟨R0, hR0⟩ : ∃ R0, R0 = rowc x j := ⟨_, rfl⟩
          rw [← hR0] at hs hle ⊢
          have HS := hid hs
          clear hs hR0
          obtain ⟨S0, hS0⟩ : ∃ S0, S0 = T0 + R0 := ⟨_, rfl⟩
          have hsb : S0 ≤ 2000 := by omega
          have HS0 := hid hS0
          rw [← hS0]
          clear hS0
          cases hb : x.testBit j
          · rw [hb] at HAj HS
            clear hb
            go_wp2_with (go_at_call 34; refine (HAj.out _).mono ?_; rintro e w' ⟨rfl, hw⟩; subst hw)
            go_roundw
            case rel => exact ⟨j + 1, by omega, by rw [HS.out, HS0.out]; simp, by go_num, trivial⟩
            case measure => simp [intOf]; omega
          · rw [hb] at HAj HS
            clear hb
            go_wp2_with (go_at_call 34; refine (HAj.out _).mono ?_; rintro e w' ⟨rfl, hw⟩; subst hw)
            go_roundw
            case rel => exact ⟨j + 1, by omega, by rw [HS.out, HS0.out]; simp; omega, by go_num, trivial⟩
            case measure => simp [intOf]; omega
        · obtain rfl : j = N := by omega
          have h1 := HT1.out
          rw [← h1]
          clear h1
          go_wp2
          go_roundw
          case rel => exact ⟨i + 1, by omega, rfl, by go_num, trivial⟩
          case measure => simp [intOf]; omega
    · obtain rfl : i = N := by omega
      obtain ⟨T0, hT0⟩ : ∃ T0, T0 = tot nx i i := ⟨_, rfl⟩
      rw [← hT0]
      have HT0 := hid hT0
      clear hT0
      go_wp2
      go_ret
      exact ⟨(by show Ending.returned (.int .i64 ((T0 : Nat))) = _; rw [HT0.out]), rfl⟩
theorem places_au {B : Nat} {Y : Nat → Prop} {w : World} {p lb cl nb cn : Nat} {lxs : List Value} {ls : List Lb} {nx : List Nat} {last : Nat}
    (h : AuAt B Y w p lb cl nb cn lxs ls nx last) : Calls Tryd.prog 17 #[.pointer (some ⟨p, 0, none⟩)] w fun e w' => e = .returned (.int .i64 ls.length) ∧ w' = w := by
  have c0 := h.blk.cell (i := 0) rfl
  have hq := (own_blk h.lown).2.2.1
  have hq2 := (own_blk h.lown).2.2.2.1
  obtain ⟨N, hN⟩ : ∃ N, N = ls.length := ⟨_, rfl⟩
  rw [← hN] at c0 hq ⊢
  clear h hN
  go_enter Tryd.func17, Tryd.ntmps17
  go_wp2
  go_ret
  exact ⟨rfl, rfl⟩
theorem places_nil (w : World) : Calls Tryd.prog 17 #[.pointer none] w fun e w' => e = .returned (.int .i64 0) ∧ w' = w := by
  go_enter Tryd.func17, Tryd.ntmps17
  go_wp2
  go_ret
  exact ⟨rfl, rfl⟩
theorem last_au {B : Nat} {Y : Nat → Prop} {w : World} {p lb cl nb cn : Nat} {lxs : List Value} {ls : List Lb} {nx : List Nat} {last : Nat} (i : Int)
    (h : AuAt B Y w p lb cl nb cn lxs ls nx last) (hn : ls.length ≤ 32) (hl : last < 2 ^ 32) : Calls Tryd.prog 21 #[.pointer (some ⟨p, 0, none⟩), .int .i64 i] w fun e w' => e = .returned (.bool (decide (0 ≤ i) && decide (i < ls.length) && last.testBit i.toNat)) ∧ w' = w := by
  have c2 := h.blk.cell (i := 2) rfl
  have PL := hid (places_au h)
  by_cases h0 : 0 ≤ i
  · obtain ⟨k, rfl⟩ := Int.eq_ofNat_of_zero_le h0
    by_cases h1 : k < ls.length
    · have HA := hid fun w => has_any last k hl (by omega) w
      rw [decide_eq_true h0, decide_eq_true (show ((k : Nat) : Int) < (ls.length : Int) by omega)]
      simp only [Int.toNat_natCast, Bool.true_and]
      obtain ⟨N, hN⟩ : ∃ N, N = ls.length := ⟨_, rfl⟩
      obtain ⟨b, hb⟩ : ∃ b, b = last.testBit k := ⟨_, rfl⟩
      rw [← hN] at PL h1
      rw [← hb] at HA ⊢
      unfold u32v at c2 HA
      clear h hN hb hn
      go_enter Tryd.func21, Tryd.ntmps21
      go_wp2_with (first | (go_at_call 17; refine PL.out.mono ?_; rintro e w' ⟨rfl, hw⟩; subst hw) | (go_at_call 34; refine (HA.out _).mono ?_; rintro e w' ⟨rfl, hw⟩; subst hw))
      go_ret
      exact ⟨rfl, rfl⟩
    · rw [decide_eq_true h0, decide_eq_false (show ¬ ((k : Nat) : Int) < (ls.length : Int) by omega)]
      obtain ⟨N, hN⟩ : ∃ N, N = ls.length := ⟨_, rfl⟩
      rw [← hN] at PL h1
      clear h hN hn
      go_enter Tryd.func21, Tryd.ntmps21
      go_wp2_with (go_at_call 17; refine PL.out.mono ?_; rintro e w' ⟨rfl, hw⟩; subst hw)
      go_ret
      exact ⟨rfl, rfl⟩
  · rw [decide_eq_false h0]
    have h1 : i < 0 := by omega
    clear h h0
    go_enter Tryd.func21, Tryd.ntmps21
    go_wp2
    go_ret
    exact ⟨rfl, rfl⟩
theorem last_nil (i : Int) (w : World) : Calls Tryd.prog 21 #[.pointer none, .int .i64 i] w fun e w' => e = .returned (.bool false) ∧ w' = w := by
  have PL := hid (places_nil w)
  by_cases h0 : 0 ≤ i
  · have h1 : ¬ i < 0 := by omega
    go_enter Tryd.func21, Tryd.ntmps21
    go_wp2_with (go_at_call 17; refine PL.out.mono ?_; rintro e w' ⟨rfl, hw⟩; subst hw)
    go_ret
    exact ⟨rfl, rfl⟩
  · have h1 : i < 0 := by omega
    clear h0
    go_enter Tryd.func21, Tryd.ntmps21
    go_wp2
    go_ret
    exact ⟨rfl, rfl⟩
end Go.Proofs.YtobcbaeoedpefaaDoor
