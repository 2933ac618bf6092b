/- slices.Index, Contains; a label's takes. -/
import Derived.Test.YtobcbaeoedpefaaDoorAuCount
import Derived.Test.YtobcbaeoedpefaaDoorStepAt
import Derived.Test.YtobcbaeoedpefaaDoorRPath
namespace Go.Proofs.YtobcbaeoedpefaaDoor
set_option linter.unusedVariables false
set_option linter.unusedSimpArgs false
set_option maxRecDepth 100000
open Go.ChangeShapes Go.WideShapes Go.ChangeAt Go.RowKit
open Au
theorem sindex_any (v : Value) (L : List T) (s : T) (w : World) (h : TextsAt w v L) (hn : L.length ≤ 140737488351232) :
    Calls Tryd.prog 56 #[v, str s] w fun e w' => e = .returned (.int .i64 (placeZ L s)) ∧ w' = w := by
  obtain ⟨a, cap, rfl, q1, q2, q3, hr⟩ := h.open
  obtain ⟨N, hN⟩ : ∃ N, N = L.length := ⟨_, rfl⟩
  have HN := hid hN
  have HR := hid hr
  rw [← hN] at q1 q3 hn HR ⊢
  clear hN hr h
  go_enter Tryd.func56, Tryd.ntmps56
  go_wp2
  go_loopw [8] (fun s5 wr => ∃ i : Nat, i ≤ N ∧ s5 = .int .i64 i ∧ wr = w ∧ Hid (∀ j, j < i → L.getD j [] ≠ s)) (fun s5 _ => N - (intOf s5).toNat)
  case atStart => exact ⟨0, by omega, rfl, rfl, fun j hj => absurd hj (Nat.not_lt_zero j)⟩
  case round =>
    obtain ⟨i, hi, rfl, hww, HE⟩ := hrel
    subst hww
    by_cases hlt : i < N
    · obtain ⟨b, off, hab, hc⟩ := HR.out.get hlt
      have c0 := hc i hlt
      subst hab
      have hiL : i < L.length := by rw [← HN.out]; exact hlt
      have hg : L.getD i [] = L[i] := by simp [List.getD, hiL]
      have HG := hid (show ∀ y, y = L.getD i [] → (y = s → placeZ L s = i) ∧ (y ≠ s → ∀ j, j < i + 1 → L.getD j [] ≠ s) from fun y hy => ⟨fun h => place_hit hiL (by rw [← hg, ← hy, h]) HE.out, fun h j hj => by
        by_cases hji : j < i
        · exact HE.out j hji
        · obtain rfl : j = i := by omega
          rw [← hy]; exact h⟩)
      obtain ⟨y, hy⟩ : ∃ y, y = L.getD i [] := ⟨_, rfl⟩
      rw [← hy] at c0
      have HY := hid hy
      clear hc hg hy hiL
      by_cases hys : y = s
      · have HP := hid ((HG.out y HY.out).1 hys)
        subst hys
        go_wp2
        go_ret
        exact ⟨by rw [HP.out]; rfl, rfl⟩
      · have HP := hid ((HG.out y HY.out).2 hys)
        have hb : (y == s) = false := beq_eq_false_iff_ne.2 hys
        have hb' : (s == y) = false := beq_eq_false_iff_ne.2 (Ne.symm hys)
        go_wp2
        go_roundw
        case rel => exact ⟨i + 1, by omega, by go_num, trivial, HP.out⟩
        case measure => simp [intOf]; omega
    · have HM := hid (place_miss (L := L) (s := s) fun j hj => HE.out j (by have := HN.out; omega))
      go_wp2
      go_ret
      exact ⟨by rw [HM.out]; rfl, rfl⟩
theorem scont_any (v : Value) (L : List T) (s : T) (w : World) (h : TextsAt w v L) (hn : L.length ≤ 140737488351232) :
    Calls Tryd.prog 52 #[v, str s] w fun e w' => e = .returned (.bool (decide (s ∈ L))) ∧ w' = w := by
  have C := hid (sindex_any v L s w h hn)
  obtain ⟨a, cap, rfl, q1, q2, q3, hr⟩ := h.open
  have hz := placeZ_nonneg L s
  obtain ⟨z, hz0⟩ : ∃ z, z = placeZ L s := ⟨_, rfl⟩
  rw [← hz0] at hz C
  obtain ⟨N, hN⟩ : ∃ N, N = L.length := ⟨_, rfl⟩
  rw [← hN] at C ⊢
  clear h hr hz0 hN q1 q2 q3 hn
  by_cases hm : s ∈ L
  · have h0 := hz.2 hm
    rw [decide_eq_true hm]
    clear hz hm
    go_enter Tryd.func52, Tryd.ntmps52
    go_wp2_with (go_at_call 56; refine C.out.mono ?_; rintro e w' ⟨rfl, hw⟩; subst hw)
    go_ret
    exact ⟨rfl, rfl⟩
  · have h0 : z < 0 := by
      have : ¬ 0 ≤ z := fun h => hm (hz.1 h)
      omega
    rw [decide_eq_false hm]
    clear hz hm
    go_enter Tryd.func52, Tryd.ntmps52
    go_wp2_with (go_at_call 56; refine C.out.mono ?_; rintro e w' ⟨rfl, hw⟩; subst hw)
    go_ret
    exact ⟨(by show Ending.returned (.bool (decide (0 ≤ z))) = Ending.returned (.bool false); rw [decide_eq_false (by omega)]), rfl⟩
def ltakes (l : Lb) (s : Stp) : Bool := decide (s.texts.length = 1) && (s.back == l.back) && (decide (s.texts.getD 0 [] ∈ l.texts) != l.not)
theorem ltakes_one {l : Lb} {s : Stp} (h : s.texts.length = 1) : ltakes l s = l.takes (s.back, s.texts.getD 0 []) := by
  unfold ltakes Lb.takes
  rw [decide_eq_true h, Bool.true_and]
  congr 2
  rw [Bool.eq_iff_iff, decide_eq_true_iff, List.contains_iff_mem]
set_option maxHeartbeats 4000000 in
theorem ltakes_any (l : Lb) (s : Stp) (a a' : Option Addr) (n c n' c' : Nat) (w : World) (h : TextsAt w (.slice a n c) l.texts) (h' : TextsAt w (.slice a' n' c') s.texts) (hn : l.texts.length ≤ 140737488351232) :
    Calls Tryd.prog 47 #[.agg #[.bool l.back, .bool l.not, .slice a n c], .agg #[.int .i64 s.from_, .int .i64 s.to, .bool s.back, .bool s.not, .slice a' n' c']] w fun e w' => e = .returned (.bool (ltakes l s)) ∧ Below w.heap.size w w' := by
  obtain ⟨w1, hw1⟩ : ∃ w1, w1 = (w.alloc (.cells #[.bool l.back, .bool l.not, .slice a n c] 76)).alloc (.cells #[.int .i64 s.from_, .int .i64 s.to, .bool s.back, .bool s.not, .slice a' n' c'] 48) := ⟨_, rfl⟩
  have hb1 : Below w.heap.size w w1 := by rw [hw1]; exact ((Below.refl _ _).alloc (Nat.le_refl _) _).alloc (by simp) _
  have hX : Blk w1 w.heap.size [.bool l.back, .bool l.not, .slice a n c] 76 := by rw [hw1]; exact (Blk.new w _ _).alloc _
  have hY : Blk w1 (w.heap.size + 1) [.int .i64 s.from_, .int .i64 s.to, .bool s.back, .bool s.not, .slice a' n' c'] 48 := by rw [hw1]; exact Blk.new' (by simp) rfl
  have h1 := h.keep hb1
  have h1' := h'.keep hb1
  obtain ⟨rfl, hrow⟩ := h1'.row
  have g0 := fun p : Later w1.heap.size w1 => p.keep (hX.cell (i := 0) rfl)
  have g1 := fun p : Later w1.heap.size w1 => p.keep (hX.cell (i := 1) rfl)
  have g2 := fun p : Later w1.heap.size w1 => p.keep (hX.cell (i := 2) rfl)
  have k2 := fun p : Later w1.heap.size w1 => p.keep (hY.cell (i := 2) rfl)
  have k4 := fun p : Later w1.heap.size w1 => p.keep (hY.cell (i := 4) rfl)
  have HB := hid hb1
  by_cases hl : s.texts.length = 1
  · obtain ⟨b', off', rfl, hcc⟩ := hrow.get (i := 0) (by omega)
    have t0 := hcc 0 (by omega)
    rw [Nat.add_zero] at t0
    have CO := hid fun p : Later w1.heap.size w1 => scont_any (.slice a n c) l.texts (s.texts.getD 0 []) p.it (h1.keep p.low) hn
    have HLT := hid (show ltakes l s = ((s.back == l.back) && (decide (s.texts.getD 0 [] ∈ l.texts) != l.not)) by unfold ltakes; rw [decide_eq_true hl, Bool.true_and])
    obtain ⟨tx, htx⟩ : ∃ tx, tx = s.texts.getD 0 [] := ⟨_, rfl⟩
    rw [← htx] at t0 CO HLT
    have t0' := fun p : Later w1.heap.size w1 => p.keep t0
    obtain ⟨m, hm⟩ : ∃ m, m = decide (tx ∈ l.texts) := ⟨_, rfl⟩
    rw [← hm] at CO HLT
    rw [HLT.out]
    rw [hl] at k4 hw1 hY ⊢
    obtain ⟨lb, ln, lt⟩ := l
    obtain ⟨sf, st, sb, sn, stx⟩ := s
    simp only at g0 g1 g2 k2 k4 hw1 CO ⊢
    clear HLT hm htx hcc hrow h1 h1' h h' hl hX hY t0 hb1
    cases lb <;> cases ln <;> cases sb <;> cases m
    all_goals
      go_enter Tryd.func47, Tryd.ntmps47
      go_upto_region 1 with fail
      rw [← hw1]
      clear hw1
      refine wp_region_later w1.heap.size (by kernel_rfl) (by kernel_rfl) ?_
      repeat (go_big_quiet_step (first | (go_at_call 52; with_reducible exact Later.call_same (CO.out _)) | fail))
      refine wpQuiet_nil ?_
      rintro w3 ⟨p, rfl⟩
      have hb3 := hid p.low
      clear g0 g1 g2 k2 k4 t0'
      go_wp2
      go_ret
      exact ⟨rfl, below_then HB.out hb3.out⟩
  · have HLT : ltakes l s = false := by unfold ltakes; rw [decide_eq_false hl]; rfl
    rw [HLT]
    have d1 : (((s.texts.length : Nat) : Int) == 1) = false := beq_eq_false_iff_ne.2 (by omega)
    obtain ⟨n', hn'⟩ : ∃ n', n' = s.texts.length := ⟨_, rfl⟩
    rw [← hn'] at d1 k4 hw1 ⊢
    clear HLT hn' hrow h1 h1' h h' hl hX hY hb1
    go_enter Tryd.func47, Tryd.ntmps47
    go_upto_region 1 with fail
    rw [← hw1]
    clear hw1
    refine wp_region_later w1.heap.size (by kernel_rfl) (by kernel_rfl) ?_
    repeat (go_big_quiet_step (fail))
    refine wpQuiet_nil ?_
    rintro w3 ⟨p, rfl⟩
    have hb3 := hid p.low
    clear g0 g1 g2 k2 k4
    go_wp2
    go_ret
    exact ⟨rfl, below_then HB.out hb3.out⟩
end Go.Proofs.YtobcbaeoedpefaaDoor
