/- The document's own May and Same. -/
import Derived.Test.YtpjflmocbmmmaaaPack
namespace Go.Proofs.Ytpjflmocbmmmaaa
set_option linter.unusedVariables false
set_option linter.unusedSimpArgs false
open Go.ChangeShapes Go.WideShapes Go.ChangeAt Go.RowKit

theorem width_low (n : Int) (h : n ≤ 0) : Bn.width n.toNat = 0 := by rw [show n.toNat = 0 by omega]; rfl
theorem rwidth_any (n : Int) (w : World) (h : n ≤ 9223372036854775807) : Calls Try.prog 31 #[.int .i64 n] w fun e w' => e = .returned (.int .i64 (Bn.width n.toNat : Nat)) ∧ w = w' := by
  have hwl : Bn.width n.toNat ≤ 64 := (Bn.width_le _ 64).2 (by omega)
  obtain ⟨r, hr⟩ : ∃ r, r = Bn.width n.toNat := ⟨_, rfl⟩
  rw [← hr] at hwl ⊢
  have HR := hid hr
  clear hr
  go_enter Try.func31, Try.ntmps31
  go_wp2
  go_loop [0, 3] (fun s0 s3 => ∃ (x : Int) (k : Nat), x ≤ 9223372036854775807 ∧ k ≤ r ∧ s0 = .int .i64 x ∧ s3 = .int .i64 k ∧ Hid (r = Bn.width x.toNat + k)) (fun s0 _ => (intOf s0).toNat)
  case atStart => exact ⟨n, 0, h, by omega, rfl, rfl, HR.out⟩
  case round =>
    obtain ⟨x, k, hx, hk, rfl, rfl, HX⟩ := hrel
    by_cases h0 : 0 < x
    · have hh := Bn.width_half x.toNat (by omega)
      have hkr : k < r := by have := HX.out; omega
      have HH := hid (show r = Bn.width (x / 2).toNat + (k + 1 : Nat) by
        have := HX.out
        rw [show (x / 2).toNat = x.toNat / 2 by omega]; omega)
      clear hh
      go_wp2
      go_round
      case rel => exact ⟨x / 2, k + 1, by omega, by omega, rfl, by go_num, HH⟩
      case measure => simp [intOf]; omega
    · have hkr : k = r := by have := HX.out; rw [width_low x (by omega)] at this; omega
      subst hkr
      go_wp2
      go_ret
      exact ⟨rfl, rfl⟩

theorem rmay_no1 (a : Option Addr) (n cap : Nat) (w : Int) (W : World) (hn : n ≤ 9223372036854775807) (h : mb n w = false) : Calls Try.prog 12 #[.slice a n cap, .int .i64 w] W fun e W' => e = .returned (.bool false) ∧ W = W' := by
  have h1 : w < 0 ∨ (0 ≤ w ∧ 20 < w) ∨ (0 ≤ w ∧ w ≤ 20 ∧ 1000 < n) := by unfold mb at h; simp at h; omega
  clear h
  rcases h1 with h1 | ⟨h1, h2⟩ | ⟨h1, h2, h3⟩
  all_goals
    go_enter Try.func12, Try.ntmps12
    go_wp2
    go_ret
    exact ⟨rfl, rfl⟩
theorem rmay_no2 (a : Option Addr) (n cap w : Nat) (l : List Int) (W : World) (h : mb n w = true) (hb : ¬ ∀ i, i < n → Good w (l.getD i 0)) (hmax : ∀ i, i < n → l.getD i 0 ≤ 9223372036854775807) (hR : RowAt W a n fun i => .int .i64 (l.getD i 0)) :
    Calls Try.prog 12 #[.slice a n cap, .int .i64 w] W fun e W' => e = .returned (.bool false) ∧ W = W' := by
  obtain ⟨k, hk, hbad, hgood⟩ := first_bad hb
  have hn1 : n ≤ 1000 ∧ w ≤ 20 := by unfold mb at h; simp at h; omega
  obtain ⟨hn1, hw⟩ := hn1
  have HG := hid hgood
  have HX := hid hmax
  clear h hb hgood hmax
  go_enter Try.func12, Try.ntmps12
  go_wp2
  go_loop [5] (fun s => ∃ i : Nat, i ≤ k ∧ s = .int .i64 i) (fun s => k - (intOf s).toNat)
  case atStart => exact ⟨0, by omega, rfl⟩
  case round =>
    obtain ⟨i, hik, rfl⟩ := hrel
    have hlt : i < n := by omega
    obtain ⟨b, off, rfl, hc⟩ := hR.get hlt
    have c0 := hc i hlt
    have hm := HX.out i hlt
    obtain ⟨x, hx⟩ : ∃ x, x = l.getD i 0 := ⟨_, rfl⟩
    rw [← hx] at c0 hm
    clear hc
    by_cases hlk : i < k
    · have hg := HG.out i hlk
      rw [← hx] at hg
      obtain ⟨h0, h1⟩ := hg
      have WD := hid (fun W' => rwidth_any x W' hm)
      have hwd := (Bn.width_le x.toNat w).2 h1
      obtain ⟨wd, hwd0⟩ : ∃ wd, wd = Bn.width x.toNat := ⟨_, rfl⟩
      rw [← hwd0] at WD hwd
      clear hx hwd0 h1
      go_wp2_with (go_at_call 31; refine (WD.out _).mono ?_; rintro e w' ⟨rfl, rfl⟩)
      go_round
      case rel => exact ⟨i + 1, by omega, by go_num⟩
      case measure => simp [intOf]; omega
    · obtain rfl : i = k := by omega
      rw [← hx] at hbad
      by_cases h0 : x < 0
      · clear hx hbad
        go_wp2
        go_ret
        exact ⟨rfl, rfl⟩
      · have WD := hid (fun W' => rwidth_any x W' hm)
        have hwd : w < Bn.width x.toNat := by
          rcases Nat.lt_or_ge w (Bn.width x.toNat) with h2 | h2
          · exact h2
          · exact absurd ⟨by omega, (Bn.width_le _ _).1 h2⟩ hbad
        obtain ⟨wd, hwd0⟩ : ∃ wd, wd = Bn.width x.toNat := ⟨_, rfl⟩
        rw [← hwd0] at WD hwd
        clear hx hwd0 hbad
        go_wp2_with (go_at_call 31; refine (WD.out _).mono ?_; rintro e w' ⟨rfl, rfl⟩)
        go_ret
        exact ⟨rfl, rfl⟩
theorem rmay_yes (a : Option Addr) (n cap w : Nat) (l : List Int) (W : World) (h : mb n w = true) (hgood : ∀ i, i < n → Good w (l.getD i 0)) (hR : RowAt W a n fun i => .int .i64 (l.getD i 0)) :
    Calls Try.prog 12 #[.slice a n cap, .int .i64 w] W fun e W' => e = .returned (.bool true) ∧ W = W' := by
  have hn1 : n ≤ 1000 ∧ w ≤ 20 := by unfold mb at h; simp at h; omega
  obtain ⟨hn1, hw⟩ := hn1
  have HG := hid hgood
  clear h hgood
  go_enter Try.func12, Try.ntmps12
  go_wp2
  go_loop [5] (fun s => ∃ i : Nat, i ≤ n ∧ s = .int .i64 i) (fun s => n - (intOf s).toNat)
  case atStart => exact ⟨0, by omega, rfl⟩
  case round =>
    obtain ⟨i, hik, rfl⟩ := hrel
    by_cases hlt : i < n
    · obtain ⟨b, off, rfl, hc⟩ := hR.get hlt
      have c0 := hc i hlt
      obtain ⟨x, hx⟩ : ∃ x, x = l.getD i 0 := ⟨_, rfl⟩
      have hg := HG.out i hlt
      rw [← hx] at c0 hg
      clear hc
      obtain ⟨h0, h1⟩ := hg
      have h20 : 2 ^ w ≤ 1048576 := Nat.pow_le_pow_right (by omega) hw
      have WD := hid (fun W' => rwidth_any x W' (by omega))
      have hwd := (Bn.width_le x.toNat w).2 h1
      obtain ⟨wd, hwd0⟩ : ∃ wd, wd = Bn.width x.toNat := ⟨_, rfl⟩
      rw [← hwd0] at WD hwd
      clear hx hwd0 h1 h20
      go_wp2_with (go_at_call 31; refine (WD.out _).mono ?_; rintro e w' ⟨rfl, rfl⟩)
      go_round
      case rel => exact ⟨i + 1, by omega, by go_num⟩
      case measure => simp [intOf]; omega
    · go_wp2
      go_ret
      exact ⟨rfl, rfl⟩
theorem rmay_any (a : Option Addr) (n cap : Nat) (w : Int) (l : List Int) (W : World) (r : Bool) (hn : n = l.length) (hn2 : n ≤ 9223372036854775807) (hr : r = true ↔ Pm.May l w) (hmax : ∀ i, i < n → l.getD i 0 ≤ 9223372036854775807) (hR : RowAt W a n fun i => .int .i64 (l.getD i 0)) :
    Calls Try.prog 12 #[.slice a n cap, .int .i64 w] W fun e W' => e = .returned (.bool r) ∧ W = W' := by
  rw [may_iff, ← hn] at hr
  cases h : mb n w with
  | false =>
    have : r = false := by cases r with
      | false => rfl
      | true => have := (hr.1 rfl).1; rw [h] at this; cases this
    rw [this]
    exact rmay_no1 a n cap w W hn2 h
  | true =>
    have hw : 0 ≤ w := by unfold mb at h; simp at h; omega
    obtain ⟨v, rfl⟩ := Int.eq_ofNat_of_zero_le hw
    by_cases hg : ∀ i, i < n → Good v (l.getD i 0)
    · have : r = true := hr.2 ⟨h, hg⟩
      rw [this]
      exact rmay_yes a n cap v l W h hg hR
    · have : r = false := by cases r with
        | false => rfl
        | true => exact absurd (hr.1 rfl).2 hg
      rw [this]
      exact rmay_no2 a n cap v l W h hg hmax hR

theorem rsame_any (a b : Option Addr) (n m cap cap2 : Nat) (k l : List Int) (W : World) (r : Bool) (hn : n = k.length) (hm : m = l.length) (hn2 : n ≤ 9223372036854775807) (hm2 : m ≤ 9223372036854775807) (hr : r = true ↔ k = l) (hR : RowAt W a n fun i => .int .i64 (k.getD i 0)) (hR2 : RowAt W b m fun i => .int .i64 (l.getD i 0)) :
    Calls Try.prog 24 #[.slice a n cap, .slice b m cap2] W fun e W' => e = .returned (.bool r) ∧ ∃ q, W' = W.drewN q := by
  by_cases hnm : n = m
  · subst hnm
    by_cases hall : ∀ i, i < n → k.getD i 0 = l.getD i 0
    · have hrt : r = true := hr.2 (List.ext_getElem (by omega) fun i h1 h2 => by have := hall i (by omega); simpa [List.getD, h1, h2] using this)
      subst hrt
      have HA := hid hall
      clear hall hr hn hm
      go_enter Try.func24, Try.ntmps24
      go_wp2
      go_loopw [5] (fun s wr => ∃ (i q : Nat), i ≤ n ∧ s = .int .i64 i ∧ wr = W.drewN q) (fun s _ => n - (intOf s).toNat)
      case atStart => exact ⟨0, 0, by omega, rfl, rfl⟩
      case round =>
        obtain ⟨i, q, hi, rfl, rfl⟩ := hrel
        by_cases hlt : i < n
        · obtain ⟨b1, off, rfl, hc⟩ := hR.get hlt
          obtain ⟨b2, off2, rfl, hc2⟩ := hR2.get hlt
          have c0 := hc i hlt
          have c1 := hc2 i hlt
          rw [← HA.out i hlt] at c1
          have hltI : (i : Int) < n := by omega
          obtain ⟨x, hx⟩ : ∃ x, x = k.getD i 0 := ⟨_, rfl⟩
          rw [← hx] at c0 c1
          clear hc hc2 hx
          go_wp2
          go_quiet (fail)
          go_wp2
          go_roundw
          case rel => exact ⟨i + 1, _, by omega, by go_num, rfl⟩
          case measure => simp [intOf]; omega
        · go_wp2
          go_ret
          exact ⟨rfl, _, rfl⟩
    · obtain ⟨j, hj, hbad, hgood⟩ := first_bad hall
      have hrf : r = false := by cases hrr : r with
        | false => rfl
        | true => have := hr.1 hrr; rw [this] at hbad; exact absurd rfl hbad
      subst hrf
      have HA := hid hgood
      have HB := hid hbad
      clear hall hr hn hm hgood hbad
      go_enter Try.func24, Try.ntmps24
      go_wp2
      go_loopw [5] (fun s wr => ∃ (i q : Nat), i ≤ j ∧ s = .int .i64 i ∧ wr = W.drewN q) (fun s _ => j - (intOf s).toNat)
      case atStart => exact ⟨0, 0, by omega, rfl, rfl⟩
      case round =>
        obtain ⟨i, q, hi, rfl, rfl⟩ := hrel
        have hlt : i < n := by omega
        obtain ⟨b1, off, rfl, hc⟩ := hR.get hlt
        obtain ⟨b2, off2, rfl, hc2⟩ := hR2.get hlt
        have c0 := hc i hlt
        have c1 := hc2 i hlt
        have hltI : (i : Int) < n := by omega
        by_cases hij : i < j
        · rw [← HA.out i hij] at c1
          obtain ⟨x, hx⟩ : ∃ x, x = k.getD i 0 := ⟨_, rfl⟩
          rw [← hx] at c0 c1
          clear hc hc2 hx
          go_wp2
          go_quiet (fail)
          go_wp2
          go_roundw
          case rel => exact ⟨i + 1, _, by omega, by go_num, rfl⟩
          case measure => simp [intOf]; omega
        · obtain rfl : i = j := by omega
          have hne := HB.out
          obtain ⟨x, hx⟩ : ∃ x, x = k.getD i 0 := ⟨_, rfl⟩
          obtain ⟨y, hy⟩ : ∃ y, y = l.getD i 0 := ⟨_, rfl⟩
          rw [← hx] at c0 hne
          rw [← hy] at c1 hne
          have hxy : (x != y) = true := by rw [bne_iff_ne]; exact hne
          have hxy' : (x == y) = false := by rw [beq_eq_false_iff_ne]; exact hne
          clear hc hc2 hx hy hne
          go_wp2
          go_quiet (fail)
          go_wp2
          go_ret
          exact ⟨rfl, _, World.drewN_drewN _ _ _⟩
  · have hrf : r = false := by cases hrr : r with
      | false => rfl
      | true => have := hr.1 hrr; rw [hn, hm, this] at hnm; exact absurd rfl hnm
    subst hrf
    have hb1 : ((n : Int) != (m : Int)) = true := by rw [bne_iff_ne]; omega
    have hb2 : ((n : Int) == (m : Int)) = false := by rw [beq_eq_false_iff_ne]; omega
    clear hr hn hm hR hR2
    go_enter Try.func24, Try.ntmps24
    go_wp2
    go_ret
    exact ⟨rfl, 0, rfl⟩

end Go.Proofs.Ytpjflmocbmmmaaa
