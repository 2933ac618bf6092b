/- The document's own functions of Pack and Unpack. -/
import Derived.Test.YtjfbgfbmfknndaaUnpack
namespace Go.Proofs.Ytjfbgfbmfknndaa
set_option linter.unusedVariables false
set_option linter.unusedSimpArgs false
open Go.ChangeShapes Go.WideShapes Go.ChangeAt Go.RowKit

theorem width_low (n : Int) (h : n ≤ 0) : Bn.width n.toNat = 0 := by rw [show n.toNat = 0 by omega]; rfl
theorem rwidth_any (n : Int) (w : World) (h : n ≤ 9223372036854775807) : Calls Try.prog 16 #[.int .i64 n] w fun e w' => e = .returned (.int .i64 (Bn.width n.toNat : Nat)) ∧ w = w' := by
  have hwl : Bn.width n.toNat ≤ 64 := (Bn.width_le _ 64).2 (by omega)
  obtain ⟨r, hr⟩ : ∃ r, r = Bn.width n.toNat := ⟨_, rfl⟩
  rw [← hr] at hwl ⊢
  have HR := hid hr
  clear hr
  go_enter Try.func16, Try.ntmps16
  go_wp2
  go_loop [0, 3] (fun s0 s3 => ∃ (x : Int) (k : Nat), x ≤ 9223372036854775807 ∧ k ≤ r ∧ s0 = .int .i64 x ∧ s3 = .int .i64 k ∧ Hid (r = Bn.width x.toNat + k)) (fun s0 _ => (intOf s0).toNat)
  case atStart => exact ⟨n, 0, h, by omega, rfl, rfl, HR.out⟩
  case round =>
    obtain ⟨x, k, hx, hk, rfl, rfl, HX⟩ := hrel
    by_cases h0 : 0 < x
    · have hh := Bn.width_half x.toNat (by omega)
      have hkr : k < r := by have := HX.out; omega
      have HH := hid (show r = Bn.width (x / 2).toNat + (k + 1 : Nat) by
        have := HX.out
        rw [show (x / 2).toNat = x.toNat / 2 by omega]; omega)
      clear hh
      go_wp2
      go_round
      case rel => exact ⟨x / 2, k + 1, by omega, by omega, rfl, by go_num, HH⟩
      case measure => simp [intOf]; omega
    · have hkr : k = r := by have := HX.out; rw [width_low x (by omega)] at this; omega
      subst hkr
      go_wp2
      go_ret
      exact ⟨rfl, rfl⟩

theorem rmay_no1 (a : Option Addr) (n cap : Nat) (w : Int) (W : World) (hn : n ≤ 9223372036854775807) (h : mb n w = false) : Calls Try.prog 18 #[.slice a n cap, .int .i64 w] W fun e W' => e = .returned (.bool false) ∧ W = W' := by
  have h1 : w < 0 ∨ (0 ≤ w ∧ 20 < w) ∨ (0 ≤ w ∧ w ≤ 20 ∧ 1000 < n) := by unfold mb at h; simp at h; omega
  clear h
  rcases h1 with h1 | ⟨h1, h2⟩ | ⟨h1, h2, h3⟩
  all_goals
    go_enter Try.func18, Try.ntmps18
    go_wp2
    go_ret
    exact ⟨rfl, rfl⟩
theorem rmay_no2 (a : Option Addr) (n cap w : Nat) (l : List Int) (W : World) (h : mb n w = true) (hb : ¬ ∀ i, i < n → Good w (l.getD i 0)) (hmax : ∀ i, i < n → l.getD i 0 ≤ 9223372036854775807) (hR : RowAt W a n fun i => .int .i64 (l.getD i 0)) :
    Calls Try.prog 18 #[.slice a n cap, .int .i64 w] W fun e W' => e = .returned (.bool false) ∧ W = W' := by
  obtain ⟨k, hk, hbad, hgood⟩ := first_bad hb
  have hn1 : n ≤ 1000 ∧ w ≤ 20 := by unfold mb at h; simp at h; omega
  obtain ⟨hn1, hw⟩ := hn1
  have HG := hid hgood
  have HX := hid hmax
  clear h hb hgood hmax
  go_enter Try.func18, Try.ntmps18
  go_wp2
  go_loop [5] (fun s => ∃ i : Nat, i ≤ k ∧ s = .int .i64 i) (fun s => k - (intOf s).toNat)
  case atStart => exact ⟨0, by omega, rfl⟩
  case round =>
    obtain ⟨i, hik, rfl⟩ := hrel
    have hlt : i < n := by omega
    obtain ⟨b, off, rfl, hc⟩ := hR.get hlt
    have c0 := hc i hlt
    have hm := HX.out i hlt
    obtain ⟨x, hx⟩ : ∃ x, x = l.getD i 0 := ⟨_, rfl⟩
    rw [← hx] at c0 hm
    clear hc
    by_cases hlk : i < k
    · have hg := HG.out i hlk
      rw [← hx] at hg
      obtain ⟨h0, h1⟩ := hg
      have WD := hid (fun W' => rwidth_any x W' hm)
      have hwd := (Bn.width_le x.toNat w).2 h1
      obtain ⟨wd, hwd0⟩ : ∃ wd, wd = Bn.width x.toNat := ⟨_, rfl⟩
      rw [← hwd0] at WD hwd
      clear hx hwd0 h1
      go_wp2_with (go_at_call 16; refine (WD.out _).mono ?_; rintro e w' ⟨rfl, rfl⟩)
      go_round
      case rel => exact ⟨i + 1, by omega, by go_num⟩
      case measure => simp [intOf]; omega
    · obtain rfl : i = k := by omega
      rw [← hx] at hbad
      by_cases h0 : x < 0
      · clear hx hbad
        go_wp2
        go_ret
        exact ⟨rfl, rfl⟩
      · have WD := hid (fun W' => rwidth_any x W' hm)
        have hwd : w < Bn.width x.toNat := by
          rcases Nat.lt_or_ge w (Bn.width x.toNat) with h2 | h2
          · exact h2
          · exact absurd ⟨by omega, (Bn.width_le _ _).1 h2⟩ hbad
        obtain ⟨wd, hwd0⟩ : ∃ wd, wd = Bn.width x.toNat := ⟨_, rfl⟩
        rw [← hwd0] at WD hwd
        clear hx hwd0 hbad
        go_wp2_with (go_at_call 16; refine (WD.out _).mono ?_; rintro e w' ⟨rfl, rfl⟩)
        go_ret
        exact ⟨rfl, rfl⟩
theorem rmay_yes (a : Option Addr) (n cap w : Nat) (l : List Int) (W : World) (h : mb n w = true) (hgood : ∀ i, i < n → Good w (l.getD i 0)) (hR : RowAt W a n fun i => .int .i64 (l.getD i 0)) :
    Calls Try.prog 18 #[.slice a n cap, .int .i64 w] W fun e W' => e = .returned (.bool true) ∧ W = W' := by
  have hn1 : n ≤ 1000 ∧ w ≤ 20 := by unfold mb at h; simp at h; omega
  obtain ⟨hn1, hw⟩ := hn1
  have HG := hid hgood
  clear h hgood
  go_enter Try.func18, Try.ntmps18
  go_wp2
  go_loop [5] (fun s => ∃ i : Nat, i ≤ n ∧ s = .int .i64 i) (fun s => n - (intOf s).toNat)
  case atStart => exact ⟨0, by omega, rfl⟩
  case round =>
    obtain ⟨i, hik, rfl⟩ := hrel
    by_cases hlt : i < n
    · obtain ⟨b, off, rfl, hc⟩ := hR.get hlt
      have c0 := hc i hlt
      obtain ⟨x, hx⟩ : ∃ x, x = l.getD i 0 := ⟨_, rfl⟩
      have hg := HG.out i hlt
      rw [← hx] at c0 hg
      clear hc
      obtain ⟨h0, h1⟩ := hg
      have h20 : 2 ^ w ≤ 1048576 := Nat.pow_le_pow_right (by omega) hw
      have WD := hid (fun W' => rwidth_any x W' (by omega))
      have hwd := (Bn.width_le x.toNat w).2 h1
      obtain ⟨wd, hwd0⟩ : ∃ wd, wd = Bn.width x.toNat := ⟨_, rfl⟩
      rw [← hwd0] at WD hwd
      clear hx hwd0 h1 h20
      go_wp2_with (go_at_call 16; refine (WD.out _).mono ?_; rintro e w' ⟨rfl, rfl⟩)
      go_round
      case rel => exact ⟨i + 1, by omega, by go_num⟩
      case measure => simp [intOf]; omega
    · go_wp2
      go_ret
      exact ⟨rfl, rfl⟩
theorem rmay_any (a : Option Addr) (n cap : Nat) (w : Int) (l : List Int) (W : World) (r : Bool) (hn : n = l.length) (hn2 : n ≤ 9223372036854775807) (hr : r = true ↔ Pm.May l w) (hmax : ∀ i, i < n → l.getD i 0 ≤ 9223372036854775807) (hR : RowAt W a n fun i => .int .i64 (l.getD i 0)) :
    Calls Try.prog 18 #[.slice a n cap, .int .i64 w] W fun e W' => e = .returned (.bool r) ∧ W = W' := by
  rw [may_iff, ← hn] at hr
  cases h : mb n w with
  | false =>
    have : r = false := by cases r with
      | false => rfl
      | true => have := (hr.1 rfl).1; rw [h] at this; cases this
    rw [this]
    exact rmay_no1 a n cap w W hn2 h
  | true =>
    have hw : 0 ≤ w := by unfold mb at h; simp at h; omega
    obtain ⟨v, rfl⟩ := Int.eq_ofNat_of_zero_le hw
    by_cases hg : ∀ i, i < n → Good v (l.getD i 0)
    · have : r = true := hr.2 ⟨h, hg⟩
      rw [this]
      exact rmay_yes a n cap v l W h hg hR
    · have : r = false := by cases r with
        | false => rfl
        | true => exact absurd (hr.1 rfl).2 hg
      rw [this]
      exact rmay_no2 a n cap v l W h hg hmax hR

theorem rsame_any (a b : Option Addr) (n m cap cap2 : Nat) (k l : List Int) (W : World) (r : Bool) (hn : n = k.length) (hm : m = l.length) (hn2 : n ≤ 9223372036854775807) (hm2 : m ≤ 9223372036854775807) (hr : r = true ↔ k = l) (hR : RowAt W a n fun i => .int .i64 (k.getD i 0)) (hR2 : RowAt W b m fun i => .int .i64 (l.getD i 0)) :
    Calls Try.prog 14 #[.slice a n cap, .slice b m cap2] W fun e W' => e = .returned (.bool r) ∧ ∃ q, W' = W.drewN q := by
  by_cases hnm : n = m
  · subst hnm
    by_cases hall : ∀ i, i < n → k.getD i 0 = l.getD i 0
    · have hrt : r = true := hr.2 (List.ext_getElem (by omega) fun i h1 h2 => by have := hall i (by omega); simpa [List.getD, h1, h2] using this)
      subst hrt
      have HA := hid hall
      clear hall hr hn hm
      go_enter Try.func14, Try.ntmps14
      go_wp2
      go_loopw [5] (fun s wr => ∃ (i q : Nat), i ≤ n ∧ s = .int .i64 i ∧ wr = W.drewN q) (fun s _ => n - (intOf s).toNat)
      case atStart => exact ⟨0, 0, by omega, rfl, rfl⟩
      case round =>
        obtain ⟨i, q, hi, rfl, rfl⟩ := hrel
        by_cases hlt : i < n
        · obtain ⟨b1, off, rfl, hc⟩ := hR.get hlt
          obtain ⟨b2, off2, rfl, hc2⟩ := hR2.get hlt
          have c0 := hc i hlt
          have c1 := hc2 i hlt
          rw [← HA.out i hlt] at c1
          have hltI : (i : Int) < n := by omega
          obtain ⟨x, hx⟩ : ∃ x, x = k.getD i 0 := ⟨_, rfl⟩
          rw [← hx] at c0 c1
          clear hc hc2 hx
          go_wp2
          go_quiet (fail)
          go_wp2
          go_roundw
          case rel => exact ⟨i + 1, _, by omega, by go_num, rfl⟩
          case measure => simp [intOf]; omega
        · go_wp2
          go_ret
          exact ⟨rfl, _, rfl⟩
    · obtain ⟨j, hj, hbad, hgood⟩ := first_bad hall
      have hrf : r = false := by cases hrr : r with
        | false => rfl
        | true => have := hr.1 hrr; rw [this] at hbad; exact absurd rfl hbad
      subst hrf
      have HA := hid hgood
      have HB := hid hbad
      clear hall hr hn hm hgood hbad
      go_enter Try.func14, Try.ntmps14
      go_wp2
      go_loopw [5] (fun s wr => ∃ (i q : Nat), i ≤ j ∧ s = .int .i64 i ∧ wr = W.drewN q) (fun s _ => j - (intOf s).toNat)
      case atStart => exact ⟨0, 0, by omega, rfl, rfl⟩
      case round =>
        obtain ⟨i, q, hi, rfl, rfl⟩ := hrel
        have hlt : i < n := by omega
        obtain ⟨b1, off, rfl, hc⟩ := hR.get hlt
        obtain ⟨b2, off2, rfl, hc2⟩ := hR2.get hlt
        have c0 := hc i hlt
        have c1 := hc2 i hlt
        have hltI : (i : Int) < n := by omega
        by_cases hij : i < j
        · rw [← HA.out i hij] at c1
          obtain ⟨x, hx⟩ : ∃ x, x = k.getD i 0 := ⟨_, rfl⟩
          rw [← hx] at c0 c1
          clear hc hc2 hx
          go_wp2
          go_quiet (fail)
          go_wp2
          go_roundw
          case rel => exact ⟨i + 1, _, by omega, by go_num, rfl⟩
          case measure => simp [intOf]; omega
        · obtain rfl : i = j := by omega
          have hne := HB.out
          obtain ⟨x, hx⟩ : ∃ x, x = k.getD i 0 := ⟨_, rfl⟩
          obtain ⟨y, hy⟩ : ∃ y, y = l.getD i 0 := ⟨_, rfl⟩
          rw [← hx] at c0 hne
          rw [← hy] at c1 hne
          have hxy : (x != y) = true := by rw [bne_iff_ne]; exact hne
          have hxy' : (x == y) = false := by rw [beq_eq_false_iff_ne]; exact hne
          clear hc hc2 hx hy hne
          go_wp2
          go_quiet (fail)
          go_wp2
          go_ret
          exact ⟨rfl, _, World.drewN_drewN _ _ _⟩
  · have hrf : r = false := by cases hrr : r with
      | false => rfl
      | true => have := hr.1 hrr; rw [hn, hm, this] at hnm; exact absurd rfl hnm
    subst hrf
    have hb1 : ((n : Int) != (m : Int)) = true := by rw [bne_iff_ne]; omega
    have hb2 : ((n : Int) == (m : Int)) = false := by rw [beq_eq_false_iff_ne]; omega
    clear hr hn hm hR hR2
    go_enter Try.func14, Try.ntmps14
    go_wp2
    go_ret
    exact ⟨rfl, 0, rfl⟩

set_option maxHeartbeats 1000000 in
theorem rpack_ok (a : Option Addr) (n cap w : Nat) (l : List Int) (W : World) (hn : n = l.length) (hm : Pm.May l w) (hR : RowAt W a n fun i => .int .i64 (l.getD i 0)) :
    Calls Try.prog 11 #[.slice a n cap, .int .i64 w] W fun e W' => ∃ b, e = .returned (.tuple #[.slice (some ⟨b, 0, none⟩) (Pm.size n w) (Pm.size n w), .int .i64 0]) ∧ Below W.heap.size W W' ∧ W.heap.size ≤ b ∧
      Blk W' b (packCells l w (n * w) (Pm.size n w)) 5 := by
  have hm0 := (may_iff l w).1 hm
  rw [← hn, Int.toNat_natCast] at hm0
  obtain ⟨_, hw20, hn1, hv⟩ := hm
  rw [← hn] at hn1 hv
  have hw : w ≤ 20 := by omega
  have MAY := hid (rmay_yes a n cap w l W hm0.1 hm0.2 hR)
  have HV := hid hv
  have HN := hid hn
  clear hv hn hm0
  obtain ⟨i0, hi, hz0, hz1, hz2⟩ := info_parts Try.info5
  obtain ⟨m, hmm⟩ : ∃ m, m = Pm.size n w := ⟨_, rfl⟩
  have hnw : n * w ≤ 20000 := Nat.le_trans (Nat.mul_le_mul hn1 hw) (by omega)
  have hmb : m ≤ 2501 := by
    rw [hmm]; unfold Pm.size; omega
  have hmI : ((n : Int) * w + 7) / 8 = m := by rw [hmm]; unfold Pm.size; omega
  rw [← hmm]
  have HM := hid hmm
  clear hmm
  have mk1 : ∀ W : World, (Instr.makeSlice 23 (.int .i64 (m : Int)) (.int .i64 (m : Int))).run Try.prog W = _ := fun W => run_make W 23 5 i0 _ Try.underlying23 hi hz0 .i64 .i64 m m (by omega) (by omega) (by rw [hz2]; omega) (by omega)
  obtain ⟨N, hN⟩ : ∃ N, N = n * w := ⟨_, rfl⟩
  have hNI : (n : Int) * w = N := by rw [hN]; simp
  rw [hNI] at hmI
  rw [← hN] at hnw
  have HNN := hid hN
  rw [← hN]
  clear hN
  go_enter Try.func11, Try.ntmps11
  go_wp2_with (go_at_call 18; refine MAY.out.mono ?_; rintro e w' ⟨rfl, rfl⟩)
  clear mk1 hmI
  go_loopw [7] (fun s7 wr => ∃ i : Nat, i ≤ n ∧ s7 = .int .i64 i ∧ Blk wr W.heap.size (packCells l w (i * w) m) 5 ∧ Below W.heap.size W wr ∧ W.heap.size < wr.heap.size) (fun s7 _ => n - (intOf s7).toNat)
  case atStart =>
    refine ⟨0, by omega, rfl, ?_, (Below.refl _ _).alloc (Nat.le_refl _) _, by simp⟩
    refine Blk.new' rfl ?_
    rw [Nat.zero_mul]
    have := packCells_zero l w m
    rwa [Nat.mul_one] at this
  case round =>
    obtain ⟨i, hin, rfl, B, hb, hz⟩ := hrel
    by_cases hlt : i < n
    · obtain ⟨b, off, rfl, hc⟩ := hR.get hlt
      have cx := hc i hlt
      have hx := HV.out i hlt
      obtain ⟨x, hx0⟩ := Int.eq_ofNat_of_zero_le hx.1
      rw [hx0] at cx
      have HX := hid hx0
      have hxw : x < 2 ^ w := by have h := hx.2; rw [hx0] at h; simpa using h
      have hx20 : x < 1048576 := Nat.lt_of_lt_of_le hxw (Nat.pow_le_pow_right (by omega) hw)
      have CX := hid cx
      clear hx0 hc hx hxw cx
      obtain ⟨iw, hiw⟩ : ∃ iw, iw = i * w := ⟨_, rfl⟩
      have hiwI : (i : Int) * w = iw := by rw [hiw]; simp
      have hiwn : iw + w ≤ N := by
        rw [HNN.out]
        have := Nat.mul_le_mul_right w (show i + 1 ≤ n by omega)
        rw [Nat.add_mul] at this; omega
      have hmw : N ≤ 8 * m := by rw [HM.out, HNN.out]; unfold Pm.size; omega
      rw [← hiw] at B
      have HIW := hid hiw
      clear hiw
      go_wp2
      obtain ⟨wo, rfl⟩ : ∃ wo : World, wo = wr := ⟨_, rfl⟩
      go_loopw [8] (fun s8 wr => ∃ d : Nat, d ≤ w ∧ s8 = .int .i64 d ∧ Blk wr W.heap.size (packCells l w (iw + d) m) 5 ∧ Below W.heap.size W wr ∧ W.heap.size < wr.heap.size) (fun s8 _ => w - (intOf s8).toNat)
      case atStart => exact ⟨0, by omega, rfl, B, hb, hz⟩
      case round =>
        obtain ⟨d, hdw, rfl, B2, hb2, hz2⟩ := hrel
        by_cases hdl : d < w
        · have hat : (iw + d) / 8 < m := by omega
          have hat' : ((iw : Int) + d) / 8 < m := by omega
          have c1 := B2.cell (packCells_get (l := l) (w := w) (k := iw + d) hat)
          have f1 := B2.free ((iw + d) / 8)
          have c2 := below_keep hb2 CX.out
          have hltI : (i : Int) < n := by omega
          have hg := Bn.grp_lt (Pm.nbit l w) 8 (iw + d) ((iw + d) / 8)
          obtain ⟨g, hg0⟩ : ∃ g, g = Bn.grp (Pm.nbit l w) 8 (iw + d) ((iw + d) / 8) := ⟨_, rfl⟩
          rw [← hg0] at c1 hg
          have HS := hid (show g ||| (if x.testBit d then 2 ^ ((iw + d) % 8) else 0) = Bn.grp (Pm.nbit l w) 8 (iw + d + 1) ((iw + d) / 8) by
            rw [Bn.grp_step _ (by omega), hg0, HIW.out, Pm.nbit_at l w i d hdl, HX.out, Int.toNat_natCast])
          have HB := hid (Pm.byte_or x d g ((iw + d) % 8) (by omega) (by simpa using hg) (by omega))
          clear hg0 hg
          go_wp2
          refine wp_region_drawn_tail 23 (by kernel_rfl) (by kernel_rfl) ?_
          simp only [List.take_succ_cons, List.take_zero, List.drop_succ_cons, List.drop_zero]
          repeat (go_big_quiet_step (fail))
          refine wpQuiet_nil ?_
          rintro _ ⟨nq, rfl⟩
          go_wp2
          go_roundw
          case rel =>
            refine ⟨d + 1, by omega, by go_num, ?_, (below_drawn hb2 nq).setCell (by simp) _, by simpa using hz2⟩
            have B3 := (B2.drewN nq).set ((iw + d) / 8) (.int .u8 ((g ||| (if x.testBit d then 2 ^ ((iw + d) % 8) else 0) : Nat) : Int))
            rw [HS.out, packCells_set hat] at B3
            rw [HB.out, HS.out]
            exact B3
          case measure => simp [intOf]; omega
        · obtain rfl : d = w := by omega
          go_wp2
          go_roundw
          case rel =>
            refine ⟨i + 1, by omega, by go_num, ?_, hb2, hz2⟩
            rw [show (i + 1) * d = iw + d by rw [HIW.out, Nat.add_mul]; omega]
            exact B2
          case measure => simp [intOf]; omega
    · obtain rfl : i = n := by omega
      rw [← HNN.out] at B
      go_wp2
      go_ret2
      exact ⟨_, rfl, hb, Nat.le_refl _, B⟩
theorem rpack_no (a : Option Addr) (n cap : Nat) (w : Int) (l : List Int) (W : World) (hn : n = l.length) (hn2 : n ≤ 9223372036854775807) (hm : ¬ Pm.May l w) (hmax : ∀ i, i < n → l.getD i 0 ≤ 9223372036854775807) (hR : RowAt W a n fun i => .int .i64 (l.getD i 0)) :
    Calls Try.prog 11 #[.slice a n cap, .int .i64 w] W fun e W' => e = .returned (.tuple #[.slice none 0 0, .int .i64 1]) ∧ W = W' := by
  have MAY := hid (rmay_any a n cap w l W false hn hn2 ⟨(fun h => by cases h), fun h => absurd h hm⟩ hmax hR)
  clear hm hmax hR hn
  go_enter Try.func11, Try.ntmps11
  go_wp2_with (go_at_call 18; refine MAY.out.mono ?_; rintro e w' ⟨rfl, rfl⟩)
  go_ret2
  exact ⟨rfl, rfl⟩
end Go.Proofs.Ytjfbgfbmfknndaa
