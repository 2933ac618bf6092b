/- PackOne: bytes that are taken are written in just one way: each bit that is turned is another row, or none: for every input. -/
import Derived.Test.YtjfbgfbmfknndaaPackBack
namespace Go.Proofs.Ytjfbgfbmfknndaa
set_option linter.unusedVariables false
set_option linter.unusedSimpArgs false
set_option maxRecDepth 100000
open Go.ChangeShapes Go.WideShapes Go.ChangeAt Go.RowKit

theorem packOne_out1 (a : Option Addr) (n cap : Nat) (w at0 : Int) (W : World) (hbig : n ≤ 9223372036854775807) (h : 200 < n) :
    Calls Try.prog 5 #[.slice a n cap, .int .i64 w, .int .i64 at0] W fun e W' => e = .returned (.bool true) ∧ Below W.heap.size W W' := by
  go_enter Try.func5, Try.ntmps5
  go_wp2
  go_ret
  exact ⟨rfl, Below.refl _ _⟩
theorem packOne_out2 (a : Option Addr) (cap : Nat) (l : List Int) (w at0 : Int) (W : World) (h0 : l.length ≤ 200) (h : ¬ Pm.May l w)
    (hl : ∀ i, -9223372036854775808 ≤ l.getD i 0 ∧ l.getD i 0 ≤ 9223372036854775807) (hR : RowAt W a l.length fun i => .int .i64 (l.getD i 0)) :
    Calls Try.prog 5 #[.slice a l.length cap, .int .i64 w, .int .i64 at0] W fun e W' => e = .returned (.bool true) ∧ Below W.heap.size W W' := by
  have MY := hid (rmay_any a l.length cap w l W false rfl (by omega) (by simp [h]) (fun i _ => (hl i).2) hR)
  clear hR hl h
  go_enter Try.func5, Try.ntmps5
  go_wp2_with (go_at_call 18; refine MY.out.mono ?_; rintro e w' ⟨rfl, rfl⟩)
  go_ret
  exact ⟨rfl, Below.refl _ _⟩
theorem packOne_out3 (a : Option Addr) (cap : Nat) (l : List Int) (w : Nat) (at0 : Int) (W : World) (h0 : l.length ≤ 200) (h : Pm.May l w) (hz : l.length * w = 0)
    (hl : ∀ i, -9223372036854775808 ≤ l.getD i 0 ∧ l.getD i 0 ≤ 9223372036854775807) (hR : RowAt W a l.length fun i => .int .i64 (l.getD i 0)) :
    Calls Try.prog 5 #[.slice a l.length cap, .int .i64 w, .int .i64 at0] W fun e W' => e = .returned (.bool true) ∧ Below W.heap.size W W' := by
  have MY := hid (rmay_any a l.length cap w l W true rfl (by omega) (by simp [h]) (fun i _ => (hl i).2) hR)
  have hz' : (l.length : Int) * w = 0 := by rw [← Int.natCast_mul, hz]; rfl
  clear hR hl h hz
  go_enter Try.func5, Try.ntmps5
  go_wp2_with (go_at_call 18; refine MY.out.mono ?_; rintro e w' ⟨rfl, rfl⟩)
  go_ret
  exact ⟨rfl, Below.refl _ _⟩
theorem and_low (x : Int) : ∃ A : Nat, A ≤ 65535 ∧ bits BinOp.and IntKind.i64 x 65535 = (A : Int) := by
  refine ⟨((BitVec.ofInt 64 x) &&& 65535#64).toNat, ?_, ?_⟩
  · rw [BitVec.toNat_and]
    exact Nat.and_le_right
  · show IntKind.i64.wrap ((BitVec.ofInt 64 x &&& BitVec.ofInt 64 65535).toNat : Int) = _
    have h : ((BitVec.ofInt 64 x) &&& 65535#64).toNat ≤ 65535 := by rw [BitVec.toNat_and]; exact Nat.and_le_right
    rw [show BitVec.ofInt 64 65535 = 65535#64 from rfl]
    exact IntWalk.i64_in _ ⟨by omega, by omega⟩

theorem u8_flip (g j : Nat) (hg : g < 256) (hj : j < 8) : bits BinOp.xor IntKind.u8 (g : Int) ((2 : Int) ^ j % 256) = ((g ^^^ 2 ^ j : Nat) : Int) := by
  have h2 : 2 ^ j ≤ 128 := by
    have := Nat.pow_le_pow_right (n := 2) (by omega) (show j ≤ 7 by omega)
    simpa using this
  have h3 : (2 : Int) ^ j = ((2 ^ j : Nat) : Int) := by simp
  have e : (2 : Int) ^ j % 256 = ((2 ^ j : Nat) : Int) := by rw [h3]; generalize (2 : Nat) ^ j = y at h2 ⊢; omega
  rw [e, u8_xor_nat _ _ hg (by omega)]
theorem i64_flip (X j : Nat) (hX : X < 1048576) (hj : j < 20) : bits BinOp.xor IntKind.i64 (X : Int) (wrap64 (2 ^ j)) = ((X ^^^ 2 ^ j : Nat) : Int) := by
  have h2 : 2 ^ j ≤ 524288 := by
    have := Nat.pow_le_pow_right (n := 2) (by omega) (show j ≤ 19 by omega)
    simpa using this
  have h3 : (2 : Int) ^ j = ((2 ^ j : Nat) : Int) := by simp
  rw [h3, IntWalk.wrap64_in _ ⟨by generalize (2 : Nat) ^ j = y at h2 ⊢; omega, by generalize (2 : Nat) ^ j = y at h2 ⊢; omega⟩, Bn.i64_xor_nat _ _ (by omega) (by omega)]
theorem getD_set (B : List Nat) (q x i : Nat) (hq : q < B.length) : (B.set q x).getD i 0 = if i = q then x else B.getD i 0 := by
  simp only [List.getD, List.getElem?_set]
  by_cases h : i = q
  · subst h; simp [hq]
  · rw [if_neg (Ne.symm h), if_neg h]
theorem bitB_flip (B : List Nat) (k j : Nat) (hk : k / 8 < B.length) : Pm.bitB (B.set (k / 8) (B.getD (k / 8) 0 ^^^ 2 ^ (k % 8))) j = (Pm.bitB B j ^^ decide (j = k)) := by
  unfold Pm.bitB
  rw [getD_set _ _ _ _ hk]
  by_cases h : j / 8 = k / 8
  · rw [if_pos h, Nat.testBit_xor, Nat.testBit_two_pow, h]
    congr 1
    rw [decide_eq_decide]; omega
  · rw [if_neg h, decide_eq_false (by omega), Bool.xor_false]
theorem flip_lt (B : List Nat) (k : Nat) (hB : ∀ i, B.getD i 0 < 256) (hk : k / 8 < B.length) (i : Nat) : (B.set (k / 8) (B.getD (k / 8) 0 ^^^ 2 ^ (k % 8))).getD i 0 < 256 := by
  rw [getD_set _ _ _ _ hk]
  split
  · have h2 : 2 ^ (k % 8) < 2 ^ 8 := Nat.pow_lt_pow_right (by omega) (by omega)
    exact Nat.xor_lt_two_pow (n := 8) (hB _) h2
  · exact hB i
theorem flip_row {W : World} {b n m w q x : Nat} {l : List Int} {B : List Nat} {t : TypeId} (hn : n = l.length) (hm : m = Pm.size n w) (hB : B = Pm.bytes l w) (hq : q < m) (h : Blk W b (packCells l w (n * w) m) t) :
    BytesAt (W.setCell ⟨b, q, none⟩ (.int .u8 (x : Nat))) (.slice (some ⟨b, 0, none⟩) m m) (B.set q x) := by
  have hl : B.length = m := by rw [hB, Pm.bytes_length, ← hn, hm]
  refine ⟨_, m, by rw [List.length_set, hl], Or.inr ⟨_, _, rfl, fun i hi => ?_⟩⟩
  rw [List.length_set, hl] at hi
  show _ = some (Value.int .u8 ((B.set q x).getD i 0 : Nat))
  rw [getD_set _ _ _ _ (by omega), Nat.zero_add, (h.set q (.int .u8 (x : Nat))).cell (v := .int .u8 ((if i = q then x else B.getD i 0 : Nat) : Int))]
  rw [List.getElem?_set]
  by_cases e : i = q
  · subst e
    rw [if_pos rfl, if_pos rfl, if_pos (by simp [packCells]; omega)]
  · rw [if_neg (Ne.symm e), if_neg e, packCells_get hi, hB, Pm.bytes_get l w i (by rw [← hn, ← hm]; exact hi), hn]
    rfl
theorem un_flip_no {l : List Int} {w k : Nat} (h : Pm.May l w) (hk : l.length * w ≤ k) (hk8 : k < 8 * Pm.size l.length w) :
    unCode ((Pm.bytes l w).set (k / 8) ((Pm.bytes l w).getD (k / 8) 0 ^^^ 2 ^ (k % 8))) l.length w = 2 ∧ unList ((Pm.bytes l w).set (k / 8) ((Pm.bytes l w).getD (k / 8) 0 ^^^ 2 ^ (k % 8))) l.length w = [] := by
  have hl := Pm.bytes_length l w
  have hu : ¬ Un ((Pm.bytes l w).set (k / 8) ((Pm.bytes l w).getD (k / 8) 0 ^^^ 2 ^ (k % 8))) l.length w := by
    rintro ⟨_, _, h3⟩
    have h4 := h3 k (by simpa using hk) (by rw [List.length_set, hl]; exact hk8)
    rw [bitB_flip _ _ _ (by omega), Pm.bytes_noughts l w k hk (by rw [hl]; exact hk8)] at h4
    simp at h4
  have := un_no hu
  rw [if_pos ((may_iff l w).1 h).1] at this
  exact this
theorem num_bytes {l : List Int} {w i : Nat} (h : Pm.May l w) (hi : i < l.length) : ((Pm.num (Pm.bytes l w) w i : Nat) : Int) = l.getD i 0 := by
  have := Pm.nums_get (Pm.bytes l w) w l.length i hi
  rw [Pm.nums_bytes l w h] at this
  exact this.symm
theorem num_flip (B : List Nat) (w k i : Nat) (hk : k / 8 < B.length) : Pm.num (B.set (k / 8) (B.getD (k / 8) 0 ^^^ 2 ^ (k % 8))) w i = if i = k / w ∧ 0 < w then Pm.num B w i ^^^ 2 ^ (k % w) else Pm.num B w i := by
  unfold Pm.num
  split
  · rename_i h
    obtain ⟨rfl, hw⟩ := h
    apply Nat.eq_of_testBit_eq
    intro j
    rw [Nat.testBit_xor, Bn.testBit_val, Bn.testBit_val, bitB_flip _ _ _ hk, Nat.testBit_two_pow]
    have hkw := Nat.div_add_mod k w
    have hml := Nat.mod_lt k hw
    rw [Nat.mul_comm] at hkw
    by_cases hj : j < w
    · rw [decide_eq_true hj, Bool.true_and, Bool.true_and]
      congr 1
      rw [decide_eq_decide]; omega
    · rw [decide_eq_false hj, decide_eq_false (by omega : ¬ k % w = j)]; rfl
  · rename_i h
    refine Bn.val_congr fun j hj => ?_
    rw [bitB_flip _ _ _ hk, decide_eq_false, Bool.xor_false]
    intro e
    refine h ⟨?_, by omega⟩
    rw [← e, Nat.mul_comm, Nat.mul_add_div (by omega), Nat.div_eq_of_lt hj, Nat.add_zero]
theorem un_flip_yes {l : List Int} {w k : Nat} (h : Pm.May l w) (hk : k < l.length * w) (hk8 : k < 8 * Pm.size l.length w) :
    unCode ((Pm.bytes l w).set (k / 8) ((Pm.bytes l w).getD (k / 8) 0 ^^^ 2 ^ (k % 8))) l.length w = 0 ∧
    unList ((Pm.bytes l w).set (k / 8) ((Pm.bytes l w).getD (k / 8) 0 ^^^ 2 ^ (k % 8))) l.length w = Pm.nums ((Pm.bytes l w).set (k / 8) ((Pm.bytes l w).getD (k / 8) 0 ^^^ 2 ^ (k % 8))) w l.length := by
  have hl := Pm.bytes_length l w
  have hu : Un ((Pm.bytes l w).set (k / 8) ((Pm.bytes l w).getD (k / 8) 0 ^^^ 2 ^ (k % 8))) l.length w := by
    refine ⟨((may_iff l w).1 h).1, by rw [List.length_set, hl]; simp, fun j h1 h2 => ?_⟩
    simp only [Int.toNat_natCast] at h1
    rw [List.length_set] at h2
    rw [bitB_flip _ _ _ (by omega), Pm.bytes_noughts l w j h1 h2, decide_eq_false (by omega)]
    rfl
  have := un_yes hu
  simpa using this
set_option maxHeartbeats 1000000 in
theorem packOne_in (a : Option Addr) (cap : Nat) (l : List Int) (w : Nat) (at0 : Int) (W : World) (h1 : l.length ≤ 200) (hm : Pm.May l w) (hpos : 0 < l.length * w)
    (hl : ∀ i, -9223372036854775808 ≤ l.getD i 0 ∧ l.getD i 0 ≤ 9223372036854775807) (hR : RowAt W a l.length fun i => .int .i64 (l.getD i 0)) :
    Calls Try.prog 5 #[.slice a l.length cap, .int .i64 w, .int .i64 at0] W fun e W' => e = .returned (.bool true) ∧ Below W.heap.size W W' := by
  obtain ⟨n, hn⟩ : ∃ n, n = l.length := ⟨_, rfl⟩
  have hw20 : w ≤ 20 := by have := hm.2.1; omega
  have MY := hid (rmay_any a l.length cap w l W true rfl (by omega) (by simp [hm]) (fun i _ => (hl i).2) hR)
  have SP := hid (pack_ok a n cap w l W hn hm (by rw [hn]; exact hR))
  have hmb := ((may_iff l w).1 hm).1
  have hbl := Pm.bytes_length l w
  have hbt := Pm.bytes_lt l w
  have hsz : Pm.size n w ≤ 501 := by unfold Pm.size; have : n * w ≤ 200 * 20 := Nat.mul_le_mul (by omega) hw20; omega
  rw [← hn] at hbl h1 hmb MY hR hpos ⊢
  obtain ⟨B, hB⟩ : ∃ B, B = Pm.bytes l w := ⟨_, rfl⟩
  obtain ⟨m, hmm⟩ : ∃ m, m = Pm.size n w := ⟨_, rfl⟩
  rw [← hB] at hbl hbt
  rw [← hmm] at hbl hsz
  rw [← hmm] at SP
  obtain ⟨N, hN⟩ : ∃ N, N = n * w := ⟨_, rfl⟩
  have hNI : (n : Int) * w = N := by rw [hN]; simp
  have hmI : ((N : Int) + 7) / 8 = m := by rw [hmm, hN]; unfold Pm.size; omega
  have hN0 : N ≤ 4000 := by rw [hN]; exact Nat.mul_le_mul h1 hw20
  rw [← hN] at hpos
  have hz0 : ((N : Int) == 0) = false := beq_eq_false_iff_ne.2 (by omega)
  have KN := hid (fun W' => known_any W')
  obtain ⟨A, hA, hand⟩ := and_low at0
  have hm0 : 0 < m := by omega
  obtain ⟨k, hk⟩ : ∃ k, k = A % (8 * m) := ⟨_, rfl⟩
  have hkm : k < 8 * m := by rw [hk]; exact Nat.mod_lt _ (by omega)
  have hkI : (A : Int) % (8 * (m : Int)) = k := by rw [hk, Int.natCast_emod, Int.natCast_mul]; rfl
  have HK := hid hk
  have HBL := hid hbl
  have SZ0 := hid hmm
  have HMB := hid hmb
  have HBT := hid hbt
  have HBB := hid hB
  have HN0 := hid hn
  have HNN := hid hN
  have HL := hid hl
  have HR := hid hR
  have HMY := hid hm
  clear hmb hbl hbt hmm hN hB hm hn hl hR hk
  go_enter Try.func5, Try.ntmps5
  go_wp2_with (go_at_call 18; refine MY.out.mono ?_; rintro e w' ⟨rfl, rfl⟩)
  refine SP.out.mono ?_
  rintro e w1 ⟨b1, rfl, hb1, hge, B1⟩
  have HR1 := hid (HR.out.keep hb1)
  have hk8 : k / 8 < m := by omega
  have c1 := B1.cell (packCells_get (l := l) (w := w) (k := n * w) hk8)
  have f1 := B1.free (k / 8)
  obtain ⟨g, hg0⟩ : ∃ g, g = Bn.grp (Pm.nbit l w) 8 (n * w) (k / 8) := ⟨_, rfl⟩
  have hg : g < 256 := by rw [hg0]; exact Bn.grp_lt _ 8 _ _
  rw [← hg0] at c1
  have HB1 := hid hb1
  have eg : g = B.getD (k / 8) 0 := by
    rw [hg0, HBB.out, Pm.bytes_get l w _ (by rw [← HN0.out, ← SZ0.out]; exact hk8), HN0.out]; rfl
  obtain ⟨x, hx⟩ : ∃ x, x = g ^^^ 2 ^ (k % 8) := ⟨_, rfl⟩
  have hx8 := u8_flip g (k % 8) hg (by omega)
  rw [← hx] at hx8
  have hxB : x = B.getD (k / 8) 0 ^^^ 2 ^ (k % 8) := by rw [hx, eg]
  have BF := hid (flip_row (x := x) HN0.out SZ0.out HBB.out hk8 B1)
  have hblk : Below W.heap.size W (w1.setCell ⟨b1, k / 8, none⟩ (.int .u8 (x : Nat))) := hb1.setCell hge _
  have HB2 := hid hblk
  have hlt2 : (B.set (k / 8) x).length ≤ maxLen := by rw [List.length_set, HBL.out]; unfold maxLen; omega
  have hfl : ∀ i, (B.set (k / 8) x).getD i 0 < 256 := by
    rw [hxB]; exact flip_lt B k HBT.out (by rw [HBL.out]; exact hk8)
  have SU := hid (unpack_all _ _ (B.set (k / 8) x) n w hlt2 hfl BF.out)
  have hk8I : (k : Int) / 8 < m := by omega
  by_cases hkN : N ≤ k
  · have hu := un_flip_no (k := k) HMY.out (by rw [← HN0.out, ← HNN.out]; exact hkN) (by rw [← HN0.out, ← SZ0.out]; exact hkm)
    rw [← HBB.out, ← hxB, ← HN0.out] at hu
    rw [hu.1, hu.2] at SU
    clear SP hb1 B1 hg0 hx hxB eg hblk hlt2 hfl hu BF
    go_wp2_with fail
    refine SU.out.mono ?_
    rintro e w2 ⟨p2, rfl, hb2, B2⟩
    obtain ⟨a2, cap2, rfl, _⟩ := B2
    have HB3 := hid (below_then HB2.out hb2)
    clear SU hb2
    go_wp2_with (go_at_call 17; refine (KN.out _).mono ?_; rintro e w' ⟨rfl, hb⟩; have HB8 := hid (below_then HB3.out hb); clear hb)
    go_ret
    exact ⟨rfl, HB8.out⟩
  · have hu := un_flip_yes (k := k) HMY.out (by rw [← HN0.out, ← HNN.out]; omega) (by rw [← HN0.out, ← SZ0.out]; exact hkm)
    rw [← HBB.out, ← hxB, ← HN0.out] at hu
    rw [hu.1, hu.2] at SU
    have HXB := hid hxB
    clear SP hb1 B1 hg0 hx hxB eg hblk hlt2 hfl hu BF
    go_wp2_with fail
    refine SU.out.mono ?_
    rintro e w2 ⟨p2, rfl, hb2, B2⟩
    have HR2 := hid ((HR.out.keep HB2.out).keep hb2)
    have HB3 := hid (below_then HB2.out hb2)
    obtain ⟨a2, cap2, rfl, hr2⟩ := B2
    rw [Pm.nums_length] at hr2 ⊢
    have HP := hid hr2
    clear SU hb2 hr2
    have hw0 : 0 < w := by
      rcases Nat.eq_zero_or_pos w with h | h
      · have := HNN.out; rw [h, Nat.mul_zero] at this; omega
      · exact h
    go_wp2
    go_loop [12, 13] (fun s _ => ∃ i : Nat, i ≤ n ∧ s = .int .i64 i) (fun s _ => n - (intOf s).toNat)
    case atStart => exact ⟨0, by omega, rfl⟩
    case round =>
      obtain ⟨i, hin, rfl⟩ := hrel
      by_cases hlt : i < n
      · obtain ⟨b, off, rfl, hc⟩ := HR2.out.get hlt
        have c0 := hc i hlt
        obtain ⟨b', off', rfl, hc'⟩ := HP.out.get hlt
        have c1 := hc' i hlt
        have hnum := num_bytes (w := w) HMY.out (show i < l.length by rw [← HN0.out]; exact hlt)
        rw [← HBB.out] at hnum
        rw [Pm.nums_get _ _ _ _ hlt, HXB.out, num_flip _ _ _ _ (by rw [HBL.out]; exact hk8)] at c1
        obtain ⟨X, hX⟩ : ∃ X, X = Pm.num B w i := ⟨_, rfl⟩
        have hX20 : X < 1048576 := by
          rw [hX]; exact Nat.lt_of_lt_of_le (Pm.num_lt B w i) (Nat.pow_le_pow_right (by omega) hw20)
        rw [← hX] at hnum c1
        rw [← hnum] at c0
        clear hc hc' hnum hX
        have hkrlt : k % w < w := Nat.mod_lt _ hw0
        have hkq : k / w ≤ 4000 := Nat.le_trans (Nat.div_le_self _ _) (by omega)
        obtain ⟨kq, hq⟩ : ∃ kq, kq = k / w := ⟨_, rfl⟩
        obtain ⟨kr, hr⟩ : ∃ kr, kr = k % w := ⟨_, rfl⟩
        have hqI : (k : Int) / w = kq := by rw [hq, Int.natCast_ediv]
        have hrI : (k : Int) % w = kr := by rw [hr, Int.natCast_emod]
        rw [← hq] at hkq
        rw [← hr] at hkrlt
        rw [← hq, ← hr] at c1
        have hmin : min kr 64 = kr := by omega
        have hkr : kr < 20 := by omega
        clear hq hr
        by_cases hik : i = kq
        · rw [if_pos ⟨hik, hw0⟩] at c1
          have hikI : ((i : Int) == kq) = true := by rw [beq_iff_eq, hik]
          have hfx := i64_flip X kr hX20 hkr
          obtain ⟨Y, hY⟩ : ∃ Y, Y = X ^^^ 2 ^ kr := ⟨_, rfl⟩
          rw [← hY] at c1 hfx
          have hYY : ((Y : Int) != Y) = false := by simp
          clear hik hY
          go_wp2
          go_round
          case rel => exact ⟨i + 1, by omega, by go_num⟩
          case measure => simp [intOf]; omega
        · rw [if_neg (fun h => hik h.1)] at c1
          have hikI : ((i : Int) == kq) = false := by rw [beq_eq_false_iff_ne]; omega
          have hXX : ((X : Int) != X) = false := by simp
          clear hik
          go_wp2
          go_round
          case rel => exact ⟨i + 1, by omega, by go_num⟩
          case measure => simp [intOf]; omega
      · go_wp2_with (go_at_call 17; refine (KN.out _).mono ?_; rintro e w' ⟨rfl, hb⟩; have HB8 := hid (below_then HB3.out hb); clear hb)
        go_ret
        exact ⟨rfl, HB8.out⟩

theorem packOne_walk (H : Type) (enc : TypeId × Value → H) (W : World) (base : Nat) (args : Array Value) (ds gs : List (DataW H)) (before : List MemPlace)
    (hval : ∀ (j : Nat) t v, Try.f5.params[j]? = some t → args[j]? = some v → Value.okWide Try.prog W .any base t v)
    (hW : DataW.Whole enc Try.prog Try.f5.params.toList Rows.packOneSpec.vars false W args.toList ds gs before)
    (hz : (DataW.weightsEach Try.prog (Try.f5.params.toList ++ Rows.packOneSpec.plain.varTypes Try.prog) (ds ++ gs)).all (· ≤ reachBytes) = true)
    (hL : laidMetH Try.prog Rows.packOneRow.laid W) (hsh : W.ShapedOpen Try.prog) :
    Calls Try.prog 5 args W fun e W' => e = .returned (.bool true) ∧ Below W.heap.size W W' := by
  obtain ⟨p, q, hA, _, _, _, _⟩ := hW
  rw [Try.params5] at hA hval
  obtain ⟨v0, vs0, d0, ds0, p0, q0, hargs, rfl, rfl, h0, r0⟩ := trodAll_cons hA
  obtain ⟨v1, vs1, d1, ds1, p1, q1, rfl, rfl, rfl, h1, r1⟩ := trodAll_cons r0
  obtain ⟨v2, vs2, d2, ds2, p2, q2, rfl, rfl, rfl, h2, r2⟩ := trodAll_cons r1
  obtain ⟨rfl, rfl, rfl⟩ := trodAll_nil r2
  obtain rfl : args = #[v0, v1, v2] := by cases args; simp_all
  obtain ⟨a0, cap0, l0, rfl, hl0, hm0, hnil0, hb0, hr0⟩ := read_ints Try.underlying22 Try.underlying3 (show Try.prog.cellsOf 3 = 1 by kernel_rfl) (hval 0 22 v0 rfl rfl) h0
  obtain ⟨x1, rfl, rfl, rfl, w1⟩ := open_int Try.underlying3 (hval 1 3 v1 rfl rfl) h1
  obtain ⟨x2, rfl, rfl, rfl, w2⟩ := open_int Try.underlying3 (hval 2 3 v2 rfl rfl) h2
  have hbig : l0.length ≤ 9223372036854775807 := by unfold maxLen at hm0; omega
  by_cases hb : 200 < l0.length
  · exact packOne_out1 a0 _ cap0 x1 x2 W hbig hb
  · rcases Classical.em (Pm.May l0 x1) with hm | hm
    · obtain ⟨k, rfl⟩ : ∃ k : Nat, x1 = k := ⟨x1.toNat, by have := hm.1; omega⟩
      rcases Nat.eq_zero_or_pos (l0.length * k) with hz0 | hz0
      · exact packOne_out3 a0 cap0 l0 k x2 W (by omega) hm hz0 hb0 hr0
      · exact packOne_in a0 cap0 l0 k x2 W (by omega) hm hz0 hb0 hr0
    · exact packOne_out2 a0 cap0 l0 x1 x2 W (by omega) hm hb0 hr0

theorem packOne_lifted (os : Os) (started : os.Started) (H : Type) (enc : TypeId × Value → H) (F : Stop.Interp) :
    ReturnsInHanded {} Try.checked os 5 .any ((OpenSpec.ofChange Rows.packOneSpec).preRow enc Try.prog Try.f5 Rows.packOneRow.domain false Rows.packOneRow.laid) (((OpenSpec.ofChange Rows.packOneSpec).at F).post enc Try.prog Try.f5 false true false false) := by
  obtain ⟨places, hx⟩ : ∃ places, DataW.whole enc Try.prog ((World.holding Try.prog os ⟨#[], #[], []⟩).forCall (fun _ _ => 0) ⟨#[], #[.slice none 0 0, .int .i64 0, .int .i64 0], []⟩).memory Try.f5.params.toList Rows.packOneSpec.vars false (#[.slice none 0 0, .int .i64 0, .int .i64 0] : Array Value).toList 8 = some ([.nil, .lit (.int .i64 0), .lit (.int .i64 0)], [], places) := ⟨[], by kernel_rfl⟩
  refine returnsInHanded_of_row (C := Try.checked) (s := OpenSpec.ofChange Rows.packOneSpec) own started (by kernel_rfl) Try.func5
    (witness_row_at (enc := enc) (C := Try.checked) false (World.holding Try.prog os ⟨#[], #[], []⟩) #[.slice none 0 0, .int .i64 0, .int .i64 0] rfl (by kernel_rfl) (by kernel_rfl) (by kernel_rfl)
      (OpenSpec.preRow_of_cond 8 hx (by kernel_rfl) (fun k hk => by cases hk) (by kernel_rfl) (laidMet_nil _ _))) ?_
  intro W base args ds gs before hval hW _ _ hz hL hsh _
  refine (packOne_walk H enc W base args ds gs before hval hW hz hL hsh).mono fun e W' ⟨he, hb⟩ => ⟨_, he, ?_⟩
  exact law_post (fn := Try.f5) (s := Rows.packOneSpec) (tb := 4) rfl (fun ds hd => by match ds, hd with | [d0, d1, d2], _ => rfl) rfl Try.underlying4 (by kernel_rfl) hW hb

theorem packOne_said : Rows.PackOneSaid :=
  OpenClaim.holds_of_cond 5 Try.f5 rfl rfl rfl rfl rfl rfl rfl ⟨rfl, rfl, rfl, rfl, rfl⟩ rfl rfl rfl rfl rfl (by kernel_rfl) Try.func5 (by kernel_rfl)
    (of_decide_eq_true (by kernel_rfl)) (by unfold Func.isWrapper; first | (rw [if_pos (by decide +kernel)]; kernel_rfl) | (rw [if_neg (by decide +kernel)]; exact ⟨rfl, rfl⟩))
    (fun os started H enc _ F => by rw [OpenClaim.pre_eq_preRow]; exact packOne_lifted os started H enc F)
end Go.Proofs.Ytjfbgfbmfknndaa
