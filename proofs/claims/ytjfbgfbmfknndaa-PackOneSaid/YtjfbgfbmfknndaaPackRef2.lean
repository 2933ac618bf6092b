/- The document's own Unpack; the known example. -/
import Derived.Test.YtjfbgfbmfknndaaPackRef
namespace Go.Proofs.Ytjfbgfbmfknndaa
set_option linter.unusedVariables false
set_option linter.unusedSimpArgs false
open Go.ChangeShapes Go.WideShapes Go.ChangeAt Go.RowKit

theorem toList_inj {a b : ByteArray} (h : a.toList = b.toList) : a = b := by
  rw [ByteArray.toList_eq, ByteArray.toList_eq] at h
  exact ByteArray.ext (Array.toList_inj.mp h)
theorem runpack_no1 (a : Option Addr) (m cap : Nat) (n w : Int) (W : World) (h : mb n w = false) :
    Calls Try.prog 13 #[.slice a m cap, .int .i64 n, .int .i64 w] W fun e W' => e = .returned (.tuple #[.slice none 0 0, .int .i64 1]) ∧ W' = W := by
  have h1 : w < 0 ∨ (0 ≤ w ∧ 20 < w) ∨ (0 ≤ w ∧ w ≤ 20 ∧ n < 0) ∨ (0 ≤ w ∧ w ≤ 20 ∧ 0 ≤ n ∧ 1000 < n) := by unfold mb at h; simp at h; omega
  clear h
  rcases h1 with h1 | ⟨h1, h2⟩ | ⟨h1, h2, h3⟩ | ⟨h1, h2, h3, h4⟩
  all_goals
    go_enter Try.func13, Try.ntmps13
    go_wp2
    go_ret2
    exact ⟨rfl, rfl⟩
theorem runpack_no2 (a : Option Addr) (m cap n w : Nat) (W : World) (hm4 : m ≤ maxLen) (h1 : mb n w = true) (hs : m ≠ Pm.size n w) :
    Calls Try.prog 13 #[.slice a m cap, .int .i64 n, .int .i64 w] W fun e W' => e = .returned (.tuple #[.slice none 0 0, .int .i64 2]) ∧ W' = W := by
  have hn1 : n ≤ 1000 ∧ w ≤ 20 := by unfold mb at h1; simp at h1; omega
  obtain ⟨hn1, hw⟩ := hn1
  have hnw : n * w ≤ 20000 := Nat.le_trans (Nat.mul_le_mul hn1 hw) (by omega)
  obtain ⟨q, hq⟩ : ∃ q, q = Pm.size n w := ⟨_, rfl⟩
  have hmI : ((n : Int) * w + 7) / 8 = q := by rw [hq]; unfold Pm.size; omega
  rw [← hq] at hs
  obtain ⟨N, hN⟩ : ∃ N, N = n * w := ⟨_, rfl⟩
  have hNI : (n : Int) * w = N := by rw [hN]; simp
  rw [hNI] at hmI
  rw [← hN] at hnw
  have hbe : ((m : Int) == (q : Int)) = false := by rw [beq_eq_false_iff_ne]; omega
  have hbn : ((m : Int) != (q : Int)) = true := by rw [bne_iff_ne]; omega
  unfold maxLen at hm4
  clear hN hq h1 hs
  go_enter Try.func13, Try.ntmps13
  go_wp2
  go_ret2
  exact ⟨rfl, rfl⟩

set_option maxHeartbeats 2000000 in
theorem runpack_go (a : Option Addr) (m cap n w : Nat) (l : List Nat) (W : World) (hm : m = l.length) (hb : ∀ i, l.getD i 0 < 256) (h1 : mb n w = true) (hs : m = Pm.size n w) (hR : RowAt W a m fun i => .int .u8 (l.getD i 0 : Nat)) :
    Calls Try.prog 13 #[.slice a m cap, .int .i64 n, .int .i64 w] W fun e W' => ∃ (v : Value) (q : Int), e = .returned (.tuple #[v, .int .i64 q]) ∧ Below W.heap.size W W' ∧
      ((Noughts l (n * w) m → ∃ (a' : Option Addr) (cap' : Nat), q = 0 ∧ v = .slice a' n cap' ∧ RowAt W' a' n fun i => .int .i64 ((Pm.nums l w n).getD i 0)) ∧ (¬ Noughts l (n * w) m → q = 2 ∧ v = .slice none 0 0)) := by
  have hn1 : n ≤ 1000 ∧ w ≤ 20 := by unfold mb at h1; simp at h1; omega
  obtain ⟨hn1, hw⟩ := hn1
  have hnw : n * w ≤ 20000 := Nat.le_trans (Nat.mul_le_mul hn1 hw) (by omega)
  have hmI : ((n : Int) * w + 7) / 8 = m := by rw [hs]; unfold Pm.size; omega
  have hm8 : n * w ≤ 8 * m := by rw [hs]; unfold Pm.size; omega
  have hm25 : m ≤ 2501 := by rw [hs]; unfold Pm.size; omega
  obtain ⟨i0, hi, hz0, hz1, hz2⟩ := info_parts Try.info3
  have HS := hid hs
  have HM := hid hm
  have HB := hid hb
  have HBK := hid (Pm.bytes_back l w n hb (by rw [← hm]; exact hm8))
  have RP := hid (fun (a' : Option Addr) (cap' : Nat) (W' : World) (hR' : RowAt W' a' n fun i => .int .i64 ((Pm.nums l w n).getD i 0)) => rpack_ok a' n cap' w (Pm.nums l w n) W' (by rw [Pm.nums_length]) (Pm.nums_may l w n hn1 hw) hR')
  obtain ⟨N, hN⟩ : ∃ N, N = n * w := ⟨_, rfl⟩
  have hNI : (n : Int) * w = N := by rw [hN]; simp
  rw [hNI] at hmI
  rw [← hN] at hnw hm8
  have HNN := hid hN
  clear hN h1 hs hm hb
  go_enter Try.func13, Try.ntmps13
  go_wp2
  clear hmI
  go_loopw [8, 9] (fun s8 s9 wr => ∃ i : Nat, i ≤ n ∧ s9 = .int .i64 i ∧ wr.ownsRow W.heap.size 3 1 s8 i ((List.range i).map fun t => .int .i64 (Pm.num l w t : Nat)) ∧ Below W.heap.size W wr) (fun _ s9 _ => n - (intOf s9).toNat)
  case atStart => exact ⟨0, by omega, rfl, World.ownsRow_nil _ _ _ _, Below.refl _ _⟩
  case round =>
    obtain ⟨i, hin, rfl, hown, hb1⟩ := hrel
    by_cases hlt : i < n
    · obtain ⟨iw, hiw⟩ : ∃ iw, iw = i * w := ⟨_, rfl⟩
      have hiwI : (i : Int) * w = iw := by rw [hiw]; simp
      have hiwn : iw + w ≤ N := by
        rw [HNN.out]
        have := Nat.mul_le_mul_right w (show i + 1 ≤ n by omega)
        rw [Nat.add_mul] at this; omega
      have HIW := hid hiw
      have HO := hid hown
      clear hiw hown
      go_wp2
      obtain ⟨wo, rfl⟩ : ∃ wo : World, wo = wr := ⟨_, rfl⟩
      go_loopw [10, 11] (fun s10 s11 wr => ∃ (d x : Nat), d ≤ w ∧ s11 = .int .i64 ((d : Int) - 1) ∧ s10 = .int .i64 x ∧ x < 1048576 ∧ Hid (x = Bn.val (fun j => Pm.bitB l (iw + d + j)) (w - d)) ∧ wr = wo) (fun _ s11 _ => (intOf s11 + 1).toNat)
      case atStart => exact ⟨w, 0, Nat.le_refl _, rfl, rfl, by omega, (by rw [Nat.sub_self]; rfl : 0 = Bn.val (fun j => Pm.bitB l (iw + w + j)) (w - w)), rfl⟩
      case round =>
        obtain ⟨d, x, hdw, rfl, rfl, hx, HX, rfl⟩ := hrel
        by_cases hd0 : 0 < d
        · obtain ⟨f, rfl⟩ : ∃ f, d = f + 1 := ⟨d - 1, by omega⟩
          rw [show ((f + 1 : Nat) : Int) - 1 = f by omega]
          have hk8 : (iw + f) / 8 < m := by omega
          have hk8' : ((iw : Int) + f) / 8 < m := by omega
          obtain ⟨b, off, rfl, hc⟩ := hR.get hk8
          have c0 := below_keep hb1 (hc ((iw + f) / 8) hk8)
          have hy := HB.out ((iw + f) / 8)
          obtain ⟨y, hy0⟩ : ∃ y, y = l.getD ((iw + f) / 8) 0 := ⟨_, rfl⟩
          rw [← hy0] at c0 hy
          have HBT := hid (Pm.bit_at y ((iw + f) % 8) hy)
          have HSH := hid (Pm.shift_in x (y.testBit ((iw + f) % 8)) hx)
          have HV := hid (show (if y.testBit ((iw + f) % 8) then 1 else 0) + 2 * x = Bn.val (fun j => Pm.bitB l (iw + f + j)) (w - f) by
            rw [show w - f = (w - (f + 1)) + 1 by omega]
            simp only [Bn.val]
            have e0 : Pm.bitB l (iw + f + 0) = y.testBit ((iw + f) % 8) := by unfold Pm.bitB; rw [Nat.add_zero, ← hy0]
            simp only [e0]
            rw [HX.out]
            congr 2
            exact Bn.val_congr fun j _ => by rw [show iw + f + (j + 1) = iw + (f + 1) + j by omega])
          have hvl := Bn.val_lt (w - f) (fun j => Pm.bitB l (iw + f + j))
          have hv20 : 2 ^ (w - f) ≤ 1048576 := Nat.pow_le_pow_right (by omega) (show w - f ≤ 20 by omega)
          obtain ⟨z, hz⟩ : ∃ z, z = (if y.testBit ((iw + f) % 8) then 1 else 0) + 2 * x := ⟨_, rfl⟩
          have hzl : z < 1048576 := by rw [hz, HV.out]; omega
          rw [← hz] at HSH HV
          clear hc hy0 hvl hv20 hz
          have hdg := Bn.dig_lt (y.testBit ((iw + f) % 8))
          have HW := hid (show wrap64 (bits BinOp.and IntKind.u8 ((y : Int) / 2 ^ ((iw + f) % 8)) 1) = (Bn.dig (y.testBit ((iw + f) % 8)) : Nat) by
            rw [HBT.out]; exact IntWalk.wrap64_in _ ⟨by omega, by omega⟩)
          clear hdg
          go_wp2
          go_roundw
          case rel => exact ⟨f, z, by omega, rfl, by rw [HW.out, HSH.out], hzl, HV, trivial⟩
          case measure => simp [intOf] <;> omega
        · obtain rfl : d = 0 := by omega
          rw [show ((0 : Nat) : Int) - 1 = -1 from rfl]
          have HX2 := hid (show x = Pm.num l w i by
            rw [HX.out]; unfold Pm.num
            rw [← HIW.out]; rfl)
          go_wp2_with (at_builtin; refine wpList_append_row rfl (.tmp 67) (.tmp 69) 22 rfl W.heap.size 3 i0 _ 8 Try.underlying22 hi hz0 hz1 hz2 rfl _ _ _ rfl (HO.out.alloc _) (some ⟨wr.heap.size, 0, none⟩) 1 1 (fun _ => .int .i64 x) rfl ?nil ?row ?one ?b1 ?b2 ?base ?_)
          case nil => intro h; cases h
          case row =>
            refine Or.inr ⟨_, _, rfl, fun j hj => ?_⟩
            obtain rfl : j = 0 := by omega
            simp [go_sem]
          case one => intro j _; rfl
          case b1 => unfold maxLen; omega
          case b2 => omega
          case base => exact Nat.le_trans hb1.size (by simp)
          intro v1 w1 hown1 hgr
          have hb3 : Below W.heap.size W w1 := (hb1.alloc hb1.size _).grown hgr (Nat.le_trans hb1.size (by simp)) (fun k hk => (HO.out.lt k hk).1)
          have e1 : ((List.range i).map fun t => Value.int .i64 (Pm.num l w t : Nat)) ++ (List.range 1).map (fun _ => Value.int .i64 (x : Int)) = (List.range (i + 1)).map fun t => Value.int .i64 (Pm.num l w t : Nat) := by
            rw [show List.range (i + 1) = List.range i ++ [i] from List.range_succ, List.map_append, HX2.out]; rfl
          replace hown1 : w1.ownsRow W.heap.size 3 1 v1 (i + 1) ((List.range (i + 1)).map fun t => Value.int .i64 (Pm.num l w t : Nat)) := by rw [← e1]; exact hown1
          clear e1
          clear hgr
          go_wp2
          go_roundw
          case rel => exact ⟨i + 1, by omega, by first | rfl | go_num, hown1, hb3⟩
          case measure => simp [intOf]; omega
    · obtain rfl : i = n := by omega
      obtain ⟨a2, cap2, hv2, hc1, hc2, hc3, hrow⟩ := rowAt_own hown
      subst hv2
      have hrow2 : RowAt wr a2 i fun t => .int .i64 ((Pm.nums l w i).getD t 0) := by
        rcases hrow with h0 | ⟨b', off, ha, hc⟩
        · exact Or.inl h0
        · refine Or.inr ⟨b', off, ha, fun t ht => ?_⟩
          rw [hc t ht]
          show _ = some (Value.int .i64 ((Pm.nums l w i).getD t 0))
          rw [Pm.nums_get l w i t ht]
          simp [List.getD, ht]
      have R := hid (RP.out a2 cap2 wr hrow2)
      have HR2 := hid hrow2
      have HB1 := hid hb1
      have HRR := hid hR
      clear hrow hrow2 hown hR
      go_wp2_with fail
      refine R.out.mono ?_
      rintro e w1 ⟨b, rfl, hb2, hbb, B⟩
      rw [← HS.out] at B
      rw [← HS.out]
      have hb3 := below_then HB1.out hb2
      have CA := hid (conv_bytes (P := Try.prog) w1 23 5 9 Try.underlying23 Try.underlying5 Try.underlying9 a m cap l HM.out (HRR.out.keep hb3))
      have CB := hid (conv_bytes (P := Try.prog) w1 23 5 9 Try.underlying23 Try.underlying5 Try.underlying9 (some ⟨b, 0, none⟩) m m ((List.range m).map fun t => Bn.grp (Pm.nbit (Pm.nums l w i) w) 8 (i * w) t) (by simp) (Or.inr ⟨_, _, rfl, fun t ht => by
        rw [Nat.zero_add, B.cell (packCells_get ht)]
        simp [List.getD, ht]⟩))
      obtain ⟨s1, hs1⟩ : ∃ s1, s1 = strOf l := ⟨_, rfl⟩
      obtain ⟨s2, hs2⟩ : ∃ s2, s2 = strOf ((List.range m).map fun t => Bn.grp (Pm.nbit (Pm.nums l w i) w) 8 (i * w) t) := ⟨_, rfl⟩
      rw [← hs1] at CA
      rw [← hs2] at CB
      have heq : s2 = s1 ↔ Noughts l (i * w) m := by
        have hk := HBK.out
        rw [← HM.out] at hk
        unfold Noughts
        rw [← hk, hs1, hs2]
        refine ⟨fun h => strOf_inj ?_ HB.out h, fun h => by rw [h]⟩
        intro t
        simp only [List.getD, List.getElem?_map]
        by_cases ht : t < m
        · rw [List.getElem?_range ht]; exact Bn.grp_lt _ 8 _ _
        · have e : (List.range m)[t]? = none := by simp; omega
          rw [e]; simp
      have HEQ := hid heq
      have ca := CA.out
      have cb := CB.out
      have HB3 := hid hb3
      have HR3 := hid (HR2.out.keep hb2)
      clear hs1 hs2 heq B hb2 hb3
      by_cases hno : Noughts l (i * w) m
      · have h12 : (s2.toList == s1.toList) = true := by rw [HEQ.out.2 hno]; simp
        have h12' : (s1.toList == s2.toList) = true := by rw [HEQ.out.2 hno]; simp
        have HNO := hid hno
        clear hno
        go_wp2
        go_ret2
        exact ⟨_, _, rfl, HB3.out, fun _ => ⟨a2, cap2, rfl, rfl, HR3.out⟩, fun h => absurd HNO.out h⟩
      · have h12 : (s2.toList == s1.toList) = false := by rw [beq_eq_false_iff_ne]; exact fun h => hno (HEQ.out.1 (toList_inj h))
        have h12' : (s1.toList == s2.toList) = false := by rw [beq_eq_false_iff_ne]; exact fun h => hno (HEQ.out.1 (toList_inj h.symm))
        have HNO := hid hno
        clear hno
        go_wp2
        go_ret2
        exact ⟨_, _, rfl, HB3.out, fun h => absurd h HNO.out, fun _ => ⟨rfl, rfl⟩⟩
end Go.Proofs.Ytjfbgfbmfknndaa
