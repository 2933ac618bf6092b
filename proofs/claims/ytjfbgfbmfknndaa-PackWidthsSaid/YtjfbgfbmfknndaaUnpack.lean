/- Unpack. -/
import Derived.Test.YtjfbgfbmfknndaaPack
namespace Go.Proofs.Ytjfbgfbmfknndaa
set_option linter.unusedVariables false
set_option linter.unusedSimpArgs false
open Go.ChangeShapes Go.WideShapes Go.ChangeAt Go.RowKit

theorem bitat_any (a : Option Addr) (m cap k : Nat) (l : List Nat) (W : World) (hm : m ≤ 4000) (hb : ∀ i, l.getD i 0 < 256) (hR : RowAt W a m fun i => .int .u8 (l.getD i 0 : Nat)) (hk : k < 8 * m) :
    Calls Try.prog 22 #[.slice a m cap, .int .i64 k] W fun e W' => e = .returned (.int .i64 (Bn.dig (Pm.bitB l k) : Nat)) ∧ W' = W := by
  have hk8 : k / 8 < m := by omega
  obtain ⟨b, off, rfl, hc⟩ := hR.get hk8
  have c0 := hc (k / 8) hk8
  have hx := hb (k / 8)
  unfold Pm.bitB
  obtain ⟨x, hx0⟩ : ∃ x, x = l.getD (k / 8) 0 := ⟨_, rfl⟩
  rw [← hx0] at c0 hx ⊢
  have HB := hid (Pm.bit_at x (k % 8) hx)
  clear hc hx0
  go_enter Try.func22, Try.ntmps22
  go_wp2
  go_ret
  refine ⟨ret_int ?_, rfl⟩
  rw [HB.out]
  have hd := Bn.dig_lt (x.testBit (k % 8))
  exact IntWalk.wrap64_in _ ⟨by omega, by omega⟩

/-- Do only noughts stand from digit k on? -/
def Noughts (l : List Nat) (k m : Nat) : Prop := ∀ j, k ≤ j → j < 8 * m → Pm.bitB l j = false
theorem ends_any (a : Option Addr) (m cap k : Nat) (l : List Nat) (W : World) (hm : m ≤ 4000) (hk : k ≤ 40000) (hb : ∀ i, l.getD i 0 < 256) (hR : RowAt W a m fun i => .int .u8 (l.getD i 0 : Nat)) (r : Bool) (hr : r = true ↔ Noughts l k m) :
    Calls Try.prog 21 #[.slice a m cap, .int .i64 k] W fun e W' => e = .returned (.bool r) ∧ W' = W := by
  have BA := hid (fun (j : Nat) (hj : j < 8 * m) => bitat_any a m cap j l W hm hb hR hj)
  have HR := hid hr
  clear hr hR hb
  go_enter Try.func21, Try.ntmps21
  go_wp2
  go_loop [1] (fun s => ∃ j : Nat, k ≤ j ∧ j ≤ max k (8 * m) ∧ s = .int .i64 j ∧ Hid (∀ t, k ≤ t → t < j → Pm.bitB l t = false)) (fun s => 8 * m - (intOf s).toNat)
  case atStart => exact ⟨k, Nat.le_refl _, by omega, rfl, fun t h1 h2 => by omega⟩
  case round =>
    obtain ⟨j, hkj, hjm, rfl, HJ⟩ := hrel
    by_cases hlt : j < 8 * m
    · have B := BA.out j hlt
      cases hbit : Pm.bitB l j <;> rw [hbit] at B
      · have HB := hid hbit
        have B' := hid B
        clear hbit B
        go_wp2_with (go_at_call 22; refine B'.out.mono ?_; rintro e w' ⟨rfl, hw⟩; obtain rfl := hw.symm)
        go_round
        case rel =>
          refine ⟨j + 1, by omega, by omega, by go_num, fun t h1 h2 => ?_⟩
          by_cases he : t = j
          · rw [he]; exact HB.out
          · exact HJ.out t h1 (by omega)
        case measure => simp [intOf]; omega
      · have hrf : r = false := by
          cases hr : r with
          | false => rfl
          | true => have := HR.out.1 hr j hkj hlt; rw [hbit] at this; cases this
        have B' := hid B
        clear hbit B HR
        subst hrf
        go_wp2_with (go_at_call 22; refine B'.out.mono ?_; rintro e w' ⟨rfl, hw⟩; obtain rfl := hw.symm)
        go_ret
        exact ⟨rfl, rfl⟩
    · have hrt : r = true := HR.out.2 fun t h1 h2 => HJ.out t h1 (by omega)
      clear HR
      subst hrt
      go_wp2
      go_ret
      exact ⟨rfl, rfl⟩

/-- What may be unpacked. -/
def Un (l : List Nat) (n w : Int) : Prop := mb n w = true ∧ l.length = Pm.size n.toNat w.toNat ∧ Noughts l (n.toNat * w.toNat) l.length
/-- The numbers: those below i whole, of i the first d digits. -/
def numCells (l : List Nat) (n w i d : Nat) : List Value :=
  (List.range n).map fun t => .int .i64 ((if t < i then Pm.num l w t else if t = i then Bn.val (fun j => Pm.bitB l (i * w + j)) d else 0 : Nat) : Int)
theorem numCells_get {l : List Nat} {n w i d t : Nat} (h : t < n) :
    (numCells l n w i d)[t]? = some (.int .i64 ((if t < i then Pm.num l w t else if t = i then Bn.val (fun j => Pm.bitB l (i * w + j)) d else 0 : Nat) : Int)) := by
  unfold numCells; rw [List.getElem?_map, List.getElem?_range h]; rfl
theorem numCells_set {l : List Nat} {n w i d : Nat} (h : i < n) :
    (numCells l n w i d).set i (.int .i64 ((Bn.val (fun j => Pm.bitB l (i * w + j)) (d + 1) : Nat) : Int)) = numCells l n w i (d + 1) := by
  apply List.ext_getElem?
  intro t
  rw [List.getElem?_set]
  have hl : (numCells l n w i d).length = n := by simp [numCells]
  by_cases ht : t < n
  · rw [numCells_get ht, numCells_get ht, hl]
    split
    · rename_i h1; subst h1; rw [if_neg (Nat.lt_irrefl _), if_pos rfl]
    · rename_i h1
      by_cases h2 : t < i
      · rw [if_pos h2, if_pos h2]
      · rw [if_neg h2, if_neg (by omega), if_neg h2, if_neg (by omega)]
  · have e : ∀ d, (numCells l n w i d)[t]? = none := fun d => by simp [numCells]; omega
    rw [e, e, if_neg (by omega)]
theorem numCells_next {l : List Nat} {n w i : Nat} : numCells l n w i w = numCells l n w (i + 1) 0 := by
  apply List.ext_getElem?
  intro t
  by_cases ht : t < n
  · rw [numCells_get ht, numCells_get ht]
    by_cases h1 : t < i
    · rw [if_pos h1, if_pos (by omega)]
    · rw [if_neg h1]
      by_cases h2 : t = i
      · subst h2; rw [if_pos rfl, if_pos (by omega)]; rfl
      · rw [if_neg h2, if_neg (by omega)]
        split
        · rw [Pm.val_zero]
        · rfl
  · have e : ∀ i d, (numCells l n w i d)[t]? = none := fun i d => by simp [numCells]; omega
    rw [e, e]
theorem numCells_zero (l : List Nat) (n w : Nat) : (madeCells #[.int .i64 0] (n * 1)).toList = numCells l n w 0 0 := by
  apply List.ext_getElem?
  intro t
  simp only [madeCells, Array.toList_map, Array.toList_range, List.getElem?_map, numCells]
  by_cases ht : t < n
  · rw [List.getElem?_range (by omega), List.getElem?_range ht]; simp [Nat.mod_one, Pm.val_zero]
  · have e : (List.range n)[t]? = none := by simp; omega
    have e' : (List.range (n * 1))[t]? = none := by simp; omega
    rw [e, e']; simp only [Option.map_none]

set_option maxHeartbeats 1000000 in
theorem unpack_ok (a : Option Addr) (m cap n w : Nat) (l : List Nat) (W : World) (hm : m = l.length) (hb : ∀ i, l.getD i 0 < 256) (hu : Un l n w) (hR : RowAt W a m fun i => .int .u8 (l.getD i 0 : Nat)) :
    Calls Try.prog 12 #[.slice a m cap, .int .i64 n, .int .i64 w] W fun e W' => ∃ b, e = .returned (.tuple #[.slice (some ⟨b, 0, none⟩) n n, .int .i64 0]) ∧ Below W.heap.size W W' ∧ W.heap.size ≤ b ∧
      Blk W' b (numCells l n w n 0) 3 := by
  obtain ⟨h1, h2, h3⟩ := hu
  have hn1 : n ≤ 1000 ∧ w ≤ 20 := by unfold mb at h1; simp at h1; omega
  obtain ⟨hn1, hw⟩ := hn1
  simp only [Int.toNat_natCast] at h2 h3
  rw [← hm] at h2 h3
  obtain ⟨i0, hi, hz0, hz1, hz2⟩ := info_parts Try.info3
  have hnw : n * w ≤ 20000 := Nat.le_trans (Nat.mul_le_mul hn1 hw) (by omega)
  have hmb : m ≤ 2501 := by rw [h2]; unfold Pm.size; omega
  have hm8 : n * w ≤ 8 * m := by rw [h2]; unfold Pm.size; omega
  have MB := hid (fun W' => maybe_any n w W')
  rw [h1] at MB
  have SZ := hid (fun W' => psize_any n w W' hn1 hw)
  rw [← h2] at SZ
  obtain ⟨N, hN⟩ : ∃ N, N = n * w := ⟨_, rfl⟩
  have hNI : (n : Int) * w = N := by rw [hN]; simp
  have EN := hid (fun W' (hW' : Below W.heap.size W W') => ends_any a m cap N l W' (by omega) (by omega) hb (hR.keep hW') true (by rw [hN]; exact ⟨fun _ => h3, fun _ => rfl⟩))
  have HNN := hid hN
  rw [← hN] at hm8 hnw
  have hb0 := Below.refl W.heap.size W
  have BA := hid (fun (W' : World) (hW' : Below W.heap.size W W') (k : Nat) (hk : k < 8 * m) => bitat_any a m cap k l W' (by omega) hb (hR.keep hW') hk)
  have mk1 : ∀ W : World, (Instr.makeSlice 22 (.int .i64 (n : Int)) (.int .i64 (n : Int))).run Try.prog W = _ := fun W => run_make W 22 3 i0 _ Try.underlying22 hi hz0 .i64 .i64 n n (by omega) (by omega) (by rw [hz2]; omega) (by omega)
  clear hN h1 h2 h3 hR hm
  go_enter Try.func12, Try.ntmps12
  go_wp2_with (first
    | (go_at_call 19; refine (MB.out _).mono ?_; rintro e w' ⟨rfl, rfl⟩)
    | (go_at_call 20; refine (SZ.out _).mono ?_; rintro e w' ⟨rfl, rfl⟩)
    | (go_at_call 21; refine (EN.out _ hb0).mono ?_; rintro e w' ⟨rfl, hw⟩; obtain rfl := hw.symm))
  clear mk1
  go_loopw [33] (fun s33 wr => ∃ i : Nat, i ≤ n ∧ s33 = .int .i64 i ∧ Blk wr W.heap.size (numCells l n w i 0) 3 ∧ Below W.heap.size W wr ∧ W.heap.size < wr.heap.size) (fun s33 _ => n - (intOf s33).toNat)
  case atStart =>
    refine ⟨0, by omega, rfl, ?_, (Below.refl _ _).alloc (Nat.le_refl _) _, by simp⟩
    refine Blk.new' rfl ?_
    have := numCells_zero l n w
    rwa [Nat.mul_one] at this
  case round =>
    obtain ⟨i, hin, rfl, B, hb1, hz⟩ := hrel
    by_cases hlt : i < n
    · obtain ⟨iw, hiw⟩ : ∃ iw, iw = i * w := ⟨_, rfl⟩
      have hiwI : (i : Int) * w = iw := by rw [hiw]; simp
      have hiwn : iw + w ≤ N := by
        rw [HNN.out]
        have := Nat.mul_le_mul_right w (show i + 1 ≤ n by omega)
        rw [Nat.add_mul] at this; omega
      have HIW := hid hiw
      clear hiw
      go_wp2
      obtain ⟨wo, rfl⟩ : ∃ wo : World, wo = wr := ⟨_, rfl⟩
      go_loopw [37] (fun s37 wr => ∃ d : Nat, d ≤ w ∧ s37 = .int .i64 d ∧ Blk wr W.heap.size (numCells l n w i d) 3 ∧ Below W.heap.size W wr ∧ W.heap.size < wr.heap.size) (fun s37 _ => w - (intOf s37).toNat)
      case atStart => exact ⟨0, by omega, rfl, B, hb1, hz⟩
      case round =>
        obtain ⟨d, hdw, rfl, B2, hb2, hz2⟩ := hrel
        by_cases hdl : d < w
        · have hg0 := numCells_get (l := l) (n := n) (w := w) (i := i) (d := d) hlt
          rw [if_neg (by omega), if_pos rfl] at hg0
          have c1 := B2.cell hg0
          have f1 := B2.free i
          obtain ⟨g, hg1⟩ : ∃ g, g = Bn.val (fun j => Pm.bitB l (i * w + j)) d := ⟨_, rfl⟩
          have hgl : g < 1048576 := by
            rw [hg1]
            exact Nat.lt_of_lt_of_le (Bn.val_lt _ _) (Nat.pow_le_pow_right (by omega) (show d ≤ 20 by omega))
          rw [← hg1] at c1
          obtain ⟨bt, hbt⟩ : ∃ bt, bt = Pm.bitB l (iw + d) := ⟨_, rfl⟩
          have BT := hid (BA.out (wr) hb2 (iw + d) (by omega))
          have BT2 := hid (fun (W' : World) (hW' : Below W.heap.size W W') => BA.out W' hW' (iw + d) (by omega))
          rw [← hbt, Int.natCast_add] at BT2
          have HO := hid (Pm.num_or g d bt hgl (by omega))
          have HS := hid (show g ||| (if bt then 2 ^ d else 0) = Bn.val (fun j => Pm.bitB l (i * w + j)) (d + 1) by
            rw [Bn.val_snoc, ← hg1, hbt, HIW.out])
          have HB2 := hid hb2
          clear BT hg0 hg1 hbt
          go_wp2
          refine wp_region_drawn_tail 15 (by kernel_rfl) (by kernel_rfl) ?_
          simp only [List.take_succ_cons, List.take_zero, List.drop_succ_cons, List.drop_zero]
          repeat (go_big_quiet_step ((go_at_call 22; exact drawn_same fun W' hW' => BT2.out W' (by rw [hW']; exact below_drawn HB2.out _))))
          refine wpQuiet_nil ?_
          rintro _ ⟨nq, rfl⟩
          go_wp2
          go_roundw
          case rel =>
            refine ⟨d + 1, by omega, by go_num, ?_, (below_drawn hb2 nq).setCell (by simp) _, by simpa using hz2⟩
            have B3 := (B2.drewN nq).set i (.int .i64 ((g ||| (if bt then 2 ^ d else 0) : Nat) : Int))
            rw [HS.out, numCells_set hlt] at B3
            rw [HO.out, HS.out]
            exact B3
          case measure => simp [intOf]; omega
        · obtain rfl : d = w := by omega
          go_wp2
          go_roundw
          case rel =>
            rw [numCells_next] at B2
            exact ⟨i + 1, by omega, by go_num, B2, hb2, hz2⟩
          case measure => simp [intOf]; omega
    · obtain rfl : i = n := by omega
      go_wp2
      go_ret2
      exact ⟨_, rfl, hb1, Nat.le_refl _, B⟩

theorem unpack_no1 (a : Option Addr) (m cap : Nat) (n w : Int) (W : World) (h : mb n w = false) :
    Calls Try.prog 12 #[.slice a m cap, .int .i64 n, .int .i64 w] W fun e W' => e = .returned (.tuple #[.slice none 0 0, .int .i64 1]) ∧ W' = W := by
  have MB := hid (fun W' => maybe_any n w W')
  rw [h] at MB
  clear h
  go_enter Try.func12, Try.ntmps12
  go_wp2_with (go_at_call 19; refine (MB.out _).mono ?_; rintro e w' ⟨rfl, rfl⟩)
  go_ret2
  exact ⟨rfl, rfl⟩
theorem unpack_no2 (a : Option Addr) (m cap n w : Nat) (l : List Nat) (W : World) (hm : m = l.length) (hm4 : m ≤ maxLen) (hb : ∀ i, l.getD i 0 < 256) (h1 : mb n w = true) (hu : ¬ Un l n w) (hR : RowAt W a m fun i => .int .u8 (l.getD i 0 : Nat)) :
    Calls Try.prog 12 #[.slice a m cap, .int .i64 n, .int .i64 w] W fun e W' => e = .returned (.tuple #[.slice none 0 0, .int .i64 2]) ∧ W' = W := by
  have hn1 : n ≤ 1000 ∧ w ≤ 20 := by unfold mb at h1; simp at h1; omega
  obtain ⟨hn1, hw⟩ := hn1
  have MB := hid (fun W' => maybe_any n w W')
  rw [h1] at MB
  have SZ := hid (fun W' => psize_any n w W' hn1 hw)
  have hnw : n * w ≤ 20000 := Nat.le_trans (Nat.mul_le_mul hn1 hw) (by omega)
  have hsz : Pm.size n w ≤ 2501 := by unfold Pm.size; omega
  by_cases hs : m = Pm.size n w
  · have hno : ¬ Noughts l (n * w) m := fun h => hu ⟨h1, by simp only [Int.toNat_natCast]; rw [← hm]; exact hs, by simp only [Int.toNat_natCast]; rw [← hm]; exact h⟩
    rw [← hs] at SZ hsz
    obtain ⟨N, hN⟩ : ∃ N, N = n * w := ⟨_, rfl⟩
    have hNI : (n : Int) * w = N := by rw [hN]; simp
    have EN := hid (ends_any a m cap N l W (by omega) (by omega) hb hR false (by rw [hN]; exact ⟨fun h => (by cases h), fun h => absurd h hno⟩))
    rw [← hN] at hnw
    clear hN h1 hs hno hR hm hu hm4
    go_enter Try.func12, Try.ntmps12
    go_wp2_with (first
      | (go_at_call 19; refine (MB.out _).mono ?_; rintro e w' ⟨rfl, rfl⟩)
      | (go_at_call 20; refine (SZ.out _).mono ?_; rintro e w' ⟨rfl, rfl⟩)
      | (go_at_call 21; refine EN.out.mono ?_; rintro e w' ⟨rfl, hw⟩; obtain rfl := hw.symm))
    go_ret2
    exact ⟨rfl, rfl⟩
  · obtain ⟨q, hq⟩ : ∃ q, q = Pm.size n w := ⟨_, rfl⟩
    rw [← hq] at SZ hs hsz
    have hbe : ((m : Int) == (q : Int)) = false := by rw [beq_eq_false_iff_ne]; omega
    have hbn : ((m : Int) != (q : Int)) = true := by rw [bne_iff_ne]; omega
    unfold maxLen at hm4
    clear hq h1 hs hR hm hu
    go_enter Try.func12, Try.ntmps12
    go_wp2_with (first
      | (go_at_call 19; refine (MB.out _).mono ?_; rintro e w' ⟨rfl, rfl⟩)
      | (go_at_call 20; refine (SZ.out _).mono ?_; rintro e w' ⟨rfl, rfl⟩))
    go_ret2
    exact ⟨rfl, rfl⟩
end Go.Proofs.Ytjfbgfbmfknndaa
