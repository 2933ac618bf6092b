/- Pack and Unpack. -/
import Derived.Test.YtagadfgginneeaaPackW
import Derived.Test.YtagadfgginneeaaPackMath
namespace Go.Proofs.Ytagadfgginneeaa
set_option linter.unusedVariables false
set_option maxRecDepth 100000
set_option linter.unusedSimpArgs false
open Go.ChangeShapes Go.WideShapes Go.ChangeAt Go.RowKit

def mb (n w : Int) : Bool := decide (0 ≤ n ∧ n ≤ 1000 ∧ 0 ≤ w ∧ w ≤ 20)
theorem maybe_any (n w : Int) (W : World) : Calls Try.prog 53 #[.int .i64 n, .int .i64 w] W fun e W' => e = .returned (.bool (mb n w)) ∧ W = W' := by
  by_cases h1 : 0 ≤ n
  · by_cases h2 : n ≤ 1000
    · by_cases h3 : 0 ≤ w
      · go_enter Try.func53, Try.ntmps53
        go_wp2
        go_ret
        exact ⟨ret_bool (by unfold mb; rw [decide_eq_decide]; omega), rfl⟩
      · go_enter Try.func53, Try.ntmps53
        go_wp2
        go_ret
        exact ⟨ret_bool (by unfold mb; rw [eq_comm, decide_eq_false_iff_not]; omega), rfl⟩
    · go_enter Try.func53, Try.ntmps53
      go_wp2
      go_ret
      exact ⟨ret_bool (by unfold mb; rw [eq_comm, decide_eq_false_iff_not]; omega), rfl⟩
  · go_enter Try.func53, Try.ntmps53
    go_wp2
    go_ret
    exact ⟨ret_bool (by unfold mb; rw [eq_comm, decide_eq_false_iff_not]; omega), rfl⟩
theorem psize_any (n w : Nat) (W : World) (hn : n ≤ 1000) (hw : w ≤ 20) : Calls Try.prog 55 #[.int .i64 n, .int .i64 w] W fun e W' => e = .returned (.int .i64 (Pm.size n w : Nat)) ∧ W = W' := by
  have hm : n * w ≤ 20000 := Nat.le_trans (Nat.mul_le_mul hn hw) (by omega)
  obtain ⟨N, hN⟩ : ∃ N, N = n * w := ⟨_, rfl⟩
  have hNI : (n : Int) * w = N := by rw [hN]; simp
  rw [← hN] at hm
  have HN := hid hN
  clear hN
  go_enter Try.func55, Try.ntmps55
  go_wp2
  go_ret
  exact ⟨ret_int (by unfold Pm.size; rw [← HN.out]; omega), rfl⟩
theorem Try.info5 : (Try.prog.info? 5).map (fun i => (i.zero, i.size, i.bytes)) = some (some (.int .u8 0), 1, 1) := by kernel_rfl
theorem Try.info3 : (Try.prog.info? 3).map (fun i => (i.zero, i.size, i.bytes)) = some (some (.int .i64 0), 1, 8) := by kernel_rfl

/-- The bytes of the first k digits. -/
def packCells (l : List Int) (w k m : Nat) : List Value := (List.range m).map fun t => .int .u8 (Bn.grp (Pm.nbit l w) 8 k t)
theorem packCells_get {l : List Int} {w k m t : Nat} (h : t < m) : (packCells l w k m)[t]? = some (.int .u8 (Bn.grp (Pm.nbit l w) 8 k t)) := by
  unfold packCells; rw [List.getElem?_map, List.getElem?_range h]; rfl

theorem packCells_zero (l : List Int) (w m : Nat) : (madeCells #[.int .u8 0] (m * 1)).toList = packCells l w 0 m := by
  apply List.ext_getElem?
  intro t
  simp only [madeCells, Array.toList_map, Array.toList_range, List.getElem?_map, packCells, Bn.grp_zero]
  by_cases ht : t < m
  · rw [List.getElem?_range (by omega), List.getElem?_range ht]; simp [Nat.mod_one]
  · have e : (List.range m)[t]? = none := by simp; omega
    have e' : (List.range (m * 1))[t]? = none := by simp; omega
    rw [e, e']; simp only [Option.map_none]
theorem packCells_set {l : List Int} {w k m : Nat} (h : k / 8 < m) : (packCells l w k m).set (k / 8) (.int .u8 (Bn.grp (Pm.nbit l w) 8 (k + 1) (k / 8) : Nat)) = packCells l w (k + 1) m := by
  apply List.ext_getElem?
  intro t
  rw [List.getElem?_set]
  have hl : (packCells l w k m).length = m := by simp [packCells]
  by_cases ht : t < m
  · rw [packCells_get ht, packCells_get ht, hl]
    split
    · rename_i h1; subst h1; rfl
    · rename_i h1; rw [Bn.grp_other _ (by omega) (by omega)]
  · have e : ∀ k, (packCells l w k m)[t]? = none := fun k => by simp [packCells]; omega
    rw [e, e, if_neg (by omega)]

set_option maxHeartbeats 1000000 in
theorem pack_ok (a : Option Addr) (n cap w : Nat) (l : List Int) (W : World) (hn : n = l.length) (hm : Pm.May l w) (hR : RowAt W a n fun i => .int .i64 (l.getD i 0)) :
    Calls Try.prog 37 #[.slice a n cap, .int .i64 w] W fun e W' => ∃ b, e = .returned (.tuple #[.slice (some ⟨b, 0, none⟩) (Pm.size n w) (Pm.size n w), .int .i64 0]) ∧ Below W.heap.size W W' ∧ W.heap.size ≤ b ∧
      Blk W' b (packCells l w (n * w) (Pm.size n w)) 5 := by
  obtain ⟨_, hw20, hn1, hv⟩ := hm
  rw [← hn] at hn1 hv
  have hw : w ≤ 20 := by omega
  have HV := hid hv
  have HN := hid hn
  clear hv hn
  obtain ⟨i0, hi, hz0, hz1, hz2⟩ := info_parts Try.info5
  obtain ⟨m, hmm⟩ : ∃ m, m = Pm.size n w := ⟨_, rfl⟩
  have hmb : m ≤ 2501 := by
    rw [hmm]; unfold Pm.size
    have : n * w ≤ 20000 := Nat.le_trans (Nat.mul_le_mul hn1 hw) (by omega)
    omega
  have MB := hid (fun W' => maybe_any n w W')
  rw [show mb n w = true by simp [mb]; omega] at MB
  have SZ := hid (fun W' => psize_any n w W' hn1 hw)
  rw [← hmm] at SZ ⊢
  have HM := hid hmm
  clear hmm
  have mk1 : ∀ W : World, (Instr.makeSlice 66 (.int .i64 (m : Int)) (.int .i64 (m : Int))).run Try.prog W = _ := fun W => run_make W 66 5 i0 _ Try.underlying66 hi hz0 .i64 .i64 m m (by omega) (by omega) (by rw [hz2]; omega) (by omega)
  go_enter Try.func37, Try.ntmps37
  go_wp2_with (go_at_call 53; refine (MB.out _).mono ?_; rintro e w' ⟨rfl, rfl⟩)
  go_loop [20] (fun s => ∃ i : Nat, i ≤ n ∧ s = .int .i64 i) (fun s => n - (intOf s).toNat)
  case atStart => exact ⟨0, by omega, rfl⟩
  case round =>
    obtain ⟨i, hin, rfl⟩ := hrel
    by_cases hlt : i < n
    · obtain ⟨b, off, rfl, hc⟩ := hR.get hlt
      have c0 := hc i hlt
      have hx := HV.out i hlt
      obtain ⟨x, hx0⟩ := Int.eq_ofNat_of_zero_le hx.1
      rw [hx0] at c0 hx
      have hxw : x < 2 ^ w := by simpa using hx.2
      have hx20 : x < 1048576 := Nat.lt_of_lt_of_le hxw (Nat.pow_le_pow_right (by omega) hw)
      have WD := hid (fun W' => width_any (x : Int) W' (by omega))
      have hwd := (Bn.width_le x w).2 hxw
      simp only [Int.toNat_natCast] at WD
      obtain ⟨wd, hwd0⟩ : ∃ wd, wd = Bn.width x := ⟨_, rfl⟩
      rw [← hwd0] at WD hwd
      clear hc hx hx0 hwd0 hxw mk1
      go_wp2_with (go_at_call 54; refine (WD.out _).mono ?_; rintro e w' ⟨rfl, rfl⟩)
      go_round
      case rel => exact ⟨i + 1, by omega, by go_num⟩
      case measure => simp [intOf]; omega
    · go_wp2_with (go_at_call 55; refine (SZ.out _).mono ?_; rintro e w' ⟨rfl, rfl⟩)
      clear mk1
      go_loopw [40] (fun s40 wr => ∃ i : Nat, i ≤ n ∧ s40 = .int .i64 i ∧ Blk wr W.heap.size (packCells l w (i * w) m) 5 ∧ Below W.heap.size W wr ∧ W.heap.size < wr.heap.size) (fun s40 _ => n - (intOf s40).toNat)
      case atStart =>
        refine ⟨0, by omega, rfl, ?_, (Below.refl _ _).alloc (Nat.le_refl _) _, by simp⟩
        refine Blk.new' rfl ?_
        rw [Nat.zero_mul]
        have := packCells_zero l w m
        rwa [Nat.mul_one] at this
      case round =>
        obtain ⟨i, hin, rfl, B, hb, hz⟩ := hrel
        by_cases hlt : i < n
        · obtain ⟨b, off, rfl, hc⟩ := hR.get hlt
          have c0 := below_keep hb (hc i hlt)
          have hx := HV.out i hlt
          obtain ⟨x, hx0⟩ := Int.eq_ofNat_of_zero_le hx.1
          rw [hx0] at c0
          have HX := hid hx0
          have hxw : x < 2 ^ w := by have h := hx.2; rw [hx0] at h; simpa using h
          have hx20 : x < 1048576 := Nat.lt_of_lt_of_le hxw (Nat.pow_le_pow_right (by omega) hw)
          clear hx0 hc hx hxw
          obtain ⟨iw, hiw⟩ : ∃ iw, iw = i * w := ⟨_, rfl⟩
          have hiwI : (i : Int) * w = iw := by rw [hiw]; simp
          have hnw : n * w ≤ 20000 := Nat.le_trans (Nat.mul_le_mul hn1 hw) (by omega)
          have hiwn : iw + w ≤ n * w := by
            have := Nat.mul_le_mul_right w (show i + 1 ≤ n by omega)
            rw [Nat.add_mul] at this; omega
          have hmw : n * w ≤ 8 * m := by rw [HM.out]; unfold Pm.size; omega
          rw [← hiw] at B
          have HIW := hid hiw
          obtain ⟨N, hN⟩ : ∃ N, N = n * w := ⟨_, rfl⟩
          rw [← hN] at hnw hiwn hmw
          clear hiw hN
          go_wp2
          obtain ⟨wo, rfl⟩ : ∃ wo : World, wo = wr := ⟨_, rfl⟩
          go_loopw [46] (fun s46 wr => ∃ d : Nat, d ≤ w ∧ s46 = .int .i64 d ∧ Blk wr W.heap.size (packCells l w (iw + d) m) 5 ∧ Below W.heap.size W wr ∧ W.heap.size < wr.heap.size) (fun s46 _ => w - (intOf s46).toNat)
          case atStart => exact ⟨0, by omega, rfl, B, hb, hz⟩
          case round =>
            obtain ⟨d, hdw, rfl, B2, hb2, hz2⟩ := hrel
            by_cases hdl : d < w
            · have hat : (iw + d) / 8 < m := by omega
              have hat' : ((iw : Int) + d) / 8 < m := by omega
              have c1 := B2.cell (packCells_get (l := l) (w := w) (k := iw + d) hat)
              have f1 := B2.free ((iw + d) / 8)
              have hg := Bn.grp_lt (Pm.nbit l w) 8 (iw + d) ((iw + d) / 8)
              obtain ⟨g, hg0⟩ : ∃ g, g = Bn.grp (Pm.nbit l w) 8 (iw + d) ((iw + d) / 8) := ⟨_, rfl⟩
              rw [← hg0] at c1 hg
              have HS := hid (show g ||| (if x.testBit d then 2 ^ ((iw + d) % 8) else 0) = Bn.grp (Pm.nbit l w) 8 (iw + d + 1) ((iw + d) / 8) by
                rw [Bn.grp_step _ (by omega), hg0, HIW.out, Pm.nbit_at l w i d hdl, HX.out, Int.toNat_natCast])
              have HB := hid (Pm.byte_or x d g ((iw + d) % 8) (by omega) (by simpa using hg) (by omega))
              clear hg0 hg
              go_wp2
              go_region
              go_wp2
              go_roundw
              case rel =>
                refine ⟨d + 1, by omega, by go_num, ?_, (hb2.setCell (by simp) _).drew, by simpa using hz2⟩
                have B3 := (B2.set ((iw + d) / 8) (.int .u8 ((g ||| (if x.testBit d then 2 ^ ((iw + d) % 8) else 0) : Nat) : Int))).drew
                rw [HS.out, packCells_set hat] at B3
                rw [HB.out, HS.out]
                exact B3
              case measure => simp [intOf]; omega
            · obtain rfl : d = w := by omega
              go_wp2
              go_roundw
              case rel =>
                refine ⟨i + 1, by omega, by go_num, ?_, hb2, hz2⟩
                rw [show (i + 1) * d = iw + d by rw [HIW.out, Nat.add_mul]; omega]
                exact B2
              case measure => simp [intOf]; omega
        · obtain rfl : i = n := by omega
          go_wp2
          go_ret2
          exact ⟨_, rfl, hb, Nat.le_refl _, B⟩

theorem pack_no1 (a : Option Addr) (n cap : Nat) (w : Int) (W : World) (h : mb n w = false) : Calls Try.prog 37 #[.slice a n cap, .int .i64 w] W fun e W' => e = .returned (.tuple #[.slice none 0 0, .int .i64 1]) ∧ W = W' := by
  have MB := hid (fun W' => maybe_any n w W')
  rw [h] at MB
  clear h
  go_enter Try.func37, Try.ntmps37
  go_wp2_with (go_at_call 53; refine (MB.out _).mono ?_; rintro e w' ⟨rfl, rfl⟩)
  go_ret2
  exact ⟨rfl, rfl⟩
/-- A first one that is none, where there is one. -/
theorem first_bad {n : Nat} {p : Nat → Prop} (h : ¬ ∀ i, i < n → p i) : ∃ k, k < n ∧ ¬ p k ∧ ∀ j, j < k → p j := by
  induction n with
  | zero => exact absurd (fun i hi => by omega) h
  | succ n ih =>
    by_cases hn : ∀ i, i < n → p i
    · refine ⟨n, by omega, fun hp => h fun i hi => ?_, hn⟩
      by_cases he : i = n
      · rw [he]; exact hp
      · exact hn i (by omega)
    · obtain ⟨k, hk, h1, h2⟩ := ih hn
      exact ⟨k, by omega, h1, h2⟩
def Good (w : Nat) (x : Int) : Prop := 0 ≤ x ∧ x.toNat < 2 ^ w
theorem pack_no2 (a : Option Addr) (n cap w : Nat) (l : List Int) (W : World) (h : mb n w = true) (hb : ¬ ∀ i, i < n → Good w (l.getD i 0)) (hmax : ∀ i, i < n → l.getD i 0 ≤ 9223372036854775807) (hR : RowAt W a n fun i => .int .i64 (l.getD i 0)) :
    Calls Try.prog 37 #[.slice a n cap, .int .i64 w] W fun e W' => e = .returned (.tuple #[.slice none 0 0, .int .i64 1]) ∧ W = W' := by
  obtain ⟨k, hk, hbad, hgood⟩ := first_bad hb
  have MB := hid (fun W' => maybe_any n w W')
  rw [h] at MB
  have hn1 : n ≤ 1000 ∧ w ≤ 20 := by unfold mb at h; simp at h; omega
  have HG := hid hgood
  have HX := hid hmax
  clear h hb hgood hmax
  go_enter Try.func37, Try.ntmps37
  go_wp2_with (go_at_call 53; refine (MB.out _).mono ?_; rintro e w' ⟨rfl, rfl⟩)
  go_loop [20] (fun s => ∃ i : Nat, i ≤ k ∧ s = .int .i64 i) (fun s => k - (intOf s).toNat)
  case atStart => exact ⟨0, by omega, rfl⟩
  case round =>
    obtain ⟨i, hik, rfl⟩ := hrel
    have hlt : i < n := by omega
    obtain ⟨b, off, rfl, hc⟩ := hR.get hlt
    have c0 := hc i hlt
    have hm := HX.out i hlt
    obtain ⟨x, hx⟩ : ∃ x, x = l.getD i 0 := ⟨_, rfl⟩
    rw [← hx] at c0 hm
    clear hc
    by_cases hlk : i < k
    · have hg := HG.out i hlk
      rw [← hx] at hg
      obtain ⟨h0, h1⟩ := hg
      have WD := hid (fun W' => width_any x W' hm)
      have hwd := (Bn.width_le x.toNat w).2 h1
      obtain ⟨wd, hwd0⟩ : ∃ wd, wd = Bn.width x.toNat := ⟨_, rfl⟩
      rw [← hwd0] at WD hwd
      clear hx hwd0 h1
      go_wp2_with (go_at_call 54; refine (WD.out _).mono ?_; rintro e w' ⟨rfl, rfl⟩)
      go_round
      case rel => exact ⟨i + 1, by omega, by go_num⟩
      case measure => simp [intOf]; omega
    · obtain rfl : i = k := by omega
      rw [← hx] at hbad
      by_cases h0 : x < 0
      · clear hx hbad
        go_wp2
        go_ret2
        exact ⟨rfl, rfl⟩
      · have WD := hid (fun W' => width_any x W' hm)
        have hwd : w < Bn.width x.toNat := by
          rcases Nat.lt_or_ge w (Bn.width x.toNat) with h2 | h2
          · exact h2
          · exact absurd ⟨by omega, (Bn.width_le _ _).1 h2⟩ hbad
        obtain ⟨wd, hwd0⟩ : ∃ wd, wd = Bn.width x.toNat := ⟨_, rfl⟩
        rw [← hwd0] at WD hwd
        clear hx hwd0 hbad
        go_wp2_with (go_at_call 54; refine (WD.out _).mono ?_; rintro e w' ⟨rfl, rfl⟩)
        go_ret2
        exact ⟨rfl, rfl⟩
theorem may_iff (l : List Int) (w : Int) : Pm.May l w ↔ mb l.length w = true ∧ ∀ i, i < l.length → Good w.toNat (l.getD i 0) := by
  unfold Pm.May mb Good
  simp only [decide_eq_true_eq]
  constructor
  · rintro ⟨a, b, c, d⟩; exact ⟨by omega, d⟩
  · rintro ⟨a, b⟩; exact ⟨by omega, by omega, by omega, b⟩
theorem pack_no (a : Option Addr) (n cap : Nat) (w : Int) (l : List Int) (W : World) (hn : n = l.length) (hm : ¬ Pm.May l w) (hmax : ∀ i, i < n → l.getD i 0 ≤ 9223372036854775807) (hR : RowAt W a n fun i => .int .i64 (l.getD i 0)) :
    Calls Try.prog 37 #[.slice a n cap, .int .i64 w] W fun e W' => e = .returned (.tuple #[.slice none 0 0, .int .i64 1]) ∧ W = W' := by
  rw [may_iff, ← hn] at hm
  cases h : mb n w with
  | false => exact pack_no1 a n cap w W h
  | true =>
    have hw : 0 ≤ w := by unfold mb at h; simp at h; omega
    obtain ⟨v, rfl⟩ := Int.eq_ofNat_of_zero_le hw
    exact pack_no2 a n cap v l W h (fun hg => hm ⟨h, hg⟩) hmax hR
end Go.Proofs.Ytagadfgginneeaa
