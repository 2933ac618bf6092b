/- Along and Takes of the document's automaton. -/
import Derived.Test.YtobcbaeoedpefaaDoorRfNew
namespace Go.Proofs.YtobcbaeoedpefaaDoor
set_option linter.unusedVariables false
set_option linter.unusedSimpArgs false
set_option maxRecDepth 100000
open Go.ChangeShapes Go.WideShapes Go.ChangeAt Go.RowKit
open Au
set_option maxHeartbeats 4000000 in
theorem ralong_any (f0 f1 : Int) (lb ln : Bool) (L : List T) (a : Option Addr) (n c : Nat) (t : T) (bk : Bool) (w : World) (h : TextsAt w (.slice a n c) L) (hn : L.length ≤ 140737488351232) :
    Calls Tryd.prog 38 #[.agg #[.int .i64 f0, .int .i64 f1, .bool lb, .bool ln, .slice a n c], str t, .bool bk] w fun e w' => e = .returned (.bool (Lb.takes ⟨lb, ln, L⟩ (bk, t))) ∧ Below w.heap.size w w' := by
  obtain ⟨w1, hw1⟩ : ∃ w1, w1 = w.alloc (.cells #[.int .i64 f0, .int .i64 f1, .bool lb, .bool ln, .slice a n c] 48) := ⟨_, rfl⟩
  have hb1 : Below w.heap.size w w1 := by rw [hw1]; exact (Below.refl _ _).alloc (Nat.le_refl _) _
  have hY : Blk w1 w.heap.size [.int .i64 f0, .int .i64 f1, .bool lb, .bool ln, .slice a n c] 48 := by rw [hw1]; exact Blk.new w _ _
  have h1 := h.keep hb1
  have k2 := fun p : Later w1.heap.size w1 => p.keep (hY.cell (i := 2) rfl)
  have k3 := fun p : Later w1.heap.size w1 => p.keep (hY.cell (i := 3) rfl)
  have k4 := fun p : Later w1.heap.size w1 => p.keep (hY.cell (i := 4) rfl)
  have HB := hid hb1
  have CO := hid fun p : Later w1.heap.size w1 => place_any (.slice a n c) L t p.it (h1.keep p.low) hn
  have HZ := placeZ_nonneg L t
  obtain ⟨z, hz⟩ : ∃ z, z = placeZ L t := ⟨_, rfl⟩
  rw [← hz] at CO HZ
  obtain ⟨m, hm⟩ : ∃ m, m = L.contains t := ⟨_, rfl⟩
  have HE : Lb.takes ⟨lb, ln, L⟩ (bk, t) = ((bk == lb) && (m != ln)) := by unfold Lb.takes; rw [hm]
  have hg : decide (0 ≤ z) = m := by rw [hm, Bool.eq_iff_iff, decide_eq_true_eq, HZ, List.contains_iff_mem]
  rw [HE]
  clear HE hz hm HZ hY h1 hb1 h
  cases m <;> cases lb <;> cases ln <;> cases bk
  all_goals
    go_enter Tryd.func38, Tryd.ntmps38
    go_upto_region 1 with fail
    rw [← hw1]
    clear hw1
    refine wp_region_later w1.heap.size (by kernel_rfl) (by kernel_rfl) ?_
    repeat (go_big_quiet_step (first | (go_at_call 27; with_reducible exact Later.call_same (CO.out _)) | fail))
    refine wpQuiet_nil ?_
    rintro w3 ⟨p, rfl⟩
    have hb3 := hid p.low
    clear k2 k3 k4 
    go_wp2
    go_ret
    exact ⟨rfl, below_then HB.out hb3.out⟩
/-- What the inner loops have marked: all of the rows ahead of i, and of row i what is ahead of k. -/
def nxtB (r : Rx) (s : S) (now : Nat → Bool) (i k j : Nat) : Bool := ((List.range i).any (fun a => now a && r.nxt a j) || (decide (j < k) && (now i && r.nxt i j))) && (r.lab 1 j).takes s
theorem nxt_no0 (r : Rx) (i : Nat) : r.nxt i 0 = false := by
  cases hc : r.nxt i 0
  · rfl
  · have := Rx.nxt_range r i 0 hc; omega
theorem nxtB_start (r : Rx) (s : S) (now : Nat → Bool) : nxtB r s now 0 1 = fun _ => false := by
  funext j
  unfold nxtB
  by_cases h : j < 1
  · obtain rfl : j = 0 := by omega
    simp [nxt_no0]
  · simp [h]
theorem nxtB_row (r : Rx) (s : S) (now : Nat → Bool) (i : Nat) : nxtB r s now i (1 + r.n) = nxtB r s now (i + 1) 1 := by
  funext j
  unfold nxtB
  rw [List.range_succ, List.any_append]
  simp only [List.any_cons, List.any_nil, Bool.or_false]
  congr 1
  have e1 : (decide (j < 1 + r.n) && (now i && r.nxt i j)) = (now i && r.nxt i j) := by
    cases h : r.nxt i j
    · simp
    · rw [decide_eq_true (Rx.nxt_range r i j h).2.2, Bool.true_and]
  have e2 : (decide (j < 1) && (now (i + 1) && r.nxt (i + 1) j)) = false := by
    by_cases h : j < 1
    · obtain rfl : j = 0 := by omega
      simp [nxt_no0]
    · simp [h]
  rw [e1, e2, Bool.or_false]
theorem nxtB_end (r : Rx) (s : S) (now : Nat → Bool) : nxtB r s now (1 + r.n) 1 = r.along now s := by
  funext j
  unfold nxtB Rx.along
  have e2 : (decide (j < 1) && (now (1 + r.n) && r.nxt (1 + r.n) j)) = false := by
    by_cases h : j < 1
    · obtain rfl : j = 0 := by omega
      simp [nxt_no0]
    · simp [h]
  rw [e2, Bool.or_false]
theorem nxtB_yes (r : Rx) (s : S) (now : Nat → Bool) (i k : Nat) (h : (now i && r.nxt i k && (r.lab 1 k).takes s) = true) : nxtB r s now i (k + 1) = fun j => if j = k then true else nxtB r s now i k j := by
  simp only [Bool.and_eq_true] at h
  funext j
  unfold nxtB
  by_cases hj : j = k
  · subst hj; simp [h.1.1, h.1.2, h.2]
  · rw [if_neg hj, decide_eq_decide.2 (show j < k + 1 ↔ j < k by omega)]
theorem nxtB_no (r : Rx) (s : S) (now : Nat → Bool) (i k : Nat) (h : (now i && r.nxt i k && (r.lab 1 k).takes s) = false) : nxtB r s now i (k + 1) = nxtB r s now i k := by
  funext j
  unfold nxtB
  by_cases hj : j = k
  · subst hj
    cases h1 : (r.lab 1 j).takes s
    · simp
    · rw [h1, Bool.and_true] at h
      simp [h]
  · rw [decide_eq_decide.2 (show j < k + 1 ↔ j < k by omega)]
theorem ends_yes {r : Rx} {f : Nat → Bool} {k : Nat} (hk : k < 1 + r.n) (h : (f k && r.endd k) = true) : r.ends f = true := by
  unfold Rx.ends
  rw [List.any_eq_true]
  exact ⟨k, List.mem_range.2 hk, h⟩
theorem ends_no {r : Rx} {f : Nat → Bool} (h : ∀ k, k < 1 + r.n → (f k && r.endd k) = false) : r.ends f = false := by
  unfold Rx.ends
  rw [List.any_eq_false]
  intro k hk
  rw [h k (List.mem_range.1 hk)]
  simp
theorem lab_of (r : Rx) (j : Nat) (h1 : 1 ≤ j) : r.lab 1 j = labOf r j := by
  unfold Rx.lab labOf
  obtain ⟨k, rfl⟩ : ∃ k, j = k + 1 := ⟨j - 1, by omega⟩
  simp [List.getD]
set_option maxHeartbeats 16000000 in
theorem rtakes_any {w : World} {p : Nat} {r : Rx} (v : Value) (L : List Stp) (h : RfAt w p r) (hn : r.n ≤ 30) (hL : StepsAt w v L) (ho : ones L) (hlt : ∀ l ∈ r.labs, l.texts.length ≤ 300) :
    Calls Tryd.prog 25 #[.pointer (some ⟨p, 0, none⟩), v] w fun e w' => e = .returned (.bool (r.has (wordOf L))) ∧ Below w.heap.size w w' := by
  obtain ⟨av, g, fcap, eb, rb, hb, hf1, hf2, hA, hG, hM, hE⟩ := h
  obtain ⟨aa, ac, ab, aoff, afv, rfl, a1, a2, a3, a4, arow, atx⟩ := hA
  obtain ⟨va, vcap, vb, voff, vfv, rfl, q1, q2, q3, q4, hrow, htx⟩ := hL
  rw [List.length_map] at a1 a4 hb
  have HLAB := hid fun k (h1 : 1 ≤ k) (hk : k < 1 + r.n) => (show ∃ f, Row5 w ab (aoff + (k - 1) * 5) (labStp (labOf r k)) f ∧ TextsAt w f (labOf r k).texts from by
    obtain ⟨hl, he⟩ := lab_stp r h1 hk
    have e1 := arow (k - 1) hl
    have e2 := atx (k - 1) hl
    rw [he] at e1 e2
    exact ⟨_, e1, e2⟩)
  have HLT := hid fun i => (show (labOf r i).texts.length ≤ 300 from by
    unfold labOf
    by_cases hi : i < (⟨false, false, []⟩ :: r.labs : List Lb).length
    · rw [List.getD, List.getElem?_eq_getElem hi, Option.getD_some]
      rcases List.mem_cons.1 (List.getElem_mem hi) with h | h
      · rw [h]; simp
      · exact hlt _ h
    · rw [List.getD, List.getElem?_eq_none (by omega)]; exact Nat.zero_le _)
  clear hlt
  have haa := hid (show 1 < 1 + r.n → aa = some ⟨ab, aoff, none⟩ from fun h => a4 (by show 0 < r.n; omega))
  have hln : r.labs.length = r.n := rfl
  rw [hln] at a1 a4 hb
  obtain ⟨ANS, hAN⟩ : ∃ z, z = r.has (wordOf L) := ⟨_, rfl⟩
  rw [← hAN]
  have HROW := hid hrow
  have HTX := hid htx
  have HO := hid ho
  obtain ⟨N, hN⟩ : ∃ N, N = 1 + r.n := ⟨_, rfl⟩
  have HNN := hid hN
  obtain ⟨m, hm⟩ : ∃ m, m = r.n := ⟨_, rfl⟩
  have hNm : N = 1 + m := by omega
  obtain ⟨l, hl⟩ : ∃ l, l = L.length := ⟨_, rfl⟩
  have HL := hid hl
  have HAN := hid (show ANS = r.ends (nowB r L l) by rw [hAN, hl]; unfold Rx.has nowB; rw [List.take_length, sim_take])
  rw [← hN] at hb hf1 hG hM hE HLAB haa
  rw [← hm] at a1 a4 hb
  rw [← hl] at q1 q4 ⊢
  have hm30 : m ≤ 30 := by omega
  have hll : l ≤ 9223372036854775807 := by unfold maxLen at q2; omega
  have p0 := hb.cell (i := 0) rfl
  have p1 := hb.cell (i := 1) rfl
  have p2 := hb.cell (i := 2) rfl
  have HG := hid hG
  have HM := hid hM
  have HEE := hid hE
  have hs0 := hid (show nowB r L 0 = fun j => if j = 0 then true else false by funext j; simp [nowB])
  clear hN hm hb hG hM hE arow atx hln hn hrow htx ho hAN hl
  have HNm := hid hNm
  have hN31 : N ≤ 31 := by omega
  have hN1 : 1 ≤ N := by omega
  clear hNm
  obtain ⟨iB, hiB, hzB, hsB, hbB⟩ := info_two Tryd.infoBool1
  have mk1 : ∀ W : World, (Instr.makeSlice 38 (.int .i64 (N : Int)) (.int .i64 (N : Int))).run Tryd.prog W = .ok (.slice (some ⟨W.heap.size, 0, none⟩) N N) (W.alloc (.cells (madeCells #[.bool false] N) 4)) := fun W => by
    have h := run_make W 38 4 iB _ Tryd.underlying38 hiB hzB .i64 .i64 N N (by omega) (by omega) (by rw [hbB]; omega) (by omega)
    rw [hsB, show (Value.bool false).cells = #[.bool false] from rfl] at h
    simpa using h
  obtain ⟨w1, hw1⟩ : ∃ w1, w1 = w.alloc (.cells (madeCells #[.bool false] N) 4) := ⟨_, rfl⟩
  have hb1 : Below w.heap.size w w1 := by rw [hw1]; exact (Below.refl _ _).alloc (Nat.le_refl _) _
  have hX : Blk w1 w.heap.size (rowB N (fun _ => false)) 4 := by rw [hw1]; exact Blk.new' rfl (madeB N)
  have x0 := hX.cell (rowB_get (show 0 < N by omega))
  have x1 := hX.free 0
  have hX2 := hX.set 0 (.bool true)
  rw [rowB_set (by omega)] at hX2
  have HX2 := hid (show Blk (w1.setCell ⟨w.heap.size, 0, none⟩ (.bool true)) w.heap.size (rowB N (nowB r L 0)) 4 by rw [hs0.out]; simpa using hX2)
  have HB2 := hid (hb1.setCell (p := ⟨w.heap.size, 0, none⟩) (Nat.le_refl _) (.bool true))
  obtain ⟨b0, hb0⟩ : ∃ b, b = w.heap.size := ⟨_, rfl⟩
  have hB0 := hid hb0
  go_enter Tryd.func25, Tryd.ntmps25
  go_upto_region 2 with fail
  rw [← hw1]
  clear hw1 hX hX2 hb1
  go_upto_region 3 with fail
  obtain ⟨w2, hw2⟩ : ∃ w2, w2 = w1.setCell ⟨w.heap.size, 0, none⟩ (.bool true) := ⟨_, rfl⟩
  rw [← hw2] at HX2 HB2 ⊢
  rw [← hb0] at HX2 ⊢
  clear hw2 hb0 x0 x1
  go_wp2
  go_loopw [5, 6] (fun s5 s6 wr => ∃ i ab : Nat, i ≤ l ∧ s5 = .slice (some ⟨ab, 0, none⟩) N N ∧ s6 = .int .i64 i ∧ w.heap.size ≤ ab ∧ Hid (Below w.heap.size w wr) ∧ Hid (Blk wr ab (rowB N (nowB r L i)) 4)) (fun _ s6 _ => l - (intOf s6).toNat)
  case atStart => exact ⟨0, b0, by omega, rfl, rfl, by rw [hB0.out]; exact Nat.le_refl _, HB2.out, HX2.out⟩
  case round =>
    obtain ⟨i, ab, hi, rfl, rfl, hab, HBr, HA⟩ := hrel
    have c0 := below_keep HBr.out p0
    have c1 := below_keep HBr.out p1
    have c2 := below_keep HBr.out p2
    by_cases hlt : i < l
    case pos =>
      have hiL : i < L.length := by rw [← HL.out]; exact hlt
      obtain rfl := q4 (by omega)
      have hr5 := (HROW.out i hiL)
      have htt := (HTX.out i hiL)
      have h1 := HO.out i hiL
      have hs := nowB_succ r L i hiL
      obtain ⟨s, hsd⟩ : ∃ s, s = L[i] := ⟨_, rfl⟩
      rw [← hsd] at hr5 htt h1 hs
      obtain ⟨ta, tc, htf, t1, t2, t3, htr⟩ := htt.open
      rw [h1] at htf t1 htr
      obtain ⟨tb, toff, rfl, htc⟩ := htr.get (i := 0) (by omega)
      have t0 := htc 0 (by omega)
      rw [Nat.add_zero] at t0
      rw [htf] at hr5
      obtain ⟨tx, htx⟩ : ∃ tx, tx = s.texts.getD 0 [] := ⟨_, rfl⟩
      rw [← htx] at t0 hs
      obtain ⟨_, _, e2, _, e4⟩ := hr5
      obtain ⟨sb, hsb⟩ : ∃ z, z = s.back := ⟨_, rfl⟩
      rw [← hsb] at e2 hs
      obtain ⟨nw, hnw⟩ : ∃ z, z = nowB r L i := ⟨_, rfl⟩
      rw [← hnw] at HA hs
      have HS := hid hs
      obtain ⟨wn, hwn⟩ : ∃ wn, wn = wr.alloc (.cells (madeCells #[.bool false] N) 4) := ⟨_, rfl⟩
      have hbn : Below wr.heap.size wr wn := by rw [hwn]; exact (Below.refl _ _).alloc (Nat.le_refl _) _
      have HXn := hid (show Blk wn wr.heap.size (rowB N (nxtB r (sb, tx) nw 0 1)) 4 by rw [hwn, nxtB_start]; exact Blk.new' rfl (madeB N))
      obtain ⟨nb, hnb⟩ : ∃ b, b = wr.heap.size := ⟨_, rfl⟩
      have HAn := hid (HA.out.keep hbn)
      have hne : ab ≠ nb := by have := HA.out.lt; omega
      have hnbw : w.heap.size ≤ nb := by have := HBr.out.size; omega
      have HBn := hid (HBr.out.trans (hbn.mono HBr.out.size))
      rw [← hnb] at HXn
      go_upto_region 7 with fail
      rw [← hwn, ← hnb]
      clear hwn hnb hbn HBr HA c0 c1 c2 hs hnw hsb htx htc htr htf t1 t2 t3 h1 hsd htt hiL
      go_wp2
      go_loopw [8] (fun s8 wr => ∃ f : Nat, f ≤ N ∧ s8 = .int .i64 f ∧ Hid (Below w.heap.size w wr) ∧ Hid (Blk wr ab (rowB N nw) 4) ∧ Hid (Blk wr nb (rowB N (nxtB r (sb, tx) nw f 1)) 4)) (fun s8 _ => N - (intOf s8).toNat)
      case atStart => exact ⟨0, by omega, rfl, HBn.out, HAn.out, HXn.out⟩
      case round =>
        clear HXn HAn HBn
        obtain ⟨f, hf, rfl, HBf, HAf, HXf⟩ := hrel
        have c2 := below_keep HBf.out p2
        by_cases hfl : f < N
        case neg =>
          obtain rfl : f = N := by omega
          have HF := hid (show Blk wr nb (rowB f (nowB r L (i + 1))) 4 by have h := HXf.out; rw [HNN.out, nxtB_end] at h; rw [HS.out, HNN.out]; exact h)
          go_wp2
          go_roundw
          case rel => exact ⟨i + 1, nb, by omega, rfl, by go_num, hnbw, HBf.out, HF.out⟩
          case measure => simp [intOf]; omega
        go_wp2
        go_loopw [9] (fun s9 wr => ∃ t : Nat, 1 ≤ t ∧ t ≤ N ∧ s9 = .int .i64 t ∧ Hid (Below w.heap.size w wr) ∧ Hid (Blk wr ab (rowB N nw) 4) ∧ Hid (Blk wr nb (rowB N (nxtB r (sb, tx) nw f t)) 4)) (fun s9 _ => N - (intOf s9).toNat)
        case atStart => exact ⟨1, by omega, by omega, rfl, HBf.out, HAf.out, HXf.out⟩
        case round =>
          clear HBf HAf HXf c2
          obtain ⟨t, ht1, htN, rfl, HBt, HAt, HXt⟩ := hrel
          have c0 := below_keep HBt.out p0
          have c1 := below_keep HBt.out p1
          have c2 := below_keep HBt.out p2
          by_cases htl : t < N
          case neg =>
            obtain rfl : t = N := by omega
            have HF := hid (show Blk wr nb (rowB t (nxtB r (sb, tx) nw (f + 1) 1)) 4 by rw [← nxtB_row, ← HNN.out]; exact HXt.out)
            go_wp2
            go_roundw
            case rel => exact ⟨f + 1, by omega, by go_num, HBt.out, HAt.out, HF.out⟩
            case measure => simp [intOf]; omega
          have k0 := HAt.out.cell (rowB_get hfl)
          have g0 := below_keep HBt.out (HG.out f hfl)
          have g1 := below_keep HBt.out (HM.out f t hfl htl)
          obtain ⟨fl, hr5, htt⟩ := HLAB.out t ht1 htl
          obtain ⟨ua, uc, huf, u1, u2, u3, hur⟩ := htt.open
          subst huf
          have HC := hid (show (nw f && r.nxt f t && (r.lab 1 t).takes (sb, tx)) = (nw f && r.nxt f t && (labOf r t).takes (sb, tx)) by rw [lab_of r t ht1])
          have HLT1 := hid (Nat.le_trans (HLT.out t) (show 300 ≤ 140737488351232 by decide))
          obtain ⟨lx, hl⟩ : ∃ lx, lx = labOf r t := ⟨_, rfl⟩
          rw [← hl] at hr5 htt HC u1 HLT1
          obtain ⟨lb, ln, lt⟩ := lx
          unfold labStp at hr5
          obtain ⟨d0, d1, d2, d3, d4⟩ := hr5
          simp only at d0 d1 d2 d3 d4 htt HC u1
          have RA := hid fun p : Later wr.heap.size wr => ralong_any 0 0 lb ln lt ua lt.length uc tx sb p.it (htt.keep (below_then HBt.out p.low)) (HLT1.out)
          obtain ⟨un, hun⟩ : ∃ un, un = lt.length := ⟨_, rfl⟩
          rw [← hun] at d4 RA
          obtain ⟨tk, htk⟩ : ∃ z, z = Lb.takes ⟨lb, ln, lt⟩ (sb, tx) := ⟨_, rfl⟩
          obtain ⟨a0, ha0⟩ : ∃ z, z = nw f := ⟨_, rfl⟩
          obtain ⟨z0, hz0⟩ : ∃ z, z = r.nxt f t := ⟨_, rfl⟩
          rw [← htk] at RA
          have HC := hid (show (nw f && r.nxt f t && (r.lab 1 t).takes (sb, tx)) = (a0 && z0 && tk) by rw [HC.out, ha0, hz0, htk])
          rw [← ha0] at k0
          rw [← hz0] at g1
          obtain ⟨jj, hjj⟩ : ∃ jj, jj = t - 1 := ⟨_, rfl⟩
          rw [← hjj] at d0 d1 d2 d3 d4
          have hjz : (t : Int) - 1 = (jj : Nat) := by omega
          have hjm : jj < m := by have := HNm.out; omega
          obtain rfl := haa.out (by omega)
          have c0q := fun p : Later wr.heap.size wr => p.keep c0
          have c1q := fun p : Later wr.heap.size wr => p.keep c1
          have k0q := fun p : Later wr.heap.size wr => p.keep k0
          have g0q := fun p : Later wr.heap.size wr => p.keep g0
          have g1q := fun p : Later wr.heap.size wr => p.keep g1
          have d0q := fun p : Later wr.heap.size wr => p.keep (below_keep HBt.out d0)
          have d1q := fun p : Later wr.heap.size wr => p.keep (below_keep HBt.out d1)
          have d2q := fun p : Later wr.heap.size wr => p.keep (below_keep HBt.out d2)
          have d3q := fun p : Later wr.heap.size wr => p.keep (below_keep HBt.out d3)
          have d4q := fun p : Later wr.heap.size wr => p.keep (below_keep HBt.out d4)
          have e2q := fun p : Later wr.heap.size wr => p.keep (below_keep HBt.out e2)
          have e4q := fun p : Later wr.heap.size wr => p.keep (below_keep HBt.out e4)
          have t0q := fun p : Later wr.heap.size wr => p.keep (below_keep HBt.out t0)
          clear htk ha0 hz0 hl hun hjj d0 d1 d2 d3 d4 c0 c1 g0 g1 k0 u1 u2 u3 hur htt
          cases a0
          case false =>
            go_upto_region 13 with fail
            refine wp_region_later wr.heap.size (by kernel_rfl) (by kernel_rfl) ?_
            repeat (go_big_quiet_step (first | (go_at_call 38; with_reducible exact Later.call (Nat.le_refl _) (RA.out _)) | fail))
            refine wpQuiet_nil ?_
            rintro wz ⟨p, hwz⟩
            have hbz : Below wr.heap.size wr wz := by rw [hwz]; exact p.low
            have HBz := hid (below_then HBt.out hbz)
            have HAz := hid (HAt.out.keep hbz)
            have HXz := hid (HXt.out.keep hbz)
            clear hwz p hbz c0q c1q k0q g0q g1q d0q d1q d2q d3q d4q e2q e4q t0q
            go_wp2
            go_roundw
            case rel => exact ⟨t + 1, by omega, by omega, by go_num, HBz.out, HAz.out, hid (by rw [nxtB_no _ _ _ _ _ (HC.out.trans rfl)]; exact HXz.out)⟩
            case measure => simp [intOf]; omega
          cases z0
          case false =>
            go_upto_region 13 with fail
            refine wp_region_later wr.heap.size (by kernel_rfl) (by kernel_rfl) ?_
            repeat (go_big_quiet_step (first | (go_at_call 38; with_reducible exact Later.call (Nat.le_refl _) (RA.out _)) | fail))
            refine wpQuiet_nil ?_
            rintro wz ⟨p, hwz⟩
            have hbz : Below wr.heap.size wr wz := by rw [hwz]; exact p.low
            have HBz := hid (below_then HBt.out hbz)
            have HAz := hid (HAt.out.keep hbz)
            have HXz := hid (HXt.out.keep hbz)
            clear hwz p hbz c0q c1q k0q g0q g1q d0q d1q d2q d3q d4q e2q e4q t0q
            go_wp2
            go_roundw
            case rel => exact ⟨t + 1, by omega, by omega, by go_num, HBz.out, HAz.out, hid (by rw [nxtB_no _ _ _ _ _ (HC.out.trans rfl)]; exact HXz.out)⟩
            case measure => simp [intOf]; omega
          cases tk
          case false =>
            go_upto_region 13 with fail
            refine wp_region_later wr.heap.size (by kernel_rfl) (by kernel_rfl) ?_
            repeat (go_big_quiet_step (first | (go_at_call 38; with_reducible exact Later.call (Nat.le_refl _) (RA.out _)) | fail))
            refine wpQuiet_nil ?_
            rintro wz ⟨p, hwz⟩
            have hbz : Below wr.heap.size wr wz := by rw [hwz]; exact p.low
            have HBz := hid (below_then HBt.out hbz)
            have HAz := hid (HAt.out.keep hbz)
            have HXz := hid (HXt.out.keep hbz)
            clear hwz p hbz c0q c1q k0q g0q g1q d0q d1q d2q d3q d4q e2q e4q t0q
            go_wp2
            go_roundw
            case rel => exact ⟨t + 1, by omega, by omega, by go_num, HBz.out, HAz.out, hid (by rw [nxtB_no _ _ _ _ _ (HC.out.trans rfl)]; exact HXz.out)⟩
            case measure => simp [intOf]; omega
          go_upto_region 13 with fail
          refine wp_region_later wr.heap.size (by kernel_rfl) (by kernel_rfl) ?_
          repeat (go_big_quiet_step (first | (go_at_call 38; with_reducible exact Later.call (Nat.le_refl _) (RA.out _)) | fail))
          refine wpQuiet_nil ?_
          rintro wz ⟨p, hwz⟩
          have hbz : Below wr.heap.size wr wz := by rw [hwz]; exact p.low
          have HBz := hid (below_then HBt.out hbz)
          have HAz := hid (HAt.out.keep hbz)
          have HXz := hid (HXt.out.keep hbz)
          clear hwz p hbz c0q c1q k0q g0q g1q d0q d1q d2q d3q d4q e2q e4q t0q
          have y0 := HXz.out.cell (rowB_get (show t < N by omega))
          have y1 := HXz.out.free t
          have hS := HXz.out.set t (.bool true)
          rw [rowB_set (show t < N by omega), ← nxtB_yes _ _ _ _ _ (HC.out.trans rfl)] at hS
          have HS1 := hid (show Blk (wz.setCell ⟨nb, t, none⟩ (.bool true)) nb (rowB N (nxtB r (sb, tx) nw f (t + 1))) 4 by simpa using hS)
          have HA1 := hid (HAz.out.other (c := nb) hne t (.bool true))
          have HB1 := hid (HBz.out.setCell (p := ⟨nb, t, none⟩) hnbw (.bool true))
          clear hS
          go_wp2
          go_roundw
          case rel => exact ⟨t + 1, by omega, by omega, by go_num, HB1.out, hid (by simpa using HA1.out), HS1.out⟩
          case measure => simp [intOf]; omega
    obtain rfl : i = l := by omega
    have HS := hid (show (∀ k, k < 1 + r.n → (nowB r L i k && r.endd k) = false) → ANS = false from fun h => by rw [HAN.out]; exact ends_no h)
    have HY := hid fun k (hk : k < N) (h : (nowB r L i k && r.endd k) = true) => (show ANS = true by rw [HAN.out]; exact ends_yes (by rw [← HNN.out]; exact hk) h)
    obtain ⟨nw, hnw⟩ : ∃ z, z = nowB r L i := ⟨_, rfl⟩
    rw [← hnw] at HA HS HY
    clear hnw HAN
    go_wp2
    go_loopw [10] (fun s10 wq => ∃ k : Nat, k ≤ N ∧ s10 = .int .i64 k ∧ wq = wr ∧ Hid (∀ j, j < k → (nw j && r.endd j) = false)) (fun s10 _ => N - (intOf s10).toNat)
    case atStart => exact ⟨0, by omega, rfl, rfl, fun j hj => absurd hj (Nat.not_lt_zero j)⟩
    case round =>
      obtain ⟨k, hk, rfl, hww, HE⟩ := hrel
      subst hww
      by_cases hkl : k < N
      case neg =>
        obtain rfl : k = N := by omega
        have hF := hid (HS.out fun j hj => HE.out j (by rw [HNN.out]; exact hj))
        go_wp2
        go_ret
        exact ⟨by rw [hF.out]; rfl, HBr.out⟩
      have k0 := HA.out.cell (rowB_get hkl)
      have e0 := below_keep HBr.out (HEE.out k hkl)
      have HYk := hid (HY.out k hkl)
      have HEk := hid (show (nw k && r.endd k) = false → ∀ j, j < k + 1 → (nw j && r.endd j) = false from fun h j hj => by
        by_cases hjk : j < k
        · exact HE.out j hjk
        · obtain rfl : j = k := by omega
          exact h)
      obtain ⟨a0, ha0⟩ : ∃ z, z = nw k := ⟨_, rfl⟩
      obtain ⟨z0, hz0⟩ : ∃ z, z = r.endd k := ⟨_, rfl⟩
      rw [← ha0] at k0 HYk HEk
      rw [← hz0] at e0 HYk HEk
      clear ha0 hz0
      cases a0
      case false =>
        go_wp2
        go_roundw
        case rel => exact ⟨k + 1, by omega, by go_num, trivial, HEk.out rfl⟩
        case measure => simp [intOf]; omega
      cases z0
      case false =>
        go_wp2
        go_roundw
        case rel => exact ⟨k + 1, by omega, by go_num, trivial, HEk.out rfl⟩
        case measure => simp [intOf]; omega
      have hF := hid (HYk.out rfl)
      go_wp2
      go_ret
      exact ⟨by rw [hF.out]; rfl, HBr.out⟩
end Go.Proofs.YtobcbaeoedpefaaDoor
