/- The document's automaton in memory; its Steps. -/
import Derived.Test.YtobcbaeoedpefaaDoorRfPlace
import Derived.Test.YtobcbaeoedpefaaDoorAuLaw3
namespace Go.Proofs.YtobcbaeoedpefaaDoor
set_option linter.unusedVariables false
set_option linter.unusedSimpArgs false
set_option maxRecDepth 100000
open Go.ChangeShapes Go.WideShapes Go.ChangeAt Go.RowKit
open Au
/-- What a place is along, as a step. -/
def labStp (l : Lb) : Stp := ⟨0, 0, l.back, l.not, l.texts⟩
/-- An automaton of the document at p. -/
def RfAt (w : World) (p : Nat) (r : Rx) : Prop := ∃ (av : Value) (g fcap eb : Nat) (rb : Nat → Nat), Blk w p [av, .slice (some ⟨g, 0, none⟩) (1 + r.n) fcap, .slice (some ⟨eb, 0, none⟩) (1 + r.n) (1 + r.n)] 40 ∧ 1 + r.n ≤ fcap ∧ fcap ≤ maxLen ∧ StepsAt w av (r.labs.map labStp) ∧
  (∀ j, j < 1 + r.n → w.cell? ⟨g, j, none⟩ = some (.slice (some ⟨rb j, 0, none⟩) (1 + r.n) (1 + r.n))) ∧ (∀ j k, j < 1 + r.n → k < 1 + r.n → w.cell? ⟨rb j, k, none⟩ = some (.bool (r.nxt j k))) ∧ (∀ k, k < 1 + r.n → w.cell? ⟨eb, k, none⟩ = some (.bool (r.endd k)))
theorem RfAt.keep {w w' : World} {p : Nat} {r : Rx} (h : RfAt w p r) (hb : Below w.heap.size w w') : RfAt w' p r := by
  obtain ⟨av, g, fcap, eb, rb, h1, h2, h3, h4, h5, h6, h7⟩ := h
  exact ⟨av, g, fcap, eb, rb, h1.keep hb, h2, h3, h4.keep hb, fun j hj => below_keep hb (h5 j hj), fun j k hj hk => below_keep hb (h6 j k hj hk), fun k hk => below_keep hb (h7 k hk)⟩
theorem lab_stp (r : Rx) {k : Nat} (h1 : 1 ≤ k) (hk : k < 1 + r.n) : ∃ h : k - 1 < (r.labs.map labStp).length, (r.labs.map labStp)[k - 1] = labStp (labOf r k) := by
  have hl : k - 1 < r.labs.length := by show k - 1 < r.n; omega
  refine ⟨by simpa using hl, ?_⟩
  rw [List.getElem_map]
  unfold labOf
  obtain ⟨k, rfl⟩ : ∃ j, k = j + 1 := ⟨k - 1, by omega⟩
  rw [List.getD_cons_succ]
  simp only [Nat.add_sub_cancel] at hl ⊢
  simp [List.getD, hl]
set_option maxHeartbeats 8000000 in
theorem rsteps_any {w : World} {p : Nat} {r : Rx} (h : RfAt w p r) (hn : r.n ≤ 30) :
    Calls Tryd.prog 20 #[.pointer (some ⟨p, 0, none⟩)] w fun e w' => (∃ v, e = .returned v ∧ StepsAt w' v (stepsOf r)) ∧ Below w.heap.size w w' := by
  obtain ⟨av, g, fcap, eb, rb, hb, hf1, hf2, hA, hG, hM, _⟩ := h
  obtain ⟨aa, ac, ab, aoff, afv, rfl, a1, a2, a3, a4, arow, atx⟩ := hA
  obtain ⟨iS, hiS, hzS, hsS, hbS⟩ := info_two Tryd.infoStep
  rw [List.length_map] at a1 a4 hb
  have HLAB := hid fun k (h1 : 1 ≤ k) (hk : k < 1 + r.n) => (show ∃ f, Row5 w ab (aoff + (k - 1) * 5) (labStp (labOf r k)) f ∧ TextsAt w f (labOf r k).texts from by
    obtain ⟨hl, he⟩ := lab_stp r h1 hk
    have e1 := arow (k - 1) hl
    have e2 := atx (k - 1) hl
    rw [he] at e1 e2
    exact ⟨_, e1, e2⟩)
  have haa := hid (show 1 < 1 + r.n → aa = some ⟨ab, aoff, none⟩ from fun h => a4 (by show 0 < r.n; omega))
  have HSS := hid fun i => stepsTo_succ r i
  have HRS := hid fun i j => rowTo_succ r i j
  have HSL := hid fun i => stepsTo_len r i
  have HRL := hid fun i j => rowTo_len r i j
  have HN0 := hid fun i => (show r.nxt i 0 = false from by
    cases hc : r.nxt i 0
    · rfl
    · have := Rx.nxt_range r i 0 hc; omega)
  have hln : r.labs.length = r.n := rfl
  rw [hln] at a1 a4 hb
  obtain ⟨N, hN⟩ : ∃ N, N = 1 + r.n := ⟨_, rfl⟩
  have HNN := hid hN
  have HOF := hid (show stepsOf r = stepsTo r N by rw [hN]; rfl)
  obtain ⟨m, hm⟩ : ∃ m, m = r.n := ⟨_, rfl⟩
  have hNm : N = 1 + m := by omega
  rw [← hN] at hb hf1 hG hM HLAB haa HSS HSL
  rw [← hm] at a1 a4 hb
  rw [HOF.out]
  have hm30 : m ≤ 30 := by omega
  have p0 := hb.cell (i := 0) rfl
  have p1 := hb.cell (i := 1) rfl
  have HG := hid hG
  have HM := hid hM
  have HB0 := hid (Below.refl w.heap.size w)
  have hR0 : rowTo r 0 0 = [] := by simp [rowTo]
  clear hN hm hb hG hM arow atx hln hR0 hn
  have HNm := hid hNm
  have hN31 : N ≤ 31 := by omega
  clear hNm
  go_enter Tryd.func20, Tryd.ntmps20
  go_wp2
  go_loopw [3, 4] (fun s3 s4 wr => ∃ (i : Nat) (v : Value) (xs : List Value), i ≤ N ∧ s3 = v ∧ s4 = .int .i64 i ∧ Hid (Below w.heap.size w wr) ∧ Hid (SrOld w wr v xs (stepsTo r i))) (fun _ s4 _ => N - (intOf s4).toNat)
  case atStart => exact ⟨0, _, [], by omega, rfl, rfl, Below.refl _ _, SrOld.nil _ _⟩
  case round =>
    obtain ⟨i, v, xs, hi, hv, rfl, HBr, HV⟩ := hrel
    have hv := hv.symm
    subst hv
    have q0 := below_keep HBr.out p0
    have q1 := below_keep HBr.out p1
    by_cases hlt : i < N
    case neg =>
      obtain rfl : i = N := by omega
      have HF := hid (HV.out.steps HBr.out)
      go_wp2
      go_ret
      exact ⟨⟨v, rfl, HF.out⟩, HBr.out⟩
    have HV0 := hid (show SrOld w wr v xs (stepsTo r i ++ rowTo r i 1) by
      have e1 := HRS.out i 0
      rw [HN0.out, if_neg (by simp), List.append_nil] at e1
      rw [e1, show rowTo r i 0 = [] by simp [rowTo], List.append_nil]; exact HV.out)
    have hN1 : 1 ≤ N := by omega
    go_wp2
    go_loopw [3, 5] (fun s3 s5 wr => ∃ (j : Nat) (v : Value) (xs : List Value), 1 ≤ j ∧ j ≤ N ∧ s3 = v ∧ s5 = .int .i64 j ∧ Hid (Below w.heap.size w wr) ∧ Hid (SrOld w wr v xs (stepsTo r i ++ rowTo r i j))) (fun _ s5 _ => N - (intOf s5).toNat)
    case atStart => exact ⟨1, v, xs, Nat.le_refl _, hN1, rfl, rfl, HBr.out, HV0.out⟩
    case round =>
      clear q0 q1 HBr HV HV0
      obtain ⟨j, v, xs, hj1, hj, hv, rfl, HBr, HV⟩ := hrel
      have hv := hv.symm
      subst hv
      have q0 := below_keep HBr.out p0
      have q1 := below_keep HBr.out p1
      by_cases hjl : j < N
      case neg =>
        obtain rfl : j = N := by omega
        have HF := hid (show SrOld w wr v xs (stepsTo r (i + 1)) by rw [HSS.out]; exact HV.out)
        go_wp2
        go_roundw
        case rel => exact ⟨i + 1, v, xs, by omega, rfl, by go_num, HBr.out, HF.out⟩
        case measure => simp [intOf]; omega
      have g0 := below_keep HBr.out (HG.out i hlt)
      have g1 := below_keep HBr.out (HM.out i j hlt hjl)
      have HRj := hid (HRS.out i j)
      obtain ⟨z, hz⟩ : ∃ z, z = r.nxt i j := ⟨_, rfl⟩
      rw [← hz] at g1 HRj
      clear hz
      cases z
      case false =>
        go_wp2
        go_roundw
        case rel => exact ⟨j + 1, v, xs, by omega, by omega, rfl, by go_num, HBr.out, hid (by rw [HRj.out, if_neg (by simp), List.append_nil]; exact HV.out)⟩
        case measure => simp [intOf]; omega
      obtain ⟨f, hr5, htt⟩ := HLAB.out j hj1 hjl
      obtain ⟨ta, tc, htf, t1, t2, t3, htr⟩ := htt.open
      subst htf
      have HTT := hid htt
      have HST := hid (show stpOf r i j = ⟨(i : Nat), (j : Nat), (labOf r j).back, (labOf r j).not, (labOf r j).texts⟩ from rfl)
      obtain ⟨l, hl⟩ : ∃ l, l = labOf r j := ⟨_, rfl⟩
      rw [← hl] at hr5 HTT HST t1
      obtain ⟨lb, ln, lt⟩ := l
      unfold labStp at hr5
      obtain ⟨d0, d1, d2, d3, d4⟩ := hr5
      simp only at d0 d1 d2 d3 d4 HTT HST t1
      obtain ⟨tn, htn⟩ : ∃ tn, tn = lt.length := ⟨_, rfl⟩
      rw [← htn] at d4 HTT
      obtain ⟨jj, hjj⟩ : ∃ jj, jj = j - 1 := ⟨_, rfl⟩
      rw [← hjj] at d0 d1 d2 d3 d4
      have hjz : (j : Int) - 1 = (jj : Nat) := by omega
      have hjm : jj < m := by have := HNm.out; omega
      obtain rfl := haa.out (by omega)
      have d0 := below_keep HBr.out d0
      have d1 := below_keep HBr.out d1
      have d2 := below_keep HBr.out d2
      have d3 := below_keep HBr.out d3
      have d4 := below_keep HBr.out d4
      obtain ⟨wk, hwk⟩ : ∃ wk, wk = wr.alloc (.cells #[.int .i64 (i : Nat), .int .i64 (j : Nat), .bool lb, .bool ln, .slice ta tn tc] 48) := ⟨_, rfl⟩
      have hbk : Below wr.heap.size wr wk := by rw [hwk]; exact (Below.refl _ _).alloc (Nat.le_refl _) _
      have hXk : Blk wk wr.heap.size [.int .i64 (i : Nat), .int .i64 (j : Nat), .bool lb, .bool ln, .slice ta tn tc] 48 := by rw [hwk]; exact Blk.new wr _ _
      have HBk := hid (HBr.out.trans (hbk.mono HBr.out.size))
      have HVk := hid (HV.out.keep hbk)
      have m0 := hXk.cell (i := 0) rfl
      have m1 := hXk.cell (i := 1) rfl
      have m2 := hXk.cell (i := 2) rfl
      have m3 := hXk.cell (i := 3) rfl
      have m4 := hXk.cell (i := 4) rfl
      have hsl := HSL.out i
      have hrl := HRL.out i j
      have hmul : i * N ≤ 32 * 32 := Nat.mul_le_mul (by omega) (by omega)
      have HLEN := hid (show (stepsTo r i ++ rowTo r i j).length ≤ 2000 by rw [List.length_append]; omega)
      have B1 := hid (show (stepsTo r i ++ rowTo r i j).length + 1 ≤ maxLen by have := HLEN.out; unfold maxLen; omega)
      have B2 := hid (show ((stepsTo r i ++ rowTo r i j).length + 1) * 48 ≤ 140737488355328 by have := HLEN.out; omega)
      have B3 := hid (show ∀ u ∈ [Value.int .i64 (i : Nat), .int .i64 (j : Nat), .bool lb, .bool ln, .slice ta tn tc], u.oneCell' = true from fun u hu => by
        simp only [List.mem_cons, List.not_mem_nil, or_false] at hu
        rcases hu with rfl | rfl | rfl | rfl | rfl <;> rfl)
      have B4 := hid (show ∀ (o : Obj), w.heap.size ≤ (wk.alloc o).heap.size from fun o => by have := HBk.out.size; simp; omega)
      clear hbk hXk hsl hrl hmul hl htn t1 htr hjj
      go_upto_region 11 with fail
      rw [← hwk]
      clear hwk d0 d1 d2 d3 d4
      go_wp2_with (at_builtin; refine wpList_append_w (by rfl) (.tmp 47) (.tmp 49) 36 (by rfl) w.heap.size 48 iS _ 5 48 Tryd.underlying36 hiS hzS hsS hbS rfl (by decide) v _ xs (by rfl) (HVk.out.own.alloc _) ⟨wk.heap.size, 0, none⟩ 1 1 [.int .i64 (i : Nat), .int .i64 (j : Nat), .bool lb, .bool ln, .slice ta tn tc] (by rfl) (by rfl) (World.news_of_block (cs := #[.int .i64 (i : Nat), .int .i64 (j : Nat), .bool lb, .bool ln, .slice ta tn tc]) (t := 48) (fr := (0, 0)) (heap_alloc_new wk _)) B3.out B1.out B2.out (B4.out _) ?_; intro v5 w5 hown hgr hmv; have HB5 := hid ((HBk.out.alloc HBk.out.size (.cells #[.int .i64 (i : Nat), .int .i64 (j : Nat), .bool lb, .bool ln, .slice ta tn tc] 48)).grown hgr (B4.out _) (fun q hq => (HVk.out.own.lt q hq).1)); have HO5 := hid hown; clear hown hgr hmv)
      have HSN := hid (SrOld.snoc (s := ⟨(i : Nat), (j : Nat), lb, ln, lt⟩) HVk.out HO5.out HTT.out)
      go_roundw
      case rel => exact ⟨j + 1, _, _, by omega, by omega, rfl, by go_num, HB5.out, hid (by have h := HSN.out; rw [HRj.out, if_pos rfl, HST.out, ← List.append_assoc]; exact h)⟩
      case measure => simp [intOf]; omega
end Go.Proofs.YtobcbaeoedpefaaDoor
