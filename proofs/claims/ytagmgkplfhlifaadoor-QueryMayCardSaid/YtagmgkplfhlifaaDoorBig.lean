/- The laws' big. -/
import Derived.Test.YtagmgkplfhlifaaDoorRPath
namespace Go.Proofs.YtagmgkplfhlifaaDoor
set_option linter.unusedVariables false
set_option linter.unusedSimpArgs false
set_option maxRecDepth 100000
open Go.ChangeShapes Go.WideShapes Go.ChangeAt Go.RowKit
open Au
mutual
/-- Is a path more than is looked at? -/
def bigP : Nat → Pt → Bool | d, .mk k t L K => decide (12 < d) || decide (4 < K.length) || decide (20 < L.length) || decide (300 < t.length) || L.any (fun s => decide (300 < s.length)) || bigPs (d + 1) K
def bigPs : Nat → List Pt → Bool | _, [] => false | d, x :: r => bigP d x || bigPs d r
end
theorem bigPs_any (d : Nat) : ∀ K : List Pt, bigPs d K = K.any (bigP d)
  | [] => by simp [bigPs]
  | x :: r => by simp [bigPs, bigPs_any d r]
theorem bigP_mk (d : Nat) (k : Int) (t : T) (L : List T) (K : List Pt) : bigP d (.mk k t L K) = (decide (12 < d) || decide (4 < K.length) || decide (20 < L.length) || decide (300 < t.length) || L.any (fun s => decide (300 < s.length)) || K.any (bigP (d + 1))) := by rw [bigP, bigPs_any]
theorem any_take_none {α : Type} {f : α → Bool} {l : List α} {i : Nat} {x : α} (h : (l.take i).any f = false) (hi : i < l.length) (hx : l[i] = x) (hf : f x = false) : (l.take (i + 1)).any f = false := by
  rw [List.take_add_one, List.getElem?_eq_getElem hi, List.any_append, h, hx]; simp [hf]
set_option maxHeartbeats 8000000 in
theorem big_any : ∀ (x : Pt) (w : World) (v u : Value) (d : Nat), PtAt w v u x → d ≤ 13 →
    Calls Tryd.prog 18 #[pv x v u, .int .i64 d] w fun e w' => e = .returned (.bool (bigP d x)) ∧ Below w.heap.size w w' := by
  intro x
  induction x using Pt.ind with
  | h k t L K ih =>
    intro w v u d hP hd
    have IH := hid ih
    obtain ⟨w1, hw1, hz, HX, HP, HB⟩ := pt_box w (.mk k t L K) v u hP
    obtain ⟨hk, htl, hL, hll, a, cap, b, off, f, g, rfl, q1, q2, q3, q4, hrow, hkid⟩ := HP.out.open
    simp only [Pt.kids, Pt.kind, Pt.text, Pt.texts] at q1 q3 q4 hrow hkid hk htl hL hll hw1 HX
    obtain ⟨ta, tc, rfl, r1, r2, r3, hr⟩ := hL.open
    have HR := hid hr
    have HLL := hid hll
    have HROW := hid hrow
    have HKID := hid hkid
    obtain ⟨c0, c1, c2, c3⟩ := blk4 HX.out
    obtain ⟨ANS, hA⟩ : ∃ z, z = bigP d (.mk k t L K) := ⟨_, rfl⟩
    rw [← hA]
    rw [bigP_mk] at hA
    obtain ⟨N, hN⟩ : ∃ N, N = K.length := ⟨_, rfl⟩
    obtain ⟨n, hn⟩ : ∃ n, n = L.length := ⟨_, rfl⟩
    have HN := hid hN
    have HNL := hid hn
    rw [← hN] at q1 q4 c3 hw1 hA
    rw [← hn] at r1 r3 c2 hw1 hA HR
    have HA := hid hA
    have hb1 := HB.out.size
    unfold pv
    simp only [Pt.kind, Pt.text, Pt.kids]
    rw [← hN, ← hn]
    clear hr hll hrow hkid hP hL ih hA hN hn
    go_enter Tryd.func18, Tryd.ntmps18
    go_upto_region 1 with fail
    rw [← hw1]
    clear hw1
    by_cases h1 : 12 < d
    · have HF := hid (show ANS = true by rw [HA.out, decide_eq_true h1]; rfl)
      clear HA
      go_wp2
      go_ret
      exact ⟨(by rw [HF.out]; rfl), HB.out⟩
    by_cases h2 : 4 < N
    · have HF := hid (show ANS = true by rw [HA.out, decide_eq_true h2]; simp)
      clear HA
      go_wp2
      go_ret
      exact ⟨(by rw [HF.out]; rfl), HB.out⟩
    by_cases h3 : 20 < n
    · have HF := hid (show ANS = true by rw [HA.out, decide_eq_true h3]; simp)
      clear HA
      go_wp2
      go_ret
      exact ⟨(by rw [HF.out]; rfl), HB.out⟩
    by_cases h4 : 300 < t.length
    · have HF := hid (show ANS = true by rw [HA.out, decide_eq_true h4]; simp)
      clear HA
      go_wp2
      go_ret
      exact ⟨(by rw [HF.out]; rfl), HB.out⟩
    have HA2 := hid (show ANS = (L.any (fun s => decide (300 < s.length)) || K.any (bigP (d + 1))) by rw [HA.out, decide_eq_false h1, decide_eq_false h2, decide_eq_false h3, decide_eq_false h4]; rfl)
    clear HA
    go_wp2
    go_loopw [5] (fun s5 wr => ∃ i : Nat, i ≤ n ∧ s5 = .int .i64 i ∧ wr = w1 ∧ Hid ((L.take i).any (fun s => decide (300 < s.length)) = false)) (fun s5 _ => n - (intOf s5).toNat)
    case atStart => exact ⟨0, by omega, rfl, rfl, rfl⟩
    case round =>
      obtain ⟨i, hi, rfl, hww, HAny⟩ := hrel
      subst hww
      by_cases hlt : i < n
      · obtain ⟨bb, oo, hab, hc⟩ := HR.out.get hlt
        have z0 := hc i hlt
        have hsl := HLL.out i
        subst hab
        have hil : i < L.length := by rw [← HNL.out]; exact hlt
        have hgd : L.getD i [] = L[i] := by simp [List.getD, hil]
        have HM := hid (show ∀ s, s = L.getD i [] → s ∈ L ∧ (decide (300 < s.length) = false → (L.take (i + 1)).any (fun s => decide (300 < s.length)) = false) from fun s hs => by
          rw [hs, hgd]
          exact ⟨List.getElem_mem _, fun hf => any_take_none HAny.out hil rfl hf⟩)
        obtain ⟨s, hs⟩ : ∃ s, s = L.getD i [] := ⟨_, rfl⟩
        rw [← hs] at z0 hsl
        have HM2 := hid (HM.out s hs)
        clear hc hs hil hgd
        by_cases h300 : 300 < s.length
        · have HF := hid (show ANS = true by
            rw [HA2.out]
            have : L.any (fun s => decide (300 < s.length)) = true := List.any_eq_true.2 ⟨s, HM2.out.1, decide_eq_true h300⟩
            rw [this]; rfl)
          go_wp2
          go_ret
          exact ⟨(by rw [HF.out]; rfl), HB.out⟩
        · have HF := hid (HM2.out.2 (decide_eq_false h300))
          go_wp2
          go_roundw
          case rel => exact ⟨i + 1, by omega, by go_num, trivial, HF.out⟩
          case measure => simp [intOf]; omega
      · obtain rfl : i = n := by omega
        have HA3 := hid (show ANS = K.any (bigP (d + 1)) by
          have h := HAny.out
          rw [HNL.out, List.take_length] at h
          rw [HA2.out, h, Bool.false_or])
        obtain ⟨wq, rfl⟩ : ∃ wq : World, wq = wr := ⟨_, rfl⟩
        have hNm : N ≤ 9223372036854775807 := by omega
        go_wp2
        go_loopw [6] (fun s6 wr => ∃ j : Nat, j ≤ N ∧ s6 = .int .i64 j ∧ Hid (Below wq.heap.size wq wr) ∧ Hid ((K.take j).any (bigP (d + 1)) = false)) (fun s6 _ => N - (intOf s6).toNat)
        case atStart => exact ⟨0, by omega, rfl, Below.refl _ _, rfl⟩
        case round =>
          obtain ⟨j, hj, rfl, HBr, HKa⟩ := hrel
          have f0 := below_keep HBr.out c0
          have f1 := below_keep HBr.out c1
          have f2 := below_keep HBr.out c2
          have f3 := below_keep HBr.out c3
          have HB5 := hid (below_then HB.out HBr.out)
          by_cases hlt : j < N
          · have ha := q4 (by omega)
            subst ha
            have hjK : j < K.length := by rw [← HN.out]; exact hlt
            have hr4 := HROW.out j hjK
            have hkp := HKID.out j hjK
            have hmem : K[j] ∈ K := List.getElem_mem _
            have hst : ∀ y, y = K[j] → bigP (d + 1) y = false → (K.take (j + 1)).any (bigP (d + 1)) = false := fun y hy hf => any_take_none HKa.out hjK hy.symm hf
            obtain ⟨y, hy⟩ : ∃ y, y = K[j] := ⟨_, rfl⟩
            rw [← hy] at hr4 hkp hmem
            have HST := hid (hst y hy)
            obtain ⟨_, _, hLk, _, ak', capk, _, _, _, _, hgi, _⟩ := hkp.open
            obtain ⟨ta', tc', hfi, _⟩ := hLk.open
            rw [hfi, hgi] at hr4 hkp
            obtain ⟨n1, hn1⟩ : ∃ n1, n1 = y.texts.length := ⟨_, rfl⟩
            obtain ⟨n2, hn2⟩ : ∃ n2, n2 = y.kids.length := ⟨_, rfl⟩
            rw [← hn1, ← hn2] at hr4 hkp
            have hr4 := hr4.keep HBr.out
            obtain ⟨z0, z1, z2, z3⟩ := hr4
            have C := IH.out y hmem wr _ _ (d + 1) (hkp.keep HBr.out) (by omega)
            rw [show ((d + 1 : Nat) : Int) = (d : Int) + 1 by omega] at C
            unfold pv at C
            have HMEM := hid hmem
            clear hkp hmem hst hy hjK hfi hgi hLk hn1 hn2
            cases hb : bigP (d + 1) y
            · rw [hb] at C
              have HF := hid (HST.out hb)
              have C := hid C
              clear hb
              go_wp2_with (go_at_call 18; refine C.out.mono ?_; rintro e w4 ⟨rfl, hb4⟩)
              go_roundw
              case rel => exact ⟨j + 1, by omega, by go_num, below_then HBr.out hb4, HF.out⟩
              case measure => simp [intOf]; omega
            · rw [hb] at C
              have HF := hid (show ANS = true by rw [HA3.out]; exact List.any_eq_true.2 ⟨y, HMEM.out, hb⟩)
              have C := hid C
              clear hb
              go_wp2_with (go_at_call 18; refine C.out.mono ?_; rintro e w4 ⟨rfl, hb4⟩)
              go_ret
              exact ⟨(by rw [HF.out]; rfl), below_then HB5.out hb4⟩
          · obtain rfl : j = N := by omega
            have HF := hid (show ANS = false by
              have h := HKa.out
              rw [HN.out, List.take_length] at h
              rw [HA3.out, h])
            go_wp2
            go_ret
            exact ⟨(by rw [HF.out]; rfl), HB5.out⟩
end Go.Proofs.YtagmgkplfhlifaaDoor
