/- Merges in place. -/
import Derived.Test.YtjaebndajhppgaaGreatDoorGSt
import Derived.Deep.DeepCutAuto
namespace Go.Proofs.YtjaebndajhppgaaGreatDoor
set_option linter.unusedVariables false
set_option linter.unusedSimpArgs false
set_option maxRecDepth 100000
open Go.ChangeShapes Go.WideShapes Go.ChangeAt Go.RowKit Go.Sort Go.Lib
section
variable {α : Type} [Inhabited α] {P : Program} {k : Nat} {enc : α → List Value} {cf : α → α → Int} {w : World} {blk off : Nat}
set_option maxHeartbeats 8000000 in
theorem symm_m (L : StLays P k) (hk : ∀ x, (enc x).length = k) (h1 : ∀ x, ∀ v ∈ enc x, v.oneCell' = true) (hS : SWO (ltOf cf)) (d : Array α) (g : Nat) (cb : Array Value) (eg : ∀ args w, (callFunc g args).run P w = .ok (.enter g args) w) (hcmp : CmpLays P g cb enc k cf blk off d.size w) (hH : HoldsK enc k w blk off d) (hblk : blk < w.heap.size) (hsz : d.size < 4611686018427387904) (a mid b m cap : Nat) (dk : Array α) (os : Array Obj) (hs : dk.size = d.size) (ham : a + 1 < mid) (hmb : mid + 1 < b) (hb : b ≤ d.size) (hs1 : SortedIn (ltOf cf) a mid dk) (hs2 : SortedIn (ltOf cf) mid b dk)
    (IH : ∀ (x y z m : Nat) (dk : Array α) (os : Array Obj), z - x < b - a → dk.size = d.size → x < y → y < z → z ≤ d.size → SortedIn (ltOf cf) x y dk → SortedIn (ltOf cf) y z dk →
      Calls P 188 #[.slice (some ⟨blk, off, none⟩) d.size cap, .int .i64 x, .int .i64 y, .int .i64 z, .func (.func g) #[] cb] (sortWorldK enc k w blk off m dk os) fun e w' =>
        e = .returned (.tuple #[]) ∧ ∃ m' d', (∃ os', w' = sortWorldK enc k w blk off m' d' os') ∧ d'.size = d.size ∧ PermIn x z dk d' ∧ SortedIn (ltOf cf) x z d') :
    Calls P 188 #[.slice (some ⟨blk, off, none⟩) d.size cap, .int .i64 a, .int .i64 mid, .int .i64 b, .func (.func g) #[] cb] (sortWorldK enc k w blk off m dk os) fun e w' =>
      e = .returned (.tuple #[]) ∧ ∃ m' d', (∃ os', w' = sortWorldK enc k w blk off m' d' os') ∧ d'.size = d.size ∧ PermIn a b dk d' ∧ SortedIn (ltOf cf) a b d' := by
  have RT := hid (fun (x y z m : Nat) (dk : Array α) (os : Array Obj) hs h2 h3 h4 => rot_gen L hk h1 d hH hblk hsz x y z m cap dk os hs h2 h3 h4 (.func (.func g) #[] cb))
  have HIH := hid IH
  clear IH
  have XC := hid (fun m dk os hs i j hi hj => xch (P := P) hk h1 hH hblk m dk os hs i j hi hj)
  have CX := hid (fun m dk os hs i j hi hj => cmpx (P := P) (cf := cf) hk hcmp hH hblk m dk os hs i j hi hj)
  have HS := hid hs
  have H1 := hid hs1
  have H2 := hid hs2
  have SW := hid hS
  clear hcmp hk h1 hH hs hs1 hs2 hS
  obtain ⟨W0, hW0⟩ : ∃ W0, W0 = sortWorldK enc k w blk off m dk os := ⟨_, rfl⟩
  rw [← hW0]
  have HW0 := hid hW0
  clear hW0
  have mixed := L.mixed; have t0 := L.t0; have a0 := L.a0; have z0 := L.z0; have v0 := L.v0; have t3 := L.t3; have a3 := L.a3; have z3 := L.z3; have v3 := L.v3; have t4 := L.t4; have a4 := L.a4; have z4 := L.z4; have v4 := L.v4; have tu := L.tu; have au := L.au; have zu := L.zu; have vu := L.vu; have tl := L.tl; have al := L.al; have zl := L.zl; have vl := L.vl; have tf := L.tf; have af := L.af; have zf := L.zf; have vf := L.vf; have aE := L.aE; have zE := L.zE; have ul := run_underlying L.tl
  have FN := L.fm
  have er : ∀ args w, (callFunc 227 args).run P w = .ok (.enter 227 args) w := enters_of L.fr (by kernel_rfl) rfl
  have em : ∀ args w, (callFunc 188 args).run P w = .ok (.enter 188 args) w := enters_of L.fm (by kernel_rfl) rfl
  clear L
  obtain ⟨mm, hmm⟩ : ∃ mm, mm = mid - a := ⟨_, rfl⟩
  have emm : (mid : Int) - (a : Int) = (mm : Int) := by omega
  have wmm : IntKind.i64.wrap (mm : Int) = (mm : Int) := by rw [IntKind.wrap_i64]; omega
  have nmm : ((mm : Int) == 1) = false := beq_eq_false_iff_ne.2 (by omega)
  obtain ⟨bm, hbm⟩ : ∃ bm, bm = b - mid := ⟨_, rfl⟩
  have ebm : (b : Int) - (mid : Int) = (bm : Int) := by omega
  have wbm : IntKind.i64.wrap (bm : Int) = (bm : Int) := by rw [IntKind.wrap_i64]; omega
  have nbm : ((bm : Int) == 1) = false := beq_eq_false_iff_ne.2 (by omega)
  clear hmm hbm
  obtain ⟨c, hc⟩ : ∃ c, c = (a + b) / 2 := ⟨_, rfl⟩
  have ec : ((a : Int) + (b : Int)) / 2 = (c : Int) := by omega
  obtain ⟨n, hn⟩ : ∃ n, n = c + mid := ⟨_, rfl⟩
  have en : (c : Int) + (mid : Int) = (n : Int) := by omega
  have wn : IntKind.i64.wrap (n : Int) = (n : Int) := by rw [IntKind.wrap_i64]; omega
  obtain ⟨nb, hnb⟩ : ∃ nb : Int, nb = (n : Int) - (b : Int) := ⟨_, rfl⟩
  obtain ⟨p, hp⟩ : ∃ p, p = n - 1 := ⟨_, rfl⟩
  have ep : (n : Int) - 1 = (p : Int) := by omega
  have wp1 : IntKind.i64.wrap (p : Int) = (p : Int) := by rw [IntKind.wrap_i64]; omega
  have HCC := hid (show a + b ≤ 2 * c + 1 ∧ 2 * c ≤ a + b ∧ n = c + mid ∧ p + 1 = c + mid from ⟨by omega, by omega, hn, by omega⟩)
  clear hc hn hp hnb
  go_enter FN, Tryz.ntmps188
  go_upto_if 140 with fail
  go_cut [20, 21] (fun s20 s21 wx => ∃ s0 r0 : Nat, s20 = .int .i64 s0 ∧ s21 = .int .i64 r0 ∧ Hid (a ≤ s0 ∧ s0 ≤ r0 ∧ r0 ≤ mid ∧ r0 ≤ c ∧ n ≤ s0 + b ∧ (r0 = c ∨ r0 = mid) ∧ (s0 = a ∨ n = s0 + b)) ∧ wx = W0)
  case first => as_aux_lemma =>
    by_cases hmc : c < mid
    · have hz : (c : Int) < (mid : Int) := by omega
      obtain ⟨s0, hs0⟩ : ∃ s0, s0 = n - b := ⟨_, rfl⟩
      have es0 : (n : Int) - (b : Int) = (s0 : Int) := by have := HCC.out; omega
      have ws0 : IntKind.i64.wrap (s0 : Int) = (s0 : Int) := by rw [IntKind.wrap_i64]; have := HCC.out; omega
      have HS0 := hid hs0
      clear hs0
      go_wp2_with fail
      go_meet
      exact ⟨s0, c, rfl, rfl, by show _ ∧ _; have := HCC.out; have := HS0.out; refine ⟨?_, ?_, ?_, ?_, ?_, ?_, ?_⟩ <;> omega, rfl⟩
    · have hz : ¬ (c : Int) < (mid : Int) := by omega
      go_wp2_with fail
      go_meet
      exact ⟨a, mid, rfl, rfl, by show _ ∧ _; have := HCC.out; refine ⟨?_, ?_, ?_, ?_, ?_, ?_, ?_⟩ <;> omega, rfl⟩
  case rest =>
  obtain ⟨s0, r0, rfl, rfl, HB, rfl⟩ := hcut
  go_wp2
  go_loopg [20, 21] (r0 - s0) (fun gg vi vj wr => ∃ (i j m' : Nat) (os' : Array Obj), vi = .int .i64 i ∧ vj = .int .i64 j ∧ s0 ≤ i ∧ i ≤ j ∧ j ≤ r0 ∧ j - i ≤ gg ∧ Hid (wr = sortWorldK enc k w blk off m' dk os') ∧ Hid (i = s0 ∨ ltOf cf dk[p - (i - 1)]! dk[i - 1]! = false) ∧ Hid (j = r0 ∨ ltOf cf dk[p - j]! dk[j]! = true))
  case atStart => exact ⟨s0, r0, m, os, rfl, rfl, Nat.le_refl _, HB.out.2.1, Nat.le_refl _, Nat.le_refl _, HW0.out, .inl rfl, .inl rfl⟩
  case round =>
    obtain ⟨i, j, m', os', rfl, rfl, hi1, hij, hjb, hg, HW, HL, HR⟩ := hrel
    by_cases hlt : i < j
    · have hltz : (i : Int) < (j : Int) := by omega
      obtain ⟨h, hh⟩ : ∃ h, h = (i + j) / 2 := ⟨_, rfl⟩
      have hb1 : i ≤ h := by omega
      have hb2 : h < j := by omega
      have eh : ((i : Int) + (j : Int)) / 2 = (h : Int) := by omega
      have bh : (h : Int) < (d.size : Int) := by have := HB.out; omega
      clear hh
      obtain ⟨y, hy⟩ : ∃ y, y = p - h := ⟨_, rfl⟩
      have hyy : y < d.size ∧ y + h = p := by have := HCC.out; have := HB.out; omega
      have ey : (p : Int) - (h : Int) = (y : Int) := by omega
      have wy : IntKind.i64.wrap (y : Int) = (y : Int) := by rw [IntKind.wrap_i64]; omega
      have by0 : (y : Int) < (d.size : Int) := by omega
      have HY := hid hyy
      have HYP := hid hy
      clear hyy hy
      have h4 := HY.out.1
      have h5 : h < d.size := by have := HB.out; omega
      obtain ⟨ci, cj, X⟩ := CX.out m' dk os' HS.out y h (by omega) (by omega)
      rw [← HW.out] at X
      obtain ⟨li, lj, zi, zj, call⟩ := X
      obtain ⟨r, hr⟩ : ∃ r, r = cf dk[y]! dk[h]! := ⟨_, rfl⟩
      rw [← hr] at call
      have HRR := hid hr
      clear hr
      by_cases hlv : r < 0
      · have HLV := hid hlv
        go_wp2_with fail
        go_quiet_grown (first | (go_at_fn g; refine Calls.grown_of (call _ _)))
        have HC := hid (show grow (wr.drewN nq) osq = sortWorldK enc k w blk off (m' + nq) dk (os' ++ osq) by rw [HW.out]; exact sortWorldK_grown_c enc k w blk off m' nq dk os' osq)
        clear li lj call
        generalize grow (wr.drewN nq) osq = wq at HC ⊢
        go_wp2
        go_roundg (h - i)
        case measure => omega
        case rel => exact ⟨i, h, m' + nq, _, rfl, by go_num, hi1, by omega, by omega, by omega, HC.out, HL.out, .inr (by rw [← HYP.out]; exact lt_yes HRR.out HLV.out)⟩
      · have HLV := hid (show 0 ≤ r by omega)
        have hd1 : decide (r < 0) = false := decide_eq_false hlv
        have hd2 : decide (0 ≤ r) = true := decide_eq_true (by omega)
        go_wp2_with fail
        go_quiet_grown (first | (go_at_fn g; refine Calls.grown_of (call _ _)))
        have HC := hid (show grow (wr.drewN nq) osq = sortWorldK enc k w blk off (m' + nq) dk (os' ++ osq) by rw [HW.out]; exact sortWorldK_grown_c enc k w blk off m' nq dk os' osq)
        clear li lj call
        generalize grow (wr.drewN nq) osq = wq at HC ⊢
        go_wp2
        go_roundg (j - (h + 1))
        case measure => omega
        case rel => exact ⟨h + 1, j, m' + nq, _, by go_num, rfl, by omega, by omega, hjb, by omega, HC.out, .inr (by rw [Nat.add_sub_cancel, ← HYP.out]; exact lt_no HRR.out HLV.out), HR.out⟩
    · obtain rfl : i = j := by omega
      have hz : ¬ ((i : Int) < (i : Int)) := by omega
      obtain ⟨e, he⟩ : ∃ e, e = n - i := ⟨_, rfl⟩
      have ee : (n : Int) - (i : Int) = (e : Int) := by have := HCC.out; have := HB.out; omega
      have we : IntKind.i64.wrap (e : Int) = (e : Int) := by rw [IntKind.wrap_i64]; have := HCC.out; have := HB.out; omega
      have HE := hid (show a ≤ i ∧ i ≤ mid ∧ mid ≤ e ∧ e ≤ b ∧ i ≤ c ∧ c ≤ e ∧ c + mid = i + e ∧ c ≤ b ∧ a ≤ c ∧ a + b ≤ 2 * c + 1 ∧ 2 * c ≤ a + b by have := HCC.out; have := HB.out; refine ⟨?_, ?_, ?_, ?_, ?_, ?_, ?_, ?_, ?_, ?_, ?_⟩ <;> omega)
      have HL2 := hid (show i = a ∨ e = b ∨ ltOf cf dk[e]! dk[i - 1]! = false by
        have h6 := HCC.out; have h7 := HB.out; have h8 := HE.out
        rcases HL.out with h | h
        · rcases h7.2.2.2.2.2.2 with h9 | h9
          · exact .inl (by omega)
          · exact .inr (.inl (by omega))
        · by_cases hi0 : i = s0
          · rcases h7.2.2.2.2.2.2 with h9 | h9
            · exact .inl (by omega)
            · exact .inr (.inl (by omega))
          · rw [show p - (i - 1) = e by omega] at h; exact .inr (.inr h))
      have HR2 := hid (show i = mid ∨ e = mid ∨ ltOf cf dk[e - 1]! dk[i]! = true by
        have h6 := HCC.out; have h7 := HB.out; have h8 := HE.out
        rcases HR.out with h | h
        · rcases h7.2.2.2.2.2.1 with h9 | h9
          · exact .inr (.inl (by omega))
          · exact .inl (by omega)
        · rw [show p - i = e - 1 by omega] at h; exact .inr (.inr h))
      clear he HL HR hg
      go_upto_region 39 with fail
      go_cut [185] (fun sB wx => ∃ B : Bool, sB = .bool B ∧ Hid (B = decide (i < mid ∧ mid < e)) ∧ wx = wr)
      case first => as_aux_lemma =>
        by_cases hr1 : i < mid
        · have hr1z : (i : Int) < (mid : Int) := by omega
          by_cases hr2 : mid < e
          · have hr2z : (mid : Int) < (e : Int) := by omega
            go_wp2_with fail
            go_meet
            exact ⟨true, rfl, (decide_eq_true ⟨hr1, hr2⟩).symm, rfl⟩
          · have hr2z : ¬ (mid : Int) < (e : Int) := by omega
            go_wp2_with fail
            go_meet
            exact ⟨false, rfl, (decide_eq_false (fun h => by omega)).symm, rfl⟩
        · have hr1z : ¬ (i : Int) < (mid : Int) := by omega
          go_wp2_with fail
          go_meet
          exact ⟨false, rfl, (decide_eq_false (fun h => by omega)).symm, rfl⟩
      case rest =>
      obtain ⟨B, rfl, HBB, hwx⟩ := hcut
      subst hwx
      go_upto_if 185 with fail
      go_cut [24] (fun s24 wx => s24 = .int .i64 e ∧ ∃ (m3 : Nat) (d3 : Array α), Hid (wx = sortWorldK enc k w blk off m3 d3 os') ∧ Hid (d3.size = d.size) ∧ Hid (PermIn a b dk d3) ∧ Hid (St.Rot i mid e dk d3))
      case first => as_aux_lemma =>
        cases B
        · have HNB := hid (show ¬ (i < mid ∧ mid < e) from of_decide_eq_false HBB.out.symm)
          clear HBB
          by_cases hr1 : i < mid
          · have hem : e = mid := by have := HNB.out; have := HE.out; omega
            have HEM := hid hem
            clear hem
            go_wp2_with fail
            go_meet
            exact ⟨rfl, m', dk, HW.out, HS.out, permIn_refl _ _ _, by show St.Rot _ _ _ _ _; rw [HEM.out]; exact St.rot_none_r _ _ _ (by omega)⟩
          · have hem : i = mid := by have := HE.out; omega
            have HEM := hid hem
            clear hem
            go_wp2_with fail
            go_meet
            exact ⟨rfl, m', dk, HW.out, HS.out, permIn_refl _ _ _, by show St.Rot _ _ _ _ _; rw [HEM.out]; exact St.rot_none_l _ _ _ (by have := HE.out; omega)⟩
        · have hr := of_decide_eq_true HBB.out.symm
          obtain ⟨hr1, hr2⟩ := hr
          clear HBB
          have RT1 := hid (RT.out i mid e m' dk os' HS.out hr1 hr2 (by have := HE.out; omega))
          rw [← HW.out] at RT1
          go_wp2_with fail
          go_at_fn 227
          refine RT1.out.mono ?_
          rintro e3 w3 ⟨rfl, m3, d3, hw3, hz3, hp3, hr3⟩
          have H3 := hid (And.intro hw3 (And.intro hz3 (And.intro hp3 hr3)))
          clear hw3 hz3 hp3 hr3
          go_wp2_with fail
          go_meet
          exact ⟨rfl, m3, d3, H3.out.1, H3.out.2.1, permIn_mono dk d3 i e a b (by have := HE.out; omega) (by have := HE.out; omega) (by have := HS.out; omega) H3.out.2.2.1, H3.out.2.2.2⟩
      case rest => as_aux_lemma =>
      obtain ⟨rfl, m3, d3, HW3, HZ3, HP3, HR3⟩ := hcut
      obtain ⟨w3, hw3⟩ : ∃ w3, w3 = wc := ⟨_, rfl⟩
      subst hw3
      have HH := hid (St.halves SW.out H1.out H2.out (by have := HE.out; omega) (by have := HE.out; omega) (by have := HE.out; omega) (by have := HE.out; omega) HE.out.2.2.2.2.2.2.1 HL2.out HR2.out HR3.out)
      clear HR3 HL2 HR2 HW
      go_upto_region 41 with fail
      go_cut [199] (fun sB wx => ∃ B : Bool, sB = .bool B ∧ Hid (B = decide (a < i ∧ i < c)) ∧ wx = w3)
      case first => as_aux_lemma =>
        by_cases hr1 : a < i
        · have hr1z : (a : Int) < (i : Int) := by omega
          by_cases hr2 : i < c
          · have hr2z : (i : Int) < (c : Int) := by omega
            go_wp2_with fail
            go_meet
            exact ⟨true, rfl, (decide_eq_true ⟨hr1, hr2⟩).symm, rfl⟩
          · have hr2z : ¬ (i : Int) < (c : Int) := by omega
            go_wp2_with fail
            go_meet
            exact ⟨false, rfl, (decide_eq_false (fun h => by omega)).symm, rfl⟩
        · have hr1z : ¬ (a : Int) < (i : Int) := by omega
          go_wp2_with fail
          go_meet
          exact ⟨false, rfl, (decide_eq_false (fun h => by omega)).symm, rfl⟩
      case rest =>
      obtain ⟨B, rfl, HBB, hwx⟩ := hcut
      subst hwx
      go_upto_if 199 with fail
      go_cut [24] (fun s24 wx => s24 = .int .i64 e ∧ ∃ (m4 : Nat) (d4 : Array α) (os4 : Array Obj), Hid (wx = sortWorldK enc k w blk off m4 d4 os4) ∧ Hid (d4.size = d.size) ∧ Hid (PermIn a c d3 d4) ∧ Hid (SortedIn (ltOf cf) a c d4))
      case first => as_aux_lemma =>
        cases B
        · have HNB := hid (show ¬ (a < i ∧ i < c) from of_decide_eq_false HBB.out.symm)
          clear HBB
          by_cases hr1 : a < i
          · have hem : c = i := by have := HNB.out; have := HE.out; omega
            have HEM := hid hem
            clear hem
            go_wp2_with fail
            go_meet
            exact ⟨rfl, m3, d3, os', HW3.out, HZ3.out, permIn_refl _ _ _, by show SortedIn _ _ _ _; rw [HEM.out]; exact HH.out.l1⟩
          · have hem : a = i := by have := HE.out; omega
            have HEM := hid hem
            clear hem
            go_wp2_with fail
            go_meet
            exact ⟨rfl, m3, d3, os', HW3.out, HZ3.out, permIn_refl _ _ _, by show SortedIn _ _ _ _; rw [HEM.out]; exact HH.out.l2⟩
        · have hr := of_decide_eq_true HBB.out.symm
          obtain ⟨hr1, hr2⟩ := hr
          clear HBB
          have RT1 := hid (HIH.out a i c m3 d3 os' (by have := HE.out; omega) HZ3.out hr1 hr2 (by have := HE.out; omega) HH.out.l1 HH.out.l2)
          rw [← HW3.out] at RT1
          go_wp2_with fail
          go_at_fn 188
          refine RT1.out.mono ?_
          rintro e3 w4 ⟨rfl, m4, d4, ⟨os4, hw4⟩, hz4, hp4, hs4⟩
          have H4 := hid (And.intro hw4 (And.intro hz4 (And.intro hp4 hs4)))
          clear hw4 hz4 hp4 hs4
          go_wp2_with fail
          go_meet
          exact ⟨rfl, m4, d4, os4, H4.out.1, H4.out.2.1, H4.out.2.2.1, H4.out.2.2.2⟩
      case rest => as_aux_lemma =>
      obtain ⟨rfl, m4, d4, os4, HW4, HZ4, HP4, HS4⟩ := hcut
      obtain ⟨w4, hw4⟩ : ∃ w4, w4 = wc := ⟨_, rfl⟩
      subst hw4
      go_upto_region 43 with fail
      go_cut [213] (fun sB wx => ∃ B : Bool, sB = .bool B ∧ Hid (B = decide (c < e ∧ e < b)) ∧ wx = w4)
      case first => as_aux_lemma =>
        by_cases hr1 : c < e
        · have hr1z : (c : Int) < (e : Int) := by omega
          by_cases hr2 : e < b
          · have hr2z : (e : Int) < (b : Int) := by omega
            go_wp2_with fail
            go_meet
            exact ⟨true, rfl, (decide_eq_true ⟨hr1, hr2⟩).symm, rfl⟩
          · have hr2z : ¬ (e : Int) < (b : Int) := by omega
            go_wp2_with fail
            go_meet
            exact ⟨false, rfl, (decide_eq_false (fun h => by omega)).symm, rfl⟩
        · have hr1z : ¬ (c : Int) < (e : Int) := by omega
          go_wp2_with fail
          go_meet
          exact ⟨false, rfl, (decide_eq_false (fun h => by omega)).symm, rfl⟩
      case rest =>
      obtain ⟨B, rfl, HBB, hwx⟩ := hcut
      subst hwx
      go_upto_if 213 with fail
      cases B
      · have HNB := hid (show ¬ (c < e ∧ e < b) from of_decide_eq_false HBB.out.symm)
        clear HBB
        have HS5 := hid (show SortedIn (ltOf cf) c b d4 by
          have h6 := HE.out
          have h7 := HNB.out
          by_cases hr1 : c < e
          · have hem : b = e := by omega
            rw [hem]; exact St.sortedIn_far HH.out.r1 HP4.out (.inr (Nat.le_refl _))
          · have hem : e = c := by omega
            have h := St.sortedIn_far HH.out.r2 HP4.out (.inr (by omega))
            rw [hem] at h; exact h)
        have FIN := hid (St.halves_done SW.out (by have := HE.out; omega) (by have := HE.out; omega) (by rw [HZ3.out]; exact hb) HH.out.cross HP4.out HS4.out (permIn_refl _ _ _) HS5.out)
        go_wp2
        go_end0
        exact ⟨rfl, m4, d4, ⟨os4, HW4.out⟩, HZ4.out, permIn_trans _ _ _ _ _ HP3.out FIN.out.1, FIN.out.2⟩
      · have hr := of_decide_eq_true HBB.out.symm
        obtain ⟨hr1, hr2⟩ := hr
        clear HBB
        have RT1 := hid (HIH.out c e b m4 d4 os4 (by have := HE.out; omega) HZ4.out hr1 hr2 hb (St.sortedIn_far HH.out.r1 HP4.out (.inr (Nat.le_refl _))) (St.sortedIn_far HH.out.r2 HP4.out (.inr (by omega))))
        rw [← HW4.out] at RT1
        go_wp2_with fail
        go_at_fn 188
        refine RT1.out.mono ?_
        rintro e3 w5 ⟨rfl, m5, d5, ⟨os5, hw5⟩, hz5, hp5, hs5⟩
        have H5 := hid (And.intro hw5 (And.intro hz5 (And.intro hp5 hs5)))
        clear hw5 hz5 hp5 hs5
        have FIN := hid (St.halves_done SW.out (by have := HE.out; omega) (by have := HE.out; omega) (by rw [HZ3.out]; exact hb) HH.out.cross HP4.out HS4.out H5.out.2.2.1 H5.out.2.2.2)
        go_wp2
        go_end0
        exact ⟨rfl, m5, d5, ⟨os5, H5.out.1⟩, H5.out.2.1, permIn_trans _ _ _ _ _ HP3.out FIN.out.1, FIN.out.2⟩
/-- A merge in place. -/
theorem symm_any (L : StLays P k) (hk : ∀ x, (enc x).length = k) (h1 : ∀ x, ∀ v ∈ enc x, v.oneCell' = true) (hS : SWO (ltOf cf)) (d : Array α) (g : Nat) (cb : Array Value) (eg : ∀ args w, (callFunc g args).run P w = .ok (.enter g args) w) (hcmp : CmpLays P g cb enc k cf blk off d.size w) (hH : HoldsK enc k w blk off d) (hblk : blk < w.heap.size) (hsz : d.size < 4611686018427387904) : ∀ (N a mid b m cap : Nat) (dk : Array α) (os : Array Obj), b - a ≤ N → dk.size = d.size → a < mid → mid < b → b ≤ d.size → SortedIn (ltOf cf) a mid dk → SortedIn (ltOf cf) mid b dk →
    Calls P 188 #[.slice (some ⟨blk, off, none⟩) d.size cap, .int .i64 a, .int .i64 mid, .int .i64 b, .func (.func g) #[] cb] (sortWorldK enc k w blk off m dk os) fun e w' =>
      e = .returned (.tuple #[]) ∧ ∃ m' d', (∃ os', w' = sortWorldK enc k w blk off m' d' os') ∧ d'.size = d.size ∧ PermIn a b dk d' ∧ SortedIn (ltOf cf) a b d'
  | 0, a, mid, b, m, cap, dk, os, hN, _, h3, h4, _, _, _ => by omega
  | N + 1, a, mid, b, m, cap, dk, os, hN, hs, ham, hmb, hb, hs1, hs2 => by
    by_cases c1 : mid = a + 1
    · subst c1
      exact symm_l L hk h1 hS d g cb eg hcmp hH hblk hsz a b m cap dk os hs hmb hb trivial hs2
    · by_cases c2 : b = mid + 1
      · subst c2
        exact symm_r L hk h1 hS d g cb eg hcmp hH hblk hsz a mid m cap dk os hs (by omega) hb hs1 trivial
      · exact symm_m L hk h1 hS d g cb eg hcmp hH hblk hsz a mid b m cap dk os hs (by omega) (by omega) hb hs1 hs2
          fun x y z m dk os hlt hs h3 h4 h5 h6 h7 => symm_any L hk h1 hS d g cb eg hcmp hH hblk hsz N x y z m cap dk os (by omega) hs h3 h4 h5 h6 h7
end
end Go.Proofs.YtjaebndajhppgaaGreatDoor
