/- auto's along, Takes; the laws' word. -/
import Derived.Test.YtobcbaeoedpefaaDoorAuTakes
namespace Go.Proofs.YtobcbaeoedpefaaDoor
set_option linter.unusedVariables false
set_option linter.unusedSimpArgs false
set_option maxRecDepth 100000
open Go.ChangeShapes Go.WideShapes Go.ChangeAt Go.RowKit
open Au
/-- The automaton of r lies at p. -/
def IsAuto (B : Nat) (w : World) (p : Nat) (r : Rx) : Prop := ∃ lb cl nb cn lxs nx last, AuAt B (fun _ => False) w p lb cl nb cn lxs (⟨false, false, []⟩ :: r.labs) nx last ∧ nx.length = 1 + r.n ∧ (∀ i j, (nx.getD i 0).testBit j = r.nxt i j) ∧ (∀ i, nx.getD i 0 < 2 ^ 32) ∧ Set last r.endd ∧ 1 + r.n ≤ 32 ∧ (∀ l ∈ r.labs, l.texts.length ≤ 300)
theorem IsAuto.keep {B : Nat} {w w' : World} {p : Nat} {r : Rx} (h : IsAuto B w p r) (hb : Below w.heap.size w w') : IsAuto B w' p r := by
  obtain ⟨lb, cl, nb, cn, lxs, nx, last, h1, h2⟩ := h
  exact ⟨lb, cl, nb, cn, lxs, nx, last, h1.keep hb, h2⟩
theorem Set.andNot {F i : Nat} {f : Nat → Bool} (h : Set F f) (hi : i < 32) : Set (F &&& (4294967295 - 2 ^ i)) (fun j => f j && !decide (j = i)) := by
  have h1 : (2 : Nat) ^ i < 2 ^ 32 := Nat.pow_lt_pow_right (by omega) hi
  refine ⟨Nat.lt_of_le_of_lt Nat.and_le_left h.1, fun j => ?_⟩
  rw [Nat.testBit_and, h.2, show (4294967295 : Nat) - 2 ^ i = 2 ^ 32 - (2 ^ i + 1) by have : (2 : Nat) ^ 32 = 4294967296 := rfl; omega, Nat.testBit_two_pow_sub_succ h1, Nat.testBit_two_pow]
  show (f j && (decide (j < 32) && !decide (i = j))) = (f j && !decide (j = i))
  cases hfj : f j
  · rfl
  · have hj : j < 32 := by
      rcases Nat.lt_or_ge j 32 with h2 | h2
      · exact h2
      · have := Nat.testBit_lt_two_pow (x := F) (i := j) (Nat.lt_of_lt_of_le h.1 (Nat.pow_le_pow_right (by omega) h2))
        rw [h.2, hfj] at this; cases this
    rw [decide_eq_true hj, Bool.true_and, Bool.true_and, Bool.true_and]
    by_cases hji : j = i
    · rw [decide_eq_true hji, decide_eq_true hji.symm]
    · rw [decide_eq_false hji, decide_eq_false (Ne.symm hji)]
theorem andNot_u32 (a b : Nat) (ha : a < 2 ^ 32) (hb : b < 2 ^ 32) : bits .andNot .u32 (a : Int) (b : Int) = ((a &&& (4294967295 - b) : Nat) : Int) := u32_andNot_nat a b ha hb
/-- What loop 1 has gathered. -/
def accB (r : Rx) (f : Nat → Bool) (i j : Nat) : Bool := (List.range i).any fun a => f a && r.nxt a j
theorem accB_succ (r : Rx) (f : Nat → Bool) (i j : Nat) : accB r f (i + 1) j = (accB r f i j || (f i && r.nxt i j)) := by
  unfold accB; rw [List.range_succ, List.any_append]; simp
/-- What loop 2 has left. -/
def leftB (r : Rx) (s : S) (g : Nat → Bool) (i j : Nat) : Bool := g j && (decide (i ≤ j) || ((⟨false, false, []⟩ :: r.labs : List Lb).getD j default).takes s)
theorem leftB_zero (r : Rx) (s : S) (g : Nat → Bool) (j : Nat) : leftB r s g 0 j = g j := by simp [leftB]
theorem leftB_yes (r : Rx) (s : S) (g : Nat → Bool) (i : Nat) (h : ((⟨false, false, []⟩ :: r.labs : List Lb).getD i default).takes s = true) (j : Nat) : leftB r s g (i + 1) j = leftB r s g i j := by
  unfold leftB
  by_cases hj : j = i
  · subst hj; rw [h]; simp
  · have : (i + 1 ≤ j) ↔ (i ≤ j) := by omega
    simp only [this]
theorem leftB_no (r : Rx) (s : S) (g : Nat → Bool) (i : Nat) (h : ((⟨false, false, []⟩ :: r.labs : List Lb).getD i default).takes s = false) (j : Nat) : leftB r s g (i + 1) j = (leftB r s g i j && !decide (j = i)) := by
  unfold leftB
  by_cases hj : j = i
  · subst hj; rw [h]; simp
  · have : (i + 1 ≤ j) ↔ (i ≤ j) := by omega
    simp [this, hj]
theorem left_along (r : Rx) (s : S) (f : Nat → Bool) (j : Nat) : leftB r s (accB r f (1 + r.n)) (1 + r.n) j = r.along f s j := by
  unfold leftB Rx.along
  cases hc : accB r f (1 + r.n) j
  · have : ((List.range (1 + r.n)).any fun i => f i && r.nxt i j) = false := hc
    rw [this]; simp
  · have h1 : ((List.range (1 + r.n)).any fun i => f i && r.nxt i j) = true := hc
    rw [h1]
    obtain ⟨a, _, ha⟩ := List.any_eq_true.1 h1
    simp only [Bool.and_eq_true] at ha
    have h2 := Rx.nxt_range r a j ha.2
    rw [decide_eq_false (by omega), Bool.false_or]
    obtain ⟨k, rfl⟩ : ∃ k, j = k + 1 := ⟨j - 1, by omega⟩
    simp only [Rx.lab, Nat.add_sub_cancel, List.getD_cons_succ]

set_option maxHeartbeats 4000000 in
theorem along_au {B : Nat} {w : World} {p : Nat} {r : Rx} (x : Nat) (f : Nat → Bool) (s : Stp) (a' : Option Addr) (c' : Nat) (h : IsAuto B w p r) (hx : Set x f) (hs : s.texts.length = 1) (hT : TextsAt w (.slice a' 1 c') s.texts) :
    Calls Tryd.prog 36 #[.pointer (some ⟨p, 0, none⟩), u32v x, .agg #[.int .i64 s.from_, .int .i64 s.to, .bool s.back, .bool s.not, .slice a' 1 c']] w fun e w' => (∃ y, e = .returned (u32v y) ∧ Set y (r.along f (s.back, s.texts.getD 0 []))) ∧ Below w.heap.size w w' := by
  obtain ⟨w1, hw1⟩ : ∃ w1, w1 = w.alloc (.cells #[.int .i64 s.from_, .int .i64 s.to, .bool s.back, .bool s.not, .slice a' 1 c'] 48) := ⟨_, rfl⟩
  have hb1 : Below w.heap.size w w1 := by rw [hw1]; exact (Below.refl _ _).alloc (Nat.le_refl _) _
  have hX : Blk w1 w.heap.size [.int .i64 s.from_, .int .i64 s.to, .bool s.back, .bool s.not, .slice a' 1 c'] 48 := by rw [hw1]; exact Blk.new w _ _
  obtain ⟨lb, cl, nb, cn, lxs, nx, last, h1, hnl, hnx, hlt, hla, h32, htx⟩ := h.keep hb1
  obtain ⟨LS, hLS⟩ : ∃ LS : List Lb, LS = ⟨false, false, []⟩ :: r.labs := ⟨_, rfl⟩
  rw [← hLS] at h1
  have hLl : LS.length = 1 + r.n := by rw [hLS]; simp [Rx.n]; omega
  have hLt : ∀ i (hi : i < LS.length), (LS[i]).texts.length ≤ 140737488351232 := fun i hi => by
    subst hLS
    cases i with
    | zero => simp
    | succ i => simp only [List.getElem_cons_succ]; exact Nat.le_trans (htx _ (List.getElem_mem _)) (by decide)
  have p0 := h1.blk.cell (i := 0) rfl
  have p1 := h1.blk.cell (i := 1) rfl
  rw [hLl] at p0
  rw [hnl] at p1
  have HNC := hid fun i (hi : i < 1 + r.n) => (h1.nextCell (i := i) (by omega)).1
  have HLC := hid fun i (hi : i < 1 + r.n) => (show ∃ a n c, w1.cell? ⟨lb, i * 3, none⟩ = some (.bool (LS.getD i default).back) ∧ w1.cell? ⟨lb, i * 3 + 1, none⟩ = some (.bool (LS.getD i default).not) ∧ w1.cell? ⟨lb, i * 3 + 2, none⟩ = some (.slice a n c) ∧ TextsAt w1 (.slice a n c) (LS.getD i default).texts ∧ (LS.getD i default).texts.length ≤ 140737488351232 by
    obtain ⟨a, n, c, e1, e2, e3, e4⟩ := h1.labs i (by omega)
    have hg : LS.getD i default = LS[i]'(by omega) := by simp [List.getD, show i < LS.length by omega]
    rw [hg]
    exact ⟨a, n, c, (own_cell h1.lown e1).1, (own_cell h1.lown e2).1, (own_cell h1.lown e3).1, e4.here, hLt i (by omega)⟩)
  have HNX := hid hnx
  have HLT := hid hlt
  have HXX := hid hx
  have HHAS := hid fun i (hi : i < 64) w => has_any x i hx.1 hi w
  have HT1 := hid (hT.keep hb1)
  have HB1 := hid hb1
  have HX1 := hid hX
  have HS := hid hs
  have HLS := hid hLS
  have hq1 := (own_blk h1.nown).2.2.1
  have hq2 := (own_blk h1.nown).2.2.2.1
  have hq3 := (own_blk h1.lown).2.2.1
  have hq4 := (own_blk h1.lown).2.2.2.1
  rw [hnl] at hq1
  rw [hLl] at hq3
  obtain ⟨N, hN⟩ : ∃ N, N = 1 + r.n := ⟨_, rfl⟩
  have HN := hid hN
  rw [← hN] at p0 p1 HNC HLC hq1 hq3 h32
  unfold u32v at HHAS HNC ⊢
  clear hb1 hX h1 hnl hnx hlt hla htx hLS hLl hLt h hx hT hs hN
  go_enter Tryd.func36, Tryd.ntmps36
  go_upto_region 1 with fail
  rw [← hw1]
  clear hw1
  go_wp2
  go_loopw [7, 16] (fun s7 s16 wr => ∃ i acc : Nat, i ≤ N ∧ s7 = .int .u32 (acc : Nat) ∧ s16 = .int .i64 i ∧ wr = w1 ∧ Hid (Set acc (accB r f i))) (fun _ s16 _ => N - (intOf s16).toNat)
  case atStart => exact ⟨0, 0, by omega, rfl, rfl, rfl, ⟨by decide, fun j => by simp [accB]⟩⟩
  case round =>
    obtain ⟨i, acc, hi, rfl, rfl, hww, HA⟩ := hrel
    subst hww
    by_cases hlt : i < N
    · have e0 := HNC.out i hlt
      have hxi := HLT.out i
      have HNi := hid (HNX.out i)
      have HHi := hid (HHAS.out i (by omega))
      obtain ⟨z, hz⟩ : ∃ z, z = nx.getD i 0 := ⟨_, rfl⟩
      rw [← hz] at e0 hxi HNi
      have hor := or_u32 acc z HA.out.1 hxi
      have HSZ := hid (show Set z (r.nxt i) from ⟨hxi, HNi.out⟩)
      clear hz
      have HSX := hid (HXX.out.2 i)
      cases hb : x.testBit i
      · rw [hb] at HHi HSX
        clear hb
        go_wp2_with (go_at_call 34; refine (HHi.out _).mono ?_; rintro e w' ⟨rfl, hw⟩; subst hw)
        go_roundw
        case rel => exact ⟨i + 1, acc, by omega, rfl, by go_num, trivial, HA.out.congr fun j => by rw [accB_succ, ← HSX.out]; simp⟩
        case measure => simp [intOf]; omega
      · rw [hb] at HHi HSX
        clear hb
        go_wp2_with (go_at_call 34; refine (HHi.out _).mono ?_; rintro e w' ⟨rfl, hw⟩; subst hw)
        go_roundw
        case rel => exact ⟨i + 1, acc ||| z, by omega, rfl, by go_num, trivial, (HA.out.or HSZ.out).congr fun j => by rw [accB_succ, ← HSX.out]; simp⟩
        case measure => simp [intOf]; omega
    · obtain rfl : i = N := by omega
      obtain ⟨wo, rfl⟩ : ∃ wo : World, wo = wr := ⟨_, rfl⟩
      go_wp2
      go_loopw [7, 37] (fun s7 s37 wr => ∃ k acc : Nat, k ≤ i ∧ s7 = .int .u32 (acc : Nat) ∧ s37 = .int .i64 k ∧ Hid (Below wo.heap.size wo wr) ∧ Hid (Set acc (leftB r (s.back, s.texts.getD 0 []) (accB r f i) k))) (fun _ s37 _ => i - (intOf s37).toNat)
      case atStart => exact ⟨0, acc, by omega, rfl, rfl, Below.refl _ _, HA.out.congr fun j => by rw [leftB_zero]⟩
      case round =>
        obtain ⟨k, acc, hk, rfl, rfl, HBr, HL⟩ := hrel
        have q0 := below_keep HBr.out p0
        have q1 := below_keep HBr.out p1
        by_cases hkl : k < i
        · obtain ⟨a, n, c, e0, e1, e2, hta, htl⟩ := HLC.out k hkl
          obtain ⟨l, hl⟩ : ∃ l, l = LS.getD k default := ⟨_, rfl⟩
          rw [← hl] at e0 e1 hta htl
          have HLK := hid (show l = (⟨false, false, []⟩ :: r.labs : List Lb).getD k default by rw [hl, HLS.out])
          have d0 := below_keep HBr.out e0
          have d1 := below_keep HBr.out e1
          have d2 := below_keep HBr.out e2
          obtain ⟨wk, hwk⟩ : ∃ wk, wk = wr.alloc (.cells #[.bool l.back, .bool l.not, .slice a n c] 76) := ⟨_, rfl⟩
          have hbk : Below wo.heap.size wo wk := by rw [hwk]; exact HBr.out.alloc HBr.out.size _
          have hXk : Blk wk wr.heap.size [.bool l.back, .bool l.not, .slice a n c] 76 := by rw [hwk]; exact Blk.new wr _ _
          have hSk := HX1.out.keep hbk
          have TK := ltakes_any l s a a' n c 1 c' wk (hta.keep hbk) (HT1.out.keep hbk) htl
          rw [ltakes_one HS.out] at TK
          have m0 := hXk.cell (i := 0) rfl
          have m1 := hXk.cell (i := 1) rfl
          have m2 := hXk.cell (i := 2) rfl
          have s0 := hSk.cell (i := 0) rfl
          have s1 := hSk.cell (i := 1) rfl
          have s2 := hSk.cell (i := 2) rfl
          have s3 := hSk.cell (i := 3) rfl
          have s4 := hSk.cell (i := 4) rfl
          have HBk := hid hbk
          have ON := hid fun w => only_any k (by omega) w
          have h2k : 2 ^ k < 2 ^ 32 := Nat.pow_lt_pow_right (by omega) (by omega)
          have han := andNot_u32 acc (2 ^ k) HL.out.1 h2k
          obtain ⟨pk, hpk⟩ : ∃ pk, pk = 2 ^ k := ⟨_, rfl⟩
          rw [← hpk] at han ON
          have HPK := hid hpk
          unfold u32v at ON
          clear hl e0 e1 e2 hta htl hbk hXk hSk h2k hpk
          go_upto_region 11 with fail
          rw [← hwk]
          clear hwk
          cases hb : l.takes (s.back, s.texts.getD 0 [])
          · rw [hb] at TK
            have HH := hid hb
            have TK := hid TK
            clear hb
            go_wp2_with (first | (go_at_call 47; refine TK.out.mono ?_; rintro e w5 ⟨rfl, hb5⟩) | (go_at_call 30; refine (ON.out _).mono ?_; rintro e w' ⟨rfl, hw⟩; subst hw))
            go_roundw
            case rel => exact ⟨k + 1, acc &&& (4294967295 - pk), by omega, rfl, by go_num, HBk.out.trans (hb5.mono HBk.out.size), by
              have := HL.out.andNot (i := k) (by omega)
              rw [← HPK.out] at this
              exact this.congr fun j => by rw [leftB_no _ _ _ _ (by rw [← HLK.out]; exact HH.out)]⟩
            case measure => simp [intOf]; omega
          · rw [hb] at TK
            have HH := hid hb
            have TK := hid TK
            clear hb
            go_wp2_with (first | (go_at_call 47; refine TK.out.mono ?_; rintro e w5 ⟨rfl, hb5⟩) | (go_at_call 30; refine (ON.out _).mono ?_; rintro e w' ⟨rfl, hw⟩; subst hw))
            go_roundw
            case rel => exact ⟨k + 1, acc, by omega, rfl, by go_num, HBk.out.trans (hb5.mono HBk.out.size), HL.out.congr fun j => by rw [leftB_yes _ _ _ _ (by rw [← HLK.out]; exact HH.out)]⟩
            case measure => simp [intOf]; omega
        · obtain rfl : k = i := by omega
          have HF := hid (show Set acc (r.along f (s.back, s.texts.getD 0 [])) from HL.out.congr fun j => by have := HN.out; subst this; exact left_along r _ f j)
          go_wp2
          go_ret
          exact ⟨⟨acc, rfl, HF.out⟩, HB1.out.trans (HBr.out.mono HB1.out.size)⟩

/-- A word's steps. -/
def wordOf (w : List Stp) : List S := w.map fun s => (s.back, s.texts.getD 0 [])
/-- A word whose steps have one text each. -/
def ones (w : List Stp) : Prop := ∀ i (h : i < w.length), w[i].texts.length = 1
theorem sim_take (r : Rx) : ∀ (w : List Stp) (f : Nat → Bool), r.sim f (wordOf w) = r.ends (w.foldl (fun f s => r.along f (s.back, s.texts.getD 0 [])) f)
  | [], f => rfl
  | s :: w, f => by simp only [wordOf, List.map_cons, Rx.sim, List.foldl_cons]; exact sim_take r w _
/-- The places behind the first i steps. -/
def nowB (r : Rx) (w : List Stp) (i : Nat) : Nat → Bool := (w.take i).foldl (fun f s => r.along f (s.back, s.texts.getD 0 [])) (fun j => decide (j = 0))
theorem nowB_succ (r : Rx) (w : List Stp) (i : Nat) (h : i < w.length) : nowB r w (i + 1) = r.along (nowB r w i) (w[i].back, w[i].texts.getD 0 []) := by
  unfold nowB
  rw [List.take_add_one, List.getElem?_eq_getElem h, List.foldl_append]
  rfl
theorem along_lt (r : Rx) (f : Nat → Bool) (s : S) (j : Nat) (h : r.along f s j = true) : j < 1 + r.n := by
  unfold Rx.along at h
  simp only [Bool.and_eq_true, List.any_eq_true, List.mem_range] at h
  obtain ⟨⟨a, _, _, h2⟩, _⟩ := h
  exact (Rx.nxt_range r a j h2).2.2
theorem ends_and {r : Rx} {y last : Nat} {f : Nat → Bool} (hy : Set y f) (hl : Set last r.endd) : (y &&& last = 0) ↔ r.ends f = false := by
  unfold Rx.ends
  rw [List.any_eq_false]
  constructor
  · intro h i hi
    have h2 := congrArg (fun x => x.testBit i) h
    simp only [Nat.testBit_and, hy.2, hl.2, Nat.zero_testBit] at h2
    simpa using h2
  · intro h
    apply Nat.eq_of_testBit_eq
    intro i
    rw [Nat.testBit_and, hy.2, hl.2, Nat.zero_testBit]
    cases h1 : f i
    · rfl
    · cases h2 : r.endd i
      · rfl
      · have := h i (by rw [List.mem_range]; exact Rx.endd_range r i h2)
        rw [h1, h2] at this
        simp at this
set_option maxHeartbeats 4000000 in
theorem takes_au {B : Nat} {w : World} {p : Nat} {r : Rx} (v : Value) (L : List Stp) (h : IsAuto B w p r) (hL : StepsAt w v L) (ho : ones L) :
    Calls Tryd.prog 23 #[.pointer (some ⟨p, 0, none⟩), v] w fun e w' => e = .returned (.bool (r.has (wordOf L))) ∧ Below w.heap.size w w' := by
  have HI := hid h
  have HL0 := hid hL
  obtain ⟨a, cap, b, off, fv, rfl, q1, q2, q3, q4, hrow, htx⟩ := hL
  have PL := hid (show ∃ N, 1 ≤ N ∧ Calls Tryd.prog 17 #[.pointer (some ⟨p, 0, none⟩)] w fun e w' => e = .returned (.int .i64 (N : Nat)) ∧ w' = w by
    obtain ⟨lb, cl, nb, cn, lxs, nx, last, h1, _⟩ := h
    exact ⟨_, by simp, places_au h1⟩)
  have HROW := hid hrow
  have HTX := hid htx
  have HO := hid ho
  have ON := hid (only_any 0 (by decide) w)
  have HHAS := hid (show r.has (wordOf L) = r.ends (nowB r L L.length) by unfold Rx.has nowB; rw [List.take_length, sim_take])
  obtain ⟨N, hN1, PL⟩ := PL.out
  have PL := hid PL
  obtain ⟨m, hm⟩ : ∃ m, m = L.length := ⟨_, rfl⟩
  have HM := hid hm
  rw [HHAS.out]
  obtain ⟨ANS, hAN⟩ : ∃ z, z = r.ends (nowB r L L.length) := ⟨_, rfl⟩
  rw [← hAN]
  rw [← hm] at hAN
  have HAN := hid hAN
  rw [← hm] at q1 q4 ⊢
  unfold u32v at ON
  have hNz : ((N : Int) == 0) = false := beq_eq_false_iff_ne.2 (by omega)
  have hmm : m ≤ 9223372036854775807 := by unfold maxLen at q2; omega
  clear h hrow htx ho hm HHAS hAN
  go_enter Tryd.func23, Tryd.ntmps23
  go_wp2_with (first | (go_at_call 17; refine PL.out.mono ?_; rintro e wq ⟨rfl, hw⟩; rw [hw]; clear hw wq) | (go_at_call 30; refine ON.out.mono ?_; rintro e wq ⟨rfl, hw⟩; rw [hw]; clear hw wq))
  go_loopw [5, 14] (fun s5 s14 wr => ∃ i x : Nat, i ≤ m ∧ s5 = .int .u32 (x : Nat) ∧ s14 = .int .i64 i ∧ Hid (Below w.heap.size w wr) ∧ Hid (Set x (nowB r L i))) (fun _ s14 _ => m - (intOf s14).toNat)
  case atStart => exact ⟨0, 2 ^ 0, by omega, rfl, rfl, Below.refl _ _, (Set.one (m := 0) (by decide)).congr fun j => by simp [nowB]⟩
  case round =>
    obtain ⟨i, x, hi, rfl, rfl, HBr, HX⟩ := hrel
    by_cases hlt : i < m
    · have hiL : i < L.length := by rw [← HM.out]; exact hlt
      obtain rfl := q4 (by omega)
      have hr5 := (HROW.out i hiL).keep HBr.out
      have htt := (HTX.out i hiL).keep HBr.out
      have h1 := HO.out i hiL
      have hs := nowB_succ r L i hiL
      obtain ⟨s, hsd⟩ : ∃ s, s = L[i] := ⟨_, rfl⟩
      rw [← hsd] at hr5 htt h1 hs
      obtain ⟨ta, tc, htf, _, _, _, _⟩ := htt.open
      rw [h1] at htf
      rw [htf] at hr5 htt
      obtain ⟨d0, d1, d2, d3, d4⟩ := hr5
      obtain ⟨wk, hwk⟩ : ∃ wk, wk = wr.alloc (.cells #[.int .i64 s.from_, .int .i64 s.to, .bool s.back, .bool s.not, .slice ta 1 tc] 48) := ⟨_, rfl⟩
      have hbk : Below wr.heap.size wr wk := by rw [hwk]; exact (Below.refl _ _).alloc (Nat.le_refl _) _
      have hXk : Blk wk wr.heap.size [.int .i64 s.from_, .int .i64 s.to, .bool s.back, .bool s.not, .slice ta 1 tc] 48 := by rw [hwk]; exact Blk.new wr _ _
      have C := along_au x (nowB r L i) s ta tc ((HI.out.keep HBr.out).keep hbk) HX.out h1 (htt.keep hbk)
      rw [← hs] at C
      unfold u32v at C
      have C := hid C
      have HBk := hid (below_then HBr.out hbk)
      have m0 := hXk.cell (i := 0) rfl
      have m1 := hXk.cell (i := 1) rfl
      have m2 := hXk.cell (i := 2) rfl
      have m3 := hXk.cell (i := 3) rfl
      have m4 := hXk.cell (i := 4) rfl
      clear hsd htf htt h1 hs hbk hXk hiL
      go_upto_region 7 with fail
      rw [← hwk]
      clear hwk
      go_wp2_with (go_at_call 36; refine C.out.mono ?_; rintro e w5 ⟨⟨y, rfl, hy⟩, hb5⟩)
      go_roundw
      case rel => exact ⟨i + 1, y, by omega, rfl, by go_num, below_then HBk.out hb5, hy⟩
      case measure => simp [intOf]; omega
    · obtain rfl : i = m := by omega
      obtain ⟨lb, cl, nb, cn, lxs, nx, last, h1, _, _, _, hla, _⟩ := HI.out.keep HBr.out
      have c2 := h1.blk.cell (i := 2) rfl
      have han := and_u32 x last HX.out.1 hla.1
      have he := ends_and HX.out hla
      unfold u32v at c2
      obtain ⟨z, hz⟩ : ∃ z, z = x &&& last := ⟨_, rfl⟩
      rw [← hz] at han he
      rw [← HAN.out] at he
      have HE := hid he
      clear h1 hla hz HX he
      by_cases hz0 : z = 0
      · have HF := hid (HE.out.1 hz0)
        subst hz0
        go_wp2
        go_ret
        exact ⟨(by rw [HF.out]; rfl), HBr.out⟩
      · have HF := hid (show ANS = true by
          cases h : ANS
          · exact absurd (HE.out.2 h) hz0
          · rfl)
        have hzn : ((z : Int) != 0) = true := bne_iff_ne.2 (by omega)
        have hzn2 : ((z : Int) == 0) = false := beq_eq_false_iff_ne.2 (by omega)
        go_wp2
        go_ret
        exact ⟨(by rw [HF.out]; rfl), HBr.out⟩
theorem takes_nil (v : Value) (w : World) : Calls Tryd.prog 23 #[.pointer none, v] w fun e w' => e = .returned (.bool false) ∧ w' = w := by
  have PL := hid (places_nil w)
  go_enter Tryd.func23, Tryd.ntmps23
  go_wp2_with (go_at_call 17; refine PL.out.mono ?_; rintro e w' ⟨rfl, hw⟩; subst hw)
  go_ret
  exact ⟨rfl, rfl⟩
end Go.Proofs.YtobcbaeoedpefaaDoor
