/- query's kids, textsMayBe, isPath, IsPath. -/
import Derived.Test.YtagmgkplfhlifaaDoorPtAt
import Derived.Test.YtagmgkplfhlifaaDoorTmIri
import Derived.Deep.DeepCutAuto
import Derived.Test.YtagmgkplfhlifaaDoorFrm
namespace Go.Proofs.YtagmgkplfhlifaaDoor
set_option linter.unusedVariables false
set_option linter.unusedSimpArgs false
set_option maxRecDepth 100000
open Go.ChangeShapes Go.WideShapes Go.ChangeAt Go.RowKit
open Au
theorem qkids_any (k : Int) (w : World) : Calls Tryd.prog 50 #[.int .i64 k] w fun e w' => e = .returned (.int .i64 (Pt.kidsOf k)) ∧ w' = w := by
  rcases (show k = 1 ∨ k = 2 ∨ k = 3 ∨ k = 4 ∨ k = 5 ∨ k = 6 ∨ k = 7 ∨ k = 8 ∨ (k ≠ 1 ∧ k ≠ 2 ∧ k ≠ 3 ∧ k ≠ 4 ∧ k ≠ 5 ∧ k ≠ 6 ∧ k ≠ 7 ∧ k ≠ 8) by omega) with h | h | h | h | h | h | h | h | h
  all_goals (try subst h)
  all_goals (try (
    go_enter Tryd.func50, Tryd.ntmps50
    go_wp2
    go_ret
    exact ⟨rfl, rfl⟩))
  obtain ⟨h1, h2, h3, h4, h5, h6, h7, h8⟩ := h
  have e : Pt.kidsOf k = -1 := by unfold Pt.kidsOf; rw [if_neg (by omega), if_neg (by omega), if_neg (by omega)]
  have b1 : (k == 1) = false := beq_eq_false_iff_ne.2 h1
  have b2 : (k == 2) = false := beq_eq_false_iff_ne.2 h2
  have b3 : (k == 3) = false := beq_eq_false_iff_ne.2 h3
  have b4 : (k == 4) = false := beq_eq_false_iff_ne.2 h4
  have b5 : (k == 5) = false := beq_eq_false_iff_ne.2 h5
  have b6 : (k == 6) = false := beq_eq_false_iff_ne.2 h6
  have b7 : (k == 7) = false := beq_eq_false_iff_ne.2 h7
  have b8 : (k == 8) = false := beq_eq_false_iff_ne.2 h8
  rw [e]
  clear h1 h2 h3 h4 h5 h6 h7 h8 e
  go_enter Tryd.func50, Tryd.ntmps50
  go_wp2
  go_ret
  exact ⟨rfl, rfl⟩
/-- A box for a path that has just been made. -/
theorem pt_box (w : World) (x : Pt) (v u : Value) (h : PtAt w v u x) : ∃ w1, w1 = w.alloc (.cells #[.int .i64 x.kind, str x.text, v, u] 25) ∧ w1.heap.size = w.heap.size + 1 ∧ Hid (Blk w1 w.heap.size [.int .i64 x.kind, str x.text, v, u] 25) ∧ Hid (PtAt w1 v u x) ∧ Hid (Below w.heap.size w w1) := by
  have hb : Below w.heap.size w (w.alloc (.cells #[.int .i64 x.kind, str x.text, v, u] 25)) := (Below.refl _ _).alloc (Nat.le_refl _) _
  exact ⟨_, rfl, by simp, Blk.new w _ _, h.keep hb, hb⟩
theorem blk4 {w : World} {b : Nat} {x0 x1 x2 x3 : Value} {t : TypeId} (h : Blk w b [x0, x1, x2, x3] t) : w.cell? ⟨b, 0, none⟩ = some x0 ∧ w.cell? ⟨b, 1, none⟩ = some x1 ∧ w.cell? ⟨b, 2, none⟩ = some x2 ∧ w.cell? ⟨b, 3, none⟩ = some x3 :=
  ⟨h.cell rfl, h.cell rfl, h.cell rfl, h.cell rfl⟩
set_option maxHeartbeats 2000000 in
theorem qtexts_any (x : Pt) (v u : Value) (w : World) (hT : T8 w) (h : PtAt w v u x) :
    Calls Tryd.prog 51 #[pv x v u] w fun e w' => e = .returned (.bool (Pt.txt x.kind x.text x.texts)) ∧ Below w.heap.size w w' := by
  have IR := hid (fun t w (h : t.length ≤ 9223372036854775807) h2 => tiri_any t w h h2)
  obtain ⟨ANS, hA⟩ : ∃ b, b = Pt.txt x.kind x.text x.texts := ⟨_, rfl⟩
  rw [← hA]
  obtain ⟨w1, hw1, hz, HX, HP, HB⟩ := pt_box w x v u h
  obtain ⟨k, t, L, K⟩ := x
  simp only [Pt.kind, Pt.text, Pt.texts] at hA
  unfold Pt.txt at hA
  have HA := hid hA
  clear hA
  unfold pv
  go_enter Tryd.func51, Tryd.ntmps51
  go_upto_region 1 with fail
  rw [← hw1]
  obtain ⟨hk, ht, hL, hl, _⟩ := HP.out.open
  obtain ⟨c0, c1, c2, c3⟩ := blk4 HX.out
  simp only [Pt.kind, Pt.text, Pt.texts] at c0 c1 c2 c3 hk ht hL hl
  obtain ⟨a, cap, rfl, q1, q2, q3, hr⟩ := hL.open
  have HT := hid (hT.keep HB.out)
  have HR := hid hr
  have HLL := hid hl
  clear hw1 hr hl hT h hL HX HP
  by_cases k1 : k = 1
  · subst k1
    cases L with
    | nil =>
      have C := hid (IR.out t w1 (by omega) HT.out)
      go_wp2_with (go_at_call 65; refine C.out.mono ?_; rintro e w' ⟨rfl, hb⟩)
      go_ret
      exact ⟨ret_bool (by rw [HA.out]; simp), below_then HB.out hb⟩
    | cons s L =>
      have e0 : ((List.length (s :: L) : Int) == 0) = false := beq_eq_false_iff_ne.2 (by simp; omega)
      have HA2 := hid (show ANS = false by rw [HA.out]; rfl)
      obtain ⟨n, hn⟩ : ∃ n, n = (s :: L).length := ⟨_, rfl⟩
      rw [← hn] at e0 q1 q3 c2 ⊢
      clear hn HR HLL HA
      go_wp2
      go_ret
      exact ⟨ret_bool HA2.out.symm, HB.out⟩
  · have b1 : (k == 1) = false := beq_eq_false_iff_ne.2 k1
    by_cases k8 : k = 8
    · subst k8
      have HA2 := hid (show ANS = (t.isEmpty && decide (1 ≤ L.length) && decide (L.length ≤ 4) && L.all Tm.isIRI) by rw [HA.out]; rfl)
      clear HA k1
      by_cases h0 : t = []
      · subst h0
        by_cases hlo : L.length < 1
        · have HF := hid (show ANS = false by rw [HA2.out, show decide (1 ≤ L.length) = false from decide_eq_false (by omega)]; simp)
          obtain ⟨n, hn⟩ : ∃ n, n = L.length := ⟨_, rfl⟩
          rw [← hn] at hlo q1 q3 c2 ⊢
          clear hn HA2 HR HLL
          go_wp2
          go_ret
          exact ⟨ret_bool HF.out.symm, HB.out⟩
        by_cases hhi : 4 < L.length
        · have HF := hid (show ANS = false by rw [HA2.out, show decide (L.length ≤ 4) = false from decide_eq_false (by omega)]; simp)
          obtain ⟨n, hn⟩ : ∃ n, n = L.length := ⟨_, rfl⟩
          rw [← hn] at hlo hhi q1 q3 c2 ⊢
          clear hn HA2 HR HLL
          go_wp2
          go_ret
          exact ⟨ret_bool HF.out.symm, HB.out⟩
        have HF := hid (show ANS = L.all Tm.isIRI by rw [HA2.out, show decide (L.length ≤ 4) = true from decide_eq_true (by omega), show decide (1 ≤ L.length) = true from decide_eq_true (by omega)]; rfl)
        clear HA2
        obtain ⟨n, hn⟩ : ∃ n, n = L.length := ⟨_, rfl⟩
        have HN := hid hn
        rw [← hn] at hlo hhi q1 q3 c2 HR ⊢
        clear hn
        go_wp2
        go_loopw [47] (fun s47 wr => ∃ i : Nat, i ≤ n ∧ s47 = .int .i64 i ∧ Hid (Below w1.heap.size w1 wr) ∧ Hid ((L.take i).all Tm.isIRI = true)) (fun s47 _ => n - (intOf s47).toNat)
        case atStart => exact ⟨0, by omega, rfl, Below.refl _ _, rfl⟩
        case round =>
          obtain ⟨i, hi, rfl, HBr, HAll⟩ := hrel
          by_cases hlt : i < n
          · obtain ⟨b, off, hab, hc⟩ := HR.out.get hlt
            have d0 := below_keep HBr.out (hc i hlt)
            have hsl := HLL.out i
            subst hab
            have HM := hid (show L.getD i [] ∈ L ∧ L.take (i + 1) = L.take i ++ [L.getD i []] from by
              have hil : i < L.length := by rw [← HN.out]; exact hlt
              have hgd : L.getD i [] = L[i] := by simp [List.getD, hil]
              rw [hgd]
              exact ⟨List.getElem_mem _, by rw [List.take_add_one, List.getElem?_eq_getElem hil]; rfl⟩)
            obtain ⟨s, hs⟩ : ∃ s, s = L.getD i [] := ⟨_, rfl⟩
            rw [← hs] at d0 hsl HM
            have C := hid (IR.out s wr (by omega) (HT.out.keep HBr.out))
            clear hc hs
            cases hb : Tm.isIRI s
            · rw [hb] at C
              have HFF := hid (show ANS = false by rw [HF.out, List.all_eq_false]; exact ⟨s, HM.out.1, by rw [hb]; simp⟩)
              clear hb
              go_wp2_with (go_at_call 65; refine C.out.mono ?_; rintro e w' ⟨rfl, hb⟩)
              go_ret
              exact ⟨ret_bool HFF.out.symm, below_then HB.out (below_then HBr.out hb)⟩
            · rw [hb] at C
              have HFF := hid (show (L.take (i + 1)).all Tm.isIRI = true by rw [HM.out.2, List.all_append, HAll.out]; simp [hb])
              clear hb
              go_wp2_with (go_at_call 65; refine C.out.mono ?_; rintro e w' ⟨rfl, hb⟩)
              go_roundw
              case rel => exact ⟨i + 1, by omega, by go_num, below_then HBr.out hb, HFF.out⟩
              case measure => simp [intOf]; omega
          · obtain rfl : i = n := by omega
            have HFF := hid (show ANS = true by rw [HF.out]; have h := HAll.out; rwa [HN.out, List.take_length] at h)
            go_wp2
            go_ret
            exact ⟨ret_bool HFF.out.symm, below_then HB.out HBr.out⟩
      · have HF := hid (show ANS = false by rw [HA2.out, show t.isEmpty = false by simpa using h0]; rfl)
        clear HA2
        go_wp2
        go_ret
        exact ⟨ret_bool HF.out.symm, HB.out⟩
    · have HA2 := hid (show ANS = (t.isEmpty && L.isEmpty) by rw [HA.out, if_neg k1, if_neg k8])
      have b8 : (k == 8) = false := beq_eq_false_iff_ne.2 k8
      clear k1 k8 HA
      cases L with
      | nil =>
        by_cases h0 : t = []
        · subst h0
          go_wp2
          go_ret
          exact ⟨ret_bool (by rw [HA2.out]; simp), HB.out⟩
        · have h1 : t.isEmpty = false := by simpa using h0
          have HF := hid (show ANS = false by rw [HA2.out, h1]; rfl)
          clear HA2 h1
          go_wp2
          go_ret
          exact ⟨ret_bool (by rw [HF.out]), HB.out⟩
      | cons s L =>
        have e0 : ((List.length (s :: L) : Int) == 0) = false := beq_eq_false_iff_ne.2 (by simp; omega)
        have HF := hid (show ANS = false by rw [HA2.out]; simp)
        obtain ⟨n, hn⟩ : ∃ n, n = (s :: L).length := ⟨_, rfl⟩
        rw [← hn] at e0 q1 q3 c2 ⊢
        clear hn HR HLL HA2
        by_cases h0 : t = []
        · subst h0
          go_wp2
          go_ret
          exact ⟨ret_bool (by rw [HF.out]), HB.out⟩
        · go_wp2
          go_ret
          exact ⟨ret_bool (by rw [HF.out]), HB.out⟩
/-- The walk of what may be so deep, n at most. -/
def mayN (x : Pt) (d : Nat) (n : Int) : Bool := x.wf d && decide ((x.size : Int) ≤ n)
def IspPost (x : Pt) (d : Nat) (n : Int) (q : Nat) (w : World) (e : Ending) (w' : World) : Prop := e = .returned (.bool (mayN x d n)) ∧ Frm (fun b => b = q) w w' ∧ (mayN x d n = true → Blk w' q [.int .i64 (n - x.size)] 3)
theorem size_mk (k : Int) (t : T) (L : List T) (K : List Pt) : (Pt.mk k t L K).size = 1 + Pt.sizes K := by rw [Pt.size]
theorem wf_mk (d : Nat) (k : Int) (t : T) (L : List T) (K : List Pt) : (Pt.mk k t L K).wf d = (decide (d ≤ 5) && decide ((K.length : Int) = Pt.kidsOf k) && Pt.txt k t L && Pt.wfs (d + 1) K) := by rw [Pt.wf]
theorem sizes_getD (K : List Pt) (i : Nat) (h : i < K.length) : Pt.sizes (K.take (i + 1)) = Pt.sizes (K.take i) + (K.getD i default).size := by
  rw [Pt.sizes_take K i h]; simp [List.getD, h]
theorem mayN_no (k : Int) (t : T) (L : List T) (K : List Pt) (d : Nat) (n : Int) (i : Nat) (h : i < K.length) (hno : mayN (K.getD i default) (d + 1) (n - 1 - Pt.sizes (K.take i)) = false) : mayN (.mk k t L K) d n = false := by
  rw [Bool.eq_false_iff]
  intro hy
  unfold mayN at hy hno
  rw [wf_mk, size_mk] at hy
  simp only [Bool.and_eq_true, decide_eq_true_eq] at hy
  obtain ⟨⟨_, hw⟩, hs⟩ := hy
  have h1 := (Pt.wfs_all _ _).1 hw (K.getD i default) (by simp [List.getD, h])
  rw [h1, Bool.true_and, decide_eq_false_iff_not] at hno
  have h2 := sizes_getD K i h
  have h3 : Pt.sizes (K.take (i + 1)) ≤ Pt.sizes K := by
    have : ∀ (K : List Pt) (j : Nat), Pt.sizes (K.take j) ≤ Pt.sizes K := fun K => by
      induction K with
      | nil => intro j; simp
      | cons a K ih => intro j; cases j with
        | zero => simp [Pt.sizes]
        | succ j => have := ih j; simp only [List.take_succ_cons, Pt.sizes]; omega
    exact this K _
  omega
theorem mayN_all (k : Int) (t : T) (L : List T) (K : List Pt) (d : Nat) (n : Int) (h1 : d ≤ 5) (h2 : (K.length : Int) = Pt.kidsOf k) (h3 : Pt.txt k t L = true) (h4 : ∀ j, j < K.length → (K.getD j default).wf (d + 1) = true) (h5 : 0 ≤ n - 1 - Pt.sizes K) : mayN (.mk k t L K) d n = true := by
  unfold mayN
  rw [wf_mk, size_mk]
  simp only [Bool.and_eq_true, decide_eq_true_eq]
  refine ⟨⟨⟨⟨h1, h2⟩, h3⟩, (Pt.wfs_all _ _).2 fun x hx => ?_⟩, by omega⟩
  obtain ⟨j, hj, rfl⟩ := List.getElem_of_mem hx
  have := h4 j hj
  simpa [List.getD, hj] using this
set_option maxHeartbeats 4000000 in
theorem isp_any : ∀ (x : Pt) (W0 w : World) (v u : Value) (d q : Nat) (n : Int), PtAt W0 v u x → T8 W0 → Below W0.heap.size W0 w → W0.heap.size ≤ q → Blk w q [.int .i64 n] 3 → d ≤ 6 → 0 ≤ n → n ≤ 30 →
    Calls Tryd.prog 34 #[pv x v u, .int .i64 d, .pointer (some ⟨q, 0, none⟩)] w (IspPost x d n q w) := by
  intro x
  induction x using Pt.ind with
  | h k t L K ih =>
    intro W0 w v u d q n hP hT hB hq hQ hd hn0 hn
    have IH := hid ih
    have KI := hid (fun w => qkids_any k w)
    have TX := hid (fun w h1 h2 => qtexts_any (.mk k t L K) v u w h1 h2)
    have hBs := hB.size
    have hQl := hQ.lt
    obtain ⟨hk, _, _, _, a, cap, b, off, f, g, rfl, q1, q2, q3, q4, hrow, hkid⟩ := hP.open
    simp only [Pt.kids, Pt.kind] at q1 q3 q4 hrow hkid hk
    have HROW := hid hrow
    have HKID := hid hkid
    have HP := hid hP
    have HT := hid hT
    have HB := hid hB
    have HQ := hid hQ
    obtain ⟨wb, hwb⟩ : ∃ wb, wb = w.alloc (.cells #[.int .i64 k, str t, v, .slice a K.length cap] 25) := ⟨_, rfl⟩
    have hX : Blk wb w.heap.size [.int .i64 k, str t, v, .slice a K.length cap] 25 := by rw [hwb]; exact Blk.new w _ _
    have hQb : Blk wb q [.int .i64 n] 3 := by rw [hwb]; exact hQ.alloc _
    have hFb : Frm (fun b => b = q) w wb := by rw [hwb]; exact (Frm.refl _ _).alloc _
    obtain ⟨w2, hw2⟩ : ∃ w2, w2 = wb.setCell ⟨q, 0, none⟩ (.int .i64 (n - 1)) := ⟨_, rfl⟩
    have hX2 : Blk w2 w.heap.size [.int .i64 k, str t, v, .slice a K.length cap] 25 := by rw [hw2]; exact hX.other (by omega) _ _
    have hQ2 : Blk w2 q [.int .i64 (n - 1)] 3 := by rw [hw2]; exact hQb.set 0 _
    have hF2 : Frm (fun b => b = q) w w2 := by rw [hw2]; exact hFb.set (Or.inl rfl) _ _
    have cq := hQb.cell (i := 0) rfl
    have fq := hQb.free 0
    have HX2 := hid hX2
    have HQ2 := hid hQ2
    have HF2 := hid hF2
    clear hX hX2 hQb hQ2 hFb hF2 hP hT hB hQ hrow hkid ih
    unfold pv
    simp only [Pt.kind, Pt.text, Pt.kids]
    simp only [pv, Pt.kind, Pt.text, Pt.kids] at TX
    go_enter Tryd.func34, Tryd.ntmps34
    go_upto_region 1 with fail
    rw [← hwb]
    clear hwb
    go_upto_region 2 with fail
    rw [← hw2]
    clear hw2 cq fq
    have HNO : mayN (.mk k t L K) d n = false → ∀ wz, Below w2.heap.size w2 wz → IspPost (.mk k t L K) d n q w (.returned (.bool false)) wz := fun h wz hb =>
      ⟨by rw [h], HF2.out.trans (Frm.of_below hb) (fun _ _ h => h), fun h2 => by rw [h] at h2; cases h2⟩
    have HNO := hid HNO
    have hwz : w.heap.size < w2.heap.size := HX2.out.lt
    have hB2 : Below W0.heap.size W0 w2 := HB.out.trans (HF2.out.below hBs (fun k hk h => by omega))
    have HP2 := hid (HP.out.keep hB2)
    have HT2 := hid (HT.out.keep hB2)
    have HB2 := hid hB2
    have TXL := hid fun p : Later w2.heap.size w2 => TX.out p.it (HT2.out.keep p.low) (HP2.out.keep p.low)
    obtain ⟨m, hm⟩ : ∃ m, m = n - 1 := ⟨_, rfl⟩
    rw [← hm] at HQ2
    have HM := hid hm
    obtain ⟨c0, c1, c2, c3⟩ := blk4 HX2.out
    have g0 := fun p : Later w2.heap.size w2 => p.keep c0
    have g1 := fun p : Later w2.heap.size w2 => p.keep c1
    have g2 := fun p : Later w2.heap.size w2 => p.keep c2
    have g3 := fun p : Later w2.heap.size w2 => p.keep c3
    have cq := HQ2.out.cell (i := 0) rfl
    have gq := fun p : Later w2.heap.size w2 => p.keep cq
    have hm0 : m < 0 ∨ 0 ≤ m := by omega
    clear hB2 TX
    rcases hm0 with hm0 | hm0
    · have hno : mayN (.mk k t L K) d n = false := by
        unfold mayN; rw [size_mk, show decide (((1 + Pt.sizes K : Nat) : Int) ≤ n) = false from decide_eq_false (by omega), Bool.and_false]
      have HN2 := hid (HNO.out hno)
      have d1 : decide (m < 0) = true := decide_eq_true hm0
      clear hm hno hm0
      refine wp_region_later w2.heap.size (by kernel_rfl) (by kernel_rfl) ?_
      repeat (go_big_quiet_step (fail))
      refine wpQuiet_nil ?_
      rintro w3 ⟨p, rfl⟩
      have hb3 := hid p.low
      clear g0 g1 g2 g3 gq
      go_wp2
      go_ret
      exact HN2.out _ hb3.out
    have d1 : decide (m < 0) = false := decide_eq_false (by omega)
    by_cases hd5 : 5 < d
    · have hno : mayN (.mk k t L K) d n = false := by
        unfold mayN; rw [wf_mk, show decide (d ≤ 5) = false from decide_eq_false (by omega)]; rfl
      have HN2 := hid (HNO.out hno)
      have d2 : decide ((5 : Int) < (d : Int)) = true := decide_eq_true (by omega)
      clear hm hno hm0
      refine wp_region_later w2.heap.size (by kernel_rfl) (by kernel_rfl) ?_
      repeat (go_big_quiet_step (fail))
      refine wpQuiet_nil ?_
      rintro w3 ⟨p, rfl⟩
      have hb3 := hid p.low
      clear g0 g1 g2 g3 gq
      go_wp2
      go_ret
      exact HN2.out _ hb3.out
    have d2 : decide ((5 : Int) < (d : Int)) = false := decide_eq_false (by omega)
    by_cases hkk : (K.length : Int) = Pt.kidsOf k
    · have d3 : ((K.length : Int) != Pt.kidsOf k) = false := by rw [hkk]; simp
      obtain ⟨kk, hkk2⟩ : ∃ kk, kk = Pt.kidsOf k := ⟨_, rfl⟩
      rw [← hkk2] at d3 KI
      cases htx : Pt.txt k t L
      · have hno : mayN (.mk k t L K) d n = false := by
          unfold mayN; rw [wf_mk, htx]; simp
        have HN2 := hid (HNO.out hno)
        simp only [Pt.texts] at TXL
        rw [htx] at TXL
        clear hm hno hm0 htx hkk hkk2
        refine wp_region_later w2.heap.size (by kernel_rfl) (by kernel_rfl) ?_
        repeat (go_big_quiet_step (first | (go_at_call 50; with_reducible exact Later.call_same (KI.out _)) | (go_at_call 51; with_reducible exact Later.call (Nat.le_refl _) (TXL.out _)) | fail))
        refine wpQuiet_nil ?_
        rintro w3 ⟨p, rfl⟩
        have hb3 := hid p.low
        clear g0 g1 g2 g3 gq
        go_wp2
        go_ret
        exact HN2.out _ hb3.out
      · simp only [Pt.texts] at TXL
        rw [htx] at TXL
        have HTX := hid htx
        have HKK := hid hkk
        clear hm htx hkk hkk2
        refine wp_region_later w2.heap.size (by kernel_rfl) (by kernel_rfl) ?_
        repeat (go_big_quiet_step (first | (go_at_call 50; with_reducible exact Later.call_same (KI.out _)) | (go_at_call 51; with_reducible exact Later.call (Nat.le_refl _) (TXL.out _)) | fail))
        refine wpQuiet_nil ?_
        rintro w3 ⟨p, rfl⟩
        have hb3 := hid p.low
        have e3 := p.keep c3
        clear g0 g1 g2 g3 gq
        go_wp2
        have hw3 := hb3.out.size
        have HB3 := hid ((HB2.out.trans (hb3.out.mono (HB2.out.size))))
        have HQ3 := hid (HQ2.out.keep hb3.out)
        have HF3 := hid (HF2.out.trans (Frm.of_below (X := fun b => b = q) hb3.out) (fun _ _ h => h))
        obtain ⟨w3, hw3e⟩ : ∃ w3, w3 = p.it := ⟨_, rfl⟩
        rw [← hw3e] at e3 HB3 HQ3 HF3 hw3 ⊢
        clear hw3e hb3 p
        have HNF := hid fun (h : mayN (.mk k t L K) d n = false) wz (hf : Frm (fun b => b = q) w wz) => (show IspPost (.mk k t L K) d n q w (.returned (.bool false)) wz from ⟨by rw [h], hf, fun h2 => by rw [h] at h2; cases h2⟩)
        obtain ⟨N, hN⟩ : ∃ N, N = K.length := ⟨_, rfl⟩
        have HN := hid hN
        rw [← hN] at q1 q4 e3 d3 ⊢
        have hNm : N ≤ 9223372036854775807 := by unfold maxLen at q2; omega
        clear hN HNO
        go_loopw [39] (fun s39 wr => ∃ i : Nat, i ≤ N ∧ s39 = .int .i64 i ∧ Hid (Below W0.heap.size W0 wr) ∧ Hid (Frm (fun b => b = q) w wr) ∧ Hid (Blk wr q [.int .i64 (m - Pt.sizes (K.take i))] 3) ∧ Hid (0 ≤ m - Pt.sizes (K.take i)) ∧ Hid (∀ j, j < i → (K.getD j default).wf (d + 1) = true)) (fun s39 _ => N - (intOf s39).toNat)
        case atStart => exact ⟨0, by omega, rfl, HB3.out, HF3.out, hid (by simpa [Pt.sizes] using HQ3.out), (show 0 ≤ m - (Pt.sizes (K.take 0) : Nat) by simp [Pt.sizes]; exact hm0), fun j hj => absurd hj (Nat.not_lt_zero j)⟩
        case round =>
          obtain ⟨i, hi, rfl, HBr, HFr, HQr, HR0, HWf⟩ := hrel
          by_cases hlt : i < N
          · have ha := q4 (by omega)
            subst ha
            have hiK : i < K.length := by rw [← HN.out]; exact hlt
            have hgd : K[i] = K.getD i default := by simp [List.getD, hiK]
            have hr4 := HROW.out i hiK
            have hkp := HKID.out i hiK
            rw [hgd] at hr4 hkp
            have hmem : K.getD i default ∈ K := by rw [← hgd]; exact List.getElem_mem _
            obtain ⟨y, hy⟩ : ∃ y, y = K.getD i default := ⟨_, rfl⟩
            rw [← hy] at hr4 hkp hmem
            obtain ⟨_, _, hLk, _, ak, capk, _, _, _, _, hgi, _⟩ := hkp.open
            obtain ⟨ta, tc, hfi, _⟩ := hLk.open
            rw [hfi, hgi] at hr4 hkp
            obtain ⟨n1, hn1⟩ : ∃ n1, n1 = y.texts.length := ⟨_, rfl⟩
            obtain ⟨n2, hn2⟩ : ∃ n2, n2 = y.kids.length := ⟨_, rfl⟩
            rw [← hn1, ← hn2] at hr4 hkp
            clear hfi hgi hLk hn1 hn2
            obtain ⟨d0, d1', d2', d3'⟩ := hr4
            have d0 := below_keep HBr.out d0
            have d1' := below_keep HBr.out d1'
            have d2' := below_keep HBr.out d2'
            have d3' := below_keep HBr.out d3'
            obtain ⟨wk, hwk⟩ : ∃ wk, wk = wr.alloc (.cells #[.int .i64 y.kind, str y.text, .slice ta n1 tc, .slice ak n2 capk] 25) := ⟨_, rfl⟩
            have hrs := HBr.out.size
            have hqr := HQr.out.lt
            have hBk : Below W0.heap.size W0 wk := by rw [hwk]; exact HBr.out.alloc hrs _
            have hFk : Frm (fun b => b = q) w wk := by rw [hwk]; exact HFr.out.alloc _
            have hQk : Blk wk q [.int .i64 (m - Pt.sizes (K.take i))] 3 := by rw [hwk]; exact HQr.out.alloc _
            have hXk : Blk wk wr.heap.size [.int .i64 y.kind, str y.text, .slice ta n1 tc, .slice ak n2 capk] 25 := by rw [hwk]; exact Blk.new wr _ _
            obtain ⟨k0, k1, k2, k3⟩ := blk4 hXk
            obtain ⟨r, hr⟩ : ∃ r, r = m - (Pt.sizes (K.take i) : Nat) := ⟨_, rfl⟩
            have hr0 := HR0.out
            rw [← hr] at hQk hr0
            have C := IH.out y hmem W0 wk _ _ (d + 1) q r hkp HT.out hBk hq hQk (by omega) hr0 (by have := HM.out; omega)
            rw [show ((d + 1 : Nat) : Int) = (d : Int) + 1 by omega] at C
            unfold pv IspPost at C
            have C := hid C
            have HBk := hid hBk
            have HFk := hid hFk
            have HY := hid hy
            have HIK := hid hiK
            have HRR := hid hr
            clear hBk hFk hQk hXk hkp hmem hgd hy hiK hr
            go_upto_region 7 with fail
            rw [← hwk]
            clear hwk
            cases hmy : mayN y (d + 1) r
            · rw [hmy] at C
              have hno := mayN_no k t L K d n i HIK.out (by rw [← HY.out, ← hmy, HRR.out, HM.out])
              have HNN := hid (HNF.out hno)
              clear hno hmy
              go_wp2_with (go_at_call 34; refine C.out.mono ?_; rintro e w5 ⟨rfl, hF5, hQ5⟩)
              go_ret
              exact HNN.out _ (HFk.out.trans hF5 (fun _ _ h => h))
            · rw [hmy] at C
              unfold mayN at hmy
              rw [Bool.and_eq_true, decide_eq_true_eq] at hmy
              have HMY := hid hmy
              clear hmy
              go_wp2_with (go_at_call 34; refine C.out.mono ?_; rintro e w5 ⟨rfl, hF5, hQ5⟩)
              have HF5 := hid hF5
              have HQ5 := hid (hQ5 trivial)
              clear hF5 hQ5
              go_roundw
              case rel =>
                have hs := sizes_getD K i HIK.out
                rw [← HY.out] at hs
                refine ⟨i + 1, by omega, by go_num, HBk.out.trans (HF5.out.below HBk.out.size (fun k hk h => by have h' : k = q := h; omega)), HFk.out.trans HF5.out (fun _ _ h => h), ?_, ?_, fun j hj => ?_⟩
                · have h := HQ5.out
                  rw [HRR.out] at h
                  show Blk w5 q [.int .i64 (m - (Pt.sizes (K.take (i + 1)) : Nat))] 3
                  rw [show m - (Pt.sizes (K.take (i + 1)) : Nat) = m - (Pt.sizes (K.take i) : Nat) - (y.size : Nat) by omega]
                  exact h
                · have h1 := HMY.out.2
                  have h2 := HRR.out
                  show 0 ≤ m - ((Pt.sizes (K.take (i + 1)) : Nat) : Int)
                  rw [hs]
                  omega
                · by_cases hji : j < i
                  · exact HWf.out j hji
                  · obtain rfl : j = i := by omega
                    rw [← HY.out]; exact HMY.out.1
              case measure => simp [intOf]; omega
          · obtain rfl : i = N := by omega
            have htk : K.take i = K := by rw [HN.out, List.take_length]
            have h0 := HR0.out
            rw [htk] at h0
            have hyes : mayN (.mk k t L K) d n = true := mayN_all k t L K d n (by omega) HKK.out HTX.out (fun j hj => HWf.out j (by rw [HN.out]; exact hj)) (by rw [← HM.out]; exact h0)
            have HQf := hid (show Blk wr q [.int .i64 (n - ((Pt.mk k t L K).size : Nat))] 3 by
              have h := HQr.out
              rw [htk] at h
              rw [size_mk, show n - ((1 + Pt.sizes K : Nat) : Int) = m - (Pt.sizes K : Nat) by have := HM.out; omega]
              exact h)
            have HY := hid hyes
            clear htk h0 hyes
            go_wp2
            go_ret
            exact ⟨by rw [HY.out]; rfl, HFr.out, fun _ => HQf.out⟩
    · have d3 : ((K.length : Int) != Pt.kidsOf k) = true := bne_iff_ne.2 hkk
      have hno : mayN (.mk k t L K) d n = false := by
        unfold mayN; rw [wf_mk, show decide ((K.length : Int) = Pt.kidsOf k) = false from decide_eq_false hkk]; simp
      have HN2 := hid (HNO.out hno)
      obtain ⟨kk, hkk2⟩ : ∃ kk, kk = Pt.kidsOf k := ⟨_, rfl⟩
      rw [← hkk2] at d3 KI
      clear hm hno hm0 hkk hkk2
      refine wp_region_later w2.heap.size (by kernel_rfl) (by kernel_rfl) ?_
      repeat (go_big_quiet_step (first | (go_at_call 50; with_reducible exact Later.call_same (KI.out _)) | fail))
      refine wpQuiet_nil ?_
      rintro w3 ⟨p, rfl⟩
      have hb3 := hid p.low
      clear g0 g1 g2 g3 gq
      go_wp2
      go_ret
      exact HN2.out _ hb3.out
/-- query.IsPath. -/
theorem ispath_any (x : Pt) (v u : Value) (w : World) (hP : PtAt w v u x) (hT : T8 w) :
    Calls Tryd.prog 19 #[pv x v u] w fun e w' => e = .returned (.bool x.may) ∧ Below w.heap.size w w' := by
  have HP := hid hP
  have HT := hid hT
  obtain ⟨k, t, L, K⟩ := x
  obtain ⟨hk, _, hLk, _, ak, capk, _, _, _, _, hgi, _⟩ := hP.open
  obtain ⟨ta, tc, hfi, _⟩ := hLk.open
  obtain ⟨wk, hwk⟩ : ∃ wk, wk = (w.alloc (.cells #[.int .i64 k, str t, v, u] 25)).alloc (.cells #[.int .i64 30] 3) := ⟨_, rfl⟩
  have hBk : Below w.heap.size w wk := by rw [hwk]; exact ((Below.refl _ _).alloc (Nat.le_refl _) _).alloc (by simp) _
  have hQ : Blk wk (w.heap.size + 1) [.int .i64 30] 3 := by rw [hwk]; exact Blk.new' (by simp) rfl
  have C := hid (isp_any (.mk k t L K) w wk v u 0 (w.heap.size + 1) 30 hP hT hBk (by omega) hQ (by omega) (by omega) (by omega))
  have HBk := hid hBk
  unfold IspPost pv mayN at C
  simp only [Pt.kind, Pt.text] at C
  have hm : (Pt.mk k t L K).may = ((Pt.mk k t L K).wf 0 && decide (((Pt.mk k t L K).size : Int) ≤ 30)) := by
    unfold Pt.may; congr 1; rw [Bool.eq_iff_iff, decide_eq_true_iff, decide_eq_true_iff]; omega
  have HM := hid hm
  obtain ⟨z, hz⟩ : ∃ z, z = (Pt.mk k t L K).may := ⟨_, rfl⟩
  rw [← hm, ← hz] at C
  rw [← hz]
  have hX : Blk wk w.heap.size [.int .i64 k, str t, v, u] 25 := by rw [hwk]; exact (Blk.new w _ _).alloc _
  subst hfi
  rw [hgi] at C hwk hX ⊢
  obtain ⟨n1, hn1⟩ : ∃ n1, n1 = (Pt.mk k t L K).texts.length := ⟨_, rfl⟩
  obtain ⟨n2, hn2⟩ : ∃ n2, n2 = (Pt.mk k t L K).kids.length := ⟨_, rfl⟩
  rw [← hn1, ← hn2] at C hwk hX ⊢
  obtain ⟨c0, c1, c2, c3⟩ := blk4 hX
  clear hm hz hQ hP hBk hX hn1 hn2
  unfold pv
  simp only [Pt.kind, Pt.text]
  go_enter Tryd.func19, Tryd.ntmps19
  go_upto_region 2 with fail
  rw [← hwk]
  clear hwk
  go_wp2_with (go_at_call 34; refine C.out.mono ?_; rintro e w5 ⟨rfl, hF5, hQ5⟩)
  go_ret
  exact ⟨rfl, HBk.out.trans (hF5.below HBk.out.size (fun k hk h => by have h' : k = w.heap.size + 1 := h; omega))⟩
end Go.Proofs.YtagmgkplfhlifaaDoor
