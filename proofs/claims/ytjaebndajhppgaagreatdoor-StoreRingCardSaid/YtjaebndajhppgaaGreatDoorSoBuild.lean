/- store's build: the store of sorted triples. -/
import Derived.Test.YtjaebndajhppgaaGreatDoorSoTermsOf
import Derived.Test.YtjaebndajhppgaaGreatDoorGSo1
import Derived.Test.YtjaebndajhppgaaGreatDoorGRg5
namespace Go.Proofs.YtjaebndajhppgaaGreatDoor
set_option linter.unusedVariables false
set_option linter.unusedSimpArgs false
set_option maxRecDepth 100000
open Go.ChangeShapes Go.WideShapes Go.ChangeAt Go.RowKit Go.Sort
/-- A store lies at block p. -/
def IsStore (W : World) (p : Nat) (L : List TR) : Prop := ∃ (vt ve : Value) (r : Nat), Blk W p [vt, ve, .pointer (some ⟨r, 0, none⟩)] 110 ∧ TrisAt W vt (L.map ofT) ∧ TermsAt W ve (So.terms L) ∧ IsRing W r (So.ids L)
theorem IsStore.keep {W W' : World} {p : Nat} {L : List TR} (h : IsStore W p L) (hb : Below W.heap.size W W') : IsStore W' p L := by
  obtain ⟨vt, ve, r, h1, h2, h3, h4⟩ := h
  exact ⟨vt, ve, r, h1.keep hb, h2.keep hb, h3.keep hb, h4.keep hb⟩
theorem map_off {w : World} {k : TypeId} {b n : Nat} {D : DataW Unit} {R : Value → Option (DataW Unit × List MemPlace)} (h : w.ownsMap Tryz.prog k R b n D) {p : Nat} {A : List Value} {t : TypeId} (hp : Blk w p A t) : p ≠ b := by
  obtain ⟨es, clock, hb, _⟩ := h
  unfold Blk at hp
  rintro rfl
  rw [hp] at hb; cases hb
theorem mapR_below {w w' : World} {k : TypeId} {b n : Nat} {D : DataW Unit} {R : Value → Option (DataW Unit × List MemPlace)} (h : w.ownsMap Tryz.prog k R b n D) (hb : Below w.heap.size w w') : w'.ownsMap Tryz.prog k R b n D := by
  obtain ⟨es, clock, h1, h2⟩ := h
  exact ⟨es, clock, by rw [hb.block b (lt_of_block h1)]; exact h1, h2⟩
/-- Numbers' cells, as far as they are told. -/
def Told3 (A : List Value) (R : List Rg.T) (i : Nat) : Prop := ∀ j (h : j < R.length), j < i → ∀ c, c < 3 → A[j * 3 + c]? = some (.int .i64 (Rg.at' R[j] c))
def idset3 (A : List Value) (o : Nat) (t : Rg.T) : List Value := ((A.set o (.int .i64 t.1)).set (o + 1) (.int .i64 t.2.1)).set (o + 2) (.int .i64 t.2.2)
theorem idset3_len (A : List Value) (o : Nat) (t : Rg.T) : (idset3 A o t).length = A.length := by simp [idset3]
theorem told3 {A : List Value} {R : List Rg.T} {i : Nat} (h : Told3 A R i) (hi : i < R.length) (hA : A.length = R.length * 3) {t : Rg.T} (ht : R[i] = t) : Told3 (idset3 A (i * 3) t) R (i + 1) := by
  subst ht
  intro j hj hji c hc
  by_cases e : j = i
  · subst e
    unfold idset3
    rcases Rg.c3 hc with rfl | rfl | rfl
    · rw [List.getElem?_set_ne (by omega), List.getElem?_set_ne (by omega)]
      exact List.getElem?_set_self (by omega)
    · rw [List.getElem?_set_ne (by omega), List.getElem?_set_self (by rw [List.length_set]; omega)]; rfl
    · rw [List.getElem?_set_self (by rw [List.length_set, List.length_set]; omega)]; rfl
  · unfold idset3
    rw [List.getElem?_set_ne (by omega), List.getElem?_set_ne (by omega), List.getElem?_set_ne (by omega)]
    exact h j hj (by omega) c hc
theorem told3_at {W : World} {b N : Nat} {A : List Value} {R : List Rg.T} (hB : Blk W b A 77) (h : Told3 A R R.length) (hN : R.length = N) (hm2 : N ≤ maxLen) : IdsAt W (.slice (some ⟨b, 0, none⟩) N N) R := by
  refine ⟨some ⟨b, 0, none⟩, N, by rw [hN], by omega, hm2, (fun h => by cases h), Or.inr ⟨b, 0, rfl, fun i hi c hc => ?_⟩⟩
  rw [Nat.zero_add]
  exact hB.cell (h i hi hi c hc)
theorem ids_step {L : List TR} {i : Nat} (hi : i < L.length) (h : i < (So.ids L).length) : (So.ids L)[i] = So.nums (So.terms L) L[i] := by simp [So.ids]
theorem okT_terms {L : List TR} (hl : ∀ t ∈ L, Tm.isTri t = true) : ∀ a ∈ So.terms L, okT a := fun a ha => ok_is (So.terms_is hl a ha)
theorem wf_nat {k : Nat} (h : k ≤ 1000000) : (Lit.int .i64 ((k : Nat) : Int)).wf = true := by
  have h2 : (k : Int) ≤ 1000000 := by omega
  have h3 : (0 : Int) ≤ (k : Int) := by omega
  have e1 : IntKind.i64.min = -9223372036854775808 := by decide
  have e2 : IntKind.i64.max = 9223372036854775807 := by decide
  simp only [Lit.wf, e1, e2, Bool.and_eq_true, decide_eq_true_eq]
  omega
theorem run_makeMapN (m : Nat) (w : World) : (Instr.makeMap 145 (some (.int .i64 ((m : Nat) : Int)))).run Tryz.prog w = .ok (.map (some w.heap.size)) (w.alloc (.map #[] 0)) := by
  simp [Instr.makeMap, run_underlying Tryz.underlying145, asInt, asIntOf, Result.andThen]
set_option maxHeartbeats 8000000 in
theorem build_any (L : List TR) (hl : ∀ t ∈ L, Tm.isTri t = true) (hs : Tm.Srt L) (hn : L.length ≤ 100) (w : World) (v : Value) (hv : TrisAt w v (L.map ofT)) :
    Calls Tryz.prog 43 #[v] w fun e w' => ∃ p, e = .returned (.tuple #[.pointer (some ⟨p, 0, none⟩), .int .i64 0]) ∧ IsStore w' p L ∧ Below w.heap.size w w' := by
  have hmm := run_makeMapN
  obtain ⟨i0, hi0, hz0, hz1, hz2⟩ := info_parts Tryz.rginfo77
  have mk1 : ∀ (m : Nat) (W : World), m ≤ 100 → (Instr.makeSlice 79 (.int .i64 ((m : Nat) : Int)) (.int .i64 ((m : Nat) : Int))).run Tryz.prog W = .ok (.slice (some ⟨W.heap.size, 0, none⟩) m m) (W.alloc (.cells (madeCells #[.int .i64 0, .int .i64 0, .int .i64 0] (m * 3)) 77)) := fun m W hm => by
    have h := run_make W 79 77 i0 _ Tryz.underlying79 hi0 hz0 .i64 .i64 m m (by omega) (by omega) (by rw [hz2]; omega) (by omega)
    rw [h, hz1, Int.toNat_natCast]; rfl
  have TO := hid (fun W hv => termsOf_any L hl (by omega) W v hv)
  have RN := hid (fun (u : Value) (W : World) (h : IdsAt W u (So.ids L)) => rnew_any u (So.ids L) W h (by rw [So.ids_len]; omega))
  have HRM := hid (So.ids_may hl hs hn)
  have HOKT := hid (okT_terms hl)
  have HND := hid (So.srt_nodup So.ordT (So.terms_srt hl))
  have HTL := hid (show (So.terms L).length ≤ 300 by have := So.terms_len L; omega)
  have HIN := hid (fun p (hp : p ∈ L) => So.terms_tri hl hp)
  obtain ⟨a, cap, rfl, hc1, hc2, hc3⟩ := hv.open
  have HV := hid hv
  have HL := hid hl
  rw [List.length_map] at HV TO ⊢
  obtain ⟨n, hn0⟩ : ∃ n, n = L.length := ⟨_, rfl⟩
  rw [← hn0] at HV hn TO ⊢
  have HN := hid hn0
  have MK := hid (mk1 n)
  clear hv hl hs hc1 hc2 hc3 hn0 mk1
  go_enter Tryz.func43, Tryz.ntmps43
  go_upto_region 2 with (go_at_call 85; refine (TO.out _ HV.out).mono ?_; rintro e w1 ⟨ve, rfl, hT, hB1⟩; obtain ⟨ae, ce, rfl, he1, he2, he3⟩ := hT.open; have HT := hid hT; have HB1 := hid hB1; have hz1' := hB1.size; clear hT hB1 he1 he2 he3)
  obtain ⟨m, hm0⟩ : ∃ m, m = (So.terms L).length := ⟨_, rfl⟩
  rw [← hm0] at HT HTL ⊢
  have HM0 := hid hm0
  have hm3 := HTL.out
  obtain ⟨w2, hw2⟩ : ∃ w2, w2 = w1.alloc (.cells #[.slice a n cap, .slice ae m ce, .pointer none] 110) := ⟨_, rfl⟩
  have HP2 := hid (show Blk w2 w1.heap.size [.slice a n cap, .slice ae m ce, .pointer none] 110 by rw [hw2]; exact Blk.new' rfl rfl)
  have HB2 := hid (show Below w1.heap.size w1 w2 by rw [hw2]; exact (Below.refl _ _).alloc (Nat.le_refl _) _)
  have hs2 : w2.heap.size = w1.heap.size + 1 := by rw [hw2]; simp
  have HS2 := hid hs2
  rw [← hw2]
  clear hw2 hs2 hm0
  obtain ⟨p, hp⟩ : ∃ p, p = w1.heap.size := ⟨_, rfl⟩
  rw [← hp] at HP2 HS2 ⊢
  have HPP := hid hp
  have hp1 : p < w2.heap.size := HP2.out.lt
  clear hp
  have p0 := HP2.out.cell (i := 0) rfl
  have p1 := HP2.out.cell (i := 1) rfl
  have p2 := HP2.out.cell (i := 2) rfl
  go_upto_region 3 with fail
  obtain ⟨w3, hw3⟩ : ∃ w3, w3 = w2.alloc (.map #[] 0) := ⟨_, rfl⟩
  have HM3 := hid (show w3.ownsMap Tryz.prog 61 (plainElem Tryz.prog 3) w2.heap.size 0 (numD (So.terms L) 0) by rw [hw3]; exact World.ownsMap_made _ _ _ _)
  have HP3 := hid (show Blk w3 p [.slice a n cap, .slice ae m ce, .pointer none] 110 by rw [hw3]; exact HP2.out.alloc _)
  have HB3 := hid (show Below p w1 w3 by rw [hw3, HPP.out]; exact HB2.out.alloc (by rw [← HPP.out]; omega) _)
  rw [← hw3]
  clear hw3 p0 p1 p2
  obtain ⟨b, hb⟩ : ∃ b, b = w2.heap.size := ⟨_, rfl⟩
  rw [← hb] at HM3 hp1 ⊢
  have HBB := hid hb
  clear hb
  have p0 := HP3.out.cell (i := 0) rfl
  have p1 := HP3.out.cell (i := 1) rfl
  have p2 := HP3.out.cell (i := 2) rfl
  go_upto_region 4 with fail
  clear p0 p1 p2
  go_loopg [29] m (fun gk s29 wr => ∃ i : Nat, s29 = .int .i64 i ∧ i ≤ m ∧ m - i ≤ gk ∧ Hid (Below p w1 wr) ∧ Hid (Blk wr p [.slice a n cap, .slice ae m ce, .pointer none] 110) ∧ Hid (wr.ownsMap Tryz.prog 61 (plainElem Tryz.prog 3) b i (numD (So.terms L) i)))
  case atStart => exact ⟨0, rfl, Nat.zero_le _, Nat.le_refl _, HB3, HP3, HM3⟩
  case round =>
    obtain ⟨i, rfl, him, hg, HB, HP, HM⟩ := hrel
    by_cases hlt : i < m
    · have hltz : (i : Int) < (m : Int) := by omega
      have hiE : i < (So.terms L).length := by rw [← HM0.out]; exact hlt
      have HB' := hid (show Below w1.heap.size w1 wr by rw [← HPP.out]; exact HB.out)
      obtain ⟨be, off, rfl, hrow⟩ := (HT.out.keep HB'.out).get hiE
      have HSUC := hid (numD_succ (So.terms L) i hiE)
      obtain ⟨t, ht⟩ : ∃ t, t = (So.terms L)[i] := ⟨_, rfl⟩
      have c0 := hrow i hiE 0 (by omega)
      have c1 := hrow i hiE 1 (by omega)
      have c2 := hrow i hiE 2 (by omega)
      rw [← ht] at c0 c1 c2 HSUC
      have HOK := hid (show okT t by rw [ht]; exact HOKT.out _ (List.getElem_mem _))
      have HKEY := hid (tmKey_key HOK.out)
      clear ht hrow hiE
      obtain ⟨k, tt, xx⟩ := t
      simp only [tm3, List.getElem?_cons_zero, List.getElem?_cons_succ, Nat.add_zero] at c0 c1 c2
      have hpw : p < wr.heap.size := HP.out.lt
      have hbp : p ≠ b := map_off HM.out HP.out
      have HNE := hid hbp
      clear hbp
      obtain ⟨w4, hw4⟩ : ∃ w4, w4 = wr.alloc (.cells #[.int .i64 (k : Nat), str tt, str xx] 61) := ⟨_, rfl⟩
      have HU4 := hid (show Blk w4 wr.heap.size [.int .i64 (k : Nat), str tt, str xx] 61 by rw [hw4]; exact Blk.new' rfl rfl)
      have HB4 := hid (show Below p w1 w4 by rw [hw4]; exact HB.out.alloc (by omega) _)
      have HP4 := hid (show Blk w4 p [.slice a n cap, .slice (some ⟨be, off, none⟩) m ce, .pointer none] 110 by rw [hw4]; exact HP.out.alloc _)
      have HM4 := hid (show w4.ownsMap Tryz.prog 61 (plainElem Tryz.prog 3) b i (numD (So.terms L) i) by rw [hw4]; exact HM.out.alloc _)
      have HW4 := hid hw4
      clear hw4
      go_upto_region 6 with fail
      rw [← HW4.out]
      clear c0 c1 c2
      have d0 := HU4.out.cell (i := 0) rfl
      have d1 := HU4.out.cell (i := 1) rfl
      have d2 := HU4.out.cell (i := 2) rfl
      have HWF := hid (show (Lit.int .i64 ((i : Int) + 1)).wf = true from wf_nat (k := i + 1) (by omega))
      go_upto_region 7 with (at_mapUpdate; refine wpList_mapUpdate_own _ rfl _ _ _ 145 rfl 61 3 term_keyed Tryz.underlying145 _ b i (numD (So.terms L) i) rfl HM4.out (by unfold maxLen; omega) _ _ _ rfl rfl HKEY.out (.lit (.int .i64 ((i : Int) + 1))) [] (plainElem_int Tryz.underlying3 HWF.out) ?_; intro w6 hM6 hg6)
      have HB6 := hid (HB4.out.grown hg6 (by have := HP4.out.lt; omega) (fun k hk => by cases hk; have := HBB.out; have := HS2.out; omega))
      have HP6 := hid (HP4.out.map hg6 HNE.out)
      have HM6 := hid (show w6.ownsMap Tryz.prog 61 (plainElem Tryz.prog 3) b (i + 1) (numD (So.terms L) (i + 1)) by rw [HSUC.out]; exact hM6)
      clear hM6 hg6 d0 d1 d2
      go_wp2
      go_roundg (m - (i + 1))
      case measure => omega
      case rel => exact ⟨i + 1, by go_num, by omega, by omega, HB6, HP6, HM6⟩
    · obtain rfl : i = m := by omega
      have HMD := hid (show wr.ownsMap Tryz.prog 61 (plainElem Tryz.prog 3) b i (numD (So.terms L) (So.terms L).length) by have h := HM.out; rw [HM0.out] at h ⊢; exact h)
      have hpw : p < wr.heap.size := HP.out.lt
      have hbp : p ≠ b := map_off HM.out HP.out
      have HNE := hid hbp
      have hbw := HM.out.lt
      have HSZ := hid (show w1.heap.size ≤ wr.heap.size from HB.out.size)
      clear hbp HM
      have MKn := fun W => MK.out W hn
      obtain ⟨A0, hA0⟩ : ∃ A0 : List Value, A0 = (madeCells #[.int .i64 0, .int .i64 0, .int .i64 0] (n * 3)).toList := ⟨_, rfl⟩
      have hAl : A0.length = n * 3 := by rw [hA0]; simp [size_madeCells]
      have HA0 := hid hA0
      have HAL := hid hAl
      clear hA0 hAl hz0 hz1 hz2
      go_upto_region 9 with fail
      obtain ⟨w5, hw5⟩ : ∃ w5, w5 = wr.alloc (.cells (madeCells #[.int .i64 0, .int .i64 0, .int .i64 0] (n * 3)) 77) := ⟨_, rfl⟩
      have HQ5 := hid (show Blk w5 wr.heap.size A0 77 by rw [hw5]; exact Blk.new' rfl HA0.out.symm)
      have HB5 := hid (show Below p w1 w5 by rw [hw5]; exact HB.out.alloc (by omega) _)
      have HP5 := hid (show Blk w5 p [.slice a n cap, .slice ae i ce, .pointer none] 110 by rw [hw5]; exact HP.out.alloc _)
      have HM5 := hid (show w5.ownsMap Tryz.prog 61 (plainElem Tryz.prog 3) b i (numD (So.terms L) (So.terms L).length) by rw [hw5]; exact HMD.out.alloc _)
      rw [← hw5]
      clear hw5 MKn
      obtain ⟨q, hq⟩ : ∃ q, q = wr.heap.size := ⟨_, rfl⟩
      rw [← hq] at HQ5 hpw hbw HSZ ⊢
      clear hq
      go_upto_region 10 with fail
      go_loopg [44] n (fun gk2 s44 wr => ∃ (j : Nat) (A : List Value), s44 = .int .i64 j ∧ j ≤ n ∧ n - j ≤ gk2 ∧ Hid (Below p w1 wr) ∧ Hid (Blk wr p [.slice a n cap, .slice ae i ce, .pointer none] 110) ∧ Hid (wr.ownsMap Tryz.prog 61 (plainElem Tryz.prog 3) b i (numD (So.terms L) (So.terms L).length)) ∧ Hid (Blk wr q A 77) ∧ Hid (A.length = n * 3) ∧ Hid (Told3 A (So.ids L) j))
      case atStart => exact ⟨0, A0, rfl, Nat.zero_le _, Nat.le_refl _, HB5, HP5, HM5, HQ5, HAL, hid (fun j hj h => absurd h (by omega))⟩
      case round =>
        obtain ⟨j, A, rfl, hjn, hg2, HB, HP, HM, HQ, HWA, HTO⟩ := hrel
        by_cases hlt2 : j < n
        · have hltz : (j : Int) < (n : Int) := by omega
          have hjL : j < L.length := by rw [← HN.out]; exact hlt2
          have HB' := hid (show Below w1.heap.size w1 wr from by rw [← HPP.out]; exact HB.out)
          have HVr := hid ((HV.out.keep HB1.out).keep HB'.out)
          obtain ⟨bl, off, rfl, hrow⟩ := HVr.out.get (i := j) (by rw [List.length_map]; exact hjL)
          have HRW := hid (hrow j (by rw [List.length_map]; exact hjL))
          rw [List.getElem_map] at HRW
          have HNUM := hid (ids_step hjL (by rw [So.ids_len]; exact hjL))
          have HIT := hid (HIN.out L[j] (List.getElem_mem hjL))
          obtain ⟨t, ht⟩ : ∃ t, t = L[j] := ⟨_, rfl⟩
          rw [← ht] at HRW HNUM HIT
          obtain ⟨⟨n1, t1, x1⟩, ⟨n2, t2, x2⟩, n3, t3, x3⟩ := t
          clear ht hrow
          have c0 := HRW.out 0 (by omega)
          have c1 := HRW.out 1 (by omega)
          have c2 := HRW.out 2 (by omega)
          have c3 := HRW.out 3 (by omega)
          have c4 := HRW.out 4 (by omega)
          have c5 := HRW.out 5 (by omega)
          have c6 := HRW.out 6 (by omega)
          have c7 := HRW.out 7 (by omega)
          have c8 := HRW.out 8 (by omega)
          simp only [ofT, Tri.cells, List.getElem?_cons_zero, List.getElem?_cons_succ, Nat.add_zero] at c0 c1 c2 c3 c4 c5 c6 c7 c8
          have hpr : p < wr.heap.size := HP.out.lt
          obtain ⟨w7, hw7⟩ : ∃ w7, w7 = new9 wr n1 t1 x1 n2 t2 x2 n3 t3 x3 := ⟨_, rfl⟩
          have HB7 := hid (show Below p w1 w7 by rw [hw7]; exact HB.out.alloc (by omega) _)
          have HP7 := hid (show Blk w7 p [.slice (some ⟨bl, off, none⟩) n cap, .slice ae i ce, .pointer none] 110 by rw [hw7]; exact HP.out.alloc _)
          have HM7 := hid (show w7.ownsMap Tryz.prog 61 (plainElem Tryz.prog 3) b i (numD (So.terms L) (So.terms L).length) by rw [hw7]; exact HM.out.alloc _)
          have HQ7 := hid (show Blk w7 q A 77 by rw [hw7]; exact HQ.out.alloc _)
          have HU7 := hid (show Blk w7 wr.heap.size [.int .i64 (n1 : Nat), str t1, str x1, .int .i64 (n2 : Nat), str t2, str x2, .int .i64 (n3 : Nat), str t3, str x3] 67 by rw [hw7]; exact new9_new wr n1 t1 x1 n2 t2 x2 n3 t3 x3)
          have HW7 := hid hw7
          have hqw : q < w7.heap.size := HQ7.out.lt
          clear hw7
          go_upto_region 12 with fail
          show Code.wp _ _ _ _ (new9 wr n1 t1 x1 n2 t2 x2 n3 t3 x3)
          rw [← HW7.out]
          clear c0 c1 c2 c3 c4 c5 c6 c7 c8
          have c0 := HU7.out.cell (i := 0) rfl
          have c1 := HU7.out.cell (i := 1) rfl
          have c2 := HU7.out.cell (i := 2) rfl
          have c3 := HU7.out.cell (i := 3) rfl
          have c4 := HU7.out.cell (i := 4) rfl
          have c5 := HU7.out.cell (i := 5) rfl
          have c6 := HU7.out.cell (i := 6) rfl
          have c7 := HU7.out.cell (i := 7) rfl
          have c8 := HU7.out.cell (i := 8) rfl
          have LK := hid (fun (t : T3) (ht : okT t) => (show (Instr.lookup 145 (.map (some b)) (tmv t) false).run Tryz.prog w7.drew = .ok (.int .i64 (So.num (So.terms L) t : Nat)) w7.drew from by
            obtain ⟨c, hr, hat, _⟩ := World.ownsMap.lookup_int (w := w7.drew) HM7.out term_keyed Tryz.underlying145 Tryz.underlying3 (Tryz.zeroValue3 _) (tmKey_key ht)
            rw [numD_all HND.out HOKT.out ht] at hat
            simp only [DataW.lit.injEq, Lit.int.injEq, true_and] at hat
            rw [hr, hat]))
          have l1 := LK.out (n1, t1, x1) (HOKT.out _ HIT.out.1)
          have l2 := LK.out (n2, t2, x2) (HOKT.out _ HIT.out.2.1)
          have l3 := LK.out (n3, t3, x3) (HOKT.out _ HIT.out.2.2)
          have hA3 : j * 3 + 3 ≤ A.length := by have := HWA.out; omega
          have d0 := HQ7.out.cell (i := j * 3) (v := A[j * 3]) (List.getElem?_eq_getElem (by omega))
          have d1 := HQ7.out.cell (i := j * 3 + 1) (v := A[j * 3 + 1]) (List.getElem?_eq_getElem (by omega))
          have d2 := HQ7.out.cell (i := j * 3 + 2) (v := A[j * 3 + 2]) (List.getElem?_eq_getElem (by omega))
          have f0 := HQ7.out.free (j * 3)
          have f1 := HQ7.out.free (j * 3 + 1)
          have f2 := HQ7.out.free (j * 3 + 2)
          generalize A[j * 3] = z0 at d0
          generalize A[j * 3 + 1] = z1 at d1
          generalize A[j * 3 + 2] = z2 at d2
          obtain ⟨m1, hm1⟩ : ∃ m1, m1 = So.num (So.terms L) (n1, t1, x1) := ⟨_, rfl⟩
          obtain ⟨m2, hm2⟩ : ∃ m2, m2 = So.num (So.terms L) (n2, t2, x2) := ⟨_, rfl⟩
          obtain ⟨m3, hm3⟩ : ∃ m3, m3 = So.num (So.terms L) (n3, t3, x3) := ⟨_, rfl⟩
          rw [← hm1] at l1
          rw [← hm2] at l2
          rw [← hm3] at l3
          have HMM := hid (show So.nums (So.terms L) ((n1, t1, x1), (n2, t2, x2), n3, t3, x3) = ((m1 : Int), (m2 : Int), (m3 : Int)) by rw [hm1, hm2, hm3]; rfl)
          clear hm1 hm2 hm3 hA3
          go_region
          clear l1 l2 l3 d0 d1 d2 f0 f1 f2 c0 c1 c2 c3 c4 c5 c6 c7 c8
          have HB8 := hid (show Below p w1 ((((w7.setCell ⟨q, j * 3, none⟩ (.int .i64 (m1 : Nat))).setCell ⟨q, j * 3 + 1, none⟩ (.int .i64 (m2 : Nat))).setCell ⟨q, j * 3 + 2, none⟩ (.int .i64 (m3 : Nat))).drew) from ((((HB7.out.setCell (by show p ≤ q; omega) _).setCell (by show p ≤ q; omega) _).setCell (by show p ≤ q; omega) _).drew))
          have HQ8 := hid (show Blk ((((w7.setCell ⟨q, j * 3, none⟩ (.int .i64 (m1 : Nat))).setCell ⟨q, j * 3 + 1, none⟩ (.int .i64 (m2 : Nat))).setCell ⟨q, j * 3 + 2, none⟩ (.int .i64 (m3 : Nat))).drew) q (idset3 A (j * 3) ((m1 : Int), (m2 : Int), (m3 : Int))) 77 from ((((HQ7.out.set _ _).set _ _).set _ _)))
          have HP8 := hid (show Blk ((((w7.setCell ⟨q, j * 3, none⟩ (.int .i64 (m1 : Nat))).setCell ⟨q, j * 3 + 1, none⟩ (.int .i64 (m2 : Nat))).setCell ⟨q, j * 3 + 2, none⟩ (.int .i64 (m3 : Nat))).drew) p [.slice (some ⟨bl, off, none⟩) n cap, .slice ae i ce, .pointer none] 110 from (((HP7.out.other (by omega) _ _).other (by omega) _ _).other (by omega) _ _))
          have hqb : b ≠ q := by omega
          have HM8 := hid (show ((((w7.setCell ⟨q, j * 3, none⟩ (.int .i64 (m1 : Nat))).setCell ⟨q, j * 3 + 1, none⟩ (.int .i64 (m2 : Nat))).setCell ⟨q, j * 3 + 2, none⟩ (.int .i64 (m3 : Nat))).drew).ownsMap Tryz.prog 61 (plainElem Tryz.prog 3) b i (numD (So.terms L) (So.terms L).length) from (((HM7.out.setCell hqb _).setCell hqb _).setCell hqb _).drew)
          have HTO8 := hid (told3 HTO.out (by rw [So.ids_len]; exact hjL) (by rw [HWA.out, So.ids_len, HN.out]) (HNUM.out.trans HMM.out))
          go_wp2
          go_roundg (n - (j + 1))
          case measure => omega
          case rel => exact ⟨j + 1, _, by go_num, by omega, by omega, HB8.out, HP8.out, HM8.out, HQ8.out, by show _ = _; rw [idset3_len]; exact HWA.out, HTO8.out⟩
        · obtain rfl : j = n := by omega
          have HID := hid (show IdsAt wr (.slice (some ⟨q, 0, none⟩) j j) (So.ids L) from told3_at HQ.out (by rw [So.ids_len, ← HN.out]; exact HTO.out) (by rw [So.ids_len]; exact HN.out.symm) (by unfold maxLen; omega))
          have hpr : p < wr.heap.size := HP.out.lt
          go_upto_region 15 with (go_at_call 86; refine (RN.out _ _ HID.out).mono ?_; rintro e w8 ⟨hb8, hres⟩; obtain ⟨r, rfl, hF⟩ : ∃ r, e = .returned (.tuple #[.pointer (some ⟨r, 0, none⟩), .int .i64 0]) ∧ Fresh wr.heap.size w8 (fun W => IsRing W r (So.ids L)) := (by rcases hres with ⟨_, r, h1, h2⟩ | ⟨h1, _⟩; exact ⟨r, h1, h2⟩; exact absurd HRM.out h1); have HB8 := hid hb8; have HF8 := hid hF; clear hb8 hres hF)
          have HP8 := hid (HP.out.keep HB8.out)
          have p2 := HP8.out.cell (i := 2) rfl
          have f2 := HP8.out.free 2
          have hp8 := HP8.out.lt
          have HB9 := hid (show Below p w1 (w8.setCell ⟨p, 2, none⟩ (.pointer (some ⟨r, 0, none⟩))) from (HB.out.trans (HB8.out.mono (by omega))).setCell (Nat.le_refl _) _)
          have HP9 := hid (show Blk (w8.setCell ⟨p, 2, none⟩ (.pointer (some ⟨r, 0, none⟩))) p [.slice a j cap, .slice ae i ce, .pointer (some ⟨r, 0, none⟩)] 110 from HP8.out.set 2 _)
          have HR9 := hid (fresh_set HF8.out p 2 (.pointer (some ⟨r, 0, none⟩)) hpr).it
          go_wp2
          go_ret2
          have hb9 : Below w1.heap.size w1 (w8.setCell ⟨p, 2, none⟩ (.pointer (some ⟨r, 0, none⟩))) := by rw [← HPP.out]; exact HB9.out
          exact ⟨p, rfl, ⟨_, _, r, HP9.out, (HV.out.keep HB1.out).keep hb9, HT.out.keep hb9, HR9.out⟩, below_then HB1.out hb9⟩
end Go.Proofs.YtjaebndajhppgaaGreatDoor
