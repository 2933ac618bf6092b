/- StoreTerms: terms are all that stand in a triple, each once, rising; what stands nowhere has no number: for every input. -/
import Derived.Test.YtjaebndajhppgaaGreatDoorSoKnown
import Derived.Test.YtjaebndajhppgaaGreatDoorSoId
import Derived.Test.YtjaebndajhppgaaGreatDoorSoLong
import Derived.Test.YtjaebndajhppgaaGreatDoorSoLaw
import Derived.Test.YtjaebndajhppgaaGreatDoorGPut
import Derived.Test.YtjaebndajhppgaaGreatDoorSoLaid
namespace Go.Proofs.YtjaebndajhppgaaGreatDoor
set_option linter.unusedVariables false
set_option linter.unusedSimpArgs false
set_option maxRecDepth 100000
open Go.ChangeShapes Go.WideShapes Go.ChangeAt Go.RowKit
theorem eq_tmI (a : T3) (k : Int) (t x : List UInt8) (w : World) : (binOp .eql 61 (.agg #[.int .i64 (a.1 : Nat), str a.2.1, str a.2.2]) (.agg #[.int .i64 k, str t, str x])).run Tryz.prog w = .ok (.bool (decide ((a.1 : Int) = k ∧ a.2.1 = t ∧ a.2.2 = x))) w := by
  obtain ⟨m, u, y⟩ := a
  by_cases h1 : (m : Int) = k <;> by_cases h2 : u = t <;> by_cases h3 : y = x
  all_goals
    simp [go_sem, h1, h2, h3] <;> omega
def eqB (k : Int) (t x : List UInt8) (a : T3) : Bool := decide ((a.1 : Int) = k ∧ a.2.1 = t ∧ a.2.2 = x)
def anyB (k : Int) (t x : List UInt8) (M : List TR) : Bool := M.any fun p => eqB k t x p.1 || eqB k t x p.2.1 || eqB k t x p.2.2
theorem anyB_step (k : Int) (t x : List UInt8) (M : List TR) {i : Nat} (hi : i < M.length) : anyB k t x (M.take (i + 1)) = (anyB k t x (M.take i) || (eqB k t x M[i].1 || eqB k t x M[i].2.1 || eqB k t x M[i].2.2)) := by
  unfold anyB
  rw [List.take_succ_eq_append_getElem hi, List.any_append]
  simp
theorem eqB_iff {k : Int} {t x : List UInt8} {a : T3} : eqB k t x a = true ↔ (0 ≤ k ∧ a = (k.toNat, t, x)) := by
  obtain ⟨m, u, y⟩ := a
  unfold eqB
  rw [decide_eq_true_eq]
  constructor
  · rintro ⟨h1, h2, h3⟩
    simp only at h1 h2 h3
    subst h1 h2 h3
    exact ⟨by omega, by rw [Int.toNat_natCast]⟩
  · rintro ⟨h, e⟩
    cases e
    exact ⟨by show ((k.toNat : Nat) : Int) = k; omega, rfl, rfl⟩
theorem terms_sort_mem {M : List TR} (hM : ∀ t ∈ M, Tm.isTri t = true) (a : T3) : a ∈ So.terms (Tm.rsort M) ↔ a ∈ So.flat M := by
  rw [So.terms_mem (Tm.rsort_tri hM), So.flat_mem, So.flat_mem]
  constructor
  · rintro ⟨p, hp, h⟩; exact ⟨p, (Tm.rsort_mem hM p).1 hp, h⟩
  · rintro ⟨p, hp, h⟩; exact ⟨p, (Tm.rsort_mem hM p).2 hp, h⟩
theorem id_any {M : List TR} (hM : ∀ t ∈ M, Tm.isTri t = true) (k : Int) (t x : List UInt8) : decide (0 < (idOf (So.terms (Tm.rsort M)) k t x : Int)) = anyB k t x M := by
  rw [Bool.eq_iff_iff, decide_eq_true_eq]
  unfold anyB
  rw [List.any_eq_true]
  have e : (∃ p, p ∈ M ∧ (eqB k t x p.1 || eqB k t x p.2.1 || eqB k t x p.2.2) = true) ↔ (0 ≤ k ∧ ((k.toNat, t, x) : T3) ∈ So.flat M) := by
    rw [So.flat_mem]
    simp only [Bool.or_eq_true, eqB_iff]
    constructor
    · rintro ⟨p, hp, (⟨h0, h⟩ | ⟨h0, h⟩) | ⟨h0, h⟩⟩
      · exact ⟨h0, p, hp, .inl h.symm⟩
      · exact ⟨h0, p, hp, .inr (.inl h.symm)⟩
      · exact ⟨h0, p, hp, .inr (.inr h.symm)⟩
    · rintro ⟨h0, p, hp, h | h | h⟩
      · exact ⟨p, hp, .inl (.inl ⟨h0, h.symm⟩)⟩
      · exact ⟨p, hp, .inl (.inr ⟨h0, h.symm⟩)⟩
      · exact ⟨p, hp, .inr ⟨h0, h.symm⟩⟩
  rw [e]
  unfold idOf
  split
  · rename_i h0
    rw [← terms_sort_mem hM, ← So.num_pos]
    exact ⟨fun h => ⟨h0, by omega⟩, fun h => by have := h.2; omega⟩
  · rename_i h0
    exact ⟨fun h => by omega, fun h => absurd h.1 h0⟩
theorem id_pos {M : List TR} (hM : ∀ t ∈ M, Tm.isTri t = true) {p : TR} (hp : p ∈ M) : 1 ≤ idOf (So.terms (Tm.rsort M)) (p.1.1 : Nat) p.1.2.1 p.1.2.2 ∧ 1 ≤ idOf (So.terms (Tm.rsort M)) (p.2.1.1 : Nat) p.2.1.2.1 p.2.1.2.2 ∧ 1 ≤ idOf (So.terms (Tm.rsort M)) (p.2.2.1 : Nat) p.2.2.2.1 p.2.2.2.2 := by
  refine ⟨?_, ?_, ?_⟩
  · rw [idOf_nat]; exact So.num_pos.2 ((terms_sort_mem hM _).2 (So.flat_mem.2 ⟨p, hp, .inl rfl⟩))
  · rw [idOf_nat]; exact So.num_pos.2 ((terms_sort_mem hM _).2 (So.flat_mem.2 ⟨p, hp, .inr (.inl rfl)⟩))
  · rw [idOf_nat]; exact So.num_pos.2 ((terms_sort_mem hM _).2 (So.flat_mem.2 ⟨p, hp, .inr (.inr rfl)⟩))
set_option maxHeartbeats 8000000 in
theorem storeTerms_any (L : List Tri) (k : Int) (t x : List UInt8) (w : World) (v : Value) (hv : TrisAt w v L) (hlow : ∀ t ∈ L, t.low 1000000000000000) (hn : L.length ≤ 140737488351232) (hk : -9223372036854775808 ≤ k ∧ k ≤ 9223372036854775807) (ht : t.length ≤ 9223372036854775807) (hx : x.length ≤ 9223372036854775807) (hV : Vars w) (hE : ErrAt w) :
    Calls Tryz.prog 8 #[v, tmV k t x] w fun e w' => e = .returned (.bool true) ∧ Below w.heap.size w w' := by
  have KN := hid (fun W h h2 => known_any W h h2)
  obtain ⟨a, cap, rfl, hc1, hc2, hc3⟩ := hv.open
  have HV := hid hv
  have HVV := hid hV
  have HE := hid hE
  have HL := hid hlow
  have HNL := hid hn
  obtain ⟨n, hn0⟩ : ∃ n, n = L.length := ⟨_, rfl⟩
  rw [← hn0] at HV ⊢
  have hnn : n ≤ 140737488351232 := by omega
  have HN := hid hn0
  clear hv hV hE hlow hc1 hc2 hc3 hn0 hn hk
  go_enter Tryz.func8, Tryz.ntmps8
  go_upto_region 1 with fail
  obtain ⟨w0, hw0⟩ : ∃ w0, w0 = w.alloc (.cells #[.int .i64 k, str t, str x] 61) := ⟨_, rfl⟩
  have HB0 := hid (show Below w.heap.size w w0 by rw [hw0]; exact (Below.refl _ _).alloc (Nat.le_refl _) _)
  have HX0 := hid (show Blk w0 w.heap.size [.int .i64 k, str t, str x] 61 by rw [hw0]; exact Blk.new' rfl rfl)
  rw [← hw0]
  clear hw0
  obtain ⟨bx, hbx⟩ : ∃ bx, bx = w.heap.size := ⟨_, rfl⟩
  rw [← hbx] at HX0 ⊢
  have HBX := hid hbx
  clear hbx
  go_wp2_with fail
  refine (long11_any L w0 _ (HV.out.keep HB0.out) HL.out HNL.out (HVV.out.keep HB0.out)).mono ?_
  rintro e w1 ⟨B, rfl, hB, hb1⟩
  have HX1 := hid (HX0.out.keep hb1)
  have HB1 := hid (show Below w.heap.size w w1 from below_then HB0.out hb1)
  have HBB := hid hB
  clear hb1 hB
  cases B with
  | true =>
    go_wp2
    go_ret
    exact ⟨rfl, HB1.out⟩
  | false =>
    obtain ⟨hnl, hmb⟩ := HBB.out rfl
    obtain ⟨M, hM, hMt⟩ := may_nat hmb
    have HM := hid hMt
    subst hM
    have HNM := hid (show n = M.length by rw [HN.out, List.length_map])
    clear hnl hmb hMt
    have x1 := HX1.out.cell (i := 1) rfl
    have x2 := HX1.out.cell (i := 2) rfl
    by_cases h60 : n ≤ 60
    · by_cases ht2 : t.length ≤ 200
      · by_cases hx2 : x.length ≤ 200
        · have h60z : ¬ (60 : Int) < (n : Int) := by omega
          have htz : ¬ (200 : Int) < (t.length : Int) := by omega
          have hxz : ¬ (200 : Int) < (x.length : Int) := by omega
          have hM60 : M.length ≤ 60 := by rw [← HNM.out]; exact h60
          go_wp2_with fail
          refine (rprint_any M HM.out (by omega) w1 _ (HV.out.keep HB1.out)).mono ?_
          rintro e w2 ⟨rfl, hb2⟩
          have HB2 := hid (below_then HB1.out hb2)
          have HX2 := hid (HX1.out.keep hb2)
          obtain ⟨P, hP⟩ : ∃ P, P = Tm.printL M := ⟨_, rfl⟩
          have HP := hid hP
          rw [← hP]
          clear hb2 hP x1 x2
          by_cases hpl : P.length ≤ 20000
          · have hpz : ¬ (20000 : Int) < (P.length : Int) := by omega
            have RP := hid (show ∀ W, Below w.heap.size w W → Calls Tryz.prog 21 #[.slice a n cap] W fun e w' => e = .returned (str P) ∧ Below W.heap.size W w' from fun W hB => by
              rw [HP.out]; exact rprint_any M HM.out (by omega) W _ (HV.out.keep hB))
            have LP := hid (show ∀ W, Below w.heap.size w W → Calls Tryz.prog 13 #[str P] W fun e w' => ∃ p, e = .returned (.tuple #[.pointer (some ⟨p, 0, none⟩), .int .i64 (M.length : Nat), .int .i64 0]) ∧ IsStore w' p (Tm.rsort M) ∧ Below W.heap.size W w' from fun W hB => by
              rw [HP.out]; exact load_print M HM.out (by omega) (by rw [← HP.out]; exact hpl) W (HVV.out.keep hB) (HE.out.keep hB))
            go_upto_region 3 with fail
            go_wp2_with fail
            refine (RP.out _ HB2.out).mono ?_
            rintro e w3 ⟨rfl, hb3⟩
            have HB3 := hid (below_then HB2.out hb3)
            have HX3 := hid (HX2.out.keep hb3)
            clear hb3
            go_wp2_with fail
            refine (LP.out _ HB3.out).mono ?_
            rintro e w4 ⟨p, rfl, hS, hb4⟩
            have HS4 := hid hS
            have HB4 := hid (below_then HB3.out hb4)
            have HX4 := hid (HX3.out.keep hb4)
            clear hS hb4
            have HRL := hid (show (Tm.rsort M).length ≤ 1000 by have := Tm.rsort_len M; omega)
            have HRT := hid (Tm.rsort_tri HM.out)
            go_wp2_with fail
            refine (sterms_any p (Tm.rsort M) HRL.out w4 HS4.out).mono ?_
            rintro e w5 ⟨v5, rfl, hT5, _, hb5⟩
            obtain ⟨ae, ce, rfl, _, _, _⟩ := hT5.open
            have HT5 := hid hT5
            have HS5 := hid (HS4.out.keep hb5)
            have HB5 := hid (below_then HB4.out hb5)
            have HX5 := hid (HX4.out.keep hb5)
            clear hT5 hb5
            obtain ⟨E, hE0⟩ : ∃ E, E = So.terms (Tm.rsort M) := ⟨_, rfl⟩
            rw [← hE0] at HT5 ⊢
            have HEE := hid hE0
            have HSRT := hid (show So.Srt So.cT E by rw [hE0]; exact So.terms_srt HRT.out)
            have HIS := hid (show ∀ a ∈ E, So.isT a by rw [hE0]; exact So.terms_is HRT.out)
            have HEL := hid (show E.length ≤ 3000 by rw [hE0]; have := So.terms_len (Tm.rsort M); have := HRL.out; omega)
            clear hE0
            obtain ⟨m, hm0⟩ : ∃ m, m = E.length := ⟨_, rfl⟩
            rw [← hm0] at HT5 HEL ⊢
            have HM0 := hid hm0
            have hm3 := HEL.out
            clear hm0
            go_upto_region 8 with fail
            go_loopg [9] m (fun gk s9 wr => ∃ i : Nat, s9 = .int .i64 i ∧ 1 ≤ i ∧ i ≤ m + 1 ∧ m - i ≤ gk ∧ Hid (Below w5.heap.size w5 wr))
            case atStart => exact ⟨1, rfl, Nat.le_refl _, by omega, by omega, Below.refl _ _⟩
            case round =>
              obtain ⟨i, rfl, hi1, hi2, hg, HB⟩ := hrel
              by_cases hlt : i < m
              · have hltz : (i : Int) < (m : Int) := by omega
                have hiE : i < E.length := by rw [← HM0.out]; exact hlt
                have hjE : i - 1 < E.length := by omega
                have HTr := hid (HT5.out.keep HB.out)
                obtain ⟨b, off, rfl, hrow⟩ := HTr.out.get hiE
                have c0 := hrow i hiE 0 (by omega)
                have c1 := hrow i hiE 1 (by omega)
                have c2 := hrow i hiE 2 (by omega)
                have d0 := hrow (i - 1) hjE 0 (by omega)
                have d1 := hrow (i - 1) hjE 1 (by omega)
                have d2 := hrow (i - 1) hjE 2 (by omega)
                have hlt2 := (So.srt_lt So.ordT HSRT.out hjE hiE).2 (by omega)
                obtain ⟨q, hq⟩ : ∃ q, q = E[i] := ⟨_, rfl⟩
                obtain ⟨r, hr⟩ : ∃ r, r = E[i - 1] := ⟨_, rfl⟩
                have hqi := HIS.out _ (List.getElem_mem hiE)
                have hri := HIS.out _ (List.getElem_mem hjE)
                rw [← hq] at c0 c1 c2 hqi hlt2
                rw [← hr] at d0 d1 d2 hri hlt2
                obtain ⟨a1, a2, a3, a4⟩ := vt_len ⟨q, hqi⟩
                obtain ⟨e1, e2, e3, e4⟩ := vt_len ⟨r, hri⟩
                simp only at a1 a2 a3 a4 e1 e2 e3 e4
                have RC := hid (fun W => rcmp_any r.1 q.1 r.2.1 r.2.2 q.2.1 q.2.2 W ⟨e3, e4⟩ ⟨a3, a4⟩ e1 e2 a1 a2)
                obtain ⟨z, hz⟩ : ∃ z, z = So.cT r q := ⟨_, rfl⟩
                have hz' : Tm.cmp (Tm.showT r.1 r.2.1 r.2.2) (Tm.showT q.1 q.2.1 q.2.2) = z := hz.symm
                rw [hz'] at RC
                rw [← hz] at hlt2
                obtain ⟨qk, qt, qx⟩ := q
                obtain ⟨rk, rt, rx⟩ := r
                simp only [tm3, List.getElem?_cons_zero, List.getElem?_cons_succ, Nat.add_zero] at c0 c1 c2 d0 d1 d2
                have z1 : decide (0 ≤ z) = false := decide_eq_false (by omega)
                have z2 : decide (z < 0) = true := decide_eq_true (by omega)
                clear hq hr hz hz' hrow hqi hri a1 a2 a3 a4 e1 e2 e3 e4 hiE hjE hlt2
                go_upto_region 10 with fail
                have kc0 := fun p : Later wr.heap.size wr => p.keep c0
                have kc1 := fun p : Later wr.heap.size wr => p.keep c1
                have kc2 := fun p : Later wr.heap.size wr => p.keep c2
                have kd0 := fun p : Later wr.heap.size wr => p.keep d0
                have kd1 := fun p : Later wr.heap.size wr => p.keep d1
                have kd2 := fun p : Later wr.heap.size wr => p.keep d2
                clear c0 c1 c2 d0 d1 d2
                refine wp_region_later wr.heap.size (by kernel_rfl) (by kernel_rfl) ?_
                repeat (go_big_quiet_step ((go_at_call 31; with_reducible exact Later.call (Nat.le_refl _) (RC.out _))))
                refine wpQuiet_nil ?_
                rintro _ ⟨p2, rfl⟩
                have HB2' := hid (below_then HB.out p2.low)
                clear kc0 kc1 kc2 kd0 kd1 kd2
                go_wp2
                go_roundg (m - (i + 1))
                case measure => omega
                case rel => exact ⟨i + 1, by go_num, by omega, by omega, Nat.le_refl _, HB2'⟩
              · have hltz : ¬ (i : Int) < (m : Int) := by omega
                go_upto_region 14 with fail
                have HW5 := hid (below_then HB5.out HB.out)
                have HS6 := hid (HS5.out.keep HB.out)
                have HX6 := hid (HX5.out.keep HB.out)
                have HV6 := hid (HV.out.keep HW5.out)
                clear hltz hlt hg hi1 hi2
                obtain ⟨w6, hw6⟩ : ∃ w6, w6 = wr := ⟨_, rfl⟩
                rw [← hw6] at HW5 HS6 HX6 HV6 ⊢
                clear hw6 HB
                have SI := hid (fun (k : Int) (t x : List UInt8) (W : World) (hB : Below w6.heap.size w6 W) ht hx => sid_any p (Tm.rsort M) HRT.out HRL.out k t x W (HS6.out.keep hB) ht hx)
                rw [← HEE.out] at SI
                have HPOS := hid (fun q hq => id_pos HM.out (p := q) hq)
                rw [← HEE.out] at HPOS
                go_loopg [10, 11] n (fun gk s10 s11 wr => ∃ (i : Nat) (u : Bool), s10 = .bool u ∧ s11 = .int .i64 i ∧ i ≤ n ∧ n - i ≤ gk ∧ Hid (Below w6.heap.size w6 wr) ∧ Hid (u = anyB k t x (M.take i)))
                case atStart => exact ⟨0, false, rfl, rfl, Nat.zero_le _, Nat.le_refl _, Below.refl _ _, rfl⟩
                case round =>
                  obtain ⟨i, u, rfl, rfl, hin, hg, HB, HU⟩ := hrel
                  by_cases hlt : i < n
                  · have hltz : (i : Int) < (n : Int) := by omega
                    have hiM : i < M.length := by rw [← HNM.out]; exact hlt
                    obtain ⟨bl, off, rfl, hrow⟩ := (HV6.out.keep HB.out).get (i := i) (by rw [List.length_map]; exact hiM)
                    have HRW := hid (hrow i (by rw [List.length_map]; exact hiM))
                    rw [List.getElem_map] at HRW
                    have HST := hid (anyB_step k t x M hiM)
                    have HPO := hid (HPOS.out M[i] (List.getElem_mem hiM))
                    have HTI := hid (HM.out M[i] (List.getElem_mem hiM))
                    obtain ⟨q, hq⟩ : ∃ q, q = M[i] := ⟨_, rfl⟩
                    rw [← hq] at HRW HST HPO HTI
                    obtain ⟨hk1, hk2, hk3⟩ := tri_ok HTI.out
                    obtain ⟨⟨n1, t1, x1⟩, ⟨n2, t2, x2⟩, n3, t3, x3⟩ := q
                    simp only at hk1 hk2 hk3
                    obtain ⟨_, l1, l2⟩ := hk1
                    obtain ⟨_, l3, l4⟩ := hk2
                    obtain ⟨_, l5, l6⟩ := hk3
                    clear hq hrow
                    have c0 := HRW.out 0 (by omega)
                    have c1 := HRW.out 1 (by omega)
                    have c2 := HRW.out 2 (by omega)
                    have c3 := HRW.out 3 (by omega)
                    have c4 := HRW.out 4 (by omega)
                    have c5 := HRW.out 5 (by omega)
                    have c6 := HRW.out 6 (by omega)
                    have c7 := HRW.out 7 (by omega)
                    have c8 := HRW.out 8 (by omega)
                    simp only [ofT, Tri.cells, List.getElem?_cons_zero, List.getElem?_cons_succ, Nat.add_zero] at c0 c1 c2 c3 c4 c5 c6 c7 c8
                    obtain ⟨q1, q2, q3⟩ := HPO.out
                    simp only at q1 q2 q3
                    have S1 := hid (fun W hB => SI.out (n1 : Nat) t1 x1 W hB (by omega) (by omega))
                    have S2 := hid (fun W hB => SI.out (n2 : Nat) t2 x2 W hB (by omega) (by omega))
                    have S3 := hid (fun W hB => SI.out (n3 : Nat) t3 x3 W hB (by omega) (by omega))
                    obtain ⟨y1, hy1⟩ : ∃ y, y = idOf E (n1 : Nat) t1 x1 := ⟨_, rfl⟩
                    obtain ⟨y2, hy2⟩ : ∃ y, y = idOf E (n2 : Nat) t2 x2 := ⟨_, rfl⟩
                    obtain ⟨y3, hy3⟩ : ∃ y, y = idOf E (n3 : Nat) t3 x3 := ⟨_, rfl⟩
                    rw [← hy1] at S1 q1
                    rw [← hy2] at S2 q2
                    rw [← hy3] at S3 q3
                    have z1 : ¬ ((y1 : Int) < 1) := by omega
                    have z2 : ¬ ((y2 : Int) < 1) := by omega
                    have z3 : ¬ ((y3 : Int) < 1) := by omega
                    clear hy1 hy2 hy3 q1 q2 q3 l1 l2 l3 l4 l5 l6 HPO
                    go_upto_region 16 with fail
                    go_wp2_with fail
                    refine (S1.out _ HB.out).mono ?_
                    rintro e v1 ⟨rfl, hb⟩
                    have HV1 := hid (below_then HB.out hb)
                    have c3 := below_keep hb c3
                    have c4 := below_keep hb c4
                    have c5 := below_keep hb c5
                    have c6 := below_keep hb c6
                    have c7 := below_keep hb c7
                    have c8 := below_keep hb c8
                    have c0 := below_keep hb c0
                    have c1 := below_keep hb c1
                    have c2 := below_keep hb c2
                    clear hb
                    go_wp2_with fail
                    refine (S2.out _ HV1.out).mono ?_
                    rintro e v2 ⟨rfl, hb⟩
                    have HV2 := hid (below_then HV1.out hb)
                    have c3 := below_keep hb c3
                    have c4 := below_keep hb c4
                    have c5 := below_keep hb c5
                    have c6 := below_keep hb c6
                    have c7 := below_keep hb c7
                    have c8 := below_keep hb c8
                    have c0 := below_keep hb c0
                    have c1 := below_keep hb c1
                    have c2 := below_keep hb c2
                    clear hb
                    go_wp2_with fail
                    refine (S3.out _ HV2.out).mono ?_
                    rintro e v3 ⟨rfl, hb⟩
                    have HV3 := hid (below_then HV2.out hb)
                    have c3 := below_keep hb c3
                    have c4 := below_keep hb c4
                    have c5 := below_keep hb c5
                    have c6 := below_keep hb c6
                    have c7 := below_keep hb c7
                    have c8 := below_keep hb c8
                    have c0 := below_keep hb c0
                    have c1 := below_keep hb c1
                    have c2 := below_keep hb c2
                    clear hb
                    have HXv := hid (HX6.out.keep HV3.out)
                    have d0 := HXv.out.cell (i := 0) rfl
                    have d1 := HXv.out.cell (i := 1) rfl
                    have d2 := HXv.out.cell (i := 2) rfl
                    go_upto_region 18 with fail
                    have E1 := eq_tmI (n1, t1, x1) k t x
                    have E2 := eq_tmI (n2, t2, x2) k t x
                    have E3 := eq_tmI (n3, t3, x3) k t x
                    simp only at E1 E2 E3
                    obtain ⟨b1, hb1'⟩ : ∃ b1, b1 = eqB k t x (n1, t1, x1) := ⟨_, rfl⟩
                    obtain ⟨b2, hb2'⟩ : ∃ b2, b2 = eqB k t x (n2, t2, x2) := ⟨_, rfl⟩
                    obtain ⟨b3, hb3'⟩ : ∃ b3, b3 = eqB k t x (n3, t3, x3) := ⟨_, rfl⟩
                    have HB1' := hid (show eqB k t x (n1, t1, x1) = b1 from hb1'.symm)
                    have HB2' := hid (show eqB k t x (n2, t2, x2) = b2 from hb2'.symm)
                    have HB3' := hid (show eqB k t x (n3, t3, x3) = b3 from hb3'.symm)
                    have F1 := fun W => (E1 W).trans (by rw [show decide ((n1 : Int) = k ∧ t1 = t ∧ x1 = x) = b1 from hb1'.symm])
                    have F2 := fun W => (E2 W).trans (by rw [show decide ((n2 : Int) = k ∧ t2 = t ∧ x2 = x) = b2 from hb2'.symm])
                    have F3 := fun W => (E3 W).trans (by rw [show decide ((n3 : Int) = k ∧ t3 = t ∧ x3 = x) = b3 from hb3'.symm])
                    clear E1 E2 E3 hb1' hb2' hb3'
                    cases u with
                    | true =>
                      go_region
                      go_wp2
                      go_roundg (n - (i + 1))
                      case measure => omega
                      case rel => exact ⟨i + 1, true, rfl, by go_num, by omega, by omega, HV3.out.drew, by show _ = _; rw [HST.out, ← HU.out, HB1'.out, HB2'.out, HB3'.out]; rfl⟩
                    | false =>
                      cases b1 with
                      | true =>
                        go_region
                        go_wp2
                        go_roundg (n - (i + 1))
                        case measure => omega
                        case rel => exact ⟨i + 1, true, rfl, by go_num, by omega, by omega, HV3.out.drew, by show _ = _; rw [HST.out, ← HU.out, HB1'.out, HB2'.out, HB3'.out]; rfl⟩
                      | false =>
                        cases b2 with
                        | true =>
                          go_region
                          go_wp2
                          go_roundg (n - (i + 1))
                          case measure => omega
                          case rel => exact ⟨i + 1, true, rfl, by go_num, by omega, by omega, HV3.out.drew, by show _ = _; rw [HST.out, ← HU.out, HB1'.out, HB2'.out, HB3'.out]; rfl⟩
                        | false =>
                          go_region
                          go_wp2
                          go_roundg (n - (i + 1))
                          case measure => omega
                          case rel => exact ⟨i + 1, b3, rfl, by go_num, by omega, by omega, HV3.out.drew, by show _ = _; rw [HST.out, ← HU.out, HB1'.out, HB2'.out, HB3'.out]; rfl⟩
                  · obtain rfl : i = n := by omega
                    have HID := hid (id_any HM.out k t x)
                    rw [← HEE.out] at HID
                    have HUU := hid (show u = anyB k t x M by have h := HU.out; rw [h, HNM.out, List.take_length])
                    have HXv := hid (HX6.out.keep HB.out)
                    have d0 := HXv.out.cell (i := 0) rfl
                    have d1 := HXv.out.cell (i := 1) rfl
                    have d2 := HXv.out.cell (i := 2) rfl
                    have SS := hid (SI.out k t x _ HB.out (by omega) (by omega))
                    obtain ⟨y, hy⟩ : ∃ y, y = idOf E k t x := ⟨_, rfl⟩
                    rw [← hy] at SS HID
                    rw [← HUU.out] at HID
                    clear hy
                    have KF := hid (fun (W : World) (h : Below w.heap.size w W) => KN.out W (HVV.out.keep h) (HE.out.keep h))
                    go_wp2_with fail
                    refine SS.out.mono ?_
                    rintro e v1 ⟨rfl, hb⟩
                    have HV1 := hid (below_then HW5.out (below_then HB.out hb))
                    clear hb
                    cases u with
                    | true =>
                      have hy0 : (0 : Int) < (y : Int) := of_decide_eq_true HID.out
                      go_wp2_with (go_at_call 16; refine (KF.out _ HV1.out).mono ?_; rintro e v2 ⟨rfl, hb⟩; have HFF := hid (below_then HV1.out hb); clear hb)
                      go_ret
                      exact ⟨rfl, HFF.out⟩
                    | false =>
                      have hy0 : ¬ (0 : Int) < (y : Int) := of_decide_eq_false HID.out
                      go_wp2_with (go_at_call 16; refine (KF.out _ HV1.out).mono ?_; rintro e v2 ⟨rfl, hb⟩; have HFF := hid (below_then HV1.out hb); clear hb)
                      go_ret
                      exact ⟨rfl, HFF.out⟩
          · have hpz : (20000 : Int) < (P.length : Int) := by omega
            go_wp2
            go_ret
            exact ⟨rfl, HB2.out⟩
        · have h60z : ¬ (60 : Int) < (n : Int) := by omega
          have htz : ¬ (200 : Int) < (t.length : Int) := by omega
          have hxz : (200 : Int) < (x.length : Int) := by omega
          go_wp2
          go_ret
          exact ⟨rfl, HB1.out⟩
      · have h60z : ¬ (60 : Int) < (n : Int) := by omega
        have htz : (200 : Int) < (t.length : Int) := by omega
        go_wp2
        go_ret
        exact ⟨rfl, HB1.out⟩
    · have h60z : (60 : Int) < (n : Int) := by omega
      go_wp2
      go_ret
      exact ⟨rfl, HB1.out⟩
theorem storeTerms_walk (H : Type) (enc : TypeId × Value → H) (W : World) (base : Nat) (args : Array Value) (ds gs : List (DataW H)) (before : List MemPlace)
    (hval : ∀ (j : Nat) t v, Tryz.f8.params[j]? = some t → args[j]? = some v → Value.okWide Tryz.prog W .any base t v)
    (hW : DataW.Whole enc Tryz.prog Tryz.f8.params.toList Rows.storeTermsSpec.vars false W args.toList ds gs before)
    (hz : (DataW.weightsEach Tryz.prog (Tryz.f8.params.toList ++ Rows.storeTermsSpec.plain.varTypes Tryz.prog) (ds ++ gs)).all (· ≤ reachBytes) = true)
    (hL : laidMetH Tryz.prog Rows.storeTermsRow.laid W) (hsh : W.ShapedOpen Tryz.prog) :
    Calls Tryz.prog 8 args W fun e W' => e = .returned (.bool true) ∧ Below W.heap.size W W' := by
  obtain ⟨p, q, hA, _, _, _, _⟩ := hW
  rw [Tryz.params8] at hA hval
  rw [Tryz.params8] at hz
  obtain ⟨v0, vs0, d0, ds0, p0, q0, hargs, rfl, rfl, h0, r0⟩ := trodAll_cons hA
  obtain ⟨v1, vs1, d1, ds1, p1, q1, rfl, rfl, rfl, h1, r1⟩ := trodAll_cons r0
  obtain ⟨rfl, rfl, rfl⟩ := trodAll_nil r1
  obtain rfl : args = #[v0, v1] := by cases args; simp_all
  obtain ⟨k1, t1, x1, rfl, b1, l1, m1⟩ := arg_term (hval 1 61 v1 rfl rfl) h1
  obtain ⟨l0, L0, b0, z0⟩ := arg_tris (hval 0 39 v0 rfl rfl) h0 (sized_arg hz (j := 0) (t := 39) (d := d0) rfl rfl)
  obtain ⟨hV, hE⟩ := vars5_of hL hsh
  exact storeTerms_any l0 k1 t1 x1 W v0 L0 b0 z0 b1 l1 m1 hV hE

theorem storeTerms_lifted (os : Os) (started : os.Started) (H : Type) (enc : TypeId × Value → H) (F : Stop.Interp) :
    ReturnsInHanded {} Tryz.checked os 8 .any ((OpenSpec.ofChange Rows.storeTermsSpec).preRow enc Tryz.prog Tryz.f8 Rows.storeTermsRow.domain false Rows.storeTermsRow.laid) (((OpenSpec.ofChange Rows.storeTermsSpec).at F).post enc Tryz.prog Tryz.f8 false true false false) := by
  obtain ⟨places, hx⟩ : ∃ places, DataW.whole enc Tryz.prog ((laidWorld os).forCall (fun _ _ => 0) ⟨#[], #[.slice none 0 0, .agg #[.int .i64 0, .string ByteArray.empty, .string ByteArray.empty]], []⟩).memory Tryz.f8.params.toList Rows.storeTermsSpec.vars false (#[.slice none 0 0, .agg #[.int .i64 0, .string ByteArray.empty, .string ByteArray.empty]] : Array Value).toList 8 = some ([.nil, .agg [.lit (.int .i64 0), .lit (.string []), .lit (.string [])]], [], places) := ⟨[], by kernel_rfl⟩
  refine returnsInHanded_of_row (C := Tryz.checked) (s := OpenSpec.ofChange Rows.storeTermsSpec) own started (by kernel_rfl) Tryz.func8
    (witness_shaped_row (enc := enc) (C := Tryz.checked) false (laidWorld os) #[.slice none 0 0, .agg #[.int .i64 0, .string ByteArray.empty, .string ByteArray.empty]] (World.laidAll_os _ _ _) (World.shaped_of_ZipB (by kernel_rfl) (by kernel_rfl)) (by kernel_rfl)
      (OpenSpec.preRow_of_cond 8 hx (by kernel_rfl) (fun k hk => by cases hk) (by kernel_rfl) (laid_met os _))) ?_
  intro W base args ds gs before hval hW _ _ hz hL hsh _
  refine (storeTerms_walk H enc W base args ds gs before hval hW hz hL hsh).mono fun e W' ⟨he, hb⟩ => ⟨_, he, ?_⟩
  exact law_post (fn := Tryz.f8) (s := Rows.storeTermsSpec) (tb := 4) rfl (fun ds hd => by match ds, hd with | [d0, d1], _ => rfl) rfl Tryz.underlying4 (by kernel_rfl) hW hb

theorem and_tt {a b : Bool} (h : a = true) (k : b = true) : (a && b) = true := by rw [h, k]; rfl
set_option maxHeartbeats 4000000 in
theorem storeTerms_closed : joinedFacts Tryz.pinned.checked.prog 8 Tryz.f8 (OpenSpec.ofChange Rows.storeTermsSpec).bare Rows.storeTermsRow = true := by
  unfold joinedFacts
  repeat' (with_reducible refine and_tt ?_ ?_)
  all_goals as_aux_lemma => kernel_rfl
theorem storeTerms_said : Rows.StoreTermsSaid :=
  OpenClaim.holds_of_cond 8 Tryz.f8 rfl rfl rfl rfl rfl rfl rfl ⟨rfl, rfl, rfl, rfl, rfl⟩ rfl rfl rfl rfl rfl (by kernel_rfl) Tryz.func8 storeTerms_closed
    (of_decide_eq_true (by kernel_rfl)) (by unfold Func.isWrapper; first | (rw [if_pos (by decide +kernel)]; kernel_rfl) | (rw [if_neg (by decide +kernel)]; exact ⟨rfl, rfl⟩))
    (fun os started H enc _ F => by rw [OpenClaim.pre_eq_preRow]; exact storeTerms_lifted os started H enc F)

theorem storeTerms_plain (f : FuncId) (fn : Func) (hf : Tryz.pinned.checked.prog.funcNamed Rows.storeTermsRow.func = some f) (hfn : Tryz.pinned.checked.prog.funcs[f]? = some fn) :
    true = Tryz.pinned.checked.prog.looks [] ∧ ∀ (j : Nat) t, fn.params[j]? = some t → Tryz.pinned.checked.prog.wantsStandIn t = false := by
  obtain rfl : f = 8 := Option.some.inj ((show Tryz.prog.funcNamed Rows.storeTermsRow.func = some 8 by kernel_rfl).symm.trans hf) |>.symm
  obtain rfl : fn = Tryz.f8 := (Option.some.inj (Tryz.func8.symm.trans hfn)).symm
  refine ⟨by kernel_rfl, fun j t ht => ?_⟩
  have h := Array.mem_of_getElem? ht
  have hall : Tryz.f8.params.all (fun t => !Tryz.prog.wantsStandIn t) = true := by kernel_rfl
  have := Array.all_eq_true_iff_forall_mem.1 hall t h
  show Tryz.prog.wantsStandIn t = false
  simpa using this

/-- THE STATEMENT. -/
theorem storeTerms_card : Rows.StoreTermsCardSaid :=
  Claim7.holds_tied_plain_at .later [] _ _ _ _ storeTerms_said (fun _ h => by cases h) (by kernel_rfl) (fun _ h => by cases h) storeTerms_row_tie rfl ⟨rfl, rfl⟩ (by kernel_rfl) rfl storeTerms_plain (by kernel_rfl)
end Go.Proofs.YtjaebndajhppgaaGreatDoor
