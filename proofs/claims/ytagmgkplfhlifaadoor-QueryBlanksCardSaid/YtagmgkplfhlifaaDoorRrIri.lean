/- The document's reader of paths: an IRI. -/
import Derived.Test.YtagmgkplfhlifaaDoorRrBase
import Derived.Test.YtagmgkplfhlifaaDoorTmRIri
namespace Go.Proofs.YtagmgkplfhlifaaDoor
set_option linter.unusedVariables false
set_option linter.unusedSimpArgs false
set_option maxRecDepth 100000
open Go.ChangeShapes Go.WideShapes Go.ChangeAt Go.RowKit
open Au
theorem Au.Qp.cutGt_none : ∀ r : T, (∀ i : Nat, r[i]? ≠ some 62) → Qp.cutGt r = none
  | [], _ => rfl
  | c :: r, h => by
    have h0 : c ≠ 62 := fun e => h 0 (by simp [e])
    unfold Qp.cutGt
    rw [if_neg h0, Qp.cutGt_none r (fun i => by have := h (i + 1); simpa using this)]
    rfl
theorem Au.Qp.cutGt_some : ∀ (r : T) (m : Nat), (∀ i : Nat, i < m → r[i]? ≠ some 62) → r[m]? = some 62 → Qp.cutGt r = some (r.take m, r.drop (m + 1))
  | [], m, _, h => by simp at h
  | c :: r, 0, _, h => by
    have h0 : c = 62 := by simpa using h
    unfold Qp.cutGt
    rw [if_pos h0]; simp
  | c :: r, m + 1, h, h1 => by
    have h0 : c ≠ 62 := fun e => h 0 (by omega) (by simp [e])
    unfold Qp.cutGt
    rw [if_neg h0, Qp.cutGt_some r m (fun i hi => by have := h (i + 1) (by omega); simpa using this) (by simpa using h1)]
    simp
/-- What iri leaves. -/
def RIriPost (q : Nat) (l : T) (i : Nat) (w : World) (e : Ending) (w' : World) : Prop :=
  ∃ (t : T) (E P : Int) (j : Nat), e = .returned (str t) ∧ i ≤ j ∧ j ≤ l.length ∧ Rr w' q l j E P ∧ Frm (isQ q) w w' ∧ t.length ≤ l.length ∧
    ((E = 0 ∧ Qp.iri (l.drop i) = .ok t (l.drop j)) ∨ (E = 2 ∧ t = [] ∧ P = j ∧ Qp.iri (l.drop i) = .err (l.drop j)))
set_option maxHeartbeats 4000000 in
theorem rrIri_any (W0 : World) (q : Nat) (l : T) (i : Nat) (P0 : Int) (w : World) (hr : Rr w q l i 0 P0) (hl : l.length ≤ 100000000) (hi : i ≤ l.length) (hV : T8 W0) (hq : W0.heap.size ≤ q) (hB : Below W0.heap.size W0 w) :
    Calls Tryd.prog 92 #[.pointer (some ⟨q, 0, none⟩)] w (RIriPost q l i w) := by
  have HV := hid hV
  have HB := hid hB
  have NX := rnext_any q l i 0 P0 w hr hl hi
  unfold NextPost at NX
  have NX := hid NX
  clear hr hV hB
  go_enter Tryd.func92, Tryd.ntmps92
  go_wp2_with fail
  refine NX.out.mono ?_
  rintro e w2 ⟨j, rfl, hij, hj, hd, hR2, hF2⟩
  have HD := hid hd
  have HR2 := hid hR2
  have HF2 := hid hF2
  have HB2 := hid (HB.out.trans (hF2.below (by have := HB.out.size; omega) (fun k hk e => by omega)))
  clear hd hR2 hF2
  obtain ⟨n, hn⟩ : ∃ n, n = nxt 0 (l.drop j) := ⟨_, rfl⟩
  rw [← hn]
  have HN := hid (show n = Qp.hd (l.drop j) by rw [hn]; unfold nxt; rw [if_pos rfl])
  clear hn
  obtain ⟨c0, c1, c2, c3, f0, f1, f2, f3⟩ := HR2.out.cells
  by_cases h60 : n = 60
  case neg =>
    have b1 : ((n : Int) != 60) = true := bne_iff_ne.2 (by omega)
    have HE := hid (show Qp.iri (l.drop i) = .err (l.drop j) by
      unfold Qp.iri
      rw [← HD.out]
      have hne := HN.out
      cases hc : l.drop j with
      | nil => rfl
      | cons c r1 =>
        rw [hc] at hne
        simp only
        rw [if_neg (fun e => by subst e; exact h60 hne)])
    have FL := hid (rfail_new q l j P0 2 (j : Nat) w2 HR2.out)
    clear h60
    go_wp2_with fail
    refine FL.out.mono ?_
    rintro e w3 ⟨rfl, hR3, hF3⟩
    have HR3 := hid hR3
    have HF3 := hid (HF2.out.trans hF3 (fun _ _ e => e))
    clear c0 c1 c2 c3 f0 f1 f2 f3 hR3 hF3
    go_wp2
    go_ret
    exact ⟨[], 2, (j : Nat), j, rfl, hij, hj, HR3.out, HF3.out, Nat.zero_le _, Or.inr ⟨rfl, rfl, rfl, HE.out⟩⟩
  have hh : ∃ r1, l.drop j = 60 :: r1 := by
    obtain ⟨c, r1, h1, h2⟩ := Qp.hd_cons (HN.out.symm.trans h60) (by decide)
    exact ⟨r1, by rw [h1]; congr 1; exact UInt8.toNat_inj.1 h2⟩
  obtain ⟨r1, hr1⟩ := hh
  obtain ⟨hjl, hget, hdu⟩ := qdrop_get l j 60 r1 hr1
  have HR1 := hid hr1
  have HDU := hid hdu
  have b1 : ((n : Int) != 60) = false := by rw [h60]; rfl
  have hrl : r1.length + 1 + j = l.length := by
    have := congrArg List.length hr1
    rw [List.length_drop, List.length_cons] at this
    omega
  have HRL := hid hrl
  have HAT := hid (show ∀ m : Nat, r1[m]? = l[j + 1 + m]? from fun m => by rw [← hdu, List.getElem?_drop])
  clear hr1 hget hdu h60 hrl
  go_wp2
  go_loopg [3] l.length (fun gk s3 wr => wr = w2 ∧ ∃ k : Nat, j + 1 ≤ k ∧ k ≤ l.length ∧ l.length - k ≤ gk ∧ s3 = .int .i64 k ∧ Hid (∀ m, j + 1 + m < k → r1[m]? ≠ some 62))
  case atStart => exact ⟨rfl, j + 1, by omega, by omega, by omega, by go_num, fun m hm => by omega⟩
  case round =>
    obtain ⟨rfl, k, hjk, hk, hg, rfl, HI⟩ := hrel
    by_cases hlt : k < l.length
    case neg =>
      obtain rfl : k = l.length := by omega
      have hb1 : decide ((l.length : Int) < (l.length : Int)) = false := decide_eq_false (by omega)
      have hb2 : decide ((l.length : Int) ≤ (l.length : Int)) = true := decide_eq_true (by omega)
      have HE := hid (show Qp.iri (l.drop i) = .err (l.drop j) by
        unfold Qp.iri
        rw [← HD.out, HR1.out]
        simp only [if_pos rfl]
        rw [Qp.cutGt_none r1 (fun m => by
          by_cases hm : j + 1 + m < l.length
          · exact HI.out m hm
          · rw [List.getElem?_eq_none (by have := HRL.out; omega)]; intro h; cases h)]
        simp only [if_true])
      have hbl : ((l.length : Int) < (l.length : Int)) = False := by simp
      go_wp2
      go_quiet (fail)
      obtain ⟨w3, hw3⟩ : ∃ w3, w3 = wr.drewN nq := ⟨_, rfl⟩
      have hb3 : Below wr.heap.size wr w3 := by rw [hw3]; exact below_drawn (Below.refl _ _) nq
      have HR3 := hid (HR2.out.keep hb3)
      have HF3 := hid (HF2.out.trans (Frm.of_below (X := isQ q) hb3) (fun _ _ e => e))
      rw [← hw3]
      obtain ⟨c0, c1, c2, c3, f0, f1, f2, f3⟩ := HR3.out.cells
      have FL := hid (rfail_new q l j P0 2 (j : Nat) w3 HR3.out)
      clear hw3 hb3
      go_wp2_with fail
      refine FL.out.mono ?_
      rintro e w4 ⟨rfl, hR4, hF4⟩
      have HR4 := hid hR4
      have HF4 := hid (HF3.out.trans hF4 (fun _ _ e => e))
      clear c0 c1 c2 c3 f0 f1 f2 f3 hR4 hF4
      go_wp2
      go_ret
      exact ⟨[], 2, (j : Nat), j, rfl, hij, hj, HR4.out, HF4.out, Nat.zero_le _, Or.inr ⟨rfl, rfl, rfl, HE.out⟩⟩
    case pos =>
      obtain ⟨c, hget⟩ : ∃ c, l[k]? = some c := ⟨l[k], List.getElem?_eq_getElem hlt⟩
      have hcc := fun q => ba_get l k c hget q
      have hkI : (k : Int) < (l.length : Int) := by omega
      have hkb : decide ((k : Int) < (l.length : Int)) = true := decide_eq_true hkI
      have hkc : decide ((l.length : Int) ≤ (k : Int)) = false := decide_eq_false (by omega)
      have hkd : decide (l.length ≤ k) = false := decide_eq_false (by omega)
      have HG := hid hget
      clear hget
      by_cases h62 : c = 62
      case neg =>
        have hcn : c.toNat ≠ 62 := fun e => h62 (UInt8.toNat_inj.1 e)
        have b2 : ((c.toNat : Int) != 62) = true := bne_iff_ne.2 (by omega)
        have HI2 := hid (show ∀ m, j + 1 + m < k + 1 → r1[m]? ≠ some 62 from fun m hm => by
          by_cases hm2 : j + 1 + m < k
          · exact HI.out m hm2
          · obtain rfl : k = j + 1 + m := by omega
            rw [HAT.out, HG.out]; intro h; exact h62 (Option.some.inj h))
        clear h62
        go_wp2
        go_roundg (l.length - (k + 1))
        case measure => omega
        case rel => exact ⟨rfl, k + 1, by omega, by omega, Nat.le_refl _, by go_num, HI2.out⟩
      case pos =>
        have b2 : ((c.toNat : Int) != 62) = false := by rw [h62]; rfl
        obtain ⟨m, hm⟩ : ∃ m, k = j + 1 + m := ⟨k - (j + 1), by omega⟩
        have HC := hid (show Qp.cutGt r1 = some (r1.take m, r1.drop (m + 1)) from Qp.cutGt_some r1 m (fun x hx => HI.out x (by omega)) (by rw [HAT.out, ← hm, HG.out, h62]))
        obtain ⟨t, ht⟩ : ∃ t, t = r1.take m := ⟨_, rfl⟩
        have hex : (⟨l.toArray⟩ : ByteArray).extract (j + 1) k = ⟨t.toArray⟩ := by
          rw [ba_extract, ht, HDU.out, show k - (j + 1) = m by omega]
        have htl : t.length ≤ l.length := by rw [ht, List.length_take]; have := HRL.out; omega
        have HDK := hid (show l.drop (k + 1) = r1.drop (m + 1) by rw [hm, ← HDU.out, List.drop_drop, show j + 1 + m + 1 = j + 1 + (m + 1) by omega])
        rw [← ht] at HC
        have HE0 := hid (show Qp.iri (l.drop i) = if Tm.isIRI t then Qp.Ir.ok t (l.drop (k + 1)) else .err (l.drop j) by
          unfold Qp.iri
          rw [← HD.out, HR1.out]
          simp only [if_pos rfl]
          rw [HC.out, HDK.out]
          simp only [if_true])
        have TI := hid fun p : Later wr.heap.size wr => riri_any t p.it (by omega) (HV.out.keep (HB2.out.trans (p.low.mono HB2.out.size)))
        obtain ⟨z, hz⟩ : ∃ z, z = Tm.isIRI t := ⟨_, rfl⟩
        rw [← hz] at TI
        have HZ := hid hz
        have hjk2 : j + 1 ≤ k := hjk
        have hjkI : (j : Int) + 1 ≤ (k : Int) := by omega
        clear h62 ht hm hz
        have c0q := fun p : Later wr.heap.size wr => p.keep c0
        have c1q := fun p : Later wr.heap.size wr => p.keep c1
        go_upto_region 7 with fail
        refine wp_region_later wr.heap.size (by kernel_rfl) (by kernel_rfl) ?_
        repeat (go_big_quiet_step (first | (go_at_call 53; with_reducible exact Later.call (Nat.le_refl _) (TI.out _)) | fail))
        refine wpQuiet_nil ?_
        rintro w3 ⟨p, rfl⟩
        obtain ⟨w3, hw3⟩ : ∃ w3, w3 = p.it := ⟨_, rfl⟩
        have hb3 : Below wr.heap.size wr w3 := by rw [hw3]; exact p.low
        rw [← hw3]
        have HB3 := hid (HB2.out.trans (hb3.mono HB2.out.size))
        have HR3 := hid (HR2.out.keep hb3)
        have HF3 := hid (HF2.out.trans (Frm.of_below (X := isQ q) hb3) (fun _ _ e => e))
        clear hw3 hb3 c0q c1q c0 c1 c2 c3 f0 f1 f2 f3 TI
        obtain ⟨c0, c1, c2, c3, f0, f1, f2, f3⟩ := HR3.out.cells
        cases z
        case false =>
          have HE := hid (show Qp.iri (l.drop i) = .err (l.drop j) by rw [HE0.out, ← HZ.out]; rfl)
          have FL := hid (rfail_new q l j P0 2 (j : Nat) w3 HR3.out)
          go_wp2_with fail
          refine FL.out.mono ?_
          rintro e w4 ⟨rfl, hR4, hF4⟩
          have HR4 := hid hR4
          have HF4 := hid (HF3.out.trans hF4 (fun _ _ e => e))
          clear c0 c1 c2 c3 f0 f1 f2 f3 hR4 hF4
          go_wp2
          go_ret
          exact ⟨[], 2, (j : Nat), j, rfl, hij, hj, HR4.out, HF4.out, Nat.zero_le _, Or.inr ⟨rfl, rfl, rfl, HE.out⟩⟩
        case true =>
          have HE := hid (show Qp.iri (l.drop i) = .ok t (l.drop (k + 1)) by rw [HE0.out, ← HZ.out]; rfl)
          go_upto_region 10 with fail
          go_quiet (fail)
          obtain ⟨w4, hw4⟩ : ∃ w4, w4 = w3.drewN nq := ⟨_, rfl⟩
          have hb4 : Below w3.heap.size w3 w4 := by rw [hw4]; exact below_drawn (Below.refl _ _) nq
          have HR4 := hid (HR3.out.keep hb4)
          have HF4 := hid (HF3.out.trans (Frm.of_below (X := isQ q) hb4) (fun _ _ e => e))
          rw [← hw4]
          clear hw4 hb4 c0 c1 c2 c3 f0 f1 f2 f3
          obtain ⟨c0, c1, c2, c3, f0, f1, f2, f3⟩ := HR4.out.cells
          go_wp2
          go_ret
          exact ⟨t, 0, P0, k + 1, rfl, by omega, by omega, HR4.out.to (k + 1), HF4.out.set (Or.inl rfl) 1 _, htl, Or.inl ⟨rfl, HE.out⟩⟩
end Go.Proofs.YtagmgkplfhlifaaDoor
