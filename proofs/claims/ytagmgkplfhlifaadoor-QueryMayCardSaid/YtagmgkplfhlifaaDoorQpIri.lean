/- query's reader of paths: an IRI; a path around another. -/
import Derived.Test.YtagmgkplfhlifaaDoorQpRd
import Derived.Lib.IndexMore
namespace Go.Proofs.YtagmgkplfhlifaaDoor
set_option linter.unusedVariables false
set_option linter.unusedSimpArgs false
set_option maxRecDepth 100000
open Go.ChangeShapes Go.WideShapes Go.ChangeAt Go.RowKit
open Au
/-- What the library's variables hold. -/
def QVars (w : World) : Prop := T8 w ∧ ∃ m : Int, w.cell? ⟨2, 0, none⟩ = some (.int .i64 m)
theorem QVars.keep {w w' : World} (h : QVars w) (hb : Below w.heap.size w w') : QVars w' := ⟨h.1.keep hb, h.2.elim fun m hm => ⟨m, below_keep hb hm⟩⟩
theorem cut_gt : ∀ s : T, Lib.cut s [62] = (match Qp.cutGt s with | some p => (p.1, p.2, true) | none => (s, [], false))
  | [] => rfl
  | b :: l => by
    have ih := cut_gt l
    by_cases hb : b = 62
    · subst hb
      have h0 : Lib.index (62 :: l) [62] = 0 := by unfold Lib.index; rw [if_pos (by rfl)]
      unfold Lib.cut Qp.cutGt
      rw [h0, if_pos (Int.le_refl _), if_pos rfl]
      rfl
    · have hp : ([62] : T).isPrefixOf (b :: l) = false := by simp [List.isPrefixOf]; exact fun h => hb h.symm
      have hi : Lib.index (b :: l) [62] = if Lib.index l [62] == -1 then -1 else Lib.index l [62] + 1 := by rw [Lib.index, hp]; rfl
      have hg := Lib.index_ge l [62]
      unfold Lib.cut at ih ⊢
      unfold Qp.cutGt
      rw [hi, if_neg hb]
      by_cases h1 : Lib.index l [62] = -1
      · have e1 : (if (Lib.index l [62] == -1) = true then (-1 : Int) else Lib.index l [62] + 1) = -1 := by rw [h1]; rfl
        rw [e1, if_neg (by decide)]
        rw [h1, if_neg (by decide)] at ih
        cases hc : Qp.cutGt l with
        | none => rfl
        | some p => rw [hc] at ih; simp at ih
      · have hne : (Lib.index l [62] == -1) = false := beq_eq_false_iff_ne.2 h1
        obtain ⟨n, hn⟩ : ∃ n : Nat, Lib.index l [62] = n := ⟨(Lib.index l [62]).toNat, by omega⟩
        rw [hn] at ih hne ⊢
        rw [if_pos (by omega)] at ih
        rw [hne]
        simp only [Bool.false_eq_true, if_false]
        rw [if_pos (by omega)]
        cases hc : Qp.cutGt l with
        | none => rw [hc] at ih; simp at ih
        | some p =>
          rw [hc] at ih
          simp only [Prod.mk.injEq, and_true] at ih
          have e : ((n : Int) + 1).toNat = n + 1 := by omega
          rw [e]
          simp only [Option.map_some, List.take_succ_cons, Prod.mk.injEq, List.cons.injEq, true_and, and_true]
          refine ⟨ih.1, ?_⟩
          rw [show n + 1 + ([62] : T).length = (n + ([62] : T).length) + 1 by omega, List.drop_succ_cons]
          have := ih.2
          simpa using this
theorem frm_vars {q : Nat} {w w' : World} (h : QVars w) (hf : Frm (isQ q) w w') (hw : ∀ W, QVars W → True) (hb : ∀ B, B ≤ q → B ≤ w.heap.size → Below B w w') : True := trivial
/-- What iri leaves. -/
def IriPost (q : Nat) (l : T) (i : Nat) (w : World) (e : Ending) (w' : World) : Prop :=
  ∃ (t : T) (no : Int) (j : Nat), e = .returned (.tuple #[str t, .int .i64 no]) ∧ i ≤ j ∧ j ≤ l.length ∧ Qr w' q l j ∧ Frm (isQ q) w w' ∧ t.length ≤ l.length ∧
    ((no = 0 ∧ Qp.iri (l.drop i) = .ok t (l.drop j)) ∨ (no = 2 ∧ t = [] ∧ Qp.iri (l.drop i) = .err (l.drop j)))
set_option maxHeartbeats 4000000 in
theorem qiri_any (W0 : World) (q : Nat) (l : T) (i : Nat) (w : World) (hr : Qr w q l i) (hl : l.length ≤ 100000000) (hi : i ≤ l.length) (hV : QVars W0) (hq : W0.heap.size ≤ q) (hB : Below W0.heap.size W0 w) :
    Calls Tryd.prog 104 #[.pointer (some ⟨q, 0, none⟩)] w (IriPost q l i w) := by
  have HR := hid hr
  have HV := hid hV
  have HB := hid hB
  have PK := hid (qpeek_any q l i w hr hl hi)
  clear hr hV hB
  unfold PeekPost at PK
  go_enter Tryd.func104, Tryd.ntmps104
  go_wp2_with fail
  refine PK.out.mono ?_
  rintro e w2 ⟨j, rfl, hij, hj, hd, hR2, hF2⟩
  have HD := hid hd
  have HR2 := hid hR2
  have HF2 := hid hF2
  have HB2 := hid (HB.out.trans (hF2.below (by have := HB.out.size; omega) (fun k hk e => by omega)))
  clear hd hR2 hF2
  obtain ⟨n, hn⟩ : ∃ n, n = Qp.hd (l.drop j) := ⟨_, rfl⟩
  rw [← hn]
  have HN := hid hn
  clear hn
  by_cases h60 : n = 60
  case neg =>
    have b1 : ((n : Int) == 60) = false := beq_eq_false_iff_ne.2 (by omega)
    have b2 : ((n : Int) != 60) = true := bne_iff_ne.2 (by omega)
    have HE := hid (show Qp.iri (l.drop i) = .err (l.drop j) by
      unfold Qp.iri
      rw [← HD.out]
      have hne := HN.out
      cases hc : l.drop j with
      | nil => rfl
      | cons c r1 =>
        rw [hc] at hne
        simp only
        rw [if_neg (fun e => by subst e; exact h60 hne)])
    clear h60
    go_wp2
    go_ret2
    exact ⟨[], 2, j, rfl, hij, hj, HR2.out, HF2.out, Nat.zero_le _, Or.inr ⟨rfl, rfl, HE.out⟩⟩
  have hh : ∃ r1, l.drop j = 60 :: r1 := by
    obtain ⟨c, r1, h1, h2⟩ := Qp.hd_cons (HN.out.symm.trans h60) (by decide)
    exact ⟨r1, by rw [h1]; congr 1; exact UInt8.toNat_inj.1 h2⟩
  obtain ⟨r1, hr1⟩ := hh
  obtain ⟨hjl, hget, hdu⟩ := qdrop_get l j 60 r1 hr1
  have HR1 := hid hr1
  have HDU := hid hdu
  have b1 : ((n : Int) == 60) = true := beq_iff_eq.2 (by omega)
  have b2 : ((n : Int) != 60) = false := by rw [h60]; rfl
  obtain ⟨c0, c1, f0, f1⟩ := HR2.out.cells
  obtain ⟨a, b, ok, hcut⟩ : ∃ a b ok, Lib.cut r1 [62] = (a, b, ok) := ⟨_, _, _, rfl⟩
  have hcg := cut_gt r1
  rw [hcut] at hcg
  have hrl : r1.length + 1 + j = l.length := by
    have := congrArg List.length hr1
    rw [List.length_drop, List.length_cons] at this
    omega
  have hab : a.length ≤ r1.length ∧ (ok = true → a.length + 1 + b.length = r1.length) := by
    cases hc : Qp.cutGt r1 with
    | none => rw [hc] at hcg; cases hcg; exact ⟨Nat.le_refl _, fun h => by cases h⟩
    | some p =>
      rw [hc] at hcg
      cases hcg
      have := Qp.cutGt_len (t := p.1) (r1 := p.2) hc
      exact ⟨by omega, fun _ => by omega⟩
  have CT := hid fun nq => (show Calls Tryd.prog 114 #[str r1, str [62]] (w2.drewN nq) fun e w' => e = .returned (.tuple #[str a, str b, .bool ok]) ∧ ∃ n, w' = (w2.drewN nq).drewN n from by
    obtain ⟨m, hm⟩ := (HV.out.keep (below_drawn HB2.out nq)).2
    have h := Tryd.strings_Cut ⟨r1.toArray⟩ ⟨([62] : T).toArray⟩ m (w2.drewN nq) (by simp [ByteArray.size]; omega) hm
    simp only [List.toList_toArray] at h
    rw [hcut] at h
    exact h)
  have TI := hid fun W (hb : Below W0.heap.size W0 W) => tiri_any a W (by omega) ((HV.out.keep hb).1)
  have HCG := hid hcg
  have HAB := hid hab
  have hjz : (j : Int) + 1 = ((j + 1 : Nat) : Int) := by omega
  have hbd := ba_drop l (j + 1)
  rw [hdu] at hbd
  have hj1 : j + 1 ≤ l.length := by omega
  clear hcut hcg hab hr1 hdu hget h60 hjz
  go_upto_region 3 with fail
  go_quiet (first | (go_at_call 114; exact drawn_some fun W hW => hW ▸ CT.out _) | fail)
  obtain ⟨w3, hw3⟩ : ∃ w3, w3 = w2.drewN nq := ⟨_, rfl⟩
  have hb3 : Below w2.heap.size w2 w3 := by rw [hw3]; exact below_drawn (Below.refl _ _) nq
  rw [← hw3]
  have HB3 := hid (HB2.out.trans (hb3.mono HB2.out.size))
  have HR3 := hid (HR2.out.keep hb3)
  have HF3 := hid (HF2.out.trans (Frm.of_below (X := isQ q) hb3) (fun _ _ e => e))
  clear hw3 hb3 c0 c1 f0 f1
  have HE0 := hid (show Qp.iri (l.drop i) = (match Qp.cutGt r1 with | some p => if Tm.isIRI p.1 then Qp.Ir.ok p.1 p.2 else .err (l.drop j) | none => .err (l.drop j)) by
    unfold Qp.iri
    rw [← HD.out, HR1.out]
    simp only [if_pos rfl]
    cases Qp.cutGt r1 <;> rfl)
  cases ok
  case false =>
    have HE := hid (show Qp.iri (l.drop i) = .err (l.drop j) by
      rw [HE0.out]
      have h := HCG.out
      cases hc : Qp.cutGt r1 with
      | none => rfl
      | some p => rw [hc] at h; cases h)
    go_wp2
    go_ret2
    exact ⟨[], 2, j, rfl, hij, hj, HR3.out, HF3.out, Nat.zero_le _, Or.inr ⟨rfl, rfl, HE.out⟩⟩
  have HC := hid (show Qp.cutGt r1 = some (a, b) by
    have h := HCG.out
    cases hc : Qp.cutGt r1 with
    | none => rw [hc] at h; cases h
    | some p => rw [hc] at h; simp only [Prod.mk.injEq, and_true] at h; rw [h.1, h.2])
  obtain ⟨z, hz⟩ : ∃ z, z = Tm.isIRI a := ⟨_, rfl⟩
  rw [← hz] at TI
  have HZ := hid hz
  clear hz
  cases z
  case false =>
    have HE := hid (show Qp.iri (l.drop i) = .err (l.drop j) by rw [HE0.out, HC.out]; simp only; rw [← HZ.out]; rfl)
    go_wp2_with fail
    refine (TI.out _ HB3.out).mono ?_
    rintro e w4 ⟨rfl, hb4⟩
    have HR4 := hid (HR3.out.keep hb4)
    have HF4 := hid (HF3.out.trans (Frm.of_below (X := isQ q) hb4) (fun _ _ e => e))
    clear hb4
    go_wp2
    go_ret2
    exact ⟨[], 2, j, rfl, hij, hj, HR4.out, HF4.out, Nat.zero_le _, Or.inr ⟨rfl, rfl, HE.out⟩⟩
  have HE := hid (show Qp.iri (l.drop i) = .ok a b by rw [HE0.out, HC.out]; simp only; rw [← HZ.out]; rfl)
  go_wp2_with fail
  refine (TI.out _ HB3.out).mono ?_
  rintro e w4 ⟨rfl, hb4⟩
  have HR4 := hid (HR3.out.keep hb4)
  have HF4 := hid (HF3.out.trans (Frm.of_below (X := isQ q) hb4) (fun _ _ e => e))
  clear hb4
  obtain ⟨c0, c1, f0, f1⟩ := HR4.out.cells
  obtain ⟨an, han⟩ : ∃ n, n = a.length := ⟨_, rfl⟩
  have ha2 := HAB.out.2 trivial
  rw [← han] at ha2
  have hjn : j + (an + 2) ≤ l.length := by omega
  have HDJ := hid (show l.drop (j + (an + 2)) = b by
    have h1 := HR1.out
    have h2 : l.drop (j + 1) = r1 := HDU.out
    have h3 : r1.drop (an + 1) = b := by
      have hc := HC.out
      have key : ∀ (s t u : T), Qp.cutGt s = some (t, u) → s.drop (t.length + 1) = u := by
        intro s
        induction s with
        | nil => intro t u h; cases h
        | cons c s ih =>
          intro t u h
          unfold Qp.cutGt at h
          split at h
          · cases h; rfl
          · cases hc : Qp.cutGt s with
            | none => rw [hc] at h; cases h
            | some p =>
              rw [hc] at h
              cases h
              have := ih p.1 p.2 hc
              simpa using this
      rw [han]
      exact key r1 a b hc
    rw [show j + (an + 2) = (j + 1) + (an + 1) by omega, ← List.drop_drop, h2, h3])
  have HAN := hid han
  have HAL := hid (show a.length ≤ l.length by rw [← han]; omega)
  clear han ha2
  obtain ⟨k, hk⟩ : ∃ k, k = j + (an + 2) := ⟨_, rfl⟩
  have hkl : k ≤ l.length := by omega
  have hik : i ≤ k := by omega
  rw [← hk] at HDJ
  have hab9 : a.length ≤ 100000000 := by have := HAL.out; omega
  have HT := hid (show Qr (w4.setCell ⟨q, 1, none⟩ (.int .i64 ((j : Int) + ((a.length : Int) + 2)))) q l k by
    rw [show (j : Int) + ((a.length : Int) + 2) = (k : Nat) by have := HAN.out; omega]
    exact HR4.out.to k)
  have HFT := hid (HF4.out.set (b := q) (Or.inl rfl) 1 (.int .i64 ((j : Int) + ((a.length : Int) + 2))))
  clear hk hjn
  go_wp2
  go_ret2
  exact ⟨a, 0, k, rfl, hik, hkl, HT.out, HFT.out, HAL.out, Or.inl ⟨rfl, by rw [HE.out, HDJ.out]⟩⟩
end Go.Proofs.YtagmgkplfhlifaaDoor
