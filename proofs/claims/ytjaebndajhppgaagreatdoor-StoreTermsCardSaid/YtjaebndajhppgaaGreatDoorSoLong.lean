/- Stage 11's laws look at so many triples that may be, and no more. -/
import Derived.Test.YtjaebndajhppgaaGreatDoorSoIsW
import Derived.Test.YtjaebndajhppgaaGreatDoorGPar
namespace Go.Proofs.YtjaebndajhppgaaGreatDoor
set_option linter.unusedVariables false
set_option linter.unusedSimpArgs false
set_option maxRecDepth 100000
open Go.ChangeShapes Go.WideShapes Go.ChangeAt Go.RowKit
/-- What the first i are looked at as: their size, and whether one may not be. -/
theorem tri_is_eq (t : Tri) : t.is = isTriI t.k1 t.t1 t.x1 t.k2 t.t2 t.x2 t.k3 t.t3 t.x3 := rfl
def LongPost (L : List Tri) (w : World) (e : Ending) (w' : World) : Prop := ∃ B : Bool, e = .returned (.bool B) ∧ (B = false → longB L = false ∧ mayB L = true) ∧ Below w.heap.size w w'
set_option maxHeartbeats 4000000 in
theorem long11_any (L : List Tri) (w : World) (v : Value) (hv : TrisAt w v L) (hlow : ∀ t ∈ L, t.low 1000000000000000) (hn : L.length ≤ 140737488351232) (hV : Vars w) :
    Calls Tryz.prog 20 #[v] w (LongPost L w) := by
  have LI := hid (fun (a : Tri) (W : World) l1 l2 l3 l4 l5 l6 hV => wis_any a.k1 a.t1 a.x1 a.k2 a.t2 a.x2 a.k3 a.t3 a.x3 W l1 l2 l3 l4 l5 l6 hV)
  obtain ⟨a, cap, rfl, hc1, hc2, hc3⟩ := hv.open
  have HV := hid hv
  have HVV := hid hV
  have HL := hid hlow
  obtain ⟨n, hn0⟩ : ∃ n, n = L.length := ⟨_, rfl⟩
  rw [← hn0] at HV hn ⊢
  have HN := hid hn0
  clear hv hlow hc1 hc2 hc3 hn0 hV
  go_enter Tryz.func20, Tryz.ntmps20
  go_wp2
  go_loopg [3, 4] n (fun gk s3 s4 wr => ∃ (z : Int) (i : Nat), s3 = .int .i64 z ∧ s4 = .int .i64 i ∧ i ≤ n ∧ n - i ≤ gk ∧ 0 ≤ z ∧ Hid (Below w.heap.size w wr) ∧ z ≤ 7000000000000000 ∧ Hid (z = bigSum (L.take i)) ∧ Hid (mayB (L.take i) = true))
  case atStart => exact ⟨0, 0, rfl, rfl, Nat.zero_le _, Nat.le_refl _, by omega, Below.refl _ _, by omega, hid rfl, hid rfl⟩
  case round =>
    obtain ⟨z, i, rfl, rfl, hin, hg, hz0, HB, hz7, HZ, HMY⟩ := hrel
    by_cases hlt : i < n
    · have hltz : (i : Int) < (n : Int) := by omega
      by_cases h9 : z ≤ 9000
      · have hiL : i < L.length := by rw [← HN.out]; exact hlt
        have HVr := hid (HV.out.keep HB.out)
        obtain ⟨bl, off, rfl, hrow⟩ := HVr.out.get (i := i) hiL
        have HRW := hid (hrow i hiL)
        have HT := hid (show bigSum (L.take (i + 1)) = bigSum (L.take i) + L[i].big by
          rw [List.take_add_one, List.getElem?_eq_getElem hiL]; exact bigSum_snoc _ _)
        have HM2 := hid (show L[i].is = true → mayB (L.take (i + 1)) = true from fun h => by
          have h2 := HMY.out
          unfold mayB at h2 ⊢
          rw [List.take_succ_eq_append_getElem hiL, List.all_append, h2]
          simp [h])
        have hlo := HL.out L[i] (List.getElem_mem hiL)
        generalize L[i] = t at HRW HT hlo HM2
        have HLO := hid hlo
        obtain ⟨k1, t1, x1, k2, t2, x2, k3, t3, x3⟩ := t
        obtain ⟨l1, l2, l3, l4, l5, l6⟩ := hlo
        simp only at l1 l2 l3 l4 l5 l6
        have LIr := hid (LI.out ⟨k1, t1, x1, k2, t2, x2, k3, t3, x3⟩)
        clear hrow
        have c0 := HRW.out 0 (by omega)
        have c1 := HRW.out 1 (by omega)
        have c2 := HRW.out 2 (by omega)
        have c3 := HRW.out 3 (by omega)
        have c4 := HRW.out 4 (by omega)
        have c5 := HRW.out 5 (by omega)
        have c6 := HRW.out 6 (by omega)
        have c7 := HRW.out 7 (by omega)
        have c8 := HRW.out 8 (by omega)
        simp only [Tri.cells, List.getElem?_cons_zero, List.getElem?_cons_succ, Nat.add_zero] at c0 c1 c2 c3 c4 c5 c6 c7 c8
        obtain ⟨z2, hz2⟩ : ∃ z2, z2 = z + 3 + t1.length + x1.length + t2.length + x2.length + t3.length + x3.length := ⟨_, rfl⟩
        have w1 : IntKind.i64.wrap (z + 3) = z + 3 := by rw [IntKind.wrap_i64]; omega
        have w2 : IntKind.i64.wrap (z + 3 + (t1.length : Int)) = z + 3 + t1.length := by rw [IntKind.wrap_i64]; omega
        have w3 : IntKind.i64.wrap (z + 3 + (t1.length : Int) + x1.length) = z + 3 + t1.length + x1.length := by rw [IntKind.wrap_i64]; omega
        have w4 : IntKind.i64.wrap (z + 3 + (t1.length : Int) + x1.length + t2.length) = z + 3 + t1.length + x1.length + t2.length := by rw [IntKind.wrap_i64]; omega
        have w5 : IntKind.i64.wrap (z + 3 + (t1.length : Int) + x1.length + t2.length + x2.length) = z + 3 + t1.length + x1.length + t2.length + x2.length := by rw [IntKind.wrap_i64]; omega
        have w6 : IntKind.i64.wrap (z + 3 + (t1.length : Int) + x1.length + t2.length + x2.length + t3.length) = z + 3 + t1.length + x1.length + t2.length + x2.length + t3.length := by rw [IntKind.wrap_i64]; omega
        have w7 : IntKind.i64.wrap (z + 3 + (t1.length : Int) + x1.length + t2.length + x2.length + t3.length + x3.length) = z2 := by rw [IntKind.wrap_i64]; omega
        have hz20 : 0 ≤ z2 := by omega
        have hz27 : z2 ≤ 7000000000000000 := by omega
        have HZ2 := hid hz2
        clear hz2 l1 l2 l3 l4 l5 l6
        obtain ⟨b, hb⟩ : ∃ b, b = isTriI k1 t1 x1 k2 t2 x2 k3 t3 x3 := ⟨_, rfl⟩
        have HBI := hid hb
        have LIs := hid (fun (W : World) (hB : Below w.heap.size w W) => LIr.out W HLO.out.1 HLO.out.2.1 HLO.out.2.2.1 HLO.out.2.2.2.1 HLO.out.2.2.2.2.1 HLO.out.2.2.2.2.2 (HVV.out.keep hB))
        simp only at LIs
        rw [← hb] at LIs
        clear hb LIr
        cases b
        · go_wp2
          go_quiet (fail)
          go_wp2_with (go_at_call 62; refine (LIs.out _ (below_drawn HB.out _)).mono ?_; rintro e w9 ⟨rfl, hb9⟩; have HB9 := hid (below_then (below_drawn HB.out _) hb9); clear hb9)
          go_ret
          exact ⟨true, rfl, (fun h => by cases h), HB9.out⟩
        · go_wp2
          go_quiet (fail)
          go_wp2_with (go_at_call 62; refine (LIs.out _ (below_drawn HB.out _)).mono ?_; rintro e w9 ⟨rfl, hb9⟩; have HB9 := hid (below_then (below_drawn HB.out _) hb9); clear hb9)
          go_roundg (n - (i + 1))
          case measure => omega
          case rel => exact ⟨z2, i + 1, rfl, by go_num, by omega, by omega, hz20, HB9, hz27, by
            show _ = _
            rw [HT.out, HZ2.out, ← HZ.out]; unfold Tri.big; simp only; omega, HM2.out (by rw [tri_is_eq]; exact HBI.out.symm)⟩
      · have hz9 : (9000 : Int) < z := by omega
        go_wp2
        go_ret
        exact ⟨true, rfl, (fun h => by cases h), HB.out⟩
    · obtain rfl : i = n := by omega
      have hltz : ¬ (i : Int) < (i : Int) := by omega
      have HE := hid (show z = bigSum L by rw [HZ.out, HN.out, List.take_length])
      by_cases h9 : z ≤ 9000
      · have HF := hid (show longB L = false from decide_eq_false (by have := HE.out; omega))
        have HD := hid (show decide (9000 < z) = false from decide_eq_false (by omega))
        go_wp2
        go_ret
        exact ⟨false, by show Ending.returned (.bool (decide (9000 < z))) = _; rw [HD.out], fun _ => ⟨HF.out, by have := HMY.out; rwa [HN.out, List.take_length] at this⟩, HB.out⟩
      · have hz9 : (9000 : Int) < z := by omega
        go_wp2
        go_ret
        exact ⟨true, rfl, (fun h => by cases h), HB.out⟩
end Go.Proofs.YtjaebndajhppgaaGreatDoor
