/- two rows of triples that are not one: the document's Same. -/
import Derived.Test.YtjaebndajhppgaaGreatDoorGPut2
namespace Go.Proofs.YtjaebndajhppgaaGreatDoor
set_option linter.unusedVariables false
set_option linter.unusedSimpArgs false
set_option maxRecDepth 100000
open Go.ChangeShapes Go.WideShapes Go.ChangeAt Go.RowKit
theorem neq_tri2 (k1 : Int) (t1 x1 : List UInt8) (k2 : Int) (t2 x2 : List UInt8) (k3 : Int) (t3 x3 : List UInt8) (l1 : Int) (u1 y1 : List UInt8) (l2 : Int) (u2 y2 : List UInt8) (l3 : Int) (u3 y3 : List UInt8) (w : World) :
    (binOp .neq 67 (triV k1 t1 x1 k2 t2 x2 k3 t3 x3) (triV l1 u1 y1 l2 u2 y2 l3 u3 y3)).run Tryz.prog w = .ok (.bool (!decide ((k1 = l1 ∧ t1 = u1 ∧ x1 = y1) ∧ (k2 = l2 ∧ t2 = u2 ∧ x2 = y2) ∧ (k3 = l3 ∧ t3 = u3 ∧ x3 = y3)))) w := by
  simp [go_sem]
  by_cases h1 : k1 = l1
  · by_cases h2 : t1 = u1
    · by_cases h3 : x1 = y1
      · by_cases h4 : k2 = l2
        · by_cases h5 : t2 = u2
          · by_cases h6 : x2 = y2
            · by_cases h7 : k3 = l3
              · by_cases h8 : t3 = u3
                · by_cases h9 : x3 = y3
                  · simp [h1, h2, h3, h4, h5, h6, h7, h8, h9]
                  · simp [h1, h2, h3, h4, h5, h6, h7, h8, h9]
                · simp [h1, h2, h3, h4, h5, h6, h7, h8]
              · simp [h1, h2, h3, h4, h5, h6, h7]
            · simp [h1, h2, h3, h4, h5, h6]
          · simp [h1, h2, h3, h4, h5]
        · simp [h1, h2, h3, h4]
      · simp [h1, h2, h3]
    · simp [h1, h2]
  · simp [h1]
theorem so_first {n : Nat} {p : Nat → Prop} (h : ¬ ∀ i, i < n → p i) : ∃ k, k < n ∧ ¬ p k ∧ ∀ j, j < k → p j := by
  induction n with
  | zero => exact absurd (fun i hi => by omega) h
  | succ n ih =>
    by_cases hn : ∀ i, i < n → p i
    · refine ⟨n, by omega, fun hp => h fun i hi => ?_, hn⟩
      by_cases he : i = n
      · rw [he]; exact hp
      · exact hn i (by omega)
    · obtain ⟨k, hk, h1, h2⟩ := ih hn
      exact ⟨k, by omega, h1, h2⟩
theorem tri_ne {a b : Tri} (h : a ≠ b) : decide ((a.k1 = b.k1 ∧ a.t1 = b.t1 ∧ a.x1 = b.x1) ∧ (a.k2 = b.k2 ∧ a.t2 = b.t2 ∧ a.x2 = b.x2) ∧ (a.k3 = b.k3 ∧ a.t3 = b.t3 ∧ a.x3 = b.x3)) = false := by
  refine decide_eq_false fun e => h ?_
  obtain ⟨a1, a2, a3, a4, a5, a6, a7, a8, a9⟩ := a
  obtain ⟨b1, b2, b3, b4, b5, b6, b7, b8, b9⟩ := b
  obtain ⟨⟨rfl, rfl, rfl⟩, ⟨rfl, rfl, rfl⟩, rfl, rfl, rfl⟩ := e
  rfl
theorem rsame_len (L1 L2 : List Tri) (w : World) (v1 v2 : Value) (h1 : TrisAt w v1 L1) (h2 : TrisAt w v2 L2) (hne : L1.length ≠ L2.length) (hn1 : L1.length ≤ 100000) (hn2 : L2.length ≤ 100000) :
    Calls Tryz.prog 41 #[v1, v2] w fun e w' => e = .returned (.bool false) ∧ ∃ q, w' = w.drewN q := by
  obtain ⟨a, cap, rfl, _⟩ := h1.open
  obtain ⟨b, cap2, rfl, _⟩ := h2.open
  obtain ⟨n, hn⟩ : ∃ n, n = L1.length := ⟨_, rfl⟩
  obtain ⟨m, hm⟩ : ∃ m, m = L2.length := ⟨_, rfl⟩
  rw [← hn, ← hm] at hne ⊢
  have hz1 : ((n : Int) != (m : Int)) = true := bne_iff_ne.2 (by omega)
  have hz2 : ((n : Int) == (m : Int)) = false := beq_eq_false_iff_ne.2 (by omega)
  clear h1 h2 hn hm hne
  go_enter Tryz.func41, Tryz.ntmps41
  go_wp2
  go_ret
  exact ⟨rfl, 0, rfl⟩
set_option maxHeartbeats 8000000 in
theorem rsame_dif (L1 L2 : List Tri) (w : World) (v1 v2 : Value) (h1 : TrisAt w v1 L1) (h2 : TrisAt w v2 L2) (hne : L1 ≠ L2) (hl : L1.length = L2.length) (hn : L1.length ≤ 100000) :
    Calls Tryz.prog 41 #[v1, v2] w fun e w' => e = .returned (.bool false) ∧ ∃ q, w' = w.drewN q := by
  obtain ⟨a, cap, rfl, _⟩ := h1.open
  obtain ⟨b, cap2, rfl, _⟩ := h2.open
  obtain ⟨k, hk, hk1, hk2⟩ := so_first (n := L1.length) (p := fun i => L1[i]? = L2[i]?) (fun h => hne (List.ext_getElem? fun i => by
    by_cases hi : i < L1.length
    · exact h i hi
    · rw [List.getElem?_eq_none (by omega), List.getElem?_eq_none (by omega)]))
  have HV := hid h1
  have HW := hid h2
  obtain ⟨n, hn0⟩ : ∃ n, n = L1.length := ⟨_, rfl⟩
  rw [← hn0] at HV hn hk hl
  rw [← hl] at HW
  have HN1 := hid hn0
  have HN2 := hid hl
  have HK1 := hid hk1
  have HK2 := hid hk2
  rw [← hn0, ← hl]
  clear h1 h2 hn0 hne hl hk1 hk2
  go_enter Tryz.func41, Tryz.ntmps41
  go_wp2
  go_loopg [5] n (fun gk s5 wr => ∃ (i : Nat), s5 = .int .i64 i ∧ i ≤ k ∧ n - i ≤ gk ∧ ∃ m, wr = w.drewN m)
  case atStart => exact ⟨0, rfl, Nat.zero_le _, Nat.le_refl _, 0, rfl⟩
  case round =>
    obtain ⟨i, rfl, hik, hg, m, rfl⟩ := hrel
    have hltz : (i : Int) < (n : Int) := by omega
    by_cases hlt : i < k
    · have HEQ := hid (HK2.out i hlt)
      have hiL : i < L1.length := by rw [← HN1.out]; omega
      have hiM : i < L2.length := by rw [← HN2.out]; omega
      obtain ⟨bl, off, rfl, hrow⟩ := HV.out.get (i := i) hiL
      obtain ⟨bm, ofm, rfl, hrow2⟩ := HW.out.get (i := i) hiM
      have HRW := hid (hrow i hiL)
      have HRX := hid (hrow2 i hiM)
      clear hrow hrow2
      have hEE : L1[i] = L2[i] := by
        have h := HEQ.out
        rw [List.getElem?_eq_getElem hiL, List.getElem?_eq_getElem hiM] at h
        exact Option.some.inj h
      rw [← hEE] at HRX
      obtain ⟨t, ht⟩ : ∃ t, t = L1[i] := ⟨_, rfl⟩
      rw [← ht] at HRW HRX
      clear ht hEE
      obtain ⟨k1, t1, x1, k2, t2, x2, k3, t3, x3⟩ := t
      have EQ := fun W => neq_tri k1 t1 x1 k2 t2 x2 k3 t3 x3 W
      have c0 := HRW.out 0 (by omega)
      have c1 := HRW.out 1 (by omega)
      have c2 := HRW.out 2 (by omega)
      have c3 := HRW.out 3 (by omega)
      have c4 := HRW.out 4 (by omega)
      have c5 := HRW.out 5 (by omega)
      have c6 := HRW.out 6 (by omega)
      have c7 := HRW.out 7 (by omega)
      have c8 := HRW.out 8 (by omega)
      have d0 := HRX.out 0 (by omega)
      have d1 := HRX.out 1 (by omega)
      have d2 := HRX.out 2 (by omega)
      have d3 := HRX.out 3 (by omega)
      have d4 := HRX.out 4 (by omega)
      have d5 := HRX.out 5 (by omega)
      have d6 := HRX.out 6 (by omega)
      have d7 := HRX.out 7 (by omega)
      have d8 := HRX.out 8 (by omega)
      simp only [Tri.cells, List.getElem?_cons_zero, List.getElem?_cons_succ, Nat.add_zero] at c0 c1 c2 c3 c4 c5 c6 c7 c8 d0 d1 d2 d3 d4 d5 d6 d7 d8
      go_wp2
      go_quiet (fail)
      go_wp2
      go_roundg (n - (i + 1))
      case measure => omega
      case rel => exact ⟨i + 1, by go_num, by omega, by omega, _, rfl⟩
    · obtain rfl : i = k := by omega
      have hiL : i < L1.length := by rw [← HN1.out]; omega
      have hiM : i < L2.length := by rw [← HN2.out]; omega
      obtain ⟨bl, off, rfl, hrow⟩ := HV.out.get (i := i) hiL
      obtain ⟨bm, ofm, rfl, hrow2⟩ := HW.out.get (i := i) hiM
      have HRW := hid (hrow i hiL)
      have HRX := hid (hrow2 i hiM)
      clear hrow hrow2
      have hNE : L1[i] ≠ L2[i] := fun e => HK1.out (by rw [List.getElem?_eq_getElem hiL, List.getElem?_eq_getElem hiM, e])
      obtain ⟨t, ht⟩ : ∃ t, t = L1[i] := ⟨_, rfl⟩
      obtain ⟨u, hu⟩ : ∃ u, u = L2[i] := ⟨_, rfl⟩
      rw [← ht] at HRW hNE
      rw [← hu] at HRX hNE
      have hd := tri_ne hNE
      clear ht hu hNE
      obtain ⟨k1, t1, x1, k2, t2, x2, k3, t3, x3⟩ := t
      obtain ⟨l1, u1, y1, l2, u2, y2, l3, u3, y3⟩ := u
      simp only at hd
      have EQ : ∀ W, (binOp .neq 67 (triV k1 t1 x1 k2 t2 x2 k3 t3 x3) (triV l1 u1 y1 l2 u2 y2 l3 u3 y3)).run Tryz.prog W = .ok (.bool true) W := fun W => by
        rw [neq_tri2, hd]; rfl
      clear hd
      have c0 := HRW.out 0 (by omega)
      have c1 := HRW.out 1 (by omega)
      have c2 := HRW.out 2 (by omega)
      have c3 := HRW.out 3 (by omega)
      have c4 := HRW.out 4 (by omega)
      have c5 := HRW.out 5 (by omega)
      have c6 := HRW.out 6 (by omega)
      have c7 := HRW.out 7 (by omega)
      have c8 := HRW.out 8 (by omega)
      have d0 := HRX.out 0 (by omega)
      have d1 := HRX.out 1 (by omega)
      have d2 := HRX.out 2 (by omega)
      have d3 := HRX.out 3 (by omega)
      have d4 := HRX.out 4 (by omega)
      have d5 := HRX.out 5 (by omega)
      have d6 := HRX.out 6 (by omega)
      have d7 := HRX.out 7 (by omega)
      have d8 := HRX.out 8 (by omega)
      simp only [Tri.cells, List.getElem?_cons_zero, List.getElem?_cons_succ, Nat.add_zero] at c0 c1 c2 c3 c4 c5 c6 c7 c8 d0 d1 d2 d3 d4 d5 d6 d7 d8
      go_wp2
      go_quiet (fail)
      go_wp2
      go_ret
      exact ⟨rfl, m + nq, by simp [World.drewN, Nat.add_assoc]⟩
/-- The document's Same, of any two rows. -/
theorem rsame_two (L1 L2 : List Tri) (w : World) (v1 v2 : Value) (h1 : TrisAt w v1 L1) (h2 : TrisAt w v2 L2) (hn1 : L1.length ≤ 100000) (hn2 : L2.length ≤ 100000) (r : Bool) (hr : r = true ↔ L1 = L2) :
    Calls Tryz.prog 41 #[v1, v2] w fun e w' => e = .returned (.bool r) ∧ ∃ q, w' = w.drewN q := by
  by_cases he : L1 = L2
  · subst he
    rw [hr.2 rfl]
    exact rsame_any L1 w v1 v2 h1 h2 hn1
  · have hf : r = false := by
      cases r with
      | true => exact absurd (hr.1 rfl) he
      | false => rfl
    rw [hf]
    by_cases hl : L1.length = L2.length
    · exact rsame_dif L1 L2 w v1 v2 h1 h2 he hl hn1
    · exact rsame_len L1 L2 w v1 v2 h1 h2 hl hn1 hn2
end Go.Proofs.YtjaebndajhppgaaGreatDoor
