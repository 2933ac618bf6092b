/- A box: the document's own May and Same, and what each law asks first and last. -/
import Derived.Test.YtgbhnkiballeeaaBxApp
import Derived.Test.YtgbhnkiballeeaaBxCut
namespace Go.Proofs.Ytgbhnkiballeeaa
set_option linter.unusedVariables false
set_option linter.unusedSimpArgs false
set_option maxRecDepth 100000
open Go.ChangeShapes Go.WideShapes Go.ChangeAt Go.RowKit
/-- What long looks at. -/
def longB : List Bx.Sec → Nat → Bool
  | [], z => decide (5000 < z)
  | s :: L, z => if z ≤ 5000 then longB L (z + 10 + s.2.length) else true
theorem longB_drop (L : List Bx.Sec) (i z : Nat) (h : i < L.length) : longB (L.drop i) z = if z ≤ 5000 then longB (L.drop (i + 1)) (z + 10 + L[i].2.length) else true := by
  rw [Bx.drop_cons L i h]; rfl
theorem long_any (a : Option Addr) (n cap : Nat) (L : List Bx.Sec) (W : World) (hn : n = L.length) (h : SecsAt W (.slice a n cap) L) (hnm : n ≤ 9223372036854775807) (hb : ∀ s ∈ L, s.2.length ≤ 140737488351232) :
    Calls Try.prog 11 #[.slice a n cap] W fun e W' => e = .returned (.bool (longB L 0)) ∧ W' = W := by
  have HN := hid hn
  have HS := hid h
  have HBD := hid hb
  clear hn h hb
  obtain ⟨r, hr⟩ : ∃ r, r = longB L 0 := ⟨_, rfl⟩
  rw [← hr]
  have HR := hid hr
  clear hr
  go_enter Try.func11, Try.ntmps11
  go_wp2
  go_loop [3, 4] (fun s3 s4 => ∃ (i z : Nat), i ≤ n ∧ s4 = .int .i64 i ∧ s3 = .int .i64 z ∧ z ≤ 140737488361240 ∧ Hid (r = longB (L.drop i) z)) (fun _ s4 => n - (intOf s4).toNat)
  case atStart => exact ⟨0, 0, by omega, rfl, rfl, by omega, hid (by rw [List.drop_zero]; exact HR.out)⟩
  case round =>
    obtain ⟨i, z, hin, rfl, rfl, hz, HZ⟩ := hrel
    by_cases hlt : i < n
    · have hlt' : i < L.length := by rw [← HN.out]; exact hlt
      have hd := longB_drop L i z hlt'
      by_cases hz5 : z ≤ 5000
      · obtain ⟨b, off, rfl, hc⟩ := HS.out.get hlt'
        obtain ⟨ab, cb, d0, d1, h1, h2, _⟩ := sec_open (hc i hlt')
        have hbd := HBD.out L[i] (List.getElem_mem _)
        rw [if_pos hz5] at hd
        have HD := hid hd
        generalize L[i].2.length = m at *
        have hltI : (i : Int) < n := by omega
        have hzI : (z : Int) ≤ 5000 := by omega
        clear hc d0 hd hz5
        go_wp2
        go_round
        case rel => exact ⟨i + 1, z + 10 + m, by omega, by go_num, by go_num, by omega, hid (by rw [HZ.out, HD.out])⟩
        case measure => simp [intOf]; omega
      · rw [if_neg hz5] at hd
        have HF := hid (show r = true by rw [HZ.out, hd])
        have hltI : (i : Int) < n := by omega
        have hz6 : 5000 < z := by omega
        clear hd hz5
        go_wp2
        go_ret
        exact ⟨ret_bool HF.out.symm, rfl⟩
    · obtain rfl : i = n := by omega
      have hd : L.drop i = [] := List.drop_of_length_le (by rw [← HN.out]; exact Nat.le_refl _)
      have HF := hid (show r = decide (5000 < z) by rw [HZ.out, hd]; rfl)
      clear hd
      go_wp2
      go_ret
      exact ⟨ret_bool (by rw [HF.out, decide_eq_decide]; omega), rfl⟩
theorem long_no {L : List Bx.Sec} : ∀ {z : Nat}, longB L z = false → z + 10 * L.length + Bx.sizes L ≤ 5000 := by
  induction L with
  | nil => intro z h; simp [longB] at h; simp [Bx.sizes]; omega
  | cons s L ih =>
    intro z h
    unfold longB at h
    split at h
    · have := ih h
      simp only [Bx.sizes, List.map_cons, List.sum_cons, List.length_cons] at this ⊢
      omega
    · cases h
set_option maxHeartbeats 2000000 in
theorem rmay_any (a : Option Addr) (n cap : Nat) (L : List Bx.Sec) (W : World) (hn : n = L.length) (h : SecsAt W (.slice a n cap) L) (h500 : n ≤ 500) (hsz : Bx.sizes L ≤ 5000) (hb : ∀ s ∈ L, -9223372036854775808 ≤ s.1 ∧ s.1 ≤ 9223372036854775807) :
    Calls Try.prog 18 #[.slice a n cap] W fun e W' => e = .returned (.bool (Bx.mayB L)) ∧ Below W.heap.size W W' := by
  have HN := hid hn
  have HS := hid h
  have HBD := hid hb
  have HSZ := hid hsz
  clear hn h hb hsz
  obtain ⟨r, hr⟩ : ∃ r, r = Bx.mayB L := ⟨_, rfl⟩
  rw [← hr]
  have HM := hid (show r = (decide (n ≤ 8) && Bx.riseB 0 L && decide (Bx.total L ≤ 100000)) by rw [hr, HN.out]; rfl)
  clear hr
  go_enter Try.func18, Try.ntmps18
  go_wp2
  go_loopw [3, 4] (fun s3 s4 wr => ∃ (i z : Nat), i ≤ n ∧ s4 = .int .i64 i ∧ s3 = .int .i64 z ∧ z ≤ 10000 ∧ Hid (z + Bx.sizes (L.drop i) = Bx.total L) ∧ Hid (∃ p : Int, 0 ≤ p ∧ Bx.riseB p (L.drop i) = Bx.riseB 0 L ∧ (i = 0 → p = 0) ∧ ∀ j (h : j < L.length), i = j + 1 → p = L[j].1) ∧ Hid (∃ q, wr = W.drewN q)) (fun _ s4 _ => n - (intOf s4).toNat)
  case atStart => exact ⟨0, 9 + 7 * n, by omega, rfl, by simp, by omega, hid (by rw [List.drop_zero, HN.out]; rfl), hid ⟨0, by omega, by rw [List.drop_zero], fun _ => rfl, fun j _ e => by omega⟩, hid ⟨0, rfl⟩⟩
  case round =>
    obtain ⟨i, z, hin, rfl, rfl, hz, HZ, HP, HW⟩ := hrel
    obtain ⟨q0, hq0⟩ := HW.out
    subst hq0
    clear HW
    by_cases hlt : i < n
    · have hlt' : i < L.length := by rw [← HN.out]; exact hlt
      obtain ⟨b, off, rfl, hc⟩ := HS.out.get hlt'
      obtain ⟨ab, cb, d0, d1, h1, h2, _⟩ := sec_open (hc i hlt')
      have hbd := HBD.out L[i] (List.getElem_mem _)
      have hsl := Bx.size_le (List.getElem_mem hlt')
      have hr := Bx.riseB_drop L
      obtain ⟨p, hp0, hp1, hp2, hp3⟩ := HP.out
      have hrd := hr p i hlt'
      have HSD := hid (Bx.sizes_drop L i hlt')
      have hnew : ∀ j (h : j < L.length), i + 1 = j + 1 → L[i].1 = L[j].1 := fun j _ e => by
        obtain rfl : i = j := by omega
        rfl
      have hprev : i = 0 ∨ ∃ j, ∃ h : j < L.length, i = j + 1 ∧ p = L[j].1 ∧ W.cell? ⟨b, off + j * 2, none⟩ = some (.int .i64 p) := by
        cases i with
        | zero => exact Or.inl rfl
        | succ j =>
          have hj : j < L.length := by omega
          refine Or.inr ⟨j, hj, rfl, hp3 j hj rfl, ?_⟩
          rw [hp3 j hj rfl]; exact (hc j hj).1
      have HNEW := hid hnew
      have HSL := hid hsl
      have HRD := hid (show Bx.riseB 0 L = ((decide (p < L[i].1) && decide (L[i].1 ≤ 255)) && Bx.riseB L[i].1 (L.drop (i + 1))) by rw [← hp1]; exact hrd)
      generalize hid0 : L[i].1 = id at *
      have hm5 : L[i].2.length ≤ 5000 := by have := HSZ.out; omega
      generalize L[i].2.length = m at *
      have hp2' := hp2
      have HP2 := hid hp2
      clear hc hr hrd hp1 hp2 hp2' hp3 hid0 hnew hsl HP
      have hltI : (i : Int) < n := by omega
      have hm6 : decide (100000 < (m : Int)) = false := decide_eq_false (by omega)
      have hFL : (¬ p < id ∨ ¬ id ≤ 255) → r = false := fun hh => by
        rw [HM.out, HRD.out]
        rcases hh with hh | hh
        · rw [decide_eq_false hh]; simp
        · rw [decide_eq_false hh]; simp
      have HFL := hid hFL
      clear hFL
      rcases hprev with h0 | ⟨j, hj, hij, hpj, e0⟩
      · have hpz : p = 0 := HP2.out h0
        subst hpz
        subst h0
        rw [Nat.zero_mul, Nat.add_zero] at d0 d1
        rcases (show id < 1 ∨ (1 ≤ id ∧ 255 < id) ∨ (1 ≤ id ∧ id ≤ 255) by omega) with g1 | ⟨g1, g2⟩ | ⟨g1, g2⟩
        · have HF := hid (HFL.out (Or.inl (by omega)))
          have b1 : decide (id < 1) = true := decide_eq_true g1
          go_wp2
          go_quiet (fail)
          go_wp2
          go_ret
          exact ⟨ret_bool HF.out.symm, below_drawn (below_drawn (Below.refl _ _) _) _⟩
        · have HF := hid (HFL.out (Or.inr (by omega)))
          have b1 : decide (id < 1) = false := decide_eq_false (by omega)
          have b2 : decide (255 < id) = true := decide_eq_true g2
          go_wp2
          go_quiet (fail)
          go_wp2
          go_ret
          exact ⟨ret_bool HF.out.symm, below_drawn (below_drawn (Below.refl _ _) _) _⟩
        · have b1 : decide (id < 1) = false := decide_eq_false (by omega)
          have b2 : decide (255 < id) = false := decide_eq_false (by omega)
          go_wp2
          go_quiet (fail)
          go_wp2
          go_roundw
          case rel => exact ⟨0 + 1, z + m, by omega, by go_num, by go_num, by have := HZ.out; have := HN.out; have := HSD.out; have := HSZ.out; have := Bx.sizes_take L 0; unfold Bx.total at *; omega, hid (by have := HZ.out; have := HSD.out; omega), hid ⟨id, by omega, by rw [HRD.out, decide_eq_true (by omega), decide_eq_true (by omega)]; rfl, fun e => by omega, fun j h e => HNEW.out j h e⟩, hid ⟨q0 + nq, by first | rfl | rw [World.drewN_drewN]⟩⟩
          case measure => simp [intOf]; omega
      · subst hij
        clear hpj
        have hj1 : (j : Int) + 1 < n := by omega
        have hgt : decide ((0 : Int) < ((j + 1 : Nat) : Int)) = true := decide_eq_true (by omega)
        have hgt2 : decide ((0 : Int) < (j : Int) + 1) = true := decide_eq_true (by omega)
        rcases (show id < 1 ∨ (1 ≤ id ∧ 255 < id) ∨ (1 ≤ id ∧ id ≤ 255 ∧ id ≤ p) ∨ (1 ≤ id ∧ id ≤ 255 ∧ p < id) by omega) with g1 | ⟨g1, g2⟩ | ⟨g1, g2, g3⟩ | ⟨g1, g2, g3⟩
        · have HF := hid (HFL.out (Or.inl (by omega)))
          have b1 : decide (id < 1) = true := decide_eq_true g1
          go_wp2
          go_quiet (fail)
          go_wp2
          go_ret
          exact ⟨ret_bool HF.out.symm, below_drawn (below_drawn (Below.refl _ _) _) _⟩
        · have HF := hid (HFL.out (Or.inr (by omega)))
          have b1 : decide (id < 1) = false := decide_eq_false (by omega)
          have b2 : decide (255 < id) = true := decide_eq_true g2
          go_wp2
          go_quiet (fail)
          go_wp2
          go_ret
          exact ⟨ret_bool HF.out.symm, below_drawn (below_drawn (Below.refl _ _) _) _⟩
        · have HF := hid (HFL.out (Or.inl (by omega)))
          have b1 : decide (id < 1) = false := decide_eq_false (by omega)
          have b2 : decide (255 < id) = false := decide_eq_false (by omega)
          have b3 : decide (id ≤ p) = true := decide_eq_true g3
          go_wp2
          go_quiet (fail)
          go_wp2
          go_ret
          exact ⟨ret_bool HF.out.symm, below_drawn (below_drawn (Below.refl _ _) _) _⟩
        · have b1 : decide (id < 1) = false := decide_eq_false (by omega)
          have b2 : decide (255 < id) = false := decide_eq_false (by omega)
          have b3 : decide (id ≤ p) = false := decide_eq_false (by omega)
          go_wp2
          go_quiet (fail)
          go_wp2
          go_roundw
          case rel => exact ⟨j + 1 + 1, z + m, by omega, by go_num, by go_num, by have := HZ.out; have := HN.out; have := HSD.out; have := HSZ.out; have := Bx.sizes_take L 0; unfold Bx.total at *; omega, hid (by have := HZ.out; have := HSD.out; omega), hid ⟨id, by omega, by rw [HRD.out, decide_eq_true (by omega), decide_eq_true (by omega)]; rfl, fun e => by omega, fun j h e => HNEW.out j h e⟩, hid ⟨q0 + nq, by first | rfl | rw [World.drewN_drewN]⟩⟩
          case measure => simp [intOf]; omega
    · obtain rfl : i = n := by omega
      have hd : L.drop i = [] := List.drop_of_length_le (by rw [← HN.out]; exact Nat.le_refl _)
      have hz1 := HZ.out
      obtain ⟨p, _, hp1, _⟩ := HP.out
      rw [hd] at hz1 hp1
      have hz2 : z = Bx.total L := hz1
      have hr2 : Bx.riseB 0 L = true := hp1.symm
      have HF := hid (show r = (decide (i ≤ 8) && decide (z ≤ 100000)) by rw [HM.out, hr2, hz2, Bool.and_true])
      clear hz1 hp1 hz2 hr2 hd HZ HP HM
      by_cases h8 : i ≤ 8
      · have h8I : (i : Int) ≤ 8 := by omega
        go_wp2
        go_ret
        exact ⟨ret_bool (by rw [HF.out, decide_eq_true h8, Bool.true_and, decide_eq_decide]; omega), below_drawn (Below.refl _ _) _⟩
      · have h8I : (8 : Int) < i := by omega
        go_wp2
        go_ret
        exact ⟨ret_bool (by rw [HF.out, decide_eq_false h8]; rfl), below_drawn (Below.refl _ _) _⟩
/-- A first one that is none, where there is one. -/
theorem first_bad {n : Nat} {p : Nat → Prop} (h : ¬ ∀ i, i < n → p i) : ∃ k, k < n ∧ ¬ p k ∧ ∀ j, j < k → p j := by
  induction n with
  | zero => exact absurd (fun i hi => absurd hi (Nat.not_lt_zero i)) h
  | succ n ih =>
    by_cases hn : ∀ i, i < n → p i
    · refine ⟨n, by omega, fun hp => h fun i hi => ?_, hn⟩
      by_cases hin : i < n
      · exact hn i hin
      · obtain rfl : i = n := by omega
        exact hp
    · obtain ⟨k, h1, h2, h3⟩ := ih hn
      exact ⟨k, by omega, h2, h3⟩
set_option maxHeartbeats 2000000 in
theorem rsame_any (v1 v2 : Value) (L1 L2 : List Bx.Sec) (W : World) (h1 : SecsAt W v1 L1) (h2 : SecsAt W v2 L2) (hb1 : Bx.Bytes L1) (hb2 : Bx.Bytes L2) (hl : L1.length ≤ 1000000) (r : Bool) (hr : r = true ↔ L1 = L2) :
    Calls Try.prog 17 #[v1, v2] W fun e W' => e = .returned (.bool r) ∧ Below W.heap.size W W' := by
  obtain ⟨a1, c1, rfl, _, hm1, _⟩ := SecsAt.open h1
  obtain ⟨a2, c2, rfl, g2, hm2, _⟩ := SecsAt.open h2
  have H1 := hid h1
  have H2 := hid h2
  unfold maxLen at hm2
  clear h1 h2 hm1
  by_cases hne : L1.length = L2.length
  · obtain ⟨n, hn⟩ : ∃ n, n = L1.length := ⟨_, rfl⟩
    rw [← hne, ← hn] at H2 ⊢
    rw [← hn] at H1 hl
    have HN := hid hn
    have HN2 := hid (hn.trans hne)
    -- the first one that differs, if one does
    obtain ⟨k, hk, hkn, hgood⟩ : ∃ k, k ≤ n ∧ (k < n → ¬ ∀ (q1 : k < L1.length) (q2 : k < L2.length), L1[k] = L2[k]) ∧ ∀ j, j < k → ∀ (q1 : j < L1.length) (q2 : j < L2.length), L1[j] = L2[j] := by
      by_cases hall : ∀ j, j < n → ∀ (q1 : j < L1.length) (q2 : j < L2.length), L1[j] = L2[j]
      · exact ⟨n, Nat.le_refl _, fun h => absurd h (Nat.lt_irrefl _), hall⟩
      · obtain ⟨k, h1, h2, h3⟩ := first_bad hall
        exact ⟨k, by omega, fun _ => h2, h3⟩
    have HG := hid hgood
    have HK := hid hkn
    have HR := hid hr
    have HB1 := hid hb1
    have HB2 := hid hb2
    clear hn hne hr hkn hgood hb1 hb2 g2
    go_enter Try.func17, Try.ntmps17
    go_wp2
    go_loopw [5] (fun s5 wr => ∃ (i q : Nat), i ≤ k ∧ s5 = .int .i64 i ∧ wr = W.drewN q) (fun s5 _ => n - (intOf s5).toNat)
    case atStart => exact ⟨0, 0, by omega, rfl, rfl⟩
    case round =>
      obtain ⟨i, q, hik, rfl, rfl⟩ := hrel
      by_cases hlt : i < n
      · have q1 : i < L1.length := by rw [← HN.out]; exact hlt
        have q2 : i < L2.length := by rw [← HN2.out]; exact hlt
        obtain ⟨b1, o1, rfl, hc1⟩ := H1.out.get q1
        obtain ⟨b2, o2, rfl, hc2⟩ := H2.out.get q2
        obtain ⟨ab1, cb1, d0, d1, _, _, y1⟩ := sec_open (hc1 i q1)
        obtain ⟨ab2, cb2, e0, e1, _, _, y2⟩ := sec_open (hc2 i q2)
        have kb1 := HB1.out L1[i] (List.getElem_mem _)
        have kb2 := HB2.out L2[i] (List.getElem_mem _)
        have hgi : i < k → L1[i] = L2[i] := fun h => HG.out i h q1 q2
        have hbi : i = k → L1[i] ≠ L2[i] := fun h e => by
          subst h
          exact HK.out hlt fun _ _ => e
        have HGI := hid hgi
        have HBI := hid hbi
        clear hc1 hc2 hgi hbi
        generalize L1[i] = s1 at *
        generalize L2[i] = s2 at *
        obtain ⟨id1, l1⟩ := s1
        obtain ⟨id2, l2⟩ := s2
        simp only at *
        have KV1 := fun q : Nat => conv_row (P := Try.prog) Try.underlying24 Try.underlying5 Try.underlying9 (W.drewN q) _ l1 (SlAt.drawn y1 q)
        have KV2 := fun q : Nat => conv_row (P := Try.prog) Try.underlying24 Try.underlying5 Try.underlying9 (W.drewN q) _ l2 (SlAt.drawn y2 q)
        have SE := hid (strOf_eq kb1 kb2)
        generalize strOf l1 = S1 at *
        generalize strOf l2 = S2 at *
        have hltI : (i : Int) < n := by omega
        clear y1 y2
        by_cases hid1 : id1 = id2
        · have bq : (id1 == id2) = true := by rw [beq_iff_eq]; exact hid1
          have bq2 : (id1 != id2) = false := by rw [bne_eq_false_iff_eq]; exact hid1
          by_cases hl1 : l1 = l2
          · have hkk : i < k := by
              rcases Nat.lt_or_ge i k with h | h
              · exact h
              · exact absurd (Prod.ext hid1 hl1) (HBI.out (by omega))
            have se : (S1.toList == S2.toList) = true := by rw [SE.out]; exact decide_eq_true hl1
            clear hid1 hl1
            go_wp2
            go_quiet (fail)
            go_wp2
            go_roundw
            case rel => exact ⟨i + 1, q + nq, by omega, by go_num, by first | rfl | rw [World.drewN_drewN]⟩
            case measure => simp [intOf]; omega
          · have se : (S1.toList == S2.toList) = false := by rw [SE.out]; exact decide_eq_false hl1
            have HF := hid (show r = false by
              cases hrr : r with
              | false => rfl
              | true =>
                exfalso
                have hkk : i = k := by
                  rcases Nat.lt_or_ge i k with h | h
                  · have := HGI.out h; exact absurd (congrArg Prod.snd this) hl1
                  · omega
                have e := HR.out.1 hrr
                exact HK.out (by omega) fun _ _ => by subst e; rfl)
            clear hid1 hl1
            go_wp2
            go_quiet (fail)
            go_wp2
            go_ret
            exact ⟨ret_bool HF.out.symm, below_drawn (below_drawn (Below.refl _ _) _) _⟩
        · have bq : (id1 == id2) = false := by rw [beq_eq_false_iff_ne]; exact hid1
          have bq2 : (id1 != id2) = true := by rw [bne_iff_ne]; exact hid1
          have HF := hid (show r = false by
            cases hrr : r with
            | false => rfl
            | true =>
              exfalso
              have hkk : i = k := by
                rcases Nat.lt_or_ge i k with h | h
                · have := HGI.out h; exact absurd (congrArg Prod.fst this) hid1
                · omega
              have e := HR.out.1 hrr
              exact HK.out (by omega) fun _ _ => by subst e; rfl)
          clear hid1
          go_wp2
          go_quiet (fail)
          go_wp2
          go_ret
          exact ⟨ret_bool HF.out.symm, below_drawn (below_drawn (Below.refl _ _) _) _⟩
      · obtain rfl : i = n := by omega
        have HF := hid (show r = true by
          rw [HR.out]
          refine List.ext_getElem (by rw [← HN.out, ← HN2.out]) fun j z1 z2 => ?_
          exact HG.out j (by have := HN.out; omega) z1 z2)
        go_wp2
        go_ret
        exact ⟨ret_bool HF.out.symm, below_drawn (Below.refl _ _) _⟩
  · have hrf : r = false := by cases hrr : r with
      | false => rfl
      | true => exact absurd (congrArg List.length (hr.1 hrr)) hne
    subst hrf
    have b1 : ((L1.length : Int) != (L2.length : Int)) = true := by rw [bne_iff_ne]; omega
    have b2 : ((L1.length : Int) == (L2.length : Int)) = false := by rw [beq_eq_false_iff_ne]; omega
    clear hr H1 H2 hb1 hb2 hne
    generalize L1.length = n1 at *
    generalize L2.length = n2 at *
    go_enter Try.func17, Try.ntmps17
    go_wp2
    go_ret
    exact ⟨rfl, Below.refl _ _⟩
theorem file_nil : (Bx.file []).take 6 = [84, 82, 73, 86, 1, 0] := by
  have := Bx.file_head []
  exact this
theorem known_any (W : World) : Calls Try.prog 14 #[] W fun e W' => e = .returned (.bool true) ∧ Below W.heap.size W W' := by
  have hM : Bx.May [] := ⟨by decide, trivial, by decide⟩
  have PK := hid (bpack_ok none 0 0 [] W rfl (SecsAt.nil W) hM (fun s hs => by cases hs))
  have ht : Bx.total [] = 9 := rfl
  rw [ht] at PK
  clear hM ht
  go_enter Try.func14, Try.ntmps14
  go_upto_region 2 with (go_at_call 12; refine PK.out.mono ?_; rintro e w1 ⟨v, rfl, hB, hown⟩; obtain ⟨ab, cb, rfl, g1, g2, _, _⟩ := rowAt_own hown)
  have HB := hid hB
  have hby : BytesAt w1 (.slice ab 9 cb) (Bx.file []) := own_bytes hown (by rw [Bx.file_length]; rfl)
  have hfr := SlAt.front hby 6 (by omega)
  rw [file_nil] at hfr
  have kc := conv_row (P := Try.prog) Try.underlying24 Try.underlying5 Try.underlying9 w1 _ _ hfr
  rw [show strOf [84, 82, 73, 86, 1, 0] = { data := #[84, 82, 73, 86, 1, 0] } from rfl] at kc
  obtain ⟨b, off, hab, _⟩ := (SlAt.row hby).2.get (i := 0) (by omega)
  subst hab
  have hc6 : 6 ≤ cb := by omega
  unfold maxLen at g2
  clear hown hB hby hfr PK
  go_wp2
  go_ret
  exact ⟨rfl, HB.out⟩
end Go.Proofs.Ytgbhnkiballeeaa
