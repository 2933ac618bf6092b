/- A box: its small parts. -/
import Derived.Test.YtgbhnkiballeeaaSecs
import Derived.Test.YtgbhnkiballeeaaOwn2
import Derived.Test.YtgbhnkiballeeaaBin
import Derived.Deep.DeepCutAuto
namespace Go.Proofs.Ytgbhnkiballeeaa
set_option linter.unusedVariables false
set_option linter.unusedSimpArgs false
set_option maxRecDepth 100000
open Go.ChangeShapes Go.WideShapes Go.ChangeAt Go.RowKit
theorem Try.info5 : (Try.prog.info? 5).map (fun i => (i.zero, i.size, i.bytes)) = some (some (.int .u8 0), 1, 1) := by kernel_rfl
theorem hsize_any (n : Nat) (W : World) (hn : n ≤ 1000000) : Calls Try.prog 26 #[.int .i64 n] W fun e W' => e = .returned (.int .i64 (9 + 7 * n : Nat)) ∧ W' = W := by
  go_enter Try.func26, Try.ntmps26
  go_wp2
  go_ret
  exact ⟨ret_int (by omega), rfl⟩
/-- What a step of building leaves: the call's own slice, grown; all but it as it was. -/
structure Grew (W : World) (base : Nat) (v : Value) (n : Nat) (l : List Nat) (W' : World) (v' : Value) : Prop where
  own : W'.ownsRow base 5 1 v' n (l.map u8v)
  rest : W.grownBy W' v.ownBlock
  moved : Moved W v v'
theorem app3_any (v : Value) (n k base : Nat) (l : List Nat) (W : World) (hown : W.ownsRow base 5 1 v n (l.map u8v)) (hb : base ≤ W.heap.size) (hn : n ≤ 1000000000) (hk : k < 16777216) :
    Calls Try.prog 21 #[v, .int .i64 k] W fun e W' => ∃ v', e = .returned v' ∧ Grew W base v (n + 3) (l ++ Bx.three k) W' v' := by
  obtain ⟨i0, hi, hz0, hz1, hz2⟩ := info_parts Try.info5
  obtain ⟨a, cap, rfl, _, _, _, _⟩ := rowAt_own hown
  have HO := hid hown
  clear hown
  have e1 : (k : Int) / 65536 = ((k / 65536 % 256 : Nat) : Int) := by omega
  have e2 : (k : Int) / 256 % 256 = ((k / 256 % 256 : Nat) : Int) := by omega
  have e3 : (k : Int) % 256 = ((k % 256 : Nat) : Int) := by omega
  have EE := hid (show (#[Value.int .u8 ((k : Int) / 65536), Value.int .u8 ((k : Int) / 256 % 256), Value.int .u8 ((k : Int) % 256)] : Array Value) = ((Bx.three k).map u8v).toArray by rw [e1, e2, e3]; rfl)
  clear e1 e2 e3
  go_enter Try.func21, Try.ntmps21
  go_wp2_with (at_builtin; refine wpList_append_many rfl (.tmp 5) (.tmp 14) 24 rfl base 5 i0 _ 1 Try.underlying24 hi hz0 hz1 hz2 rfl (.slice a n cap) n (l.map u8v) ((Bx.three k).map u8v) 3 rfl W ?hw rfl HO.out W.heap.size rfl rfl ?one ?b1 ?b2 hb ?_)
  case hw => rw [EE.out]
  case one => intro u hu; obtain ⟨c, _, rfl⟩ := List.mem_map.1 hu; rfl
  case b1 => unfold maxLen; omega
  case b2 => omega
  intro v' w' h1 h2 h3
  rw [← List.map_append] at h1
  have H1 := hid h1
  have H2 := hid h2
  have H3 := hid h3
  clear h1 h2 h3
  go_wp2
  go_ret
  exact ⟨v', rfl, ⟨H1.out, H2.out, H3.out⟩⟩
/-- A pair in a new block. -/
theorem pair_box (W : World) (a b : Value) (t : TypeId) : ∃ w2, w2 = W.alloc (.cells #[a, b] t) ∧ w2.cell? ⟨W.heap.size, 0, none⟩ = some a ∧ w2.cell? ⟨W.heap.size, 1, none⟩ = some b ∧ Hid (Below W.heap.size W w2) :=
  ⟨_, rfl, by simp [go_sem], by simp [go_sem], (Below.refl W.heap.size W).alloc (Nat.le_refl _) _⟩
/-- A section, read: its ID, and where its body lies. -/
theorem sec_open {W : World} {b off : Nat} {s : Bx.Sec} (h : SecCells W b off s) : ∃ (ab : Option Addr) (cb : Nat), W.cell? ⟨b, off, none⟩ = some (.int .i64 s.1) ∧ W.cell? ⟨b, off + 1, none⟩ = some (.slice ab s.2.length cb) ∧ s.2.length ≤ cb ∧ cb ≤ maxLen ∧ BytesAt W (.slice ab s.2.length cb) s.2 := by
  obtain ⟨h1, v, h2, h3⟩ := h
  obtain ⟨ab, cb, rfl, g1, g2, _, _⟩ := SlAt.open h3
  exact ⟨ab, cb, h1, h2, g1, g2, h3⟩
set_option maxHeartbeats 1000000 in
theorem bmay_any (a : Option Addr) (n cap : Nat) (L : List Bx.Sec) (W : World) (hn : n = L.length) (h : SecsAt W (.slice a n cap) L) (hb : ∀ s ∈ L, -9223372036854775808 ≤ s.1 ∧ s.1 ≤ 9223372036854775807 ∧ s.2.length ≤ 140737488351232) :
    Calls Try.prog 20 #[.slice a n cap] W fun e W' => e = .returned (.bool (Bx.mayB L)) ∧ Below W.heap.size W W' := by
  have HN := hid hn
  have HS := hid h
  have HBD := hid hb
  have hnm : n ≤ maxLen := by
    obtain ⟨a', cap', e, h1, h2, _⟩ := h
    simp only [Value.slice.injEq] at e
    omega
  unfold maxLen at hnm
  clear hn h hb
  by_cases h8 : 8 < n
  · have HR := hid (show Bx.mayB L = false by unfold Bx.mayB; rw [decide_eq_false (by have := HN.out; omega)]; rfl)
    go_enter Try.func20, Try.ntmps20
    go_wp2
    go_ret
    exact ⟨ret_bool HR.out.symm, Below.refl _ _⟩
  · have HM := hid (show Bx.mayB L = (Bx.riseB 0 L && decide (Bx.total L ≤ 100000)) by unfold Bx.mayB; rw [decide_eq_true (by have := HN.out; omega), Bool.true_and])
    generalize Bx.mayB L = r at *
    go_enter Try.func20, Try.ntmps20
    go_wp2_with (go_at_call 26; refine (hsize_any n _ (by omega)).mono ?_; rintro e w' ⟨rfl, hww⟩; have hww' := hww.symm; subst hww')
    go_loopw [3, 4, 15] (fun s3 s4 s15 wr => ∃ (i z : Nat) (p : Int), i ≤ n ∧ s15 = .int .i64 i ∧ s3 = .int .i64 z ∧ z ≤ 1000 + 140737488351232 * i ∧ s4 = .int .i64 p ∧ Hid (z + Bx.sizes (L.drop i) = Bx.total L) ∧ Hid (Bx.riseB p (L.drop i) = Bx.riseB 0 L) ∧ Hid (Below W.heap.size W wr)) (fun _ _ s15 _ => n - (intOf s15).toNat)
    case atStart => exact ⟨0, 9 + 7 * n, 0, by omega, rfl, rfl, by omega, rfl, hid (by rw [List.drop_zero, HN.out]; rfl), hid (by rw [List.drop_zero]), Below.refl _ _⟩
    case round =>
      obtain ⟨i, z, p, hin, rfl, rfl, hz, rfl, HZ1, HR, HB⟩ := hrel
      by_cases hlt : i < n
      · have hlt' : i < L.length := by rw [← HN.out]; exact hlt
        obtain ⟨b, off, rfl, hc⟩ := (HS.out.keep HB.out).get hlt'
        obtain ⟨ab, cb, d0, d1, h1, h2, _⟩ := sec_open (hc i hlt')
        have hbd := HBD.out L[i] (List.getElem_mem _)
        have hs := Bx.sizes_drop L i hlt'
        have hr := Bx.riseB_drop L p i hlt'
        have HS1 := hid hs
        have HR1 := hid hr
        generalize L[i] = s at *
        obtain ⟨id, body⟩ := s
        simp only at *
        have hltI : (i : Int) < n := by omega
        obtain ⟨m, hm⟩ : ∃ m, m = body.length := ⟨_, rfl⟩
        rw [← hm] at d1 h1 hbd HS1
        unfold maxLen at h2
        clear hc hs hr hm
        go_upto_region 8 with fail
        obtain ⟨w2, hw2, e0, e1, HB2⟩ := pair_box wr (.int .i64 id) (.slice ab m cb) 42
        rw [← hw2]
        have HBB := hid (below_then HB.out HB2.out)
        clear hw2 d0 d1
        have hz8 : z ≤ 1000 + 140737488351232 * 8 := by omega
        rcases (show id ≤ p ∨ (p < id ∧ 255 < id) ∨ (p < id ∧ id ≤ 255) by omega) with h3 | ⟨h3, h4⟩ | ⟨h3, h4⟩
        · have HF := hid (show r = false by rw [HM.out, ← HR.out, HR1.out, decide_eq_false (by omega)]; rfl)
          go_wp2
          go_ret
          exact ⟨ret_bool HF.out.symm, HBB.out⟩
        · have HF := hid (show r = false by rw [HM.out, ← HR.out, HR1.out, decide_eq_false (show ¬ id ≤ 255 by omega), Bool.and_false]; rfl)
          have h3' : ¬ id ≤ p := by omega
          go_wp2
          go_ret
          exact ⟨ret_bool HF.out.symm, HBB.out⟩
        · have HR2 := hid (show Bx.riseB id (L.drop (i + 1)) = Bx.riseB 0 L by rw [← HR.out, HR1.out, decide_eq_true h3, decide_eq_true h4]; rfl)
          have h3' : ¬ id ≤ p := by omega
          go_wp2
          go_roundw
          case rel => exact ⟨i + 1, z + m, id, by omega, by go_num, by go_num, by omega, rfl, hid (by have := HZ1.out; have := HS1.out; omega), HR2, HBB⟩
          case measure => simp [intOf]; omega
      · obtain rfl : i = n := by omega
        have hd : L.drop i = [] := List.drop_of_length_le (by rw [← HN.out]; exact Nat.le_refl _)
        have hz1 := HZ1.out
        have hr := HR.out
        rw [hd] at hz1 hr
        have hz2 : z = Bx.total L := hz1
        have hr2 : Bx.riseB 0 L = true := hr.symm
        have HF := hid (show r = decide ((z : Int) ≤ 100000) by rw [HM.out, hr2, Bool.true_and, hz2, decide_eq_decide]; omega)
        clear hz1 hr hz2 hr2 hd HZ1 HR HM
        go_wp2
        go_ret
        exact ⟨ret_bool HF.out.symm, HB.out⟩
end Go.Proofs.Ytgbhnkiballeeaa
