/- A box: Unpack. -/
import Derived.Test.YtgbhnkiballeeaaBxCut2
import Derived.Test.YtgbhnkiballeeaaBxRef
namespace Go.Proofs.Ytgbhnkiballeeaa
set_option linter.unusedVariables false
set_option linter.unusedSimpArgs false
set_option maxRecDepth 100000
open Go.ChangeShapes Go.WideShapes Go.ChangeAt Go.RowKit
theorem cutL_bounds (b : List Nat) (hb : ∀ i, b.getD i 0 < 256) : ∀ (n e q : Nat) (L : List Bx.Sec), Bx.cutL b n e q = some L → L.length = n ∧ ∀ s ∈ L, (0 ≤ s.1 ∧ s.1 ≤ 255) ∧ s.2.length ≤ b.length ∧ ∀ i, s.2.getD i 0 < 256 := by
  intro n
  induction n with
  | zero => intro e q L h; simp [Bx.cutL] at h; subst h; exact ⟨rfl, fun s hs => by cases hs⟩
  | succ n ih =>
    intro e q L h
    rw [Bx.cutL] at h
    split at h
    · cases hc : Bx.cutL b n (e + 7) (q + Bx.val3 (b.getD (e + 1) 0) (b.getD (e + 2) 0) (b.getD (e + 3) 0)) with
      | none => rw [hc] at h; cases h
      | some L' =>
        rw [hc] at h
        simp only [Option.map_some, Option.some.injEq] at h
        obtain ⟨h1, h2⟩ := ih _ _ L' hc
        subst h
        refine ⟨by simp [h1], fun s hs => ?_⟩
        rcases List.mem_cons.1 hs with rfl | hs
        · have := hb e
          refine ⟨⟨by simp, by show ((b.getD e 0 : Nat) : Int) ≤ 255; omega⟩, by simp; omega, take_lt hb q _⟩
        · exact h2 s hs
    · cases h
theorem cutO_all {b : List Nat} (h6 : 6 ≤ b.length) : cutO b (b.getD 5 0) = Bx.cutAll b := by
  unfold cutO Bx.cutAll
  by_cases h : b.getD 5 0 ≤ 8 ∧ 9 + 7 * b.getD 5 0 ≤ b.length ∧ b.length ≤ 100000
  · rw [if_pos h, if_pos ⟨h6, h⟩]
  · rw [if_neg h, if_neg (fun hh => h hh.2)]
open Classical in
theorem unp_cut {b : List Nat} (h6 : 6 ≤ b.length) : Bx.unp b = match cutO b (b.getD 5 0) with | some L => if Bx.May L ∧ Bx.file L = b then some L else none | none => none := by
  rw [cutO_all h6]; rfl
theorem unp_short {b : List Nat} (h6 : b.length < 6) : Bx.unp b = none := by
  unfold Bx.unp Bx.cutAll
  rw [if_neg (by omega)]
theorem file_lt (L : List Bx.Sec) (hb : Bx.Bytes L) : ∀ i, (Bx.file L).getD i 0 < 256 := list_lt fun x hx => by
  unfold Bx.file at hx
  rw [List.mem_append, List.mem_append] at hx
  rcases hx with (hx | hx) | hx
  · exact head_lt L x hx
  · unfold Bx.three at hx; simp at hx; omega
  · unfold Bx.bodies at hx
    rw [List.mem_flatMap] at hx
    obtain ⟨s, hs, hx⟩ := hx
    obtain ⟨i, hi, rfl⟩ := List.getElem_of_mem hx
    have := hb s hs i
    rwa [List.getD, List.getElem?_eq_getElem hi] at this
/-- What Unpack answers. -/
def UnpEnds (b : List Nat) (B : Nat) (W' : World) (e : Ending) (c : Int) : Prop :=
  (Bx.unp b = none ∧ e = .returned (.tuple #[.slice none 0 0, .int .i64 c])) ∨ ∃ v L, Bx.unp b = some L ∧ e = .returned (.tuple #[v, .int .i64 0]) ∧ Fresh B W' (fun W => SecsAt W v L)
set_option maxHeartbeats 2000000 in
theorem bunp_any (a : Option Addr) (m cap : Nat) (b : List Nat) (W : World) (hm : m = b.length) (h : BytesAt W (.slice a m cap) b) (hb : ∀ i, b.getD i 0 < 256) :
    Calls Try.prog 15 #[.slice a m cap] W fun e W' => Below W.heap.size W W' ∧ UnpEnds b W.heap.size W' e 2 := by
  have HM := hid hm
  have HA := hid h
  have HB := hid hb
  have hml : m ≤ maxLen := by rw [hm]; exact SlAt.len h
  unfold maxLen at hml
  clear hm h hb
  by_cases h6 : m < 6
  · have HF := hid (unp_short (b := b) (by rw [← HM.out]; exact h6))
    go_enter Try.func15, Try.ntmps15
    go_wp2
    go_ret2
    exact ⟨Below.refl _ _, Or.inl ⟨HF.out, rfl⟩⟩
  · have HU := hid (unp_cut (b := b) (by have := HM.out; omega))
    obtain ⟨bb, off, hab, hc⟩ := (SlAt.row HA.out).2.get (i := 5) (by omega)
    subst hab
    have c5 := hc 5 (by omega)
    have h5 := HB.out 5
    have CT := hid (bcut_any (some ⟨bb, off, none⟩) m cap (b.getD 5 0) b W HM.out HA.out HB.out (by omega))
    have HCB := hid (fun n e q L => cutL_bounds b HB.out n e q L)
    obtain ⟨x, hx⟩ : ∃ x, x = b.getD 5 0 := ⟨_, rfl⟩
    rw [← hx] at c5 h5 CT HU
    simp only [u8v] at c5
    clear hc hx
    go_enter Try.func15, Try.ntmps15
    go_wp2_with fail
    refine CT.out.mono ?_
    rintro e w1 ⟨hB1, ⟨ho, rfl⟩ | ⟨v, L, ho, rfl, hF⟩⟩
    · have HF := hid (show Bx.unp b = none by rw [HU.out, ho])
      have HB1 := hid hB1
      clear ho hB1 CT
      go_wp2
      go_ret2
      exact ⟨HB1.out, Or.inl ⟨HF.out, rfl⟩⟩
    · have HB1 := hid hB1
      have HF := hid hF
      obtain ⟨av, cv, rfl, hcv1, hcv2, _⟩ := SecsAt.open hF.it
      have hcut : Bx.cutL b x 6 (9 + 7 * x) = some L := by
        unfold cutO at ho
        split at ho
        · exact ho
        · cases ho
      have HM100 := hid (show b.length ≤ 100000 by
        unfold cutO at ho
        split at ho
        · rename_i hh; exact hh.2.2
        · cases ho)
      obtain ⟨_, hLb⟩ := HCB.out _ _ _ _ hcut
      rename_i hLn
      clear hLn
      have HU2 := hid (fun (hh : ¬ (Bx.May L ∧ Bx.file L = b)) => show Bx.unp b = none by rw [HU.out, ho]; simp only; rw [if_neg hh])
      have HLB := hid hLb
      have hbyt : Bx.Bytes L := fun s hs => (hLb s hs).2.2
      have HBYT := hid hbyt
      clear ho hB1 CT hcut hLb hF HU
      by_cases hM : Bx.May L
      · have PK := hid (bpack_ok av L.length cv L w1 rfl HF.out.it hM HBYT.out)
        have HMM := hid hM
        clear hM
        go_upto_region 7 with (go_at_call 12; refine PK.out.mono ?_; rintro e w2 ⟨v2, rfl, hB2, hown⟩)
        have HB2 := hid hB2
        have HY2 := hid (own_bytes hown (Bx.file_length L).symm)
        obtain ⟨a2, c2, rfl, _⟩ := SlAt.open HY2.out
        have HQ := hid (beq_any _ _ (Bx.file L) b w2 HY2.out (HA.out.keep (below_then HB1.out HB2.out)) (file_lt L HBYT.out) HB.out)
        clear hown hB2 PK
        by_cases heq : Bx.file L = b
        · have HE := hid (show Bx.unp b = some L from Bx.unp_some.2 ⟨HMM.out, heq⟩)
          rw [decide_eq_true heq] at HQ
          clear heq HU2
          go_wp2_with (go_at_call 25; refine HQ.out.mono ?_; rintro e w3 ⟨rfl, hww⟩; have hww' := hww.symm; subst hww')
          go_ret2
          exact ⟨below_then HB1.out HB2.out, Or.inr ⟨_, L, HE.out, rfl, HF.out.keep HB2.out⟩⟩
        · have HE := hid (show Bx.unp b = none from HU2.out (fun h => heq h.2))
          rw [decide_eq_false heq] at HQ
          clear heq HU2
          go_wp2_with (go_at_call 25; refine HQ.out.mono ?_; rintro e w3 ⟨rfl, hww⟩; have hww' := hww.symm; subst hww')
          go_ret2
          exact ⟨below_then HB1.out HB2.out, Or.inl ⟨HE.out, rfl⟩⟩
      · have HE := hid (show Bx.unp b = none from HU2.out (fun h => hM h.1))
        have PK := hid (bpack_no av L.length cv L w1 rfl HF.out.it (fun s hs => by have := HLB.out s hs; have := HM100.out; omega) hM)
        clear hM HU2
        go_wp2_with (go_at_call 12; refine PK.out.mono ?_; rintro e w2 ⟨rfl, hB2⟩)
        go_ret2
        exact ⟨below_then HB1.out hB2, Or.inl ⟨HE.out, rfl⟩⟩
end Go.Proofs.Ytgbhnkiballeeaa
