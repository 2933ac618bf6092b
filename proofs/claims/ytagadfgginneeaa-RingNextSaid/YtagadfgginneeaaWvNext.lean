/- A wave: Next and Access. -/
import Derived.Test.YtagadfgginneeaaWvSmall
import Derived.Test.YtagadfgginneeaaWvCount
namespace Go.Proofs.Ytagadfgginneeaa
set_option linter.unusedVariables false
set_option maxRecDepth 100000
set_option linter.unusedSimpArgs false
open Go.ChangeShapes Go.WideShapes Go.ChangeAt Go.RowKit

theorem wnext_nil (a b v : Int) (w : World) :
    Calls Try.prog 32 #[.pointer none, .int .i64 a, .int .i64 b, .int .i64 v] w fun e w' => e = .returned (.int .i64 (-1)) ∧ Below w.heap.size w w' := by
  go_enter Try.func32, Try.ntmps32
  go_wp2_with (go_at_call 49; refine (whold_nil _ _ _).mono ?_; rintro e w' ⟨rfl, rfl⟩)
  go_ret
  exact ⟨rfl, Below.refl _ _⟩
theorem wnext_any (p wd : Nat) (l : List Nat) (a b v : Int) (w : World) (h : IsWave w p l wd) :
    Calls Try.prog 32 #[.pointer (some ⟨p, 0, none⟩), .int .i64 a, .int .i64 b, .int .i64 v] w fun e w' => e = .returned (.int .i64 (Wv.nxt (Wv.rng l a b) v)) ∧ Below w.heap.size w w' := by
  have h1 := Wv.loEnd_le l.length a b
  have h2 := Wv.hiEnd_le l.length b
  have hn := h.2.1
  have HO := hid (fun W (hW : W = w) => by rw [hW]; exact whold_any p wd l a b w h : ∀ W, W = w → Calls Try.prog 49 #[.pointer (some ⟨p, 0, none⟩), .int .i64 a, .int .i64 b] W fun e w' => e = .returned (.tuple #[.int .i64 (Wv.loEnd l.length a b : Nat), .int .i64 (Wv.hiEnd l.length b : Nat)]) ∧ w' = w)
  have BL := hid (fun W (hW : Below w.heap.size w W) => wbelow_any p _ _ wd v l W (h.keep hW) h1 h2)
  have SM := hid (fun k (hk : k < Wv.hiEnd l.length b - Wv.loEnd l.length a b) W (hW : Below w.heap.size w W) => wsmall_any p _ _ k wd l W (h.keep hW) h1 h2 hk)
  have hlt : ∀ y ∈ Wv.rng l a b, y < 2 ^ wd := fun y hy => h.2.2.1 y (Wv.rng_mem hy)
  have hlen := Wv.rng_length l a b
  have hx := Wv.belowR_le (Wv.rng l a b) v
  have N0 := hid (Wv.nxt_none (Wv.rng l a b) v)
  have N1 := hid (Wv.nxt_least (Wv.rng l a b) wd v hlt)
  unfold Wv.rng at *
  generalize Wv.seg l (Wv.loEnd l.length a b) (Wv.hiEnd l.length b) = s at *
  generalize Wv.loEnd l.length a b = A at *
  generalize Wv.hiEnd l.length b = B at *
  generalize Wv.belowR s v = k at *
  generalize Wv.nxt s v = r at *
  clear hlt h
  by_cases hab : A = B
  · subst hab
    have hr : r = -1 := N0.out (by omega)
    subst hr
    clear N0 N1 BL SM hx hlen
    go_enter Try.func32, Try.ntmps32
    go_wp2_with (go_at_call 49; refine (HO.out _ rfl).mono ?_; rintro e w' ⟨rfl, rfl⟩)
    go_ret
    exact ⟨rfl, Below.refl _ _⟩
  · have hne : ((A : Int) == (B : Int)) = false := by rw [beq_eq_false_iff_ne]; omega
    by_cases hk : k = B - A
    · have hr : r = -1 := N0.out (by omega)
      subst hr
      have hkk : ((k : Int) == (B : Int) - A) = true := by rw [beq_iff_eq]; omega
      clear N0 N1 SM hx hlen hk
      go_enter Try.func32, Try.ntmps32
      go_wp2_with (first
        | (go_at_call 49; refine (HO.out _ rfl).mono ?_; rintro e w' ⟨rfl, rfl⟩)
        | (go_at_call 50; refine (BL.out _ (Below.refl _ _)).mono ?_; rintro e w1 ⟨rfl, hB1⟩))
      go_ret
      exact ⟨rfl, hB1⟩
    · have hkl : k < B - A := by omega
      have SK := hid (SM.out k hkl)
      have HR := hid (N1.out (by omega))
      have hkk : ((k : Int) == (B : Int) - A) = false := by rw [beq_eq_false_iff_ne]; omega
      have hk1 : k ≤ 1000 := by omega
      clear N0 N1 SM hx hlen
      go_enter Try.func32, Try.ntmps32
      go_wp2_with (first
        | (go_at_call 49; refine (HO.out _ rfl).mono ?_; rintro e w' ⟨rfl, rfl⟩)
        | (go_at_call 50; refine (BL.out _ (Below.refl _ _)).mono ?_; rintro e w1 ⟨rfl, hB1⟩)
        | (go_at_call 51; refine (SK.out _ hB1).mono ?_; rintro e w2 ⟨rfl, hB2⟩))
      go_ret
      exact ⟨ret_int HR.out.symm, below_then hB1 hB2⟩
theorem wacc_nil (i : Int) (w : World) : Calls Try.prog 46 #[.pointer none, .int .i64 i] w fun e w' => e = .returned (.int .i64 (-1)) ∧ w' = w := by
  by_cases h0 : i < 0
  · go_enter Try.func46, Try.ntmps46
    go_wp2
    go_ret
    exact ⟨rfl, rfl⟩
  · have h1 : 0 ≤ i := by omega
    go_enter Try.func46, Try.ntmps46
    go_wp2_with (go_at_call 27; refine (wlen_nil _).mono ?_; rintro e w' ⟨rfl, rfl⟩)
    go_ret
    exact ⟨rfl, rfl⟩
theorem wacc_out (p : Nat) (n : Nat) (i : Int) (w : World) (hc : w.cell? ⟨p, 0, none⟩ = some (.int .i64 n)) (hi : i < 0 ∨ (n : Int) ≤ i) :
    Calls Try.prog 46 #[.pointer (some ⟨p, 0, none⟩), .int .i64 i] w fun e w' => e = .returned (.int .i64 (-1)) ∧ w' = w := by
  by_cases h0 : i < 0
  · go_enter Try.func46, Try.ntmps46
    go_wp2
    go_ret
    exact ⟨rfl, rfl⟩
  · have h1 : 0 ≤ i := by omega
    have h2 : (n : Int) ≤ i := by omega
    go_enter Try.func46, Try.ntmps46
    go_wp2_with (go_at_call 27; refine (wlen_cell _ _ _ hc).mono ?_; rintro e w' ⟨rfl, rfl⟩)
    go_ret
    exact ⟨rfl, rfl⟩
set_option maxHeartbeats 1000000 in
theorem wacc_in (p wd i : Nat) (l : List Nat) (w : World) (h : IsWave w p l wd) (hi : i < l.length) :
    Calls Try.prog 46 #[.pointer (some ⟨p, 0, none⟩), .int .i64 i] w fun e w' => e = .returned (.int .i64 (l.getD i 0 : Nat)) ∧ Below w.heap.size w w' := by
  obtain ⟨hw, hn, hlt, ad, cap, c0, c1, hL⟩ := h
  have AG := hid (fun k => Wv.at_get l wd i k hi)
  have hvl : l.getD i 0 < 2 ^ wd := hlt _ (by rw [List.getD, List.getElem?_eq_getElem hi]; exact List.getElem_mem hi)
  have h20 : 2 ^ wd ≤ 1048576 := Nat.pow_le_pow_right (by omega) hw
  have HVL := hid hvl
  have LN := hid (fun W (hW : W = w) => wlen_cell p l.length W (by rw [hW]; exact c0))
  generalize l.getD i 0 = v at *
  have hv20 : v < 1048576 := by omega
  have HL := hid hL
  clear hL hlt hvl h20 c0
  have hi' : (i : Int) < l.length := by omega
  have hd2 : decide (l.length ≤ i) = false := decide_eq_false (by omega)
  have hd3 : decide ((i : Int) < 0) = false := decide_eq_false (by omega)
  go_enter Try.func46, Try.ntmps46
  go_wp2_with (go_at_call 27; refine (LN.out _ rfl).mono ?_; rintro e w' ⟨rfl, rfl⟩)
  go_loopw [1, 5, 22] (fun s1 s5 s22 wr => ∃ k n : Nat, k ≤ wd ∧ s22 = .int .i64 k ∧ s5 = .int .i64 n ∧ n ≤ v ∧ s1 = .int .i64 (Wv.at' l wd v i k : Nat) ∧ Hid (Below w'.heap.size w' wr) ∧ Hid (n = v / 2 ^ (wd - k))) (fun _ _ s22 _ => wd - (intOf s22).toNat)
  case atStart => exact ⟨0, 0, by omega, rfl, rfl, by omega, rfl, Below.refl _ _, (Nat.div_eq_of_lt HVL.out).symm⟩
  case round =>
    obtain ⟨k, n, hk, rfl, rfl, hnv, rfl, HB, HN⟩ := hrel
    by_cases hkw : k < wd
    · obtain ⟨bl, rfl, hl⟩ : ∃ b, ad = some ⟨b, 0, none⟩ ∧ ∀ k, k < wd → LevAt w' b l wd k := by
        rcases HL.out with h | h
        · omega
        · exact h
      obtain ⟨pv, d0, d1, V⟩ := (hl k hkw).keep HB.out
      have c1' := below_keep HB.out c1
      have hlen := Wv.rows_length l wd k
      obtain ⟨ha1, ha2⟩ := AG.out k
      have hlr : (Wv.rows l wd k).length ≤ 1000 := by rw [hlen]; exact hn
      have hla : Wv.at' l wd v i k < (Wv.rows l wd k).length := by omega
      have hdl : (Wv.digs (Wv.rows l wd k) (wd - 1 - k)).length ≤ 4096 := by simp only [Wv.digs, List.length_map]; omega
      have GT := hid (fun (W : World) (hW : Below wr.heap.size wr W) => by
        have := get_any pv _ (Wv.at' l wd v i k : Nat) W (V.keep hW) hdl
        rw [Int.toNat_natCast, Wv.testBit_digs _ _ _ hla, ha2, decide_eq_true (by omega), Bool.true_and] at this
        exact this)
      have DN := hid (fun (one : Bool) (W : World) (hW : Below wr.heap.size wr W) => wdown_any pv (Wv.rows l wd k) (wd - 1 - k) (Wv.at' l wd v i k) one W (V.keep hW) hlr (by omega))
      have na : Wv.at' l wd v i (k + 1) = Wv.down (Wv.rows l wd k) (wd - 1 - k) (Wv.at' l wd v i k) (v.testBit (wd - 1 - k)) := rfl
      have hsd := Wv.shift_digit v (wd - 1 - k)
      rw [show wd - 1 - k + 1 = wd - k by omega, ← HN.out] at hsd
      generalize Wv.down (Wv.rows l wd k) (wd - 1 - k) (Wv.at' l wd v i k) = dA at DN na
      generalize Wv.at' l wd v i k = A at *
      generalize Wv.zeros (Wv.rows l wd k) (wd - 1 - k) = z at *
      generalize hbit : v.testBit (wd - 1 - k) = bit at *
      have HNA := hid na
      have hA : A ≤ 1000 := by omega
      have HSI := hid (show bits BinOp.or IntKind.i64 ((n : Int) * 2) ((Bn.dig bit : Nat) : Int) = ((v / 2 ^ (wd - 1 - k) : Nat) : Int) by rw [Pm.shift_in n bit (by omega), hsd, Nat.add_comm])
      have hnl : v / 2 ^ (wd - 1 - k) ≤ v := Nat.div_le_self _ _
      have DG := hid (fun W => wdig_any bit W)
      have hdg : Bn.dig bit ≤ 1 := by have := Bn.dig_lt bit; omega
      generalize Bn.dig bit = dg at *
      clear na hlen hla hlr hl c1 HL ha1 ha2 AG hdl hsd hbit V
      go_upto_region 7 with fail
      obtain ⟨w2, hw2, e0, e1, e0', e1', HB2⟩ := lev_box wr (.pointer (some ⟨pv, 0, none⟩)) (.int .i64 (z : Nat)) 76
      rw [← hw2]
      have HBB := hid (below_then HB.out HB2.out)
      clear hw2 d0 d1 e0 e1 c1'
      go_wp2_with (first
        | (go_at_call 60; refine (GT.out _ HB2.out).mono ?_; rintro e w3 ⟨rfl, q, rfl⟩)
        | (go_at_call 61; refine (DG.out _).mono ?_; rintro e w4 ⟨rfl, rfl⟩)
        | (go_at_call 62; refine (DN.out _ _ (below_then HB2.out (below_drawn (Below.refl _ _) _))).mono ?_; rintro e w5 ⟨rfl, hB5⟩))
      rw [HSI.out]
      go_roundw
      case rel => exact ⟨k + 1, v / 2 ^ (wd - 1 - k), by omega, by go_num, rfl, hnl, by rw [HNA.out], below_then (below_then HBB.out (below_drawn (Below.refl _ _) _)) hB5, hid (by rw [show wd - (k + 1) = wd - 1 - k by omega])⟩
      case measure => simp [intOf]; omega
    · obtain rfl : k = wd := by omega
      go_wp2
      go_ret
      have := HN.out
      rw [Nat.sub_self, Nat.pow_zero, Nat.div_one] at this
      exact ⟨ret_int (by omega), HB.out⟩
end Go.Proofs.Ytagadfgginneeaa
