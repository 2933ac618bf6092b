/- A wave: the number that so many others of a range come ahead of. -/
import Derived.Test.YtagadfgginneeaaWvBelow
import Derived.Test.YtagadfgginneeaaPackMath
namespace Go.Proofs.Ytagadfgginneeaa
set_option linter.unusedVariables false
set_option maxRecDepth 100000
set_option linter.unusedSimpArgs false
open Go.ChangeShapes Go.WideShapes Go.ChangeAt Go.RowKit
set_option maxHeartbeats 1000000 in
theorem wsmall_any (p a b k0 wd : Nat) (l : List Nat) (w : World) (h : IsWave w p l wd) (hab : a ≤ b) (hb : b ≤ l.length) (hk0 : k0 < b - a) :
    Calls Try.prog 51 #[.pointer (some ⟨p, 0, none⟩), .int .i64 a, .int .i64 b, .int .i64 k0] w fun e w' => e = .returned (.int .i64 (Wv.least wd (Wv.seg l a b) k0 : Nat)) ∧ Below w.heap.size w w' := by
  obtain ⟨hw, hn, hlt, ad, cap, c0, c1, hL⟩ := h
  obtain ⟨R, hR⟩ : ∃ R, R = Wv.least wd (Wv.seg l a b) k0 := ⟨_, rfl⟩
  have hRl := Wv.least_lt wd (Wv.seg l a b) k0
  rw [← hR] at hRl ⊢
  have h20 : 2 ^ wd ≤ 1048576 := Nat.pow_le_pow_right (by omega) hw
  have HR := hid (show Wv.least wd (Wv.seg l a b) k0 = R % 2 ^ wd by rw [← hR, Nat.mod_eq_of_lt hRl])
  have HRL := hid hRl
  have hR20 : R < 1048576 := by omega
  have HL := hid hL
  have HLT := hid hlt
  clear hR hL hlt hRl h20
  go_enter Try.func51, Try.ntmps51
  go_wp2
  go_loopw [1, 2, 3, 9, 19] (fun s1 s2 s3 s9 s19 wr => ∃ k j n : Nat, k ≤ wd ∧ s19 = .int .i64 k ∧ s9 = .int .i64 n ∧ n ≤ R ∧ s3 = .int .i64 j ∧ j ≤ 1000 ∧ s1 = .int .i64 (Wv.at' l wd R a k : Nat) ∧ s2 = .int .i64 (Wv.at' l wd R b k : Nat) ∧ Hid (Below w.heap.size w wr) ∧ Hid (n = R / 2 ^ (wd - k)) ∧ Hid (Wv.least (wd - k) (Wv.with' (Wv.seg l a b) wd R k) j = R % 2 ^ (wd - k))) (fun _ _ _ _ s19 _ => wd - (intOf s19).toNat)
  case atStart => exact ⟨0, k0, 0, by omega, rfl, rfl, by omega, rfl, by omega, rfl, rfl, Below.refl _ _, (Nat.div_eq_of_lt HRL.out).symm, by rw [Wv.with_zero]; exact HR⟩
  case round =>
    obtain ⟨k, j, n, hk, rfl, rfl, hnR, rfl, hj, rfl, rfl, HB, HN, HI⟩ := hrel
    by_cases hkw : k < wd
    · obtain ⟨bl, rfl, hl⟩ : ∃ b, ad = some ⟨b, 0, none⟩ ∧ ∀ k, k < wd → LevAt w b l wd k := by
        rcases HL.out with h | h
        · omega
        · exact h
      obtain ⟨pv, d0, d1, V⟩ := (hl k hkw).keep HB.out
      have c1' := below_keep HB.out c1
      have hm := Wv.at_mono l wd R a b k hab hb
      have hal := Wv.at_le l wd R b k hb
      have hlen := Wv.rows_length l wd k
      have hlr : (Wv.rows l wd k).length ≤ 1000 := by rw [hlen]; exact hn
      have hla : Wv.at' l wd R a k ≤ (Wv.rows l wd k).length := by omega
      have hlb : Wv.at' l wd R b k ≤ (Wv.rows l wd k).length := by omega
      have DN := hid (fun (i : Nat) (hi : i ≤ (Wv.rows l wd k).length) (one : Bool) (W : World) (hW : Below wr.heap.size wr W) => wdown_any pv (Wv.rows l wd k) (wd - 1 - k) i one W (V.keep hW) hlr hi)
      have DA := hid (fun (one : Bool) (W : World) (hW : Below wr.heap.size wr W) => DN.out (Wv.at' l wd R a k) hla one W hW)
      have DB := hid (fun (one : Bool) (W : World) (hW : Below wr.heap.size wr W) => DN.out (Wv.at' l wd R b k) hlb one W hW)
      have eb : ∀ one, Wv.down (Wv.rows l wd k) (wd - 1 - k) (Wv.at' l wd R b k) one ≤ l.length := fun one => by have := Wv.down_le (Wv.rows l wd k) (wd - 1 - k) _ one hlb; omega
      have em : ∀ one, Wv.down (Wv.rows l wd k) (wd - 1 - k) (Wv.at' l wd R a k) one ≤ Wv.down (Wv.rows l wd k) (wd - 1 - k) (Wv.at' l wd R b k) one := fun one => Wv.down_mono _ _ _ _ _ hm hlb
      have es : Wv.down (Wv.rows l wd k) (wd - 1 - k) (Wv.at' l wd R b k) false - Wv.down (Wv.rows l wd k) (wd - 1 - k) (Wv.at' l wd R a k) false = ((Wv.with' (Wv.seg l a b) wd R k).filter fun n => n.testBit (wd - 1 - k) == false).length := by
        rw [Wv.down_sub _ _ _ _ _ hm hlb, Wv.seg_rows l wd R a b k hab hb]
      have hi := HI.out
      rw [show wd - k = wd - 1 - k + 1 by omega] at hi
      have hst := Wv.least_step _ _ _ _ hi
      rw [← Wv.with_succ, ← es] at hst
      have HD := hid (Wv.shift_digit R (wd - 1 - k))
      have na : Wv.at' l wd R a (k + 1) = Wv.down (Wv.rows l wd k) (wd - 1 - k) (Wv.at' l wd R a k) (R.testBit (wd - 1 - k)) := rfl
      have nb : Wv.at' l wd R b (k + 1) = Wv.down (Wv.rows l wd k) (wd - 1 - k) (Wv.at' l wd R b k) (R.testBit (wd - 1 - k)) := rfl
      generalize Wv.down (Wv.rows l wd k) (wd - 1 - k) (Wv.at' l wd R a k) = dA at DA em es na hst
      generalize Wv.down (Wv.rows l wd k) (wd - 1 - k) (Wv.at' l wd R b k) = dB at DB eb em es nb hst
      generalize Wv.at' l wd R a k = A at *
      generalize Wv.at' l wd R b k = B at *
      generalize Wv.zeros (Wv.rows l wd k) (wd - 1 - k) = z at *
      have x1l := em false
      have x2l := eb false
      have HST := hid hst
      have HNA := hid na
      have HNB := hid nb
      have HES := hid es
      have HEB := hid eb
      have HEM := hid em
      have HLEN := hid hlen
      have hA : A ≤ 1000 := by omega
      have hB : B ≤ 1000 := by omega
      clear hst na nb es eb em hlen hla hlb hlr DN hl c1 HL hi
      go_upto_region 5 with fail
      obtain ⟨w2, hw2, e0, e1, e0', e1', HB2⟩ := lev_box wr (.pointer (some ⟨pv, 0, none⟩)) (.int .i64 (z : Nat)) 76
      rw [← hw2]
      have HBB := hid (below_then HB.out HB2.out)
      clear hw2 d0 d1 e0' e1' c1'
      have DA1 := hid (fun q : Later w2.heap.size w2 => DA.out false q.it (below_then HB2.out q.low))
      have DB1 := hid (fun q : Later w2.heap.size w2 => DB.out false q.it (below_then HB2.out q.low))
      generalize dA false = x1 at *
      generalize dB false = x2 at *
      refine wp_region_later w2.heap.size (by kernel_rfl) (by kernel_rfl) ?_
      repeat (go_big_quiet_step (first
        | (go_at_call 62; with_reducible exact Later.call (Nat.le_refl _) (DA1.out _))
        | (go_at_call 62; with_reducible exact Later.call (Nat.le_refl _) (DB1.out _))))
      refine wpQuiet_nil ?_
      rintro _ ⟨q3, rfl⟩
      have g0 := fun q : Later q3.it.heap.size q3.it => q.keep (e0 q3)
      have g1 := fun q : Later q3.it.heap.size q3.it => q.keep (e1 q3)
      have HB3 := hid (below_then HB2.out q3.low)
      have DA3 := hid (fun (q : Later q3.it.heap.size q3.it) one => DA.out one q.it (below_then HB3.out q.low))
      have DB3 := hid (fun (q : Later q3.it.heap.size q3.it) one => DB.out one q.it (below_then HB3.out q.low))
      have HBC := hid (below_then HBB.out q3.low)
      generalize q3.it = w3 at *
      clear DA1 DB1 e0 e1 q3 DA DB
      have hbits := HST.out.1
      by_cases hz : x2 - x1 ≤ j
      · rw [decide_eq_true hz] at hbits
        have HBIT := hid hbits
        have hn1 := HD.out
        rw [show wd - 1 - k + 1 = wd - k by omega, ← HN.out, hbits] at hn1
        have HN1 := hid hn1
        have hnl : R / 2 ^ (wd - 1 - k) ≤ R := Nat.div_le_self _ _
        have HSI := hid (show bits BinOp.or IntKind.i64 ((n : Int) * 2) ((Bn.dig true : Nat) : Int) = ((R / 2 ^ (wd - 1 - k) : Nat) : Int) by rw [Pm.shift_in n true (by omega), hn1, Nat.add_comm])
        have DG := hid (fun W => wdig_any true W)
        have hdg : Bn.dig true ≤ 1 := by decide
        have HDG := hid (show Bn.dig true = 1 from rfl)
        generalize Bn.dig true = dg at *
        clear hbits hn1
        go_wp2_with (go_at_call 61; refine (DG.out _).mono ?_; rintro e w' ⟨rfl, rfl⟩)
        have DA4 := hid (fun q => DA3.out q true)
        have DB4 := hid (fun q => DB3.out q true)
        refine wp_region_later w'.heap.size (by kernel_rfl) (by kernel_rfl) ?_
        repeat (go_big_quiet_step (first
          | (go_at_call 62; with_reducible exact Later.call (Nat.le_refl _) (DA4.out _))
          | (go_at_call 62; with_reducible exact Later.call (Nat.le_refl _) (DB4.out _))))
        refine wpQuiet_nil ?_
        rintro _ ⟨q, rfl⟩
        go_wp2
        rw [HSI.out]
        go_roundw
        case rel => exact ⟨k + 1, j - (x2 - x1), R / 2 ^ (wd - 1 - k), by omega, by go_num, rfl, hnl, by go_num, by omega, by rw [HNA.out, HBIT.out], by rw [HNB.out, HBIT.out], below_then HBC.out q.low, hid (by rw [show wd - (k + 1) = wd - 1 - k by omega]), hid (by have := HST.out.2; rw [if_pos hz] at this; rw [show wd - (k + 1) = wd - 1 - k by omega]; exact this)⟩
        case measure => simp [intOf]; omega
      · have hz' : j < x2 - x1 := by omega
        have hz2 : decide ((x2 : Int) - x1 ≤ j) = false := decide_eq_false (by omega)
        rw [decide_eq_false hz] at hbits
        have HBIT := hid hbits
        have hn1 := HD.out
        rw [show wd - 1 - k + 1 = wd - k by omega, ← HN.out, hbits] at hn1
        have HN1 := hid hn1
        have hnl : R / 2 ^ (wd - 1 - k) ≤ R := Nat.div_le_self _ _
        have HSI := hid (show bits BinOp.or IntKind.i64 ((n : Int) * 2) ((Bn.dig false : Nat) : Int) = ((R / 2 ^ (wd - 1 - k) : Nat) : Int) by rw [Pm.shift_in n false (by omega), hn1, Nat.add_comm])
        have DG := hid (fun W => wdig_any false W)
        have hdg : Bn.dig false ≤ 1 := by decide
        have HDG := hid (show Bn.dig false = 0 from rfl)
        generalize Bn.dig false = dg at *
        clear hbits hn1
        go_wp2_with (go_at_call 61; refine (DG.out _).mono ?_; rintro e w' ⟨rfl, rfl⟩)
        have DA4 := hid (fun q => DA3.out q false)
        have DB4 := hid (fun q => DB3.out q false)
        refine wp_region_later w'.heap.size (by kernel_rfl) (by kernel_rfl) ?_
        repeat (go_big_quiet_step (first
          | (go_at_call 62; with_reducible exact Later.call (Nat.le_refl _) (DA4.out _))
          | (go_at_call 62; with_reducible exact Later.call (Nat.le_refl _) (DB4.out _))))
        refine wpQuiet_nil ?_
        rintro _ ⟨q, rfl⟩
        go_wp2
        rw [HSI.out]
        go_roundw
        case rel => exact ⟨k + 1, j, R / 2 ^ (wd - 1 - k), by omega, by go_num, rfl, hnl, by go_num, by omega, by rw [HNA.out, HBIT.out], by rw [HNB.out, HBIT.out], below_then HBC.out q.low, hid (by rw [show wd - (k + 1) = wd - 1 - k by omega]), hid (by have := HST.out.2; rw [if_neg hz] at this; rw [show wd - (k + 1) = wd - 1 - k by omega]; exact this)⟩
        case measure => simp [intOf]; omega
    · obtain rfl : k = wd := by omega
      go_wp2
      go_ret
      have := HN.out
      rw [Nat.sub_self, Nat.pow_zero, Nat.div_one] at this
      exact ⟨ret_int (by omega), HB.out⟩
end Go.Proofs.Ytagadfgginneeaa
