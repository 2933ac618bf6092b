/- store's Encode: a store's file. -/
import Derived.Test.YtjaebndajhppgaaGreatDoorSoEnc
import Derived.Test.YtjaebndajhppgaaGreatDoorGBx2
namespace Go.Proofs.YtjaebndajhppgaaGreatDoor
set_option linter.unusedVariables false
set_option linter.unusedSimpArgs false
set_option maxRecDepth 100000
open Go.ChangeShapes Go.WideShapes Go.ChangeAt Go.RowKit Go.Sort
theorem Tryz.soinfo9 : (Tryz.prog.info? 9).map (fun i => (i.zero, i.size, i.bytes)) = some (some (.string ByteArray.empty), 1, 16) := by kernel_rfl
theorem so_zero_texts (n : Nat) : (madeCells #[.string ByteArray.empty] n).toList = List.replicate n (str []) := by
  refine List.ext_getElem (by simp [madeCells]) fun i h1 h2 => ?_
  simp [madeCells, Nat.mod_one]
  rfl
theorem so_texts_store {L : List (List UInt8)} {n : Nat} (y : List UInt8) (h : L.length < n) : (L.map str ++ List.replicate (n - L.length) (str [])).set L.length (str y) = (L ++ [y]).map str ++ List.replicate (n - (L ++ [y]).length) (str []) := by
  obtain ⟨r, hr⟩ : ∃ r, n - L.length = r + 1 := ⟨n - L.length - 1, by omega⟩
  rw [hr, List.replicate_succ, show n - (L ++ [y]).length = r by rw [List.length_append, List.length_singleton]; omega]
  rw [List.set_append_right _ _ (by simp)]
  simp
/-- Two sections in a new block. -/
theorem secs_two {W : World} {b : Nat} {v1 v2 : Value} {l1 l2 : List Nat} (h : Blk W b [.int .i64 1, v1, .int .i64 2, v2] 56) (h1 : BytesAt W v1 l1) (h2 : BytesAt W v2 l2) : SecsAt W (.slice (some ⟨b, 0, none⟩) 2 2) [(1, l1), (2, l2)] := by
  refine ⟨some ⟨b, 0, none⟩, 2, rfl, Nat.le_refl _, by unfold maxLen; omega, (fun h => by cases h), Or.inr ⟨b, 0, rfl, fun i hi => ?_⟩⟩
  match i, hi with
  | 0, _ => exact ⟨h.cell (i := 0) rfl, v1, h.cell (i := 1) rfl, h1⟩
  | 1, _ => exact ⟨h.cell (i := 2) rfl, v2, h.cell (i := 3) rfl, h2⟩
/-- Texts' cells, as far as they are told. -/
def rowTx (L : List (List UInt8)) (m i : Nat) : List Value := (L.take i).map str ++ List.replicate (m - i) (str [])
theorem rowTx_len (L : List (List UInt8)) {m i : Nat} (hm : L.length = m) (hi : i ≤ m) : (rowTx L m i).length = m := by simp [rowTx]; omega
theorem rowTx_set {L : List (List UInt8)} {m i : Nat} (hm : L.length = m) (hi : i < L.length) : (rowTx L m i).set i (str L[i]) = rowTx L m (i + 1) := by
  have e : L.take (i + 1) = L.take i ++ [L[i]] := List.take_succ_eq_append_getElem hi
  unfold rowTx
  rw [e]
  have h := so_texts_store (L := L.take i) (n := m) L[i] (by simp; omega)
  have hl : (L.take i).length = i := by simp; omega
  rw [hl] at h
  rw [h, List.length_append, hl]; rfl
theorem rowTx_at {W : World} {q m : Nat} {L : List (List UInt8)} (h : Blk W q (rowTx L m m) 9) (hm : L.length = m) (hx : m ≤ maxLen) : TextsAt W (.slice (some ⟨q, 0, none⟩) m m) L := by
  subst hm
  refine ⟨some ⟨q, 0, none⟩, L.length, rfl, Nat.le_refl _, hx, (fun h => by cases h), Or.inr ⟨q, 0, rfl, fun i hi => ?_⟩⟩
  rw [Nat.zero_add]
  refine h.cell ?_
  unfold rowTx
  simp [hi, List.getD]
set_option maxHeartbeats 8000000 in
theorem enc_any (L : List TR) (hl : ∀ t ∈ L, Tm.isTri t = true) (hn : L.length ≤ 100) (p : Nat) (w : World) (h : IsStore w p L) :
    Calls Tryz.prog 19 #[.pointer (some ⟨p, 0, none⟩)] w fun e w' => ∃ v, e = .returned v ∧ w'.ownsRow w.heap.size 5 1 v (So.file L).length ((So.file L).map u8v) ∧ Below w.heap.size w w' := by
  have H := hid h
  obtain ⟨vt, ve, r, h1, h2, h3, h4⟩ := h
  obtain ⟨ae, ce, rfl, _, _, _⟩ := h3.open
  have HT := hid h3
  obtain ⟨i0, hi0, hz0, hz1, hz2⟩ := info_parts Tryz.soinfo9
  obtain ⟨m, hm0⟩ : ∃ m, m = (So.terms L).length := ⟨_, rfl⟩
  have hm3 : m ≤ 300 := by rw [hm0]; have := So.terms_len L; omega
  have MK := hid (fun W : World => run_make W 47 9 i0 _ Tryz.underlying47 hi0 hz0 .i64 .i64 m m (by omega) (by omega) (by rw [hz2]; omega) (by omega))
  rw [hz1, Int.toNat_natCast] at MK
  have OKT := hid (okT_terms hl)
  have FN := hid (fun (v : Value) (W : World) (h : TextsAt W v (So.texts L)) => new_ok v (So.texts L) W h (So.texts_may hl hn))
  have DB := hid (fun (p : Nat) (W : World) (h : IsDict W p (So.texts L)) => bytes_any p (So.texts L) W h (So.texts_may hl hn))
  have ET := hid (fun (W : World) (h : IsStore W p L) => enct_any L hl hn p W h)
  have BP := hid (fun (a : Option Addr) (cap : Nat) (W : World) (h : SecsAt W (.slice a 2 cap) (So.secs L)) => bpack_ok a 2 cap (So.secs L) W rfl h (So.secs_may hl hn) (So.secs_bytes hl hn))
  have HTX := hid (show (So.texts L).length = m by rw [hm0]; unfold So.texts; rw [List.length_map])
  rw [← hm0] at h1 HT
  have HM := hid hm0
  have HP := hid h1
  clear h1 h2 h3 h4 hm0
  have c0 := HP.out.cell (i := 0) rfl
  have c1 := HP.out.cell (i := 1) rfl
  have c2 := HP.out.cell (i := 2) rfl
  have mk := MK.out
  go_enter Tryz.func19, Tryz.ntmps19
  go_upto_region 4 with fail
  clear c0 c1 c2 mk
  obtain ⟨q, hq⟩ : ∃ q, q = w.heap.size := ⟨_, rfl⟩
  obtain ⟨w1, hw1⟩ : ∃ w1, w1 = w.alloc (.cells (madeCells #[.string ByteArray.empty] m) 9) := ⟨_, rfl⟩
  have HQ1 := hid (show Blk w1 q (rowTx (So.texts L) m 0) 9 by
    rw [hw1]; exact Blk.new' hq.symm (by rw [so_zero_texts]; simp [rowTx]))
  have HB1 := hid (show Below q w w1 by rw [hw1, hq]; exact (Below.refl _ _).alloc (Nat.le_refl _) _)
  have HP1 := hid (show Blk w1 p [vt, .slice ae m ce, .pointer (some ⟨r, 0, none⟩)] 110 by rw [hw1]; exact HP.out.alloc _)
  have HQQ := hid hq
  rw [← hw1, ← hq]
  clear hw1 hq
  have c0 := HP1.out.cell (i := 0) rfl
  have c1 := HP1.out.cell (i := 1) rfl
  have c2 := HP1.out.cell (i := 2) rfl
  have hqp : q ≠ p := fun e => by have h1 := HP.out.lt; have h2 := HQQ.out; omega
  go_upto_region 5 with fail
  clear c0 c1 c2
  go_loopg [22] m (fun gk s22 wr => ∃ i : Nat, s22 = .int .i64 i ∧ i ≤ m ∧ m - i ≤ gk ∧ Hid (Below q w wr) ∧ Hid (Blk wr q (rowTx (So.texts L) m i) 9) ∧ Hid (Blk wr p [vt, .slice ae m ce, .pointer (some ⟨r, 0, none⟩)] 110))
  case atStart => exact ⟨0, rfl, Nat.zero_le _, Nat.le_refl _, HB1, HQ1, HP1⟩
  case round =>
    obtain ⟨i, rfl, him, hg, HB, HQ, HP⟩ := hrel
    have HBw := hid (show Below w.heap.size w wr by rw [← HQQ.out]; exact HB.out)
    by_cases hlt : i < m
    · have hltz : (i : Int) < (m : Int) := by omega
      have hiE : i < (So.terms L).length := by rw [← HM.out]; exact hlt
      have hiT : i < (So.texts L).length := by rw [HTX.out]; exact hlt
      obtain ⟨be, off, rfl, hrow⟩ := (HT.out.keep HBw.out).get hiE
      have c0 := hrow i hiE 0 (by omega)
      have c1 := hrow i hiE 1 (by omega)
      have c2 := hrow i hiE 2 (by omega)
      have HSET := hid (rowTx_set HTX.out hiT)
      have hIS := So.terms_is hl (So.terms L)[i] (List.getElem_mem _)
      rw [show (So.texts L)[i] = So.sh (So.terms L)[i] by show ((So.terms L).map So.sh)[i]'(by simpa using hiE) = _; simp] at HSET
      obtain ⟨t, ht⟩ : ∃ t, t = (So.terms L)[i] := ⟨_, rfl⟩
      rw [← ht] at c0 c1 c2 HSET hIS
      have hsh := vt_show ⟨t, hIS⟩
      have hvl := vt_len ⟨t, hIS⟩
      have TS := hid (fun W => tshowD (t.1 : Nat) t.2.1 t.2.2 W hvl.1 hvl.2.1)
      simp only at hsh
      rw [hsh] at TS
      obtain ⟨y, hy⟩ : ∃ y, y = So.sh t := ⟨_, rfl⟩
      rw [← hy] at TS HSET
      clear ht hrow hiE hsh hvl hIS hy
      obtain ⟨k, tt, xx⟩ := t
      unfold tmV at TS
      simp only [tm3, List.getElem?_cons_zero, List.getElem?_cons_succ, Nat.add_zero] at c0 c1 c2 TS
      have hzq := HQ.out.lt
      have hrl : i < (rowTx (So.texts L) m i).length := by rw [rowTx_len _ HTX.out him]; exact hlt
      have HRL := hid hrl
      clear hrl
      obtain ⟨w4, hw4⟩ : ∃ w4, w4 = wr.alloc (.cells #[.int .i64 (k : Nat), str tt, str xx] 61) := ⟨_, rfl⟩
      have HU4 := hid (show Blk w4 wr.heap.size [.int .i64 (k : Nat), str tt, str xx] 61 by rw [hw4]; exact Blk.new' rfl rfl)
      have HB4 := hid (show Below q w w4 by rw [hw4]; exact HB.out.alloc (by omega) _)
      have HQ4 := hid (show Blk w4 q (rowTx (So.texts L) m i) 9 by rw [hw4]; exact HQ.out.alloc _)
      have HP4 := hid (show Blk w4 p [vt, .slice (some ⟨be, off, none⟩) m ce, .pointer (some ⟨r, 0, none⟩)] 110 by rw [hw4]; exact HP.out.alloc _)
      have HW4 := hid hw4
      clear hw4
      go_upto_region 7 with fail
      rw [← HW4.out]
      clear c0 c1 c2
      have d0 := HU4.out.cell (i := 0) rfl
      have d1 := HU4.out.cell (i := 1) rfl
      have d2 := HU4.out.cell (i := 2) rfl
      go_wp2_with (go_at_call 57; refine (TS.out _).mono ?_; rintro e w5 ⟨rfl, hb5, _⟩; have HB5 := hid hb5; clear hb5; have HQ5 := hid (HQ4.out.keep HB5.out); have HP5 := hid (HP4.out.keep HB5.out); have f0 := HQ5.out.free i; obtain ⟨z0, d3⟩ : ∃ z0, w5.cell? ⟨q, i, none⟩ = some z0 := ⟨_, HQ5.out.cell (i := i) (List.getElem?_eq_getElem HRL.out)⟩; have hq5 := HQ5.out.lt)
      have HB6 := hid (show Below q w (w5.setCell ⟨q, i, none⟩ (str y)) from (HB4.out.trans (HB5.out.mono (by have h1 := HB4.out.size; have h2 := HQQ.out; omega))).setCell (Nat.le_refl _) _)
      have HQ6 := hid (show Blk (w5.setCell ⟨q, i, none⟩ (str y)) q (rowTx (So.texts L) m (i + 1)) 9 by have h := HQ5.out.set i (str y); rw [HSET.out] at h; exact h)
      have HP6 := hid (HP5.out.other (Ne.symm hqp) i (str y))
      clear d3 f0
      go_wp2
      go_roundg (m - (i + 1))
      case measure => omega
      case rel => exact ⟨i + 1, by go_num, by omega, by omega, HB6, HQ6, HP6⟩
    · obtain rfl : i = m := by omega
      have HTXS := hid (rowTx_at HQ.out HTX.out (by unfold maxLen; omega))
      have HS := hid (H.out.keep HBw.out)
      clear hg hlt HB
      go_upto_region 10 with (go_at_call 58; refine (FN.out _ _ HTXS.out).mono ?_; rintro e w2 ⟨d, rfl, hb2, hd2, _, _⟩; have HB2 := hid hb2; have HD2 := hid hd2; clear hb2 hd2)
      go_upto_region 12 with fail
      go_wp2_with fail
      refine (DB.out _ _ HD2.out).mono ?_
      rintro e w3 ⟨v3, rfl, hb3, ho3⟩
      have hy3 : BytesAt w3 v3 (So.body1 L) := SlAt.own ho3 rfl
      have HB3 := hid (below_then HB2.out hb3)
      have HS3 := hid (HS.out.keep HB3.out)
      have HY3 := hid hy3
      obtain ⟨a3, c3, rfl, _⟩ := hy3
      clear hb3 ho3
      go_wp2_with fail
      refine (ET.out _ HS3.out).mono ?_
      rintro e w4 ⟨v4, rfl, ho4, hb4⟩
      have hy4 : BytesAt w4 v4 (So.body2 L) := SlAt.own ho4 rfl
      have HY4 := hid hy4
      obtain ⟨a4, c4, rfl, _⟩ := hy4
      have HB4 := hid hb4
      clear hb4 ho4
      obtain ⟨n3, hn3⟩ : ∃ n3, n3 = (So.body1 L).length := ⟨_, rfl⟩
      obtain ⟨n4, hn4⟩ : ∃ n4, n4 = (So.body2 L).length := ⟨_, rfl⟩
      rw [← hn3] at HY3 ⊢
      rw [← hn4] at HY4 ⊢
      have HSEC := hid (show SecsAt (w4.alloc (.cells #[.int .i64 1, .slice a3 n3 c3, .int .i64 2, .slice a4 n4 c4] 56)) (.slice (some ⟨w4.heap.size, 0, none⟩) 2 2) (So.secs L) from
        secs_two (Blk.new w4 [.int .i64 1, .slice a3 n3 c3, .int .i64 2, .slice a4 n4 c4] 56) (HY3.out.keep (HB4.out.alloc HB4.out.size _)) (HY4.out.keep ((Below.refl _ _).alloc (Nat.le_refl _) _)))
      clear hn3 hn4
      go_wp2_with fail
      refine (BP.out _ _ _ HSEC.out).mono ?_
      rintro e w5 ⟨v5, rfl, hb5, ho5⟩
      have HO5 := hid ho5
      have HB5 := hid hb5
      clear hb5 ho5
      go_wp2
      go_ret
      have hb6 : Below w4.heap.size w4 w5 := ((Below.refl _ _).alloc (Nat.le_refl _) _).trans (HB5.out.mono (by simp))
      have hb7 := below_then HBw.out (below_then HB3.out (below_then HB4.out hb6))
      have hfl : Bx.total (So.secs L) = (So.file L).length := by unfold So.file; rw [Bx.file_length]
      have ho := HO5.out
      rw [hfl] at ho
      refine ⟨_, rfl, own_mono ho ?_, hb7⟩
      have h1 := (below_then HBw.out (below_then HB3.out HB4.out)).size
      simp
      omega
end Go.Proofs.YtjaebndajhppgaaGreatDoor
