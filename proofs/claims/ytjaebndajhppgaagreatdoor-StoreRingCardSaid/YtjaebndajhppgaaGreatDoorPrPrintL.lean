/- lines.Print of a row of triples. -/
import Derived.Test.YtjaebndajhppgaaGreatDoorGPar
namespace Go.Proofs.YtjaebndajhppgaaGreatDoor
set_option linter.unusedVariables false
set_option linter.unusedSimpArgs false
set_option maxRecDepth 100000
open Go.ChangeShapes Go.WideShapes Go.ChangeAt Go.RowKit
theorem bstr_any (B b : Nat) (l : List UInt8) (w : World) (h : Lib.IsBuilder 174 5 B b (Lib.byteCells l) w) (hB : B ≤ w.heap.size) :
    Calls Tryz.prog 111 #[.pointer (some ⟨b, 0, none⟩)] w fun e w' => e = .returned (str l) ∧ Below B w w' := by
  by_cases h0 : l = []
  · subst h0
    exact Any.Builder_String_empty Tryz.lays169 Tryz.Builder_Extra_169 B b w h hB
  · exact Tryz.Builder_String B b l w h h0
set_option maxHeartbeats 8000000 in
theorem pprintL_any (L : List TR) (hl : ∀ t ∈ L, Tm.isTri t = true) (hn : L.length ≤ 1000000) (w : World) (v : Value) (hv : TrisAt w v (L.map ofT)) :
    Calls Tryz.prog 67 #[v] w fun e w' => e = .returned (str (Tm.printL L)) ∧ Below w.heap.size w w' := by
  obtain ⟨a, cap, rfl, hc1, hc2, hc3⟩ := hv.open
  have HV := hid hv
  have HL := hid hl
  rw [List.length_map] at HV ⊢
  obtain ⟨n, hn0⟩ : ∃ n, n = L.length := ⟨_, rfl⟩
  rw [← hn0] at HV hn ⊢
  have HN := hid hn0
  have HB1 := hid (show Below w.heap.size w (w.alloc (.cells #[.pointer none, .slice none 0 0] 174)) from (Below.refl _ _).alloc (Nat.le_refl _) _)
  have HI1 := hid (Lib.fresh_isBuilder 174 5 w)
  clear hv hl hc1 hc2 hc3 hn0
  go_enter Tryz.func67, Tryz.ntmps67
  go_wp2
  go_loopg [5, 8] n (fun gk s5 s8 wr => ∃ (i : Nat) (s : List UInt8), s8 = .int .i64 i ∧ i ≤ n ∧ n - i ≤ gk ∧ Hid (Below w.heap.size w wr) ∧ Hid (s = Tm.printL (L.take i)) ∧ s.length ≤ 801 * i ∧ Hid (Lib.IsBuilder 174 5 w.heap.size w.heap.size (Lib.byteCells s) wr))
  case atStart => exact ⟨0, [], rfl, Nat.zero_le _, Nat.le_refl _, HB1, hid rfl, by simp, HI1⟩
  case round =>
    obtain ⟨i, s, rfl, hin, hg, HB, HS, hsl, HI⟩ := hrel
    have hzr := HB.out.size
    by_cases hlt : i < n
    · have hltz : (i : Int) < (n : Int) := by omega
      have hiL : i < L.length := by rw [← HN.out]; exact hlt
      have HT1 := hid (HL.out L[i] (List.getElem_mem hiL))
      have HVr := hid (HV.out.keep HB.out)
      obtain ⟨bl, off, rfl, hrow⟩ := HVr.out.get (i := i) (by rw [List.length_map]; exact hiL)
      have HRW := hid (hrow i (by rw [List.length_map]; exact hiL))
      rw [List.getElem_map] at HRW
      have HTK := hid (show Tm.printL (L.take (i + 1)) = Tm.printL (L.take i) ++ (Tm.lineS L[i] ++ [10]) by
        rw [List.take_add_one, List.getElem?_eq_getElem hiL]; exact Tm.printL_snoc _ _)
      obtain ⟨t, ht⟩ : ∃ t, t = L[i] := ⟨_, rfl⟩
      rw [← ht] at HT1 HRW HTK
      obtain ⟨p1, p2, q1, q2, q3⟩ := Tm.isTri_parts HT1.out
      have b1 := (Tm.show_len q1).1
      have b2 := (Tm.show_len q2).1
      have b3 := (Tm.show_len q3).1
      have LP := hid (line_parts t)
      have SH := hid (fun W => shows_tri t HT1.out W)
      obtain ⟨⟨n1, t1, x1⟩, ⟨n2, t2, x2⟩, n3, t3, x3⟩ := t
      unfold txtT at SH
      simp only at LP b1 b2 b3 SH
      obtain ⟨y1, hy1⟩ : ∃ y, y = Tm.showT n1 t1 x1 := ⟨_, rfl⟩
      obtain ⟨y2, hy2⟩ : ∃ y, y = Tm.showT n2 t2 x2 := ⟨_, rfl⟩
      obtain ⟨y3, hy3⟩ : ∃ y, y = Tm.showT n3 t3 x3 := ⟨_, rfl⟩
      rw [← hy1] at SH LP b1
      rw [← hy2] at SH LP b2
      rw [← hy3] at SH LP b3
      clear ht hrow q1 q2 q3 p1 p2 hy1 hy2 hy3
      have c0 := HRW.out 0 (by omega)
      have c1 := HRW.out 1 (by omega)
      have c2 := HRW.out 2 (by omega)
      have c3 := HRW.out 3 (by omega)
      have c4 := HRW.out 4 (by omega)
      have c5 := HRW.out 5 (by omega)
      have c6 := HRW.out 6 (by omega)
      have c7 := HRW.out 7 (by omega)
      have c8 := HRW.out 8 (by omega)
      simp only [ofT, Tri.cells, List.getElem?_cons_zero, List.getElem?_cons_succ, Nat.add_zero] at c0 c1 c2 c3 c4 c5 c6 c7 c8
      have HB3 := hid (show Below w.heap.size w (new9 wr n1 t1 x1 n2 t2 x2 n3 t3 x3) from HB.out.alloc hzr _)
      have HI3 := hid (isb_keep (w' := new9 wr n1 t1 x1 n2 t2 x2 n3 t3 x3) HI.out ((Below.refl _ _).alloc (Nat.le_refl _) _))
      have HU3 := hid (new9_new wr n1 t1 x1 n2 t2 x2 n3 t3 x3)
      go_upto_region 5 with fail
      show Code.wp _ _ _ _ (new9 wr n1 t1 x1 n2 t2 x2 n3 t3 x3)
      obtain ⟨w3, hw3⟩ : ∃ w3, w3 = new9 wr n1 t1 x1 n2 t2 x2 n3 t3 x3 := ⟨_, rfl⟩
      rw [← hw3] at HB3 HI3 HU3 ⊢
      clear hw3 c0 c1 c2 c3 c4 c5 c6 c7 c8
      have c0 := HU3.out.cell (i := 0) rfl
      have c1 := HU3.out.cell (i := 1) rfl
      have c2 := HU3.out.cell (i := 2) rfl
      have c3 := HU3.out.cell (i := 3) rfl
      have c4 := HU3.out.cell (i := 4) rfl
      have c5 := HU3.out.cell (i := 5) rfl
      have c6 := HU3.out.cell (i := 6) rfl
      have c7 := HU3.out.cell (i := 7) rfl
      have c8 := HU3.out.cell (i := 8) rfl
      go_wp2_with fail
      refine (SH.out _).mono ?_
      rintro e w4 ⟨b4, rfl, hb4, hblk, hlow⟩
      have HB4 := hid (below_then HB3.out hlow)
      have HI4 := hid (isb_keep HI3.out hlow)
      have JN := hid (join3_any b4 y1 y2 y3 w4 hblk (by omega) (by omega) (by omega))
      clear hlow hblk
      go_wp2_with fail
      refine JN.out.mono ?_
      rintro e w5 ⟨rfl, hlow⟩
      have HB5 := hid (below_then HB4.out hlow)
      have HI5 := hid (isb_keep HI4.out hlow)
      have WS1 := hid (bws_any w.heap.size w.heap.size (Lib.byteCells s) (y1 ++ 32 :: (y2 ++ 32 :: y3)) w5 HI5.out (by simp only [Lib.byteCells, List.length_map, List.length_append, List.length_cons]; omega) HB5.out.size)
      clear hlow JN
      go_wp2_with fail
      refine WS1.out.mono ?_
      rintro e w6 ⟨⟨n6, rfl⟩, hi6, hlow⟩
      have HB6 := hid (HB5.out.trans hlow)
      have HI6 := hid hi6
      have WS2 := hid (bws_any w.heap.size w.heap.size _ [32, 46, 10] w6 (.inr HI6.out) (by simp only [Lib.byteCells, List.length_map, List.length_append, List.length_cons, List.length_nil]; omega) HB6.out.size)
      clear hlow WS1 hi6
      go_wp2_with fail
      refine WS2.out.mono ?_
      rintro e w7 ⟨⟨n7, rfl⟩, hi7, hlow⟩
      have HB7 := hid (HB6.out.trans hlow)
      rw [byteCells_app, byteCells_app] at hi7
      have HI7 := hid (show Lib.IsBuilder 174 5 w.heap.size w.heap.size (Lib.byteCells (s ++ (y1 ++ 32 :: (y2 ++ 32 :: y3)) ++ [32, 46, 10])) w7 from .inr hi7)
      have HSN := hid (show s ++ (y1 ++ 32 :: (y2 ++ 32 :: y3)) ++ [32, 46, 10] = Tm.printL (L.take (i + 1)) by rw [HTK.out, LP.out, ← HS.out]; simp)
      clear hlow WS2 hi7
      go_wp2
      go_roundg (n - (i + 1))
      case measure => omega
      case rel => exact ⟨i + 1, _, by go_num, by omega, by omega, HB7.out, HSN.out, by simp only [List.length_append, List.length_cons, List.length_nil]; omega, HI7.out⟩
    · obtain rfl : i = n := by omega
      have hltz : ¬ (i : Int) < (i : Int) := by omega
      have HE := hid (show s = Tm.printL L by rw [HS.out, HN.out, List.take_length])
      have BS := hid (bstr_any w.heap.size w.heap.size s wr HI.out hzr)
      go_wp2_with fail
      refine BS.out.mono ?_
      rintro e w8 ⟨rfl, hlow⟩
      have HB8 := hid (HB.out.trans hlow)
      go_wp2
      go_ret
      exact ⟨by rw [← HE.out]; rfl, HB8.out⟩
end Go.Proofs.YtjaebndajhppgaaGreatDoor
