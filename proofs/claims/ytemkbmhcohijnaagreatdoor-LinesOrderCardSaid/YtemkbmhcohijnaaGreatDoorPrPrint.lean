/- lines.Print of one triple. -/
import Derived.Test.YtemkbmhcohijnaaGreatDoorPrShow
import Derived.Test.YtemkbmhcohijnaaGreatDoorPrOne
namespace Go.Proofs.YtemkbmhcohijnaaGreatDoor
set_option linter.unusedVariables false
set_option linter.unusedSimpArgs false
set_option maxRecDepth 100000
open Go.ChangeShapes Go.WideShapes Go.ChangeAt Go.RowKit
theorem bws_any (B b : Nat) (bs : List Value) (s : List UInt8) (w : World) (h : Lib.IsBuilder 65 5 B b bs w) (hlen : bs.length + s.length ≤ 140737488355328) (hB : B ≤ w.heap.size) :
    Calls Tryz.prog 35 #[.pointer (some ⟨b, 0, none⟩), str s] w fun e w' => (∃ n : Int, e = .returned (.tuple #[.int .i64 n, .nilIface])) ∧ Lib.BuilderAt 65 5 B b (.pointer (some ⟨b, 0, none⟩)) (bs ++ Lib.byteCells s) w' ∧ Below B w w' := by
  have L : Lays.n166 Tryz.prog Tryz.lays156_ren := { Tryz.lays156 with }
  refine (Any.Builder_WriteString L Tryz.Builder_Extra_156 B b bs ⟨s.toArray⟩ w h (by simpa [ByteArray.size] using hlen) hB).mono ?_
  rintro e w' ⟨he, h1, h2⟩
  exact ⟨⟨_, he⟩, h1, h2⟩
theorem builder_keep {B b : Nat} {p : Value} {bs : List Value} {w w' : World} (h : Lib.BuilderAt 65 5 B b p bs w) (hb : Below w.heap.size w w') : Lib.BuilderAt 65 5 B b p bs w' := by
  have hlt := h.lt
  obtain ⟨h1, v, h2, h3, h4⟩ := h
  refine ⟨h1, v, ?_, h3.kept (row := none) ⟨hb.os, hb.tape, hb.output, hb.size, fun k hk _ => hb.block k hk⟩ ?_, h4⟩
  · rw [hb.block b hlt]; exact h2
  · cases v.ownBlock <;> simp
theorem isb_keep {B b : Nat} {bs : List Value} {w w' : World} (h : Lib.IsBuilder 65 5 B b bs w) (hb : Below w.heap.size w w') : Lib.IsBuilder 65 5 B b bs w' := by
  rcases h with h | h
  · exact .inl (builder_keep h hb)
  · exact .inr (builder_keep h hb)
theorem join3_any (b : Nat) (a1 a2 a3 : List UInt8) (w : World) (h : Blk w b [str a1, str a2, str a3] 9) (h1 : a1.length ≤ 10000000000) (h2 : a2.length ≤ 10000000000) (h3 : a3.length ≤ 10000000000) :
    Calls Tryz.prog 36 #[.slice (some ⟨b, 0, none⟩) 3 3, str [32]] w fun e w' => e = .returned (str (a1 ++ 32 :: (a2 ++ 32 :: a3))) ∧ Below w.heap.size w w' := by
  have hj : Lib.join ([⟨a1.toArray⟩, ⟨a2.toArray⟩, ⟨a3.toArray⟩].map (fun x : ByteArray => x.data.toList)) (⟨([32] : List UInt8).toArray⟩ : ByteArray).data.toList = a1 ++ 32 :: (a2 ++ 32 :: a3) := by
    simp [Lib.join, List.intercalate]
  have := Tryz.strings_Join b 0 3 [⟨a1.toArray⟩, ⟨a2.toArray⟩, ⟨a3.toArray⟩] ⟨([32] : List UInt8).toArray⟩ w (by
    intro j x hx
    match j, hx with
    | 0, hx => simp only [List.getElem?_cons_zero, Option.some.injEq] at hx; rw [← hx]; exact h.cell (i := 0) rfl
    | 1, hx => simp only [List.getElem?_cons_succ, List.getElem?_cons_zero, Option.some.injEq] at hx; rw [← hx]; exact h.cell (i := 1) rfl
    | 2, hx => simp only [List.getElem?_cons_succ, List.getElem?_cons_zero, Option.some.injEq] at hx; rw [← hx]; exact h.cell (i := 2) rfl
    | j + 3, hx => simp at hx) h.lt (by simp) (by simp) (by rw [hj]; simp only [List.length_append, List.length_cons]; omega)
  rw [hj] at this
  exact this
/-- A triple's line. -/
def lineT (a1 a2 a3 : List UInt8) : List UInt8 := (a1 ++ 32 :: (a2 ++ 32 :: a3)) ++ [32, 46, 10]
theorem byteCells_app (a b : List UInt8) : Lib.byteCells a ++ Lib.byteCells b = Lib.byteCells (a ++ b) := by simp [Lib.byteCells]
set_option maxHeartbeats 4000000 in
theorem pprint_one (p : Nat) (k1 : Int) (t1 x1 : List UInt8) (k2 : Int) (t2 x2 : List UInt8) (k3 : Int) (t3 x3 : List UInt8) (w : World) (hp : Blk w p [.int .i64 k1, str t1, str x1, .int .i64 k2, str t2, str x2, .int .i64 k3, str t3, str x3] 25)
    (ht1 : t1.length ≤ 100000000) (hx1 : x1.length ≤ 100000000) (ht2 : t2.length ≤ 100000000) (hx2 : x2.length ≤ 100000000) (ht3 : t3.length ≤ 100000000) (hx3 : x3.length ≤ 100000000)
    (a1 a2 a3 : List UInt8) (h1 : a1 = Tm.show k1 t1 x1) (h2 : a2 = Tm.show k2 t2 x2) (h3 : a3 = Tm.show k3 t3 x3) (l1 : a1.length ≤ 10000000000) (l2 : a2.length ≤ 10000000000) (l3 : a3.length ≤ 10000000000) :
    Calls Tryz.prog 22 #[.slice (some ⟨p, 0, none⟩) 1 1] w fun e w' => e = .returned (str (lineT a1 a2 a3)) ∧ Below w.heap.size w w' := by
  have SH := hid (fun W => shows_any k1 t1 x1 k2 t2 x2 k3 t3 x3 W (by omega) (by omega) (by omega) (by omega) (by omega) (by omega))
  rw [← h1, ← h2, ← h3] at SH
  have HP := hid hp
  have hplt := hp.lt
  have HB1 := hid (show Below w.heap.size w (w.alloc (.cells #[.pointer none, .slice none 0 0] 65)) from (Below.refl _ _).alloc (Nat.le_refl _) _)
  have HI1 := hid (Lib.fresh_isBuilder 65 5 w)
  have hne : lineT a1 a2 a3 ≠ [] := by unfold lineT; simp
  clear hp h1 h2 h3
  go_enter Tryz.func22, Tryz.ntmps22
  go_wp2
  go_loopg [5, 8] 1 (fun gk s5 s8 wr => ∃ z : Int, s8 = .int .i64 z ∧ Hid (Below w.heap.size w wr) ∧ ((z = 0 ∧ 1 ≤ gk ∧ Hid (Lib.IsBuilder 65 5 w.heap.size w.heap.size [] wr)) ∨ (z = 1 ∧ Hid (Lib.IsBuilder 65 5 w.heap.size w.heap.size (Lib.byteCells (lineT a1 a2 a3)) wr))))
  case atStart => exact ⟨0, rfl, HB1, .inl ⟨rfl, Nat.le_refl _, HI1⟩⟩
  case round =>
    obtain ⟨z, rfl, HB, hz⟩ := hrel
    have hzr := HB.out.size
    rcases hz with ⟨rfl, hgk, HI⟩ | ⟨rfl, HI⟩
    · have HPr := hid (HP.out.below HB.out hplt)
      have g0 := HPr.out.cell (i := 0) rfl
      have g1 := HPr.out.cell (i := 1) rfl
      have g2 := HPr.out.cell (i := 2) rfl
      have g3 := HPr.out.cell (i := 3) rfl
      have g4 := HPr.out.cell (i := 4) rfl
      have g5 := HPr.out.cell (i := 5) rfl
      have g6 := HPr.out.cell (i := 6) rfl
      have g7 := HPr.out.cell (i := 7) rfl
      have g8 := HPr.out.cell (i := 8) rfl
      have HB3 := hid (show Below w.heap.size w (new9 wr k1 t1 x1 k2 t2 x2 k3 t3 x3) from HB.out.alloc hzr _)
      have HI3 := hid (isb_keep (w' := new9 wr k1 t1 x1 k2 t2 x2 k3 t3 x3) HI.out ((Below.refl _ _).alloc (Nat.le_refl _) _))
      have HU3 := hid (new9_new wr k1 t1 x1 k2 t2 x2 k3 t3 x3)
      go_wp2_with (show wpList _ _ _ _ _ (new9 wr k1 t1 x1 k2 t2 x2 k3 t3 x3); obtain ⟨w3, hw3⟩ : ∃ w3, w3 = new9 wr k1 t1 x1 k2 t2 x2 k3 t3 x3 := ⟨_, rfl⟩; rw [← hw3] at HB3 HI3 HU3 ⊢; clear hw3; have c0 := HU3.out.cell (i := 0) rfl; have c1 := HU3.out.cell (i := 1) rfl; have c2 := HU3.out.cell (i := 2) rfl; have c3 := HU3.out.cell (i := 3) rfl; have c4 := HU3.out.cell (i := 4) rfl; have c5 := HU3.out.cell (i := 5) rfl; have c6 := HU3.out.cell (i := 6) rfl; have c7 := HU3.out.cell (i := 7) rfl; have c8 := HU3.out.cell (i := 8) rfl)
      refine (SH.out _).mono ?_
      rintro e w4 ⟨b4, rfl, hb4, hblk, hlow⟩
      have HB4 := hid (below_then HB3.out hlow)
      have HI4 := hid (isb_keep HI3.out hlow)
      have JN := hid (join3_any b4 a1 a2 a3 w4 hblk l1 l2 l3)
      clear hlow hblk
      go_wp2_with fail
      refine JN.out.mono ?_
      rintro e w5 ⟨rfl, hlow⟩
      have HB5 := hid (below_then HB4.out hlow)
      have HI5 := hid (isb_keep HI4.out hlow)
      have WS1 := hid (bws_any w.heap.size w.heap.size [] (a1 ++ 32 :: (a2 ++ 32 :: a3)) w5 HI5.out (by simp only [List.length_nil, List.length_append, List.length_cons]; omega) HB5.out.size)
      clear hlow JN
      go_wp2_with fail
      refine WS1.out.mono ?_
      rintro e w6 ⟨⟨n6, rfl⟩, hi6, hlow⟩
      have HB6 := hid (HB5.out.trans hlow)
      have HI6 := hid hi6
      have WS2 := hid (bws_any w.heap.size w.heap.size _ [32, 46, 10] w6 (.inr HI6.out) (by simp only [List.nil_append, Lib.byteCells, List.length_map, List.length_append, List.length_cons, List.length_nil]; omega) HB6.out.size)
      clear hlow WS1 hi6
      go_wp2_with fail
      refine WS2.out.mono ?_
      rintro e w7 ⟨⟨n7, rfl⟩, hi7, hlow⟩
      have HB7 := hid (HB6.out.trans hlow)
      rw [List.nil_append, byteCells_app] at hi7
      have HI7 := hid (show Lib.IsBuilder 65 5 w.heap.size w.heap.size (Lib.byteCells (lineT a1 a2 a3)) w7 from .inr hi7)
      clear hlow WS2 hi7
      go_wp2
      go_roundg 0
      case measure => omega
      case rel => exact ⟨1, rfl, HB7, .inr ⟨rfl, HI7⟩⟩
    · have BS := hid (Tryz.Builder_String w.heap.size w.heap.size (lineT a1 a2 a3) wr HI.out hne)
      go_wp2_with fail
      refine BS.out.mono ?_
      rintro e w8 ⟨rfl, hlow⟩
      have HB8 := hid (HB.out.trans hlow)
      go_wp2
      go_ret
      exact ⟨rfl, HB8.out⟩
end Go.Proofs.YtemkbmhcohijnaaGreatDoor
